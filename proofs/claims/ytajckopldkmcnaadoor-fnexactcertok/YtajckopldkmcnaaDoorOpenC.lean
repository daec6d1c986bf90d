/-
  A list of votes that came in, opened; a certificate that came in, opened.
-/
import Derived.Test.YtajckopldkmcnaaDoorOpenV
import Derived.Test.YtajckopldkmcnaaDoorVotesS
import Derived.Deep.SlicePairs
import Derived.Lib.SmallJoins
namespace Go.Proofs.YtajckopldkmcnaaDoor
open Go.ChangeShapes Go.WideShapes Go.ChangeAt Go.RowKit
set_option linter.unusedVariables false

set_option maxRecDepth 100000 in
theorem votes_of {H : Type} {enc : TypeId × Value → H} {W : World} {fuel : Nat} {u : Value} {y : DataW H × List MemPlace} (hf : DataW.trod enc Tryd.prog W 0 (fun _ => true) true fuel 51 [u] = some y) :
    ∃ (a : Option Addr) (vs : List VoteV) (cap : Nat), u = .slice a vs.length cap ∧ (∀ v ∈ vs, bigV v) ∧ IsVotes W a vs ∧ vs.length ≤ 9223372036854775807 := by
  rcases Go.Deep.open_slice Tryd.underlying51 hf with ⟨hcs, _⟩ | ⟨a, len, cap, m, n, D, Pl, hcs, _, hl, hm, hmm, _, hx⟩
  · simp at hcs
    exact ⟨none, [], 0, hcs, by simp, .inl rfl, by simp⟩
  · simp at hcs
    unfold maxLen at hm
    simp only [if_true] at hmm
    have ce : Tryd.prog.cellsOf 43 = 4 := by kernel_rfl
    have c1 : Tryd.prog.cellsOf 2 = 1 := by kernel_rfl
    have c3 : Tryd.prog.cellsOf 41 = 3 := by kernel_rfl
    have cs1 : Tryd.prog.cellsOf 29 = 1 := by kernel_rfl
    have each : ∀ i, ∃ q : VoteV, i < len → (∃ ao co ap cp, W.cell? (a.add (i * 4)) = some (.int .i64 q.nd) ∧ W.cell? (a.add (i * 4 + 1)) = some (.int .i64 q.i) ∧ W.cell? (a.add (i * 4 + 2)) = some (.slice ao q.os.length co) ∧ W.cell? (a.add (i * 4 + 3)) = some (.slice ap q.ps.length cp) ∧ IsStrs W ao q.os ∧ IsStrs W ap q.ps) ∧ bigV q := by
      intro i
      by_cases hi : i < len
      · obtain ⟨cs', h1, h2⟩ := hx i (by omega)
        rw [ce] at h1
        obtain ⟨_, hlen, hcell⟩ := World.cells?_some h1
        match cs', hlen with
        | [v0, v1, v2, v3], _ =>
          obtain ⟨y0, y1, n, _, _, h0, h3⟩ := trod_struct2 Tryd.underlying43 h2
          simp [c1, c3] at h0 h3
          obtain ⟨z0, z1, z2, m, _, _, g0, g1, g2⟩ := Go.Deep.trod_struct3 Tryd.underlying41 h3
          simp [c1, cs1] at g0 g1 g2
          have e0 := hcell 0 (by omega)
          have e1 := hcell 1 (by omega)
          have e2 := hcell 2 (by omega)
          have e3 := hcell 3 (by omega)
          rw [Go.Deep.add_add] at e0 e1 e2 e3
          obtain ⟨nd, rfl⟩ := int_of h0
          obtain ⟨i', rfl⟩ := int_of g0
          obtain ⟨ao, os, co, rfl, m1, s1, l1⟩ := strs_of g1
          obtain ⟨ap, ps, cp, rfl, m2, s2, l2⟩ := strs_of g2
          exact ⟨⟨nd, i', os, ps⟩, fun _ => ⟨⟨ao, co, ap, cp, by simpa using e0, by simpa using e1, by simpa using e2, by simpa using e3, s1, s2⟩, l1, l2, m1, m2⟩⟩
      · exact ⟨⟨0, 0, [], []⟩, fun h => absurd h hi⟩
    obtain ⟨q, hq⟩ := Classical.skolem.1 each
    refine ⟨some a, (List.range len).map q, cap, by rw [hcs]; simp, ?_, ?_, by simp; omega⟩
    · intro p hp
      simp only [List.mem_map, List.mem_range] at hp
      obtain ⟨i, hi, rfl⟩ := hp
      exact (hq i hi).2
    · by_cases h0 : len = 0
      · exact .inl (by simp [h0])
      · obtain ⟨b, off, spot⟩ := a
        obtain ⟨_, _, _, _, hc, _⟩ := (hq 0 (by omega)).1
        have hspot : spot = none := by simpa [Addr.add] using World.cell?_spot hc
        subst hspot
        refine .inr ⟨b, off, rfl, fun j hj => ?_⟩
        simp at hj
        have hcj := (hq j hj).1
        have e1 : (⟨b, off, none⟩ : Addr).add (j * 4) = ⟨b, off + j * 4, none⟩ := by simp [Addr.add]
        have e2 : (⟨b, off, none⟩ : Addr).add (j * 4 + 1) = ⟨b, off + j * 4 + 1, none⟩ := by simp [Addr.add, Nat.add_assoc]
        have e3 : (⟨b, off, none⟩ : Addr).add (j * 4 + 2) = ⟨b, off + j * 4 + 2, none⟩ := by simp [Addr.add, Nat.add_assoc]
        have e4 : (⟨b, off, none⟩ : Addr).add (j * 4 + 3) = ⟨b, off + j * 4 + 3, none⟩ := by simp [Addr.add, Nat.add_assoc]
        rw [e1, e2, e3, e4] at hcj
        simp only [List.getElem_map, List.getElem_range]
        exact hcj

set_option maxRecDepth 100000 in
theorem cert_of {H : Type} {enc : TypeId × Value → H} {W : World} {r : Reach} {b0 : Nat} {v : Value} {d : DataW H} {p : List MemPlace} (hv : Value.okWide Tryd.prog W r b0 53 v) (h : DataW.Trod enc Tryd.prog W 0 (fun _ => true) true 53 v d p) :
    ∃ (n : Int) (root : List UInt8) (a : Option Addr) (cap : Nat) (vs : List VoteV), v = .agg #[.int .i64 n, .string ⟨root.toArray⟩, .slice a vs.length cap] ∧ root.length ≤ 9223372036854775807 ∧ IsVotes W a vs ∧ vs.length ≤ 9223372036854775807 ∧ (∀ v ∈ vs, bigV v) := by
  obtain ⟨u0, u1, u2, y0, y1, y2, n, rfl, _, _, t0, t1, t2⟩ := Go.Joins.open_agg3 Tryd.underlying53 (by kernel_rfl) (by kernel_rfl) hv h
  obtain ⟨c, hc, _, _⟩ := DataW.trod_int Tryd.underlying2 t0
  obtain ⟨s0, hs0, _, w0⟩ := DataW.trod_string Tryd.underlying9 t1
  obtain ⟨a, vs, cap, rfl, m2, i2, l2⟩ := votes_of t2
  simp at hc hs0
  subst hc hs0
  unfold maxLen at w0
  exact ⟨c, s0.data.toList, a, cap, vs, by simp, by simp only [Array.length_toList]; exact w0, i2, l2, m2⟩
end Go.Proofs.YtajckopldkmcnaaDoor
