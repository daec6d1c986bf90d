/-
  A signature that came in, opened: its number, its two lists of texts.
-/
import Derived.Test.YtajckopldkmcnaaDoorStrsAll
import Derived.ProofKit
import Derived.SliceStrings
import Derived.Lib.SmallJoins
namespace Go.Proofs.YtajckopldkmcnaaDoor
open Go.ChangeShapes Go.WideShapes Go.ChangeAt Go.RowKit
set_option linter.unusedVariables false

theorem strs_of {H : Type} {enc : TypeId × Value → H} {W : World} {fuel : Nat} {u : Value} {y : DataW H × List MemPlace} (hf : DataW.trod enc Tryd.prog W 0 (fun _ => true) true fuel 29 [u] = some y) :
    ∃ (a : Option Addr) (ls : List (List UInt8)) (cap : Nat), u = .slice a ls.length cap ∧ (∀ l ∈ ls, l.length ≤ 9223372036854775807) ∧ IsStrs W a ls ∧ ls.length ≤ 9223372036854775807 := by
  rcases open_strings Tryd.underlying29 Tryd.underlying9 (by kernel_rfl) hf with ⟨hcs, _⟩ | ⟨x, l, c, ss, hcs, _, hl, hm, hz, _, hcell, hwz⟩
  · simp at hcs
    exact ⟨none, [], 0, hcs, by simp, .inl rfl, by simp⟩
  · simp at hcs
    unfold maxLen at hm
    have hz' : ss.length = c := by simpa using hz
    refine ⟨some x, (ss.take l).map (·.data.toList), c, by rw [hcs]; simp; omega, ?_, ?_, by simp; omega⟩
    · intro l hlm
      simp only [List.mem_map] at hlm
      obtain ⟨s, hs1, rfl⟩ := hlm
      have := hwz s (List.mem_of_mem_take hs1)
      unfold maxLen at this
      rw [Array.length_toList]; exact this
    · by_cases h0 : l = 0
      · exact .inl (by simp [h0])
      · obtain ⟨b, off, spot⟩ := x
        have hc := hcell 0 (by omega)
        have hspot : spot = none := by simpa [Addr.add] using World.cell?_spot hc
        subst hspot
        refine .inr ⟨b, off, rfl, fun j hj => ?_⟩
        simp at hj
        have hjs : j < ss.length := by omega
        have hcj := hcell j hjs
        have e1 : (⟨b, off, none⟩ : Addr).add j = ⟨b, off + j, none⟩ := by simp [Addr.add]
        rw [e1, List.getD_eq_getElem?_getD, List.getElem?_eq_getElem hjs, Option.getD_some] at hcj
        rw [hcj]
        simp only [List.getElem_map, List.getElem_take]

theorem int_of {H : Type} {enc : TypeId × Value → H} {W : World} {fuel : Nat} {u : Value} {y : DataW H × List MemPlace} (hf : DataW.trod enc Tryd.prog W 0 (fun _ => true) true fuel 2 [u] = some y) : ∃ n : Int, u = .int .i64 n := by
  obtain ⟨n, h, _, _⟩ := DataW.trod_int Tryd.underlying2 hf
  simp at h
  exact ⟨n, h⟩

set_option maxRecDepth 100000 in
theorem sig_of {H : Type} {enc : TypeId × Value → H} {W : World} {r : Reach} {b0 : Nat} {v : Value} {d : DataW H} {p : List MemPlace} (hv : Value.okWide Tryd.prog W r b0 41 v) (h : DataW.Trod enc Tryd.prog W 0 (fun _ => true) true 41 v d p) :
    ∃ (i : Int) (ao ap : Option Addr) (co cp : Nat) (os ps : List (List UInt8)), v = .agg #[.int .i64 i, .slice ao os.length co, .slice ap ps.length cp] ∧ IsStrs W ao os ∧ IsStrs W ap ps ∧ os.length ≤ 9223372036854775807 ∧ ps.length ≤ 9223372036854775807 ∧ (∀ l ∈ os, l.length ≤ 9223372036854775807) ∧ (∀ l ∈ ps, l.length ≤ 9223372036854775807) := by
  obtain ⟨u0, u1, u2, y0, y1, y2, n, rfl, _, _, t0, t1, t2⟩ := Go.Joins.open_agg3 Tryd.underlying41 (by kernel_rfl) (by kernel_rfl) hv h
  obtain ⟨i, rfl⟩ := int_of t0
  obtain ⟨ao, os, co, rfl, m1, s1, l1⟩ := strs_of t1
  obtain ⟨ap, ps, cp, rfl, m2, s2, l2⟩ := strs_of t2
  exact ⟨i, ao, ap, co, cp, os, ps, rfl, s1, s2, l1, l2, m1, m2⟩
end Go.Proofs.YtajckopldkmcnaaDoor
