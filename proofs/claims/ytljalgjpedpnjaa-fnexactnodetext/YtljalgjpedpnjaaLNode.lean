/-
  Contracts of the laws' own helpers on nodes: sizes, copies, equal ones.
-/
import Derived.Test.YtljalgjpedpnjaaITextB
import Derived.Test.YtljalgjpedpnjaaSzGen
import Derived.Lib.SmallJoins
import Derived.ProofKit
import Derived.SliceStrings
namespace Go.Proofs.Ytljalgjpedpnjaa
open Go.ChangeShapes Go.WideShapes Go.ChangeAt Go.RowKit
set_option linter.unusedVariables false

theorem quad_set {w : World} {b j : Nat} {u v x y z : Value} {t : TypeId} (h : w.heap[b]? = some (.cells #[u, v, x, y] t (0, 0))) : (w.setCell ⟨b, j, none⟩ z).heap[b]? = some (.cells (#[u, v, x, y].setIfInBounds j z) t (0, 0)) := by
  have hlt := lt_of_block h
  have h' : w.heap[b] = .cells #[u, v, x, y] t (0, 0) := by simpa [Array.getElem?_eq_getElem hlt] using h
  show (w.heap.modify b _)[b]? = _
  rw [Array.getElem?_eq_getElem (by simpa using hlt), Array.getElem_modify_self, h']
  rfl

theorem strsN_of {H : Type} {enc : TypeId × Value → H} {W : World} {fuel : Nat} {u : Value} {y : DataW H × List MemPlace} (hf : DataW.trod enc Try.prog W 0 (fun _ => true) true fuel 24 [u] = some y) :
    ∃ (a : Option Addr) (ls : List (List UInt8)) (cap : Nat), u = .slice a ls.length cap ∧ (∀ l ∈ ls, l.length ≤ 9223372036854775807) ∧ IsStrs W a ls ∧ ls.length ≤ 9223372036854775807 := by
  rcases open_strings Try.underlying24 Try.underlying9 (by kernel_rfl) hf with ⟨hcs, _⟩ | ⟨x, l, c, ss, hcs, _, hl, hm, hz, _, hcell, hwz⟩
  · simp at hcs
    exact ⟨none, [], 0, hcs, by simp, .inl rfl, by simp⟩
  · simp at hcs
    unfold maxLen at hm
    have hz' : ss.length = c := by simpa using hz
    refine ⟨some x, (ss.take l).map (·.data.toList), c, by rw [hcs]; simp; omega, ?_, ?_, by simp; omega⟩
    · intro l hlm
      simp only [List.mem_map] at hlm
      obtain ⟨s, hs1, rfl⟩ := hlm
      have := hwz s (List.mem_of_mem_take hs1)
      unfold maxLen at this
      rw [Array.length_toList]; exact this
    · by_cases h0 : l = 0
      · exact .inl (by simp [h0])
      · obtain ⟨b, off, spot⟩ := x
        have hc := hcell 0 (by omega)
        have hspot : spot = none := by simpa [Addr.add] using World.cell?_spot hc
        subst hspot
        refine .inr ⟨b, off, rfl, fun j hj => ?_⟩
        simp at hj
        have hjs : j < ss.length := by omega
        have hcj := hcell j hjs
        have e1 : (⟨b, off, none⟩ : Addr).add j = ⟨b, off + j, none⟩ := by simp [Addr.add]
        rw [e1, List.getD_eq_getElem?_getD, List.getElem?_eq_getElem hjs, Option.getD_some] at hcj
        rw [hcj]
        simp only [List.getElem_map, List.getElem_take]

set_option maxRecDepth 100000 in
theorem node_of {H : Type} {enc : TypeId × Value → H} {W : World} {r : Reach} {b0 : Nat} {v : Value} {d : DataW H} {p : List MemPlace} (hv : Value.okWide Try.prog W r b0 34 v) (h : DataW.Trod enc Try.prog W 0 (fun _ => true) true 34 v d p) :
    ∃ (k : Int) (pa va : List UInt8) (a : Option Addr) (cap : Nat) (ls : List (List UInt8)), v = .agg #[.int .i64 k, .string ⟨pa.toArray⟩, .slice a ls.length cap, .string ⟨va.toArray⟩] ∧ IsStrs W a ls ∧ ls.length ≤ 9223372036854775807 ∧ (∀ l ∈ ls, l.length ≤ 9223372036854775807) ∧ pa.length ≤ 9223372036854775807 ∧ va.length ≤ 9223372036854775807 := by
  obtain ⟨u0, u1, u2, u3, y0, y1, y2, y3, n, rfl, _, _, t0, t1, t2, t3⟩ := Go.Joins.open_agg4 Try.underlying34 (by kernel_rfl) (by kernel_rfl) hv h
  obtain ⟨k, hk, _, _⟩ := DataW.trod_int Try.underlying2 t0
  simp at hk
  subst hk
  obtain ⟨s1, hs1, _, w1⟩ := DataW.trod_string Try.underlying9 t1
  obtain ⟨a, ls, cap, rfl, m2, i2, l2⟩ := strsN_of t2
  obtain ⟨s3, hs3, _, w3⟩ := DataW.trod_string Try.underlying9 t3
  simp at hs1 hs3
  subst hs1 hs3
  unfold maxLen at w1 w3
  have e1 : s1 = ⟨s1.data.toList.toArray⟩ := by cases s1; simp
  have e3 : s3 = ⟨s3.data.toList.toArray⟩ := by cases s3; simp
  exact ⟨k, s1.data.toList, s3.data.toList, a, cap, ls, by rw [← e1, ← e3], i2, l2, m2, by rw [Array.length_toList]; exact w1, by rw [Array.length_toList]; exact w3⟩

set_option maxRecDepth 100000 in
set_option maxHeartbeats 1000000 in
theorem szNode_any (k : Int) (p v : List UInt8) (a : Option Addr) (cap : Nat) (ls : List (List UInt8)) (w : World) (hp : p.length ≤ 9223372036854775807) (hv : v.length ≤ 9223372036854775807) (hl : ls.length ≤ 9223372036854775807) (hm : ∀ l ∈ ls, l.length ≤ 9223372036854775807) (hs : IsStrs w a ls) :
    Calls Try.prog 15 #[.agg #[.int .i64 k, .string ⟨p.toArray⟩, .slice a ls.length cap, .string ⟨v.toArray⟩], .int .i64 1048576] w fun e w' => (e = .returned (.int .i64 (-1)) ∨ (p.length + v.length + (ls.length + ls.flatten.length) ≤ 1048576 ∧ ∃ n : Nat, e = .returned (.int .i64 (n : Int)))) ∧ Below w.heap.size w w' := by
  have B0 : Below w.heap.size w (w.alloc (.cells #[.int .i64 k, .string ⟨p.toArray⟩, .slice a ls.length cap, .string ⟨v.toArray⟩] 34)) := (Below.refl _ _).alloc (Nat.le_refl _) _
  have BB : Hid (Below w.heap.size w (w.alloc (.cells #[.int .i64 k, .string ⟨p.toArray⟩, .slice a ls.length cap, .string ⟨v.toArray⟩] 34))) := B0
  by_cases hpb : p.length ≤ 1048576
  · have hpb' : (p.length : Int) ≤ 1048576 := by omega
    have K := szS_gen a cap ls (1048576 - p.length) (w.alloc (.cells #[.int .i64 k, .string ⟨p.toArray⟩, .slice a ls.length cap, .string ⟨v.toArray⟩] 34)) (by omega) hl hm (strs_later hs B0)
    have e1 : ((1048576 - p.length : Nat) : Int) = 1048576 - (p.length : Int) := by omega
    rw [e1] at K
    have hw : IntKind.i64.wrap (1048576 - (p.length : Int)) = 1048576 - (p.length : Int) := i64_wrap_small _ (by omega) (by omega)
    have hge : ¬ (1048576 - (p.length : Int)) < 0 := by omega
    clear hs hm B0 e1
    go_enter Try.func15, Try.ntmps15
    go_wp2_with fail
    refine K.mono ?_
    rintro e w1 ⟨he, rfl⟩
    rcases he with rfl | ⟨hle, n, hn1, hn2, rfl⟩
    · go_wp2
      go_ret
      exact ⟨.inl rfl, BB.out⟩
    · have HN : Hid (n + (ls.length + ls.flatten.length) = 1048576 - p.length) := hn2
      clear hle hn2 K
      by_cases hvb : v.length ≤ n
      · have hvb' : (v.length : Int) ≤ (n : Int) := by omega
        have hnn : (n : Int) ≤ 1048576 := by omega
        go_wp2
        go_ret
        exact ⟨.inr ⟨by have := HN.out; omega, n - v.length, by show Ending.returned (.int .i64 ((n : Int) - (v.length : Int))) = _; congr 2; omega⟩, BB.out⟩
      · have hvb' : ¬ (v.length : Int) ≤ (n : Int) := by omega
        have hnn : (n : Int) ≤ 1048576 := by omega
        go_wp2
        go_ret
        exact ⟨.inl rfl, BB.out⟩
  · have hpb' : ¬ (p.length : Int) ≤ 1048576 := by omega
    clear hs hm B0
    go_enter Try.func15, Try.ntmps15
    go_wp2
    go_ret
    exact ⟨.inl rfl, BB.out⟩

set_option maxRecDepth 100000 in
set_option maxHeartbeats 1000000 in
theorem toNode_any (k : Int) (p v : List UInt8) (a : Option Addr) (cap : Nat) (ls : List (List UInt8)) (w : World) (hl : ls.length ≤ 1048576) (hs : IsStrs w a ls) :
    Calls Try.prog 16 #[.agg #[.int .i64 k, .string ⟨p.toArray⟩, .slice a ls.length cap, .string ⟨v.toArray⟩]] w fun e w' => ∃ g : Nat, e = .returned (.agg #[.int .i64 k, .string ⟨p.toArray⟩, .slice (some ⟨g, 0, none⟩) ls.length ls.length, .string ⟨v.toArray⟩]) ∧ w'.ownsRow w.heap.size 9 1 (.slice (some ⟨g, 0, none⟩) ls.length ls.length) ls.length (scells ls) ∧ Below w.heap.size w w' := by
  obtain ⟨wa, hwa⟩ : ∃ wa, wa = ((w.alloc (.cells #[.int .i64 k, .string ⟨p.toArray⟩, .slice a ls.length cap, .string ⟨v.toArray⟩] 34)).alloc (.cells #[.int .i64 0, .string ⟨#[]⟩, .slice none 0 0, .string ⟨#[]⟩] 26)).alloc (.cells #[.int .i64 k, .string ⟨p.toArray⟩, .slice none 0 0, .string ⟨#[]⟩] 26) := ⟨_, rfl⟩
  have Ba : Below w.heap.size w wa := by rw [hwa]; exact (((Below.refl _ _).alloc (Nat.le_refl _) _).alloc (by simp) _).alloc (by simp; omega) _
  have sa : wa.heap.size = w.heap.size + 3 := by rw [hwa]; simp
  have a0 : wa.heap[w.heap.size]? = some (.cells #[.int .i64 k, .string ⟨p.toArray⟩, .slice a ls.length cap, .string ⟨v.toArray⟩] 34 (0, 0)) := by rw [hwa, Below.heap_alloc _ _ _ (by simp; omega), Below.heap_alloc _ _ _ (by simp)]; exact heap_alloc_new w _
  have a1 : wa.heap[w.heap.size + 1]? = some (.cells #[.int .i64 0, .string ⟨#[]⟩, .slice none 0 0, .string ⟨#[]⟩] 26 (0, 0)) := by
    rw [hwa, Below.heap_alloc _ _ _ (by simp)]
    have := heap_alloc_new (w.alloc (.cells #[.int .i64 k, .string ⟨p.toArray⟩, .slice a ls.length cap, .string ⟨v.toArray⟩] 34)) (.cells #[.int .i64 0, .string ⟨#[]⟩, .slice none 0 0, .string ⟨#[]⟩] 26)
    simpa using this
  have a2 : wa.heap[w.heap.size + 2]? = some (.cells #[.int .i64 k, .string ⟨p.toArray⟩, .slice none 0 0, .string ⟨#[]⟩] 26 (0, 0)) := by
    rw [hwa]
    have := heap_alloc_new ((w.alloc (.cells #[.int .i64 k, .string ⟨p.toArray⟩, .slice a ls.length cap, .string ⟨v.toArray⟩] 34)).alloc (.cells #[.int .i64 0, .string ⟨#[]⟩, .slice none 0 0, .string ⟨#[]⟩] 26)) (.cells #[.int .i64 k, .string ⟨p.toArray⟩, .slice none 0 0, .string ⟨#[]⟩] 26)
    rw [show ((w.alloc (.cells #[.int .i64 k, .string ⟨p.toArray⟩, .slice a ls.length cap, .string ⟨v.toArray⟩] 34)).alloc (.cells #[.int .i64 0, .string ⟨#[]⟩, .slice none 0 0, .string ⟨#[]⟩] 26)).heap.size = w.heap.size + 2 by simp] at this
    exact this
  have K1 := toS_any a cap ls wa hl (strs_later hs Ba)
  have HWA : Hid (wa = ((w.alloc (.cells #[.int .i64 k, .string ⟨p.toArray⟩, .slice a ls.length cap, .string ⟨v.toArray⟩] 34)).alloc (.cells #[.int .i64 0, .string ⟨#[]⟩, .slice none 0 0, .string ⟨#[]⟩] 26)).alloc (.cells #[.int .i64 k, .string ⟨p.toArray⟩, .slice none 0 0, .string ⟨#[]⟩] 26)) := hwa
  clear hs hwa
  go_enter Try.func16, Try.ntmps16
  go_wp2_with fail
  rw [← HWA.out]
  refine K1.mono ?_
  rintro e w1 ⟨rfl, o1, b1⟩
  rw [sa] at o1 ⊢
  have B1 := Ba.trans (b1.mono (by omega))
  have e0 := (b1.block (w.heap.size) (by omega)).trans a0
  have e1 := (b1.block (w.heap.size + 1) (by omega)).trans a1
  have e2 := (b1.block (w.heap.size + 2) (by omega)).trans a2
  have s1 : w.heap.size + 3 < w1.heap.size := own_lt o1
  have O1 := hidOwn o1
  obtain ⟨x0, x1, x2, x3, xf⟩ := quad_cells e0
  obtain ⟨p0, p1, p2, p3, pf⟩ := quad_cells e2
  obtain ⟨q0, q1, q2, q3, qf⟩ := quad_cells e1
  have pf2 := pf 2
  have pf3 := pf 3
  have qf0 := qf 0
  have qf1 := qf 1
  have qf2 := qf 2
  have qf3 := qf 3
  clear K1 a0 a1 a2 b1 Ba o1 sa xf pf qf HWA
  go_wp2
  have y1 : ((w1.setCell ⟨w.heap.size + 1 + 1, 2, none⟩ (.slice (some ⟨w.heap.size + 3, 0, none⟩) ls.length ls.length)).setCell ⟨w.heap.size + 1 + 1, 3, none⟩ (.string ⟨v.toArray⟩)).heap[w.heap.size + 1]? = _ := (Below.heap_setCell _ _ _ _ (by simp)).trans ((Below.heap_setCell _ _ _ _ (by simp)).trans e1)
  have y2 := quad_set (j := 0) (z := .int .i64 k) y1
  have y3 := quad_set (j := 1) (z := .string ⟨p.toArray⟩) y2
  have y4 := quad_set (j := 2) (z := .slice (some ⟨w.heap.size + 3, 0, none⟩) ls.length ls.length) y3
  have y5 := quad_set (j := 3) (z := .string ⟨v.toArray⟩) y4
  have hO := ownsRow_setCell_other (ownsRow_setCell_other (ownsRow_setCell_other (ownsRow_setCell_other (ownsRow_setCell_other (ownsRow_setCell_other (a := ⟨w.heap.size + 1 + 1, 2, none⟩) O1.out (by simp [Value.ownBlock]) (.slice (some ⟨w.heap.size + 3, 0, none⟩) ls.length ls.length)) (a := ⟨w.heap.size + 1 + 1, 3, none⟩) (by simp [Value.ownBlock]) (.string ⟨v.toArray⟩)) (a := ⟨w.heap.size + 1, 0, none⟩) (by simp [Value.ownBlock]) (.int .i64 k)) (a := ⟨w.heap.size + 1, 1, none⟩) (by simp [Value.ownBlock]) (.string ⟨p.toArray⟩)) (a := ⟨w.heap.size + 1, 2, none⟩) (by simp [Value.ownBlock]) (.slice (some ⟨w.heap.size + 3, 0, none⟩) ls.length ls.length)) (a := ⟨w.heap.size + 1, 3, none⟩) (by simp [Value.ownBlock]) (.string ⟨v.toArray⟩)
  exact bodyPost_ret (v := .agg #[.int .i64 k, .string ⟨p.toArray⟩, .slice (some ⟨w.heap.size + 3, 0, none⟩) ls.length ls.length, .string ⟨v.toArray⟩]) (results_cell_row rfl _ _ (w.heap.size + 1) 26 _ (0, 0) _ rfl y5 Try.underlying26 rfl (by kernel_rfl)) rfl ⟨w.heap.size + 3, rfl, hO.mono (by omega), (((((B1.setCell (by simp; omega) _).setCell (by simp; omega) _).setCell (by simp) _).setCell (by simp) _).setCell (by simp) _).setCell (by simp) _⟩

set_option maxRecDepth 100000 in
set_option maxHeartbeats 1000000 in
theorem eqNode_same (k : Int) (p v : List UInt8) (u1 u2 : Value) (b1 b2 : Nat) (ls : List (List UInt8)) (w : World) (hl : ls.length ≤ 16777216) (h1 : w.ownsRow b1 9 1 u1 ls.length (scells ls)) (h2 : w.ownsRow b2 9 1 u2 ls.length (scells ls)) :
    Calls Try.prog 17 #[.agg #[.int .i64 k, .string ⟨p.toArray⟩, u1, .string ⟨v.toArray⟩], .agg #[.int .i64 k, .string ⟨p.toArray⟩, u2, .string ⟨v.toArray⟩]] w fun e w' => e = .returned (.bool true) ∧ Below w.heap.size w w' := by
  obtain ⟨a1, m1, c1, rfl⟩ := own_slice h1
  obtain ⟨a2, m2, c2, rfl⟩ := own_slice h2
  have Bx : Below w.heap.size w ((w.alloc (.cells #[.int .i64 k, .string ⟨p.toArray⟩, .slice a1 m1 c1, .string ⟨v.toArray⟩] 26)).alloc (.cells #[.int .i64 k, .string ⟨p.toArray⟩, .slice a2 m2 c2, .string ⟨v.toArray⟩] 26)) := ((Below.refl _ _).alloc (Nat.le_refl _) _).alloc (by simp) _
  have K := eqS_same ls (.slice a1 m1 c1) (.slice a2 m2 c2) b1 b2 _ hl (keptX h1 Bx) (keptX h2 Bx)
  have HB : Hid (Below w.heap.size w ((w.alloc (.cells #[.int .i64 k, .string ⟨p.toArray⟩, .slice a1 m1 c1, .string ⟨v.toArray⟩] 26)).alloc (.cells #[.int .i64 k, .string ⟨p.toArray⟩, .slice a2 m2 c2, .string ⟨v.toArray⟩] 26))) := Bx
  clear h1 h2 Bx
  go_enter Try.func17, Try.ntmps17
  go_wp2_with fail
  refine K.mono ?_
  rintro e w1 ⟨rfl, q, rfl⟩
  go_wp2
  go_ret
  exact ⟨rfl, ⟨HB.out.os, HB.out.tape, HB.out.output, HB.out.size, HB.out.block⟩⟩
end Go.Proofs.Ytljalgjpedpnjaa
