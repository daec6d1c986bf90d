
/-
  Contracts of the laws' own helpers on signatures: sizes, copies, equal ones.
-/
import Derived.Test.YtddjpfgkjijmoaaDoorStrsAll
import Derived.Test.YtddjpfgkjijmoaaDoorIRootN
namespace Go.Proofs.YtddjpfgkjijmoaaDoor
open Go.RowKit
set_option linter.unusedVariables false

theorem tri_cells {w : World} {b : Nat} {u v x : Value} {t : TypeId} (h : w.heap[b]? = some (.cells #[u, v, x] t (0, 0))) :
    w.cell? ⟨b, 0, none⟩ = some u ∧ w.cell? ⟨b, 1, none⟩ = some v ∧ w.cell? ⟨b, 2, none⟩ = some x ∧ ∀ j, w.frozen? ⟨b, j, none⟩ = false := by
  refine ⟨?_, ?_, ?_, fun j => frozen_of_row w b j _ t h⟩ <;> simp only [World.cell?, h] <;> rfl
theorem tri_set {w : World} {b j : Nat} {u v x y : Value} {t : TypeId} (h : w.heap[b]? = some (.cells #[u, v, x] t (0, 0))) : (w.setCell ⟨b, j, none⟩ y).heap[b]? = some (.cells (#[u, v, x].setIfInBounds j y) t (0, 0)) := by
  have hlt := lt_of_block h
  have h' : w.heap[b] = .cells #[u, v, x] t (0, 0) := by simpa [Array.getElem?_eq_getElem hlt] using h
  show (w.heap.modify b _)[b]? = _
  rw [Array.getElem?_eq_getElem (by simpa using hlt), Array.getElem_modify_self, h']
  rfl

set_option maxRecDepth 100000 in
set_option maxHeartbeats 400000 in
theorem eqSig_same (i : Int) (u1 u2 v1 v2 : Option Addr) (m1 m2 n1 n2 c1 c2 d1 d2 : Nat) (os ps : List (List UInt8)) (b1 b2 b3 b4 : Nat) (w : World) (ho : os.length ≤ 16777216) (hp : ps.length ≤ 16777216) (h1 : w.ownsRow b1 9 1 (.slice u1 m1 c1) os.length (scells os)) (h2 : w.ownsRow b2 9 1 (.slice u2 m2 c2) ps.length (scells ps)) (h3 : w.ownsRow b3 9 1 (.slice v1 n1 d1) os.length (scells os)) (h4 : w.ownsRow b4 9 1 (.slice v2 n2 d2) ps.length (scells ps)) :
    Calls Tryd.prog 25 #[.agg #[.int .i64 i, .slice u1 m1 c1, .slice u2 m2 c2], .agg #[.int .i64 i, .slice v1 n1 d1, .slice v2 n2 d2]] w fun e w' => e = .returned (.bool true) ∧ Below w.heap.size w w' := by
  have HH : Hid (w.ownsRow b1 9 1 (.slice u1 m1 c1) os.length (scells os) ∧ w.ownsRow b2 9 1 (.slice u2 m2 c2) ps.length (scells ps) ∧ w.ownsRow b3 9 1 (.slice v1 n1 d1) os.length (scells os) ∧ w.ownsRow b4 9 1 (.slice v2 n2 d2) ps.length (scells ps)) := ⟨h1, h2, h3, h4⟩
  obtain ⟨wa, hwa⟩ : ∃ wa, wa = (w.alloc (.cells #[.int .i64 i, .slice u1 m1 c1, .slice u2 m2 c2] 30)).alloc (.cells #[.int .i64 i, .slice v1 n1 d1, .slice v2 n2 d2] 30) := ⟨_, rfl⟩
  have Ba : Below w.heap.size w wa := by rw [hwa]; exact ((Below.refl _ _).alloc (Nat.le_refl _) _).alloc (by simp) _
  have K1 := eqS_same os _ _ _ _ wa ho (keptO h1 Ba) (keptO h3 Ba)
  rw [hwa] at K1
  have e0 : wa.heap[w.heap.size]? = some (.cells #[.int .i64 i, .slice u1 m1 c1, .slice u2 m2 c2] 30 (0, 0)) := by rw [hwa, Below.heap_alloc _ _ _ (by simp)]; exact heap_alloc_new w _
  have e1 : wa.heap[w.heap.size + 1]? = some (.cells #[.int .i64 i, .slice v1 n1 d1, .slice v2 n2 d2] 30 (0, 0)) := by
    rw [hwa]
    have := heap_alloc_new (w.alloc (.cells #[.int .i64 i, .slice u1 m1 c1, .slice u2 m2 c2] 30)) (.cells #[.int .i64 i, .slice v1 n1 d1, .slice v2 n2 d2] 30)
    simpa using this
  clear h1 h2 h3 h4
  go_enter Tryd.func25, Tryd.ntmps25
  go_wp2_with fail
  refine K1.mono ?_
  rintro e w1 ⟨rfl, q, rfl⟩
  rw [← hwa]
  obtain ⟨_, _, p2, _⟩ := tri_cells e0
  obtain ⟨_, _, q2, _⟩ := tri_cells e1
  have Bq : Below w.heap.size w (wa.drewN q) := ⟨Ba.os, Ba.tape, Ba.output, Ba.size, Ba.block⟩
  have K2 := eqS_same ps (.slice u2 m2 c2) (.slice v2 n2 d2) _ _ (wa.drewN q) hp (keptO HH.out.2.1 Bq) (keptO HH.out.2.2.2 Bq)
  clear K1 hwa e0 e1
  go_wp2_with fail
  refine K2.mono ?_
  rintro e w2 ⟨rfl, q3, rfl⟩
  clear K2
  go_wp2
  go_ret
  exact ⟨rfl, Ba.os, Ba.tape, Ba.output, Ba.size, Ba.block⟩
end Go.Proofs.YtddjpfgkjijmoaaDoor
