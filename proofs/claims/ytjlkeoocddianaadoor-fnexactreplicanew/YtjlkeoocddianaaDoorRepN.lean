/-
  Contracts: a replica without pairs and sessions; the laws' own helpers on it (written by mkrep.py).
-/
import Derived.Test.YtjlkeoocddianaaDoorEmptyR
import Derived.OneCell
namespace Go.Proofs.YtjlkeoocddianaaDoor
open Go.RowKit
set_option linter.unusedVariables false

theorem rep_cells {w : World} {b : Nat} {u v x y : Value} {t : TypeId} (h : w.heap[b]? = some (.cells #[u, v, x, y] t (0, 0))) :
    w.cell? ⟨b, 0, none⟩ = some u ∧ w.cell? ⟨b, 1, none⟩ = some v ∧ w.cell? ⟨b, 2, none⟩ = some x ∧ w.cell? ⟨b, 3, none⟩ = some y ∧ ∀ j, w.frozen? ⟨b, j, none⟩ = false := by
  refine ⟨?_, ?_, ?_, ?_, fun j => frozen_of_row w b j _ t h⟩ <;> simp only [World.cell?, h] <;> rfl
theorem rep_set {w : World} {b j : Nat} {u v x y z : Value} {t : TypeId} (h : w.heap[b]? = some (.cells #[u, v, x, y] t (0, 0))) : (w.setCell ⟨b, j, none⟩ z).heap[b]? = some (.cells (#[u, v, x, y].setIfInBounds j z) t (0, 0)) := by
  have hlt := lt_of_block h
  have h' : w.heap[b] = .cells #[u, v, x, y] t (0, 0) := by simpa [Array.getElem?_eq_getElem hlt] using h
  show (w.heap.modify b _)[b]? = _
  rw [Array.getElem?_eq_getElem (by simpa using hlt), Array.getElem_modify_self, h']
  rfl

set_option maxRecDepth 100000 in
theorem eqStoredS_nil (w : World) : Calls Tryd.prog 15 #[.slice none 0 0, .slice none 0 0] w fun e w' => e = .returned (.bool true) ∧ Below w.heap.size w w' := by
  go_enter Tryd.func15, Tryd.ntmps15
  go_wp2
  refine wp_loop_rounds 1 ?_
  rw [rounds_succ]
  go_wp2
  go_ret
  exact ⟨rfl, Below.refl _ _⟩

set_option maxRecDepth 100000 in
theorem eqSessionS_nil (w : World) : Calls Tryd.prog 20 #[.slice none 0 0, .slice none 0 0] w fun e w' => e = .returned (.bool true) ∧ Below w.heap.size w w' := by
  go_enter Tryd.func20, Tryd.ntmps20
  go_wp2
  refine wp_loop_rounds 1 ?_
  rw [rounds_succ]
  go_wp2
  go_ret
  exact ⟨rfl, Below.refl _ _⟩

set_option maxRecDepth 100000 in
theorem markStoredS_nil (w : World) : Calls Tryd.prog 21 #[.slice none 0 0, .int .i64 1] w fun e w' => e = .returned (.int .i64 1) ∧ Below w.heap.size w w' := by
  go_enter Tryd.func21, Tryd.ntmps21
  go_wp2
  refine wp_loop_rounds 1 ?_
  rw [rounds_succ]
  go_wp2
  go_ret
  exact ⟨rfl, Below.refl _ _⟩

set_option maxRecDepth 100000 in
theorem markSessionS_nil (w : World) : Calls Tryd.prog 22 #[.slice none 0 0, .int .i64 1] w fun e w' => e = .returned (.int .i64 1) ∧ Below w.heap.size w w' := by
  go_enter Tryd.func22, Tryd.ntmps22
  go_wp2
  refine wp_loop_rounds 1 ?_
  rw [rounds_succ]
  go_wp2
  go_ret
  exact ⟨rfl, Below.refl _ _⟩

set_option maxRecDepth 100000 in
theorem heldStoredS_nil (w : World) : Calls Tryd.prog 23 #[.slice none 0 0, .int .i64 1] w fun e w' => e = .returned (.int .i64 1) ∧ Below w.heap.size w w' := by
  go_enter Tryd.func23, Tryd.ntmps23
  go_wp2
  refine wp_loop_rounds 1 ?_
  rw [rounds_succ]
  go_wp2
  go_ret
  exact ⟨rfl, Below.refl _ _⟩

set_option maxRecDepth 100000 in
theorem heldSessionS_nil (w : World) : Calls Tryd.prog 24 #[.slice none 0 0, .int .i64 1] w fun e w' => e = .returned (.int .i64 1) ∧ Below w.heap.size w w' := by
  go_enter Tryd.func24, Tryd.ntmps24
  go_wp2
  refine wp_loop_rounds 1 ?_
  rw [rounds_succ]
  go_wp2
  go_ret
  exact ⟨rfl, Below.refl _ _⟩

set_option maxRecDepth 100000 in
set_option maxHeartbeats 400000 in
theorem impl_new (r : List UInt8) (hr : r = emptyL) (w : World) (hT : Tab w) : Calls Tryd.prog 7 #[] w fun e w' => e = .returned (.agg #[.int .i64 0, .string ⟨r.toArray⟩, .slice none 0 0, .slice none 0 0]) ∧ Below w.heap.size w w' := by
  have B0 : Below w.heap.size w (w.alloc (.cells #[.int .i64 0, .string ⟨#[]⟩, .slice none 0 0, .slice none 0 0] 25)) := (Below.refl _ _).alloc (Nat.le_refl _) _
  have X0 : Hid ((w.alloc (.cells #[.int .i64 0, .string ⟨#[]⟩, .slice none 0 0, .slice none 0 0] 25)).heap[w.heap.size]? = some (.cells #[.int .i64 0, .string ⟨#[]⟩, .slice none 0 0, .slice none 0 0] 25 (0, 0))) := heap_alloc_new w _
  have HT : Hid (Tab w) := hT
  have K := impl_empty (w.alloc (.cells #[.int .i64 0, .string ⟨#[]⟩, .slice none 0 0, .slice none 0 0] 25)) (HT.out.later B0)
  rw [← hr] at K
  have BX : Hid (Below w.heap.size w (w.alloc (.cells #[.int .i64 0, .string ⟨#[]⟩, .slice none 0 0, .slice none 0 0] 25))) := B0
  clear hr B0 hT
  go_enter Tryd.func7, Tryd.ntmps7
  go_wp2_with fail
  refine K.mono ?_
  rintro e w1 ⟨rfl, b1⟩
  have B1 : Hid (Below w.heap.size w w1) := BX.out.trans (b1.mono BX.out.size)
  have X1 : Hid (w1.heap[w.heap.size]? = some (.cells #[.int .i64 0, .string ⟨#[]⟩, .slice none 0 0, .slice none 0 0] 25 (0, 0))) := (b1.block w.heap.size (by simp)).trans X0.out
  obtain ⟨q0, q1, q2, q3, qf⟩ := rep_cells X1.out
  have qf0 := qf 0
  have qf1 := qf 1
  have qf2 := qf 2
  have qf3 := qf 3
  clear qf b1 K
  go_wp2
  have y1 := rep_set (j := 0) (z := .int .i64 0) X1.out
  have y2 := rep_set (j := 1) (z := .string ⟨r.toArray⟩) y1
  have y3 := rep_set (j := 2) (z := .slice none 0 0) y2
  have y4 := rep_set (j := 3) (z := .slice none 0 0) y3
  exact bodyPost_ret (v := .agg #[.int .i64 0, .string ⟨r.toArray⟩, .slice none 0 0, .slice none 0 0]) (results_cell_row rfl _ _ w.heap.size 25 _ (0, 0) _ rfl y4 Tryd.underlying25 rfl (by kernel_rfl)) rfl ⟨rfl, (((B1.out.setCell (Nat.le_refl _) _).setCell (Nat.le_refl _) _).setCell (Nat.le_refl _) _).setCell (Nat.le_refl _) _⟩

set_option maxRecDepth 100000 in
set_option maxHeartbeats 400000 in
theorem spec_new (r : List UInt8) (hr : r = emptyL) (w : World) : Calls Tryd.prog 6 #[] w fun e w' => e = .returned (.agg #[.int .i64 0, .string ⟨r.toArray⟩, .slice none 0 0, .slice none 0 0]) ∧ Below w.heap.size w w' := by
  have B0 : Below w.heap.size w (w.alloc (.cells #[.int .i64 0, .string ⟨#[]⟩, .slice none 0 0, .slice none 0 0] 25)) := (Below.refl _ _).alloc (Nat.le_refl _) _
  have X0 : Hid ((w.alloc (.cells #[.int .i64 0, .string ⟨#[]⟩, .slice none 0 0, .slice none 0 0] 25)).heap[w.heap.size]? = some (.cells #[.int .i64 0, .string ⟨#[]⟩, .slice none 0 0, .slice none 0 0] 25 (0, 0))) := heap_alloc_new w _
  have K := spec_empty (w.alloc (.cells #[.int .i64 0, .string ⟨#[]⟩, .slice none 0 0, .slice none 0 0] 25)) 
  rw [← hr] at K
  have BX : Hid (Below w.heap.size w (w.alloc (.cells #[.int .i64 0, .string ⟨#[]⟩, .slice none 0 0, .slice none 0 0] 25))) := B0
  clear hr B0
  go_enter Tryd.func6, Tryd.ntmps6
  go_wp2_with fail
  refine K.mono ?_
  rintro e w1 ⟨rfl, b1⟩
  have B1 : Hid (Below w.heap.size w w1) := BX.out.trans (b1.mono BX.out.size)
  have X1 : Hid (w1.heap[w.heap.size]? = some (.cells #[.int .i64 0, .string ⟨#[]⟩, .slice none 0 0, .slice none 0 0] 25 (0, 0))) := (b1.block w.heap.size (by simp)).trans X0.out
  obtain ⟨q0, q1, q2, q3, qf⟩ := rep_cells X1.out
  have qf0 := qf 0
  have qf1 := qf 1
  have qf2 := qf 2
  have qf3 := qf 3
  clear qf b1 K
  go_wp2
  have y1 := rep_set (j := 0) (z := .int .i64 0) X1.out
  have y2 := rep_set (j := 1) (z := .string ⟨r.toArray⟩) y1
  have y3 := rep_set (j := 2) (z := .slice none 0 0) y2
  have y4 := rep_set (j := 3) (z := .slice none 0 0) y3
  exact bodyPost_ret (v := .agg #[.int .i64 0, .string ⟨r.toArray⟩, .slice none 0 0, .slice none 0 0]) (results_cell_row rfl _ _ w.heap.size 25 _ (0, 0) _ rfl y4 Tryd.underlying25 rfl (by kernel_rfl)) rfl ⟨rfl, (((B1.out.setCell (Nat.le_refl _) _).setCell (Nat.le_refl _) _).setCell (Nat.le_refl _) _).setCell (Nat.le_refl _) _⟩

set_option maxRecDepth 100000 in
set_option maxHeartbeats 400000 in
theorem eqReplica_same (r : List UInt8) (w : World) : Calls Tryd.prog 8 #[.agg #[.int .i64 0, .string ⟨r.toArray⟩, .slice none 0 0, .slice none 0 0], .agg #[.int .i64 0, .string ⟨r.toArray⟩, .slice none 0 0, .slice none 0 0]] w fun e w' => e = .returned (.bool true) ∧ Below w.heap.size w w' := by
  have B0 : Below w.heap.size w ((w.alloc (.cells #[.int .i64 0, .string ⟨r.toArray⟩, .slice none 0 0, .slice none 0 0] 25)).alloc (.cells #[.int .i64 0, .string ⟨r.toArray⟩, .slice none 0 0, .slice none 0 0] 25)) := ((Below.refl _ _).alloc (Nat.le_refl _) _).alloc (by simp) _
  have BX : Hid (Below w.heap.size w ((w.alloc (.cells #[.int .i64 0, .string ⟨r.toArray⟩, .slice none 0 0, .slice none 0 0] 25)).alloc (.cells #[.int .i64 0, .string ⟨r.toArray⟩, .slice none 0 0, .slice none 0 0] 25))) := B0
  have X0 : Hid (((w.alloc (.cells #[.int .i64 0, .string ⟨r.toArray⟩, .slice none 0 0, .slice none 0 0] 25)).alloc (.cells #[.int .i64 0, .string ⟨r.toArray⟩, .slice none 0 0, .slice none 0 0] 25)).heap[w.heap.size]? = some (.cells #[.int .i64 0, .string ⟨r.toArray⟩, .slice none 0 0, .slice none 0 0] 25 (0, 0))) := (Below.heap_alloc _ _ _ (by simp)).trans (heap_alloc_new w _)
  have Y0 : Hid (((w.alloc (.cells #[.int .i64 0, .string ⟨r.toArray⟩, .slice none 0 0, .slice none 0 0] 25)).alloc (.cells #[.int .i64 0, .string ⟨r.toArray⟩, .slice none 0 0, .slice none 0 0] 25)).heap[w.heap.size + 1]? = some (.cells #[.int .i64 0, .string ⟨r.toArray⟩, .slice none 0 0, .slice none 0 0] 25 (0, 0))) := by
    have := heap_alloc_new (w.alloc (.cells #[.int .i64 0, .string ⟨r.toArray⟩, .slice none 0 0, .slice none 0 0] 25)) (.cells #[.int .i64 0, .string ⟨r.toArray⟩, .slice none 0 0, .slice none 0 0] 25)
    rw [Hid]
    simpa using this
  have S0 : Hid (((w.alloc (.cells #[.int .i64 0, .string ⟨r.toArray⟩, .slice none 0 0, .slice none 0 0] 25)).alloc (.cells #[.int .i64 0, .string ⟨r.toArray⟩, .slice none 0 0, .slice none 0 0] 25)).heap.size = w.heap.size + 2) := by rw [Hid]; simp
  clear B0
  go_enter Tryd.func8, Tryd.ntmps8
  go_wp2_with fail
  refine (eqStoredS_nil _).mono ?_
  rintro e w1 ⟨rfl, b1⟩
  have B1 : Hid (Below w.heap.size w w1) := BX.out.trans (b1.mono BX.out.size)
  have X1 := (b1.block w.heap.size (by have := S0.out; omega)).trans X0.out
  have Y1 := (b1.block (w.heap.size + 1) (by have := S0.out; omega)).trans Y0.out
  obtain ⟨x0, x1, x2, x3, xf⟩ := rep_cells X1
  obtain ⟨y0, y1, y2, y3, yf⟩ := rep_cells Y1
  clear b1 xf yf X1 Y1
  go_wp2_with fail
  refine (eqSessionS_nil _).mono ?_
  rintro e w2 ⟨rfl, b2⟩
  have B2 : Hid (Below w.heap.size w w2) := B1.out.trans (b2.mono B1.out.size)
  clear b2 x0 x1 x2 x3 y0 y1 y2 y3
  go_wp2
  go_ret
  exact ⟨rfl, B2.out⟩

set_option maxRecDepth 100000 in
set_option maxHeartbeats 400000 in
theorem markReplica_new (r : List UInt8) (w : World) : Calls Tryd.prog 9 #[.agg #[.int .i64 0, .string ⟨r.toArray⟩, .slice none 0 0, .slice none 0 0], .int .i64 1] w fun e w' => e = .returned (.int .i64 1) ∧ Below w.heap.size w w' := by
  have BX : Hid (Below w.heap.size w (w.alloc (.cells #[.int .i64 0, .string ⟨r.toArray⟩, .slice none 0 0, .slice none 0 0] 25))) := (Below.refl _ _).alloc (Nat.le_refl _) _
  have X0 : Hid ((w.alloc (.cells #[.int .i64 0, .string ⟨r.toArray⟩, .slice none 0 0, .slice none 0 0] 25)).heap[w.heap.size]? = some (.cells #[.int .i64 0, .string ⟨r.toArray⟩, .slice none 0 0, .slice none 0 0] 25 (0, 0))) := heap_alloc_new w _
  go_enter Tryd.func9, Tryd.ntmps9
  go_wp2_with fail
  refine (markStoredS_nil _).mono ?_
  rintro e w1 ⟨rfl, b1⟩
  have B1 : Hid (Below w.heap.size w w1) := BX.out.trans (b1.mono BX.out.size)
  have X1 := (b1.block w.heap.size (by simp)).trans X0.out
  obtain ⟨x0, x1, x2, x3, xf⟩ := rep_cells X1
  clear b1 xf X1
  go_wp2_with fail
  refine (markSessionS_nil _).mono ?_
  rintro e w2 ⟨rfl, b2⟩
  have B2 : Hid (Below w.heap.size w w2) := B1.out.trans (b2.mono B1.out.size)
  clear b2 x0 x1 x2 x3
  go_wp2
  go_ret
  exact ⟨rfl, B2.out⟩

set_option maxRecDepth 100000 in
set_option maxHeartbeats 400000 in
theorem heldReplica_new (r : List UInt8) (w : World) : Calls Tryd.prog 10 #[.agg #[.int .i64 0, .string ⟨r.toArray⟩, .slice none 0 0, .slice none 0 0], .int .i64 1] w fun e w' => e = .returned (.int .i64 1) ∧ Below w.heap.size w w' := by
  have BX : Hid (Below w.heap.size w (w.alloc (.cells #[.int .i64 0, .string ⟨r.toArray⟩, .slice none 0 0, .slice none 0 0] 25))) := (Below.refl _ _).alloc (Nat.le_refl _) _
  have X0 : Hid ((w.alloc (.cells #[.int .i64 0, .string ⟨r.toArray⟩, .slice none 0 0, .slice none 0 0] 25)).heap[w.heap.size]? = some (.cells #[.int .i64 0, .string ⟨r.toArray⟩, .slice none 0 0, .slice none 0 0] 25 (0, 0))) := heap_alloc_new w _
  go_enter Tryd.func10, Tryd.ntmps10
  go_wp2_with fail
  refine (heldStoredS_nil _).mono ?_
  rintro e w1 ⟨rfl, b1⟩
  have B1 : Hid (Below w.heap.size w w1) := BX.out.trans (b1.mono BX.out.size)
  have X1 := (b1.block w.heap.size (by simp)).trans X0.out
  obtain ⟨x0, x1, x2, x3, xf⟩ := rep_cells X1
  clear b1 xf X1
  go_wp2_with fail
  refine (heldSessionS_nil _).mono ?_
  rintro e w2 ⟨rfl, b2⟩
  have B2 : Hid (Below w.heap.size w w2) := B1.out.trans (b2.mono B1.out.size)
  clear b2 x0 x1 x2 x3
  go_wp2
  go_ret
  exact ⟨rfl, B2.out⟩
end Go.Proofs.YtjlkeoocddianaaDoor
