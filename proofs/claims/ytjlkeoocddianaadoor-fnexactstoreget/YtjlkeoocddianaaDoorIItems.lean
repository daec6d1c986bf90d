/-
  The contract of the program's RlpItems.
-/
import Derived.Test.YtjlkeoocddianaaDoorReads2
import Derived.Test.YtjlkeoocddianaaDoorListItems
namespace Go.Proofs.YtjlkeoocddianaaDoor
open Go.RowKit
set_option linter.unusedVariables false

/-- What the closure has done: the items' cell holds v; no other block that was there has turned. -/
structure GotR (W : World) (ib : Nat) (ls : List (List UInt8)) (w' : World) : Prop where
  os : w'.os = W.os
  tape : w'.tape = W.tape
  output : w'.output = W.output
  size : W.heap.size ≤ w'.heap.size
  block : ∀ j, j < W.heap.size → j ≠ ib → w'.heap[j]? = W.heap[j]?
  items : ∃ v, w'.heap[ib]? = some (.cells #[v] 46 (0, 0)) ∧ w'.ownsRow W.heap.size 9 1 v ls.length (scells ls)
  few : ls.length ≤ 1048576

set_option maxRecDepth 100000 in
set_option maxHeartbeats 400000 in
theorem close2_ok (sb ib : Nat) (l : List UInt8) (ls : List (List UInt8)) (o : Value) (w : World)
    (hs : w.heap[sb]? = some (.cells #[.string ⟨l.toArray⟩] 9 (0, 0))) (hi : w.heap[ib]? = some (.cells #[o] 46 (0, 0))) (hl : l.length ≤ 1048576) (h : itemsL l = some ls) :
    Calls Tryd.prog 75 #[.pointer (some ⟨sb, 0, none⟩), .pointer (some ⟨ib, 0, none⟩)] w fun e w' => e = .returned (.tuple #[]) ∧ GotR w ib ls w' := by
  have HK := list_any l w hl
  rw [h] at HK
  have cs := cell_of_one hs
  have li := lt_of_block hi
  clear h hs
  go_enter Tryd.func75, Tryd.ntmps75
  go_wp2_with fail
  refine HK.mono ?_
  rintro e w1 ⟨v, rfl, hown, hbel, hfew⟩
  obtain ⟨va, vm, vc, hvs⟩ := own_slice hown
  subst hvs
  have hi1 := (hbel.block ib li).trans hi
  have ci := cell_of_one hi1
  have fi := free_of_one hi1
  have hi2 := one_setCell (u := .slice va vm vc) hi1
  have HR : GotR w ib ls (w1.setCell ⟨ib, 0, none⟩ (.slice va vm vc)) :=
    ⟨hbel.os, hbel.tape, hbel.output, by have := hbel.size; simpa [World.setCell] using this, fun j hj hn => by rw [Below.heap_setCell _ _ _ _ hn]; exact hbel.block j hj,
     ⟨.slice va vm vc, hi2, ownsRow_setCell_other hown (fun e => by have := (hown.lt _ e).1; simp at this; omega) _⟩, hfew⟩
  clear HK hi1 hi2 hown hbel hi
  go_wp2
  go_end0
  exact ⟨rfl, HR⟩

set_option maxRecDepth 100000 in
set_option maxHeartbeats 400000 in
theorem close2_no (sb ib : Nat) (l : List UInt8) (w : World)
    (hs : w.heap[sb]? = some (.cells #[.string ⟨l.toArray⟩] 9 (0, 0))) (hl : l.length ≤ 1048576) (h : itemsL l = none) :
    Calls Tryd.prog 75 #[.pointer (some ⟨sb, 0, none⟩), .pointer (some ⟨ib, 0, none⟩)] w fun e w' => GivesUp e ∧ Below w.heap.size w w' := by
  have HK := list_any l w hl
  rw [h] at HK
  have cs := cell_of_one hs
  clear h hs
  go_enter Tryd.func75, Tryd.ntmps75
  go_wp2_with fail
  refine HK.mono ?_
  rintro e w1 ⟨⟨msg, rfl⟩, hbel⟩
  exact ⟨rfl, ⟨_, rfl⟩, hbel⟩

theorem three_blocks (w : World) (A B C : Obj) :
    (((w.alloc A).alloc B).alloc C).heap[w.heap.size]? = some A ∧ (((w.alloc A).alloc B).alloc C).heap[w.heap.size + 1]? = some B ∧
    (((w.alloc A).alloc B).alloc C).heap[w.heap.size + 1 + 1]? = some C ∧ (((w.alloc A).alloc B).alloc C).heap.size = w.heap.size + 3 := by
  refine ⟨?_, ?_, ?_, by simp⟩
  · rw [Below.heap_alloc _ _ _ (by simp; omega), Below.heap_alloc _ _ _ (by simp)]; exact heap_alloc_at _ _ _ rfl
  · rw [Below.heap_alloc _ _ _ (by simp)]; exact heap_alloc_at _ _ _ (by simp)
  · exact heap_alloc_at _ _ _ (by simp)

theorem three_below (w : World) (A B C : Obj) : Below w.heap.size w (((w.alloc A).alloc B).alloc C) :=
  (((Below.refl _ _).alloc (Nat.le_refl _) _).alloc (by simp) _).alloc (by simp; omega) _

set_option maxRecDepth 100000 in
set_option maxHeartbeats 400000 in
theorem impl_items_ok (l : List UInt8) (ls : List (List UInt8)) (w : World) (hl : l.length ≤ 1048576) (h : itemsL l = some ls) :
    Calls Tryd.prog 66 #[.string ⟨l.toArray⟩] w fun e w' => ∃ v, e = .returned (.tuple #[v, .bool true]) ∧ w'.ownsRow w.heap.size 9 1 v ls.length (scells ls) ∧ Below w.heap.size w w' ∧ ls.length ≤ 1048576 := by
  have hmf : ∀ (fn : Fn) (first cap : Array Value) (w : World), (Instr.makeFunc fn first cap).run Tryd.prog w = .ok (.func fn first cap) w := fun _ _ _ _ => rfl
  obtain ⟨W, hW⟩ : ∃ W, W = ((w.alloc (.cells #[.string ⟨l.toArray⟩] 9)).alloc (.cells #[.slice none 0 0] 46)) := ⟨_, rfl⟩
  have HB := three_blocks w (.cells #[.string ⟨l.toArray⟩] 9) (.cells #[.slice none 0 0] 46) (.cells #[.bool false] 4)
  have HL := three_below w (.cells #[.string ⟨l.toArray⟩] 9) (.cells #[.slice none 0 0] 46) (.cells #[.bool false] 4)
  rw [← hW] at HB HL
  have hWs : W.heap.size = w.heap.size + 1 + 1 := by rw [hW]; simp
  have hsz := HB.2.2.2
  have HC := close2_ok w.heap.size (w.heap.size + 1) l ls _ (W.alloc (.cells #[.bool false] 4)) HB.1 HB.2.1 hl h
  have HD := readsOn_ok2 _ W (GotR (W.alloc (.cells #[.bool false] 4)) (w.heap.size + 1) ls)
    (HC.mono fun e w' ⟨he, hR⟩ => ⟨he, by rw [hWs, hR.block _ (by omega) (by omega)]; exact HB.2.2.1, hR⟩)
  rw [hWs] at HD
  obtain ⟨R, hRd⟩ : ∃ R, R = GotR (W.alloc (.cells #[.bool false] 4)) (w.heap.size + 1) ls := ⟨_, rfl⟩
  have HR1 : ∀ w', R w' → ∃ v, w'.heap[w.heap.size + 1]? = some (.cells #[v] 46 (0, 0)) ∧ w'.ownsRow (w.heap.size + 3) 9 1 v ls.length (scells ls) := fun w' h => by rw [hRd] at h; have := h.items; rw [hsz] at this; exact this
  have HR2 : ∀ w', R w' → Below w.heap.size w w' ∧ ls.length ≤ 1048576 := fun w' h => by
    rw [hRd] at h
    exact ⟨HL.trans ⟨h.os, h.tape, h.output, h.size, fun j hj => h.block j (by omega) (by omega)⟩, h.few⟩
  rw [← hRd, hW] at HD
  clear HC HB h hRd HL hsz hWs hW
  go_enter Tryd.func66, Tryd.ntmps66
  go_wp2_with fail
  refine HD.mono ?_
  rintro e w2 ⟨rfl, w1, hR, hw2⟩
  obtain ⟨v, hv1, hv2⟩ := HR1 w1 hR
  obtain ⟨va, vm, vc, hvs⟩ := own_slice hv2
  subst hvs
  have hc : w2.cell? ⟨w.heap.size + 1, 0, none⟩ = some (.slice va vm vc) := cell_of_one (t := 46) (by rw [hw2, Below.heap_setCell _ _ _ _ (by simp)]; exact hv1)
  have hown : w2.ownsRow w.heap.size 9 1 (.slice va vm vc) ls.length (scells ls) := by
    rw [hw2]
    exact (ownsRow_setCell_other hv2 (fun e => by have := (hv2.lt _ e).1; simp at this; omega) _).mono (by omega)
  have hbl : Below w.heap.size w w2 := by rw [hw2]; exact (HR2 w1 hR).1.setCell (by simp; omega) _
  have hfew := (HR2 w1 hR).2
  have HO : Hid (w2.ownsRow w.heap.size 9 1 (.slice va vm vc) ls.length (scells ls)) := hown
  clear hR HR1 HR2 HD hw2 hv1 hv2 hown
  go_wp2
  go_ret2
  exact ⟨_, rfl, HO.out, hbl, hfew⟩

set_option maxRecDepth 100000 in
set_option maxHeartbeats 400000 in
theorem impl_items_no (l : List UInt8) (w : World) (hl : l.length ≤ 1048576) (h : itemsL l = none) :
    Calls Tryd.prog 66 #[.string ⟨l.toArray⟩] w fun e w' => e = .returned (.tuple #[.slice none 0 0, .bool false]) ∧ Below w.heap.size w w' := by
  have hmf : ∀ (fn : Fn) (first cap : Array Value) (w : World), (Instr.makeFunc fn first cap).run Tryd.prog w = .ok (.func fn first cap) w := fun _ _ _ _ => rfl
  obtain ⟨W, hW⟩ : ∃ W, W = ((w.alloc (.cells #[.string ⟨l.toArray⟩] 9)).alloc (.cells #[.slice none 0 0] 46)) := ⟨_, rfl⟩
  have HB := three_blocks w (.cells #[.string ⟨l.toArray⟩] 9) (.cells #[.slice none 0 0] 46) (.cells #[.bool false] 4)
  have HL := three_below w (.cells #[.string ⟨l.toArray⟩] 9) (.cells #[.slice none 0 0] 46) (.cells #[.bool false] 4)
  rw [← hW] at HB HL
  have hWs : W.heap.size = w.heap.size + 1 + 1 := by rw [hW]; simp
  have hsz := HB.2.2.2
  have HC := close2_no w.heap.size (w.heap.size + 1) l (W.alloc (.cells #[.bool false] 4)) HB.1 hl h
  have HD := readsOn_no2 _ W (fun w' => Below w.heap.size w w')
    (HC.mono fun e w' ⟨he, hR⟩ => ⟨he, by rw [hWs, hR.block _ (by omega)]; exact HB.2.2.1, HL.trans (hR.mono (by omega))⟩)
  rw [hWs, hW] at HD
  clear HC HB h HL hsz hWs hW
  go_enter Tryd.func66, Tryd.ntmps66
  go_wp2_with fail
  refine HD.mono ?_
  rintro e w2 ⟨rfl, w1, hR, hw2⟩
  have hbl : Below w.heap.size w w2 := by rw [hw2]; exact hR.setCell (by simp; omega) _
  clear hR HD hw2
  go_wp2
  go_ret2
  exact ⟨rfl, hbl⟩

theorem impl_items (l : List UInt8) (w : World) (hl : l.length ≤ 1048576) :
    Calls Tryd.prog 66 #[.string ⟨l.toArray⟩] w fun e w' => ItemsPost w (itemsL l) e w' := by
  cases h : itemsL l with
  | none => exact impl_items_no l w hl h
  | some ls => exact impl_items_ok l ls w hl h
end Go.Proofs.YtjlkeoocddianaaDoor
