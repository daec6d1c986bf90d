/-
  The contracts of readsOn, at the closure of RlpItems.
-/
import Derived.Test.YtjlkeoocddianaaDoorReadAll
namespace Go.Proofs.YtjlkeoocddianaaDoor
open Go.RowKit
set_option linter.unusedVariables false

set_option maxRecDepth 100000 in
set_option maxHeartbeats 400000 in
theorem readsOn_ok2 (caps : Array Value) (w : World) (R : World → Prop)
    (H : Calls Tryd.prog 75 caps (w.alloc (.cells #[.bool false] 4)) fun e w' => e = .returned (.tuple #[]) ∧ w'.heap[w.heap.size]? = some (.cells #[.bool false] 4 (0, 0)) ∧ R w') :
    Calls Tryd.prog 74 #[.func (.func 75) #[] caps] w fun e w' => e = .returned (.bool true) ∧ ∃ w1, R w1 ∧ w' = w1.setCell ⟨w.heap.size, 0, none⟩ (.bool true) := by
  have hmf : ∀ (fn : Fn) (first cap : Array Value) (w : World), (Instr.makeFunc fn first cap).run Tryd.prog w = .ok (.func fn first cap) w := fun _ _ _ _ => rfl
  go_enter_defers Tryd.func74, Tryd.ntmps74
  go_wp2_with fail
  refine H.mono ?_
  rintro e w1 ⟨rfl, hb, hR⟩
  have hc := cell_of_one hb
  have hf := free_of_one hb
  have hc2 := cell_of_one (one_setCell (u := .bool true) hb)
  go_wp2
  refine leaves_cons (f := 85) (args := #[.pointer (some ⟨w.heap.size, 0, none⟩)]) (by simp) (by simp [go_sem]) ?_
  refine (catch_idle ⟨w.heap.size, 0, none⟩ _).mono ?_
  rintro e u' w'' ⟨rfl, rfl, rfl⟩
  refine ⟨.bool true, ?_, rfl, w1, hR, rfl⟩
  simp [results, Tryd.results74, go_sem, hc2]

set_option maxRecDepth 100000 in
set_option maxHeartbeats 400000 in
theorem readsOn_no2 (caps : Array Value) (w : World) (R : World → Prop)
    (H : Calls Tryd.prog 75 caps (w.alloc (.cells #[.bool false] 4)) fun e w' => GivesUp e ∧ w'.heap[w.heap.size]? = some (.cells #[.bool false] 4 (0, 0)) ∧ R w') :
    Calls Tryd.prog 74 #[.func (.func 75) #[] caps] w fun e w' => e = .returned (.bool false) ∧ ∃ w1, R w1 ∧ w' = w1.setCell ⟨w.heap.size, 0, none⟩ (.bool false) := by
  have hmf : ∀ (fn : Fn) (first cap : Array Value) (w : World), (Instr.makeFunc fn first cap).run Tryd.prog w = .ok (.func fn first cap) w := fun _ _ _ _ => rfl
  go_enter_defers Tryd.func74, Tryd.ntmps74
  go_wp2_with fail
  refine H.mono ?_
  rintro e w1 ⟨⟨msg, rfl⟩, hb, hR⟩
  have hc := cell_of_one hb
  have hf := free_of_one hb
  have hc2 := cell_of_one (one_setCell (u := .bool false) hb)
  refine leaves_cons (f := 85) (args := #[.pointer (some ⟨w.heap.size, 0, none⟩)]) (by simp) (by simp [go_sem]) ?_
  refine (catch_panicking ⟨w.heap.size, 0, none⟩ false 9 _ [] _ hc hf).mono ?_
  rintro e u' w'' ⟨rfl, rfl, rfl⟩
  simp [Leaves, settle, results, Tryd.results74, go_sem, hc2]
  exact ⟨w1, hR, rfl⟩

end Go.Proofs.YtjlkeoocddianaaDoor
