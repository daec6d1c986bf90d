/-
  The contract of the program's TakeRlp.
-/
import Derived.Test.YtddjpfgkjijmoaaDoorReads
import Derived.Deep.QuietTactic
import Derived.BigQuiet
namespace Go.Proofs.YtddjpfgkjijmoaaDoor
open Go.RowKit
set_option linter.unusedVariables false

/-- What the closure has done: three cells are told; no other block that was there has turned. -/
structure TookR (W : World) (kb bb b : Nat) (kv bv rv : Value) (w' : World) : Prop where
  os : w'.os = W.os
  tape : w'.tape = W.tape
  output : w'.output = W.output
  size : W.heap.size ≤ w'.heap.size
  block : ∀ j, j < W.heap.size → j ≠ kb → j ≠ bb → j ≠ b → w'.heap[j]? = W.heap[j]?
  kc : w'.heap[kb]? = some (.cells #[kv] 2 (0, 0))
  bc : w'.heap[bb]? = some (.cells #[bv] 9 (0, 0))
  rc : w'.heap[b]? = some (.cells #[rv] 120 (0, 0))

set_option maxRecDepth 100000 in
set_option maxHeartbeats 400000 in
theorem close_ok (kb bb b : Nat) (r bd rest : List UInt8) (k : Nat) (kv bv : Value) (w : World) (h1 : kb ≠ bb) (h2 : kb ≠ b) (h3 : bb ≠ b)
    (hk : w.heap[kb]? = some (.cells #[kv] 2 (0, 0))) (hbb : w.heap[bb]? = some (.cells #[bv] 9 (0, 0))) (hb : w.heap[b]? = some (.cells #[.string ⟨r.toArray⟩] 120 (0, 0)))
    (hr : r.length ≤ 1048576) (h : takeL r = some (k, bd, rest)) :
    Calls Tryd.prog 99 #[.pointer (some ⟨b, 0, none⟩), .pointer (some ⟨kb, 0, none⟩), .pointer (some ⟨bb, 0, none⟩)] w fun e w' =>
      e = .returned (.tuple #[]) ∧ TookR w kb bb b (.int .i64 (k : Int)) (.string ⟨bd.toArray⟩) (.string ⟨rest.toArray⟩) w' := by
  have HK := item_ok b r bd rest k w hb hr h
  have lk := lt_of_block hk
  have lb := lt_of_block hbb
  go_enter Tryd.func99, Tryd.ntmps99
  go_wp2_with fail
  refine HK.mono ?_
  rintro e w1 ⟨rfl, hT⟩
  have k1 := (hT.block kb lk h2).trans hk
  have b1 := (hT.block bb lb h3).trans hbb
  have ck := cell_of_one k1
  have fk := free_of_one k1
  have k2 := one_setCell (u := .int .i64 (k : Int)) k1
  have b2 : (w1.setCell ⟨kb, 0, none⟩ (.int .i64 (k : Int))).heap[bb]? = some (.cells #[bv] 9 (0, 0)) := by rw [Below.heap_setCell _ _ _ _ (Ne.symm h1)]; exact b1
  have cb := cell_of_one b2
  have fb := free_of_one b2
  have b3 := one_setCell (u := .string ⟨bd.toArray⟩) b2
  clear HK hk hbb hb
  have HR : TookR w kb bb b (.int .i64 (k : Int)) (.string ⟨bd.toArray⟩) (.string ⟨rest.toArray⟩) ((w1.setCell ⟨kb, 0, none⟩ (.int .i64 (k : Int))).setCell ⟨bb, 0, none⟩ (.string ⟨bd.toArray⟩)) :=
    ⟨hT.os, hT.tape, hT.output, by have := hT.size; simpa [World.setCell] using this,
     fun j hj n1 n2 n3 => by rw [Below.heap_setCell _ _ _ _ n2, Below.heap_setCell _ _ _ _ n1]; exact hT.block j hj n3,
     by rw [Below.heap_setCell _ _ _ _ h1]; exact k2, b3,
     by rw [Below.heap_setCell _ _ _ _ (Ne.symm h3), Below.heap_setCell _ _ _ _ (Ne.symm h2)]; exact hT.cell⟩
  clear k1 b1 k2 b2 b3 hT
  go_wp2
  go_end0
  exact ⟨rfl, HR⟩

set_option maxRecDepth 100000 in
set_option maxHeartbeats 400000 in
theorem close_no (kb bb b : Nat) (r : List UInt8) (w : World)
    (hb : w.heap[b]? = some (.cells #[.string ⟨r.toArray⟩] 120 (0, 0)))
    (hr : r.length ≤ 1048576) (h : takeL r = none) :
    Calls Tryd.prog 99 #[.pointer (some ⟨b, 0, none⟩), .pointer (some ⟨kb, 0, none⟩), .pointer (some ⟨bb, 0, none⟩)] w fun e w' => GivesUp e ∧ ∃ r', Turned b r' w w' := by
  have HK := item_no b r w hb hr h
  clear hb h
  go_enter Tryd.func99, Tryd.ntmps99
  go_wp2_with fail
  refine HK.mono ?_
  rintro e w1 ⟨⟨msg, rfl⟩, hT⟩
  exact ⟨rfl, ⟨_, rfl⟩, hT⟩

theorem four_blocks (w : World) (A B C D : Obj) :
    ((((w.alloc A).alloc B).alloc C).alloc D).heap[w.heap.size]? = some A ∧ ((((w.alloc A).alloc B).alloc C).alloc D).heap[w.heap.size + 1]? = some B ∧
    ((((w.alloc A).alloc B).alloc C).alloc D).heap[w.heap.size + 1 + 1]? = some C ∧ ((((w.alloc A).alloc B).alloc C).alloc D).heap[w.heap.size + 1 + 1 + 1]? = some D ∧
    ((((w.alloc A).alloc B).alloc C).alloc D).heap.size = w.heap.size + 4 := by
  refine ⟨?_, ?_, ?_, ?_, by simp⟩
  · rw [Below.heap_alloc _ _ _ (by simp; omega), Below.heap_alloc _ _ _ (by simp; omega), Below.heap_alloc _ _ _ (by simp)]; exact heap_alloc_at _ _ _ rfl
  · rw [Below.heap_alloc _ _ _ (by simp), Below.heap_alloc _ _ _ (by simp)]; exact heap_alloc_at _ _ _ (by simp)
  · rw [Below.heap_alloc _ _ _ (by simp)]; exact heap_alloc_at _ _ _ (by simp)
  · exact heap_alloc_at _ _ _ (by simp)

theorem four_below (w : World) (A B C D : Obj) : Below w.heap.size w ((((w.alloc A).alloc B).alloc C).alloc D) :=
  ((((Below.refl _ _).alloc (Nat.le_refl _) _).alloc (by simp) _).alloc (by simp; omega) _).alloc (by simp; omega) _

set_option maxRecDepth 100000 in
set_option maxHeartbeats 400000 in
theorem impl_take_ok (r bd rest : List UInt8) (k : Nat) (w : World) (hr : r.length ≤ 1048576) (h : takeL r = some (k, bd, rest)) :
    Calls Tryd.prog 90 #[.string ⟨r.toArray⟩] w fun e w' => e = .returned (tkV (some (k, bd, rest))) ∧ Below w.heap.size w w' := by
  have hmf : ∀ (fn : Fn) (first cap : Array Value) (w : World), (Instr.makeFunc fn first cap).run Tryd.prog w = .ok (.func fn first cap) w := fun _ _ _ _ => rfl
  obtain ⟨W, hW⟩ : ∃ W, W = (((w.alloc (.cells #[.int .i64 0] 2)).alloc (.cells #[.string ⟨#[]⟩] 9)).alloc (.cells #[.string ⟨r.toArray⟩] 120)) := ⟨_, rfl⟩
  have HB := four_blocks w (.cells #[.int .i64 0] 2) (.cells #[.string ⟨#[]⟩] 9) (.cells #[.string ⟨r.toArray⟩] 120) (.cells #[.bool false] 4)
  have HL := four_below w (.cells #[.int .i64 0] 2) (.cells #[.string ⟨#[]⟩] 9) (.cells #[.string ⟨r.toArray⟩] 120) (.cells #[.bool false] 4)
  rw [← hW] at HB HL
  have hWs : W.heap.size = w.heap.size + 1 + 1 + 1 := by rw [hW]; simp
  have HC := close_ok w.heap.size (w.heap.size + 1) (w.heap.size + 1 + 1) r bd rest k _ _ (W.alloc (.cells #[.bool false] 4)) (by omega) (by omega) (by omega) HB.1 HB.2.1 HB.2.2.1 hr h
  have HD := readsOn_ok _ W (TookR (W.alloc (.cells #[.bool false] 4)) w.heap.size (w.heap.size + 1) (w.heap.size + 1 + 1) (.int .i64 (k : Int)) (.string ⟨bd.toArray⟩) (.string ⟨rest.toArray⟩))
    (HC.mono fun e w' ⟨he, hR⟩ => ⟨he, by rw [hWs, hR.block _ (by omega) (by omega) (by omega) (by omega)]; exact HB.2.2.2.1, hR⟩)
  have hsz4 := HB.2.2.2.2
  rw [hWs] at HD
  have HL' : ∀ w', TookR (W.alloc (.cells #[.bool false] 4)) w.heap.size (w.heap.size + 1) (w.heap.size + 1 + 1) (.int .i64 (k : Int)) (.string ⟨bd.toArray⟩) (.string ⟨rest.toArray⟩) w' → Below w.heap.size w w' := fun w' hR =>
    HL.trans ⟨hR.os, hR.tape, hR.output, hR.size, fun j hj => hR.block j (by omega) (by omega) (by omega) (by omega)⟩
  obtain ⟨R, hRd⟩ : ∃ R, R = TookR (W.alloc (.cells #[.bool false] 4)) w.heap.size (w.heap.size + 1) (w.heap.size + 1 + 1) (.int .i64 (k : Int)) (.string ⟨bd.toArray⟩) (.string ⟨rest.toArray⟩) := ⟨_, rfl⟩
  have HR1 : ∀ w', R w' → w'.heap[w.heap.size]? = some (.cells #[.int .i64 (k : Int)] 2 (0, 0)) := fun w' h => by rw [hRd] at h; exact h.kc
  have HR2 : ∀ w', R w' → w'.heap[w.heap.size + 1]? = some (.cells #[.string ⟨bd.toArray⟩] 9 (0, 0)) := fun w' h => by rw [hRd] at h; exact h.bc
  have HR3 : ∀ w', R w' → w'.heap[w.heap.size + 1 + 1]? = some (.cells #[.string ⟨rest.toArray⟩] 120 (0, 0)) := fun w' h => by rw [hRd] at h; exact h.rc
  have HR4 : ∀ w', R w' → Below w.heap.size w w' := fun w' h => by rw [hRd] at h; exact HL' w' h
  rw [← hRd, hW] at HD
  clear HC HB h hRd HL HL' hsz4 hWs hW
  go_enter Tryd.func90, Tryd.ntmps90
  go_wp2_with fail
  refine HD.mono ?_
  rintro e w2 ⟨rfl, w1, hR, hw2⟩
  have c1 : w2.cell? ⟨w.heap.size, 0, none⟩ = some (.int .i64 (k : Int)) := cell_of_one (t := 2) (by rw [hw2, Below.heap_setCell _ _ _ _ (by simp; omega)]; exact HR1 w1 hR)
  have c2 : w2.cell? ⟨w.heap.size + 1, 0, none⟩ = some (.string ⟨bd.toArray⟩) := cell_of_one (t := 9) (by rw [hw2, Below.heap_setCell _ _ _ _ (by simp)]; exact HR2 w1 hR)
  have c3 : w2.cell? ⟨w.heap.size + 1 + 1, 0, none⟩ = some (.string ⟨rest.toArray⟩) := cell_of_one (t := 120) (by rw [hw2, Below.heap_setCell _ _ _ _ (by simp)]; exact HR3 w1 hR)
  have hbl : Below w.heap.size w w2 := by rw [hw2]; exact (HR4 w1 hR).setCell (by simp; omega) _
  clear hR HR1 HR2 HR3 HR4 HD hw2
  go_wp2
  go_quiet (fail)
  go_wp2
  exact bodyPost_ret (v := .tuple #[.int .i64 (k : Int), .string ⟨bd.toArray⟩, .string ⟨rest.toArray⟩, .bool true]) (by simp [results, Tryd.results90, go_sem]) rfl ⟨rfl, below_drewN hbl _⟩

set_option maxRecDepth 100000 in
set_option maxHeartbeats 400000 in
theorem impl_take_no (r : List UInt8) (w : World) (hr : r.length ≤ 1048576) (h : takeL r = none) :
    Calls Tryd.prog 90 #[.string ⟨r.toArray⟩] w fun e w' => e = .returned (tkV none) ∧ Below w.heap.size w w' := by
  have hmf : ∀ (fn : Fn) (first cap : Array Value) (w : World), (Instr.makeFunc fn first cap).run Tryd.prog w = .ok (.func fn first cap) w := fun _ _ _ _ => rfl
  obtain ⟨W, hW⟩ : ∃ W, W = (((w.alloc (.cells #[.int .i64 0] 2)).alloc (.cells #[.string ⟨#[]⟩] 9)).alloc (.cells #[.string ⟨r.toArray⟩] 120)) := ⟨_, rfl⟩
  have HB := four_blocks w (.cells #[.int .i64 0] 2) (.cells #[.string ⟨#[]⟩] 9) (.cells #[.string ⟨r.toArray⟩] 120) (.cells #[.bool false] 4)
  have HL := four_below w (.cells #[.int .i64 0] 2) (.cells #[.string ⟨#[]⟩] 9) (.cells #[.string ⟨r.toArray⟩] 120) (.cells #[.bool false] 4)
  rw [← hW] at HB HL
  have hWs : W.heap.size = w.heap.size + 1 + 1 + 1 := by rw [hW]; simp
  have hsz4 := HB.2.2.2.2
  have HC := close_no w.heap.size (w.heap.size + 1) (w.heap.size + 1 + 1) r (W.alloc (.cells #[.bool false] 4)) HB.2.2.1 hr h
  have HD := readsOn_no _ W (fun w' => Below w.heap.size w w')
    (HC.mono fun e w' ⟨he, r', hR⟩ => ⟨he, by rw [hWs, hR.block _ (by omega) (by omega)]; exact HB.2.2.2.1, HL.trans ⟨hR.os, hR.tape, hR.output, hR.size, fun j hj => hR.block j (by omega) (by omega)⟩⟩)
  rw [hWs, hW] at HD
  clear HC HB h HL hsz4 hWs hW
  go_enter Tryd.func90, Tryd.ntmps90
  go_wp2_with fail
  refine HD.mono ?_
  rintro e w2 ⟨rfl, w1, hR, hw2⟩
  have hbl : Below w.heap.size w w2 := by rw [hw2]; exact hR.setCell (by simp; omega) _
  clear hR HD hw2
  go_wp2
  exact bodyPost_ret (v := .tuple #[.int .i64 0, .string ⟨#[]⟩, .string ⟨#[]⟩, .bool false]) (by simp [results, Tryd.results90, go_sem]) rfl ⟨rfl, hbl⟩

theorem impl_take (r : List UInt8) (w : World) (hr : r.length ≤ 1048576) :
    Calls Tryd.prog 90 #[.string ⟨r.toArray⟩] w fun e w' => e = .returned (tkV (takeL r)) ∧ Below w.heap.size w w' := by
  cases h : takeL r with
  | none => exact impl_take_no r w hr h
  | some x => obtain ⟨k, bd, rest⟩ := x; exact impl_take_ok r bd rest k w hr h
end Go.Proofs.YtddjpfgkjijmoaaDoor
