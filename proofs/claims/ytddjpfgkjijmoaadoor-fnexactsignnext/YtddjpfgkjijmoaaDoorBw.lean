/-
  Contract: the program's words of a block.
-/
import Derived.Test.YtddjpfgkjijmoaaDoorMathSum
import Derived.Test.YtddjpfgkjijmoaaDoorTurn
import Derived.Deep.QuietTactic
import Derived.BigQuiet
import Derived.BigRegion
import Derived.Laws.CopyOwn
namespace Go.Proofs.YtddjpfgkjijmoaaDoor
open Go.RowKit
set_option linter.unusedVariables false

set_option maxRecDepth 100000 in
set_option maxHeartbeats 400000 in
theorem impl_bw (l : List UInt8) (w : World) (hl : l.length = 64) :
    Calls Tryd.prog 89 #[.string ⟨l.toArray⟩] w fun e w' => e = .returned (.agg (wcells (bws l 64)).toArray) ∧ Below w.heap.size w w' := by
  have HZ : Hid (wcells (bws l 0) = List.replicate 16 (.int .u32 0)) := by rw [Hid, bws_zero]; rfl
  obtain ⟨cs, hcs⟩ : ∃ cs, cs = (wcells (bws l 64)).toArray := ⟨_, rfl⟩
  rw [← hcs]
  have HC : Hid (cs = (wcells (bws l 64)).toArray) := hcs
  clear hcs
  go_enter Tryd.func89, Tryd.ntmps89
  go_wp2
  go_loopw [4, 7] (fun _ i wr => ∃ j : Nat, j ≤ 64 ∧ i = .int .i64 (j : Int) ∧ Arr wr (w.heap.size + 1) 103 (bws l j) ∧ Below w.heap.size w wr ∧ (∃ old, wr.heap[w.heap.size]? = some (.cells old 103 (0, 0)) ∧ old.size = 16)) (fun _ i _ => 64 - (intOf i).toNat)
  case atStart =>
    refine ⟨0, by omega, rfl, ?_, ((Below.refl _ _).alloc (Nat.le_refl _) _).alloc (by simp) _, ?_⟩
    · unfold Arr; rw [HZ.out]; exact heap_alloc2_new _ _ _
    · exact ⟨_, heap_alloc2_old _ _ _, rfl⟩
  case round =>
    obtain ⟨j, hj, rfl, hA, hbel, hold⟩ := hrel
    by_cases hlt : j < 64
    · have hjl : j < l.length := by omega
      have hq0 : (j : Int).tdiv 4 = ((j / 4 : Nat) : Int) := by rw [Int.tdiv_eq_ediv_of_nonneg (by omega)]; omega
      have c1 := hA.cell (j / 4) (by rw [bws_length]; omega)
      rw [bws_at l j (j / 4) (by omega)] at c1
      have f1 := hA.free (j / 4)
      have hix := fun W => ix_at (P := Tryd.prog) Tryd.underlying9 l (j : Int) j rfl hjl W
      have hap := e_ap (bw l j (j / 4)) l[j]
      have hS : Hid (Arr (wr.setCell ⟨w.heap.size + 1, j / 4, none⟩ (.int .u32 (num (ap (bw l j (j / 4)) l[j])))) (w.heap.size + 1) 103 (bws l (j + 1))) := by
        have := hA.set (j / 4) (ap (bw l j (j / 4)) l[j])
        rw [bws_step l j hjl hlt] at this
        exact this
      obtain ⟨x, hx⟩ : ∃ x, x = bw l j (j / 4) := ⟨_, rfl⟩
      obtain ⟨y, hy⟩ : ∃ y, y = l[j] := ⟨_, rfl⟩
      rw [← hx, ← hy] at hap hS
      rw [← hx] at c1
      rw [← hy] at hix
      obtain ⟨k, hk⟩ : ∃ k, k = j / 4 := ⟨_, rfl⟩
      rw [← hk] at hq0 c1 f1 hS
      have hk16 : k < 16 := by omega
      have hj0 : (j : Int) < 64 := by omega
      have hy0 : (y.toNat : Int) % 4294967296 = (y.toNat : Int) := by have := y.toNat_lt; omega
      obtain ⟨old, ho1, ho2⟩ := hold
      have HO : Hid (wr.heap[w.heap.size]? = some (.cells old 103 (0, 0))) := ho1
      have HB : Hid (Below w.heap.size w wr) := hbel
      clear hx hy hk hA hl HZ hjl ho1 hbel
      go_wp2
      go_region
      go_wp2
      go_roundw
      case rel => exact ⟨j + 1, by omega, by go_num, hS.out.kept rfl, ⟨HB.out.os, HB.out.tape, HB.out.output, by have := HB.out.size; simpa [World.setCell] using this, fun i hi => by rw [heap_drew, heap_setCell_other _ _ _ _ (by simp; omega)]; exact HB.out.block i hi⟩, old, by rw [heap_drew, heap_setCell_other _ _ _ _ (by simp)]; exact HO.out, ho2⟩
      case measure => simp [intOf]; omega
    · have hj64 : j = 64 := by omega
      subst hj64
      obtain ⟨old, ho1, ho2⟩ := hold
      have hz : (wcells (bws l 64)).toArray.size = 16 := by simp [wcells_length, bws_length]
      have h1 := wcells_one (bws l 64)
      have hA' : wr.heap[w.heap.size + 1]? = some (.cells (wcells (bws l 64)).toArray 103 (0, 0)) := hA
      rw [← HC.out] at hz h1 hA'
      clear hA HZ
      have hsz : (Tryd.prog.info? 103).map (·.size) = some cs.size := by rw [hz]; exact size16
      have hso : old.size = cs.size := by omega
      have hW := setRow_heap wr w.heap.size old cs 103 (0, 0) ho1
      have hbW := below_setRow hbel (Nat.le_refl _) cs
      clear hz ho2
      go_wp2_with (first | refine wpList_load_row rfl 103 _ rfl (w.heap.size + 1) rfl 103 cs (0, 0) _ hA' Tryd.underlying103 rfl hsz ?_ | refine wpList_store_row rfl 103 _ _ rfl w.heap.size cs rfl rfl 103 old ho1 hsz hso h1 ?_)
      exact bodyPost_ret (v := .agg cs) (results_cell_row rfl _ _ w.heap.size 103 cs (0, 0) _ rfl hW Tryd.underlying103 rfl hsz) rfl ⟨rfl, hbW⟩
end Go.Proofs.YtddjpfgkjijmoaaDoor
