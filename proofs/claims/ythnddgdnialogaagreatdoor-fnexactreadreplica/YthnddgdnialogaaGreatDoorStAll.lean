/-
 Texts that are laid as one: KeyH, MathSt, HeldN, StOk.
-/
import Derived.Test.YthnddgdnialogaaGreatDoorMath2
import Derived.Lib.BufferWrite
import Derived.Laws.Tables
import Derived.Maps.Own
import Derived.WideKeyArr2
import Derived.Test.YthnddgdnialogaaGreatDoorMathRs
import Derived.Test.YthnddgdnialogaaGreatDoorPairs
import Derived.Test.YthnddgdnialogaaGreatDoorIReadAll
import Derived.Test.YthnddgdnialogaaGreatDoorSumI
import Derived.Deep.RegionHeld3
import Derived.Test.YthnddgdnialogaaGreatDoorSReadM
import Derived.Test.YthnddgdnialogaaGreatDoorSSum
namespace Go.Proofs.YthnddgdnialogaaGreatDoor
open Go.RowKit
set_option linter.unusedVariables false
theorem setRow_block (w : World) (g k : Nat) (cs : Array Value) (h : k ≠ g) : (w.setRow g cs).heap[k]? = w.heap[k]? := by
 show (w.heap.modify g _)[k]? = _
 rw [Array.getElem?_modify, if_neg (fun e => h e.symm)]
theorem below_setRow {B g : Nat} {w0 w : World} (h : Below B w0 w) (hg : B ≤ g) (cs : Array Value) : Below B w0 (w.setRow g cs) :=
 ⟨h.os, h.tape, h.output, by simpa [World.setRow] using h.size, fun k hk => (setRow_block w g k cs (by omega)).trans (h.block k hk)⟩
theorem key_copy (l : List UInt8) (zs : Array Value) (hz : zs.size = 32) (hl : l.length = 32) : (zs.toList.take 0 ++ Lib.byteCells (⟨l.toArray⟩ : ByteArray).data.toList ++ zs.toList.drop (0 + (⟨l.toArray⟩ : ByteArray).size)).toArray = (bcells l).toArray := by
 have h1 : zs.toList.drop (0 + (⟨l.toArray⟩ : ByteArray).size) = [] := List.drop_eq_nil_of_le (by simp [ByteArray.size]; omega)
 rw [h1]
 simp [Lib.byteCells, bcells]
set_option maxRecDepth 100000 in
set_option maxHeartbeats 1000000 in
theorem impl_keyOfHash (l : List UInt8) (w : World) (hl : l.length = 32) :
 Calls Tryz.prog 86 #[.string ⟨l.toArray⟩] w fun e w' => e = .returned (.agg (bcells l).toArray) ∧ Below w.heap.size w w' := by
 obtain ⟨zs, hzs⟩ : ∃ zs : Array Value, zs = #[.int .u8 0, .int .u8 0, .int .u8 0, .int .u8 0, .int .u8 0, .int .u8 0, .int .u8 0, .int .u8 0, .int .u8 0, .int .u8 0, .int .u8 0, .int .u8 0, .int .u8 0, .int .u8 0, .int .u8 0, .int .u8 0, .int .u8 0, .int .u8 0, .int .u8 0, .int .u8 0, .int .u8 0, .int .u8 0, .int .u8 0, .int .u8 0, .int .u8 0, .int .u8 0, .int .u8 0, .int .u8 0, .int .u8 0, .int .u8 0, .int .u8 0, .int .u8 0] := ⟨_, rfl⟩
 have hz : zs.size = 32 := by rw [hzs]; rfl
 have HZS : Hid (#[.int .u8 0, .int .u8 0, .int .u8 0, .int .u8 0, .int .u8 0, .int .u8 0, .int .u8 0, .int .u8 0, .int .u8 0, .int .u8 0, .int .u8 0, .int .u8 0, .int .u8 0, .int .u8 0, .int .u8 0, .int .u8 0, .int .u8 0, .int .u8 0, .int .u8 0, .int .u8 0, .int .u8 0, .int .u8 0, .int .u8 0, .int .u8 0, .int .u8 0, .int .u8 0, .int .u8 0, .int .u8 0, .int .u8 0, .int .u8 0, .int .u8 0, .int .u8 0] = zs) := hzs.symm
 have B0 : Hid (Below w.heap.size w ((w.alloc (.cells zs 119)).alloc (.cells zs 119))) := ((Below.refl _ _).alloc (Nat.le_refl _) _).alloc (by simp) _
 have X0 : Hid (((w.alloc (.cells zs 119)).alloc (.cells zs 119)).heap[w.heap.size]? = some (.cells zs 119 (0, 0))) := (Below.heap_alloc _ _ _ (by simp)).trans (heap_alloc_new w _)
 have Y0 : Hid (((w.alloc (.cells zs 119)).alloc (.cells zs 119)).heap[w.heap.size + 1]? = some (.cells zs 119 (0, 0))) := by
  have := heap_alloc_new (w.alloc (.cells zs 119)) (.cells zs 119)
  rw [show (w.alloc (.cells zs 119)).heap.size = w.heap.size + 1 by simp] at this
  exact this
 obtain ⟨wa, hwa⟩ : ∃ wa, wa = (w.alloc (.cells zs 119)).alloc (.cells zs 119) := ⟨_, rfl⟩
 rw [← hwa] at B0 X0 Y0
 have HWA : Hid ((w.alloc (.cells zs 119)).alloc (.cells zs 119) = wa) := hwa.symm
 have hcs : (bcells l).toArray.size = 32 := by simp [bcells, hl]
 have h1 : (bcells l).toArray.all (·.oneCell') = true := by
  rw [Array.all_eq_true]; intro i hi; simp [bcells, Value.oneCell']
 have HRUN : Hid (∀ ty, (Builtin.copy_ #[102, 9] ty #[.slice (some ⟨w.heap.size + 1, 0, none⟩) 32 32, .string ⟨l.toArray⟩]).run Tryz.prog wa = .ok (goInt 32) (wa.setRow (w.heap.size + 1) (bcells l).toArray)) := fun ty => by
  have := Lib.run_copy_row_string (P := Tryz.prog) wa 102 9 ty 5 (w.heap.size + 1) 0 32 32 ⟨l.toArray⟩ zs 119 Tryz.underlying102 (by kernel_rfl) Y0.out (by simp [ByteArray.size, hl]) (by simp [ByteArray.size, hl, hz])
  rw [key_copy l zs hz hl, show (⟨l.toArray⟩ : ByteArray).size = 32 by simp [ByteArray.size, hl]] at this
  exact this
 have Y1 : Hid ((wa.setRow (w.heap.size + 1) (bcells l).toArray).heap[w.heap.size + 1]? = some (.cells (bcells l).toArray 119 (0, 0))) := setRow_heap _ _ _ _ _ _ Y0.out
 have X1 : Hid ((wa.setRow (w.heap.size + 1) (bcells l).toArray).heap[w.heap.size]? = some (.cells zs 119 (0, 0))) := (setRow_block _ _ _ _ (by omega)).trans X0.out
 have B1 : Hid (Below w.heap.size w (wa.setRow (w.heap.size + 1) (bcells l).toArray)) := below_setRow B0.out (by omega) _
 obtain ⟨cs, hcd⟩ : ∃ cs, cs = (bcells l).toArray := ⟨_, rfl⟩
 rw [← hcd] at hcs h1 HRUN Y1 X1 B1 ⊢
 have X2 : Hid (((wa.setRow (w.heap.size + 1) cs).setRow w.heap.size cs).heap[w.heap.size]? = some (.cells cs 119 (0, 0))) := setRow_heap _ _ _ _ _ _ X1.out
 have B2 : Hid (Below w.heap.size w ((wa.setRow (w.heap.size + 1) cs).setRow w.heap.size cs)) := below_setRow B1.out (Nat.le_refl _) _
 have HI : Hid ((Tryz.prog.info? 119).map (·.size) = some cs.size) := by rw [Hid, hcs]; kernel_rfl
 clear hwa hcd hzs
 go_enter Tryz.func86, Tryz.ntmps86
 go_wp2
 rw [HZS.out, HWA.out, HRUN.out 3]
 go_wp2_with (first
  | (refine wpList_load_row rfl 119 _ rfl (w.heap.size + 1) rfl 119 cs (0, 0) _ Y1.out Tryz.underlying119 rfl HI.out ?_)
  | (refine wpList_store_row rfl 119 _ _ rfl w.heap.size cs rfl rfl 119 zs X1.out HI.out (by rw [hz, hcs]) h1 ?_))
 exact bodyPost_ret (v := .agg cs) (results_cell_row rfl _ _ w.heap.size 119 _ (0, 0) _ rfl X2.out Tryz.underlying119 rfl HI.out) rfl ⟨rfl, B2.out⟩
theorem u8_wf (b : UInt8) : (Lit.int .u8 (b.toNat : Int)).wf = true := by
 have hb := b.toNat_lt
 simp [Lit.wf, IntKind.min, IntKind.max, IntKind.signed, IntKind.bits]
 omega
def keyLit (l : List UInt8) : Lit := .string (keyBytes ((List.range 32).map fun i => [Lit.int .u8 ((l.getD i 0).toNat : Int)]).flatten)
theorem mapM_someK {α β : Type} (f : α → Option β) (g : α → β) : ∀ xs : List α, (∀ i ∈ xs, f i = some (g i)) → xs.mapM f = some (xs.map g)
 | [], _ => rfl
 | x :: xs, h => by
   rw [List.mapM_cons, h x (by simp), mapM_someK f g xs (fun i hi => h i (by simp [hi]))]
   rfl
theorem arr32 : WideMaps.ArrKey Tryz.prog 119 5 32 := ⟨Tryz.underlying119, by kernel_rfl, by kernel_rfl, by kernel_rfl⟩
theorem keyedH : Maps.Keyed Tryz.prog 119 := Maps.Keyed.of_law arr32.law
theorem key_reads (l : List UInt8) (hl : l.length = 32) : keyOf Tryz.prog 119 (.agg (bcells l).toArray) = some (keyLit l) := by
 obtain ⟨m, hm⟩ : ∃ m, Tryz.prog.types.size = m + 2 := ⟨Tryz.prog.types.size - 2, by kernel_rfl⟩
 have hkt := arr32.keyType ⟨m + 1, hm⟩
 have hcs : (bcells l).length = 32 := by simp [bcells, hl]
 unfold keyOf
 simp only [arr32.hu]
 rw [if_pos (by simp [hkt, Value.formed, arr32.hu, arr32.size, hcs]), hm]
 unfold Program.keyLits
 simp only [arr32.hu, Value.cells]
 rw [if_pos (by rw [arr32.size]; simpa using hcs)]
 rw [mapM_someK _ (fun i => [Lit.int .u8 ((l.getD i 0).toNat : Int)]) _ (fun i hi => ?_)]
 · rfl
 · have hi' : i < 32 := List.mem_range.1 hi
   have hb := (l.getD i 0).toNat_lt
   have hg : ((bcells l).drop (i * 1)).take 1 = [.int .u8 ((l.getD i 0).toNat : Int)] := by
    rw [Nat.mul_one, List.drop_eq_getElem_cons (by omega)]
    simp [bcells, List.getD, show i < l.length by omega]
   rw [arr32.one]
   simp only [hg]
   unfold Program.keyLits
   rw [Tryz.underlying5]
   simp only
   rw [if_pos ⟨trivial, u8_wf _⟩]
end Go.Proofs.YthnddgdnialogaaGreatDoor
namespace Go.Proofs.YthnddgdnialogaaGreatDoor
open Go.RowKit
set_option linter.unusedVariables false
def stOk (ps : List PairL) (j : Nat) : Bool := (readNode (valAt ps j)).isSome && (sumL (valAt ps j) == keyAt ps j) && (decide (j = 0) || Op.bytesLess (keyAt ps (j - 1)) (keyAt ps j))
def storeOkL (ps : List PairL) : Bool := decide (ps.length ≤ 400) && (List.range ps.length).all (stOk ps)
theorem storeOk_big (ps : List PairL) (h : ¬ ps.length ≤ 400) : storeOkL ps = false := by simp [storeOkL, h]
theorem storeOk_bad (ps : List PairL) (j : Nat) (h : j < ps.length) (hb : stOk ps j = false) : storeOkL ps = false := by
 have : (List.range ps.length).all (stOk ps) = false := by
  rw [List.all_eq_false]
  exact ⟨j, List.mem_range.2 h, by simp [hb]⟩
 simp [storeOkL, this]
theorem storeOk_all (ps : List PairL) (h400 : ps.length ≤ 400) (h : ∀ j, j < ps.length → stOk ps j = true) : storeOkL ps = true := by
 simp only [storeOkL, Bool.and_eq_true, decide_eq_true_eq, List.all_eq_true, List.mem_range]
 exact ⟨h400, h⟩
end Go.Proofs.YthnddgdnialogaaGreatDoor
namespace Go.Proofs.YthnddgdnialogaaGreatDoor
open Go.RowKit
set_option linter.unusedVariables false
theorem two_cellsS {w : World} {b : Nat} {u v : Value} {t : TypeId} (h : w.heap[b]? = some (.cells #[u, v] t (0, 0))) :
 w.cell? ⟨b, 0, none⟩ = some u ∧ w.cell? ⟨b, 1, none⟩ = some v ∧ ∀ j, w.frozen? ⟨b, j, none⟩ = false := by
 refine ⟨?_, ?_, fun j => frozen_of_row w b j _ t h⟩ <;> simp only [World.cell?, h] <;> rfl
end Go.Proofs.YthnddgdnialogaaGreatDoor
namespace Go.Proofs.YthnddgdnialogaaGreatDoor
open Go.RowKit
set_option linter.unusedVariables false
end Go.Proofs.YthnddgdnialogaaGreatDoor
