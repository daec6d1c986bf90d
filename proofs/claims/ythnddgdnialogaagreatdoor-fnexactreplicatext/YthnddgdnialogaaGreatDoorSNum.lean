/-
 Contract: a number's text, of the model.
-/
import Derived.Test.YthnddgdnialogaaGreatDoorMathZ
import Derived.Test.YthnddgdnialogaaGreatDoorWrapTxt
namespace Go.Proofs.YthnddgdnialogaaGreatDoor
open Go.RowKit
set_option linter.unusedVariables false
set_option maxRecDepth 100000 in
set_option maxHeartbeats 400000 in
theorem spec_l1Num (n : Nat) (w : World) (hn : n ≤ 1000000000000) :
 Calls Tryz.prog 42 #[.int .i64 n] w fun e w' => e = .returned (.string ⟨(numB 8 n).toArray⟩) ∧ Below w.heap.size w w' := by
 have hcv : (IntKind.u64).wrap (n : Int) = (n : Int) := by simp [IntKind.wrap, IntKind.signed, IntKind.bits]; omega
 have HS : (bigB n 8).dropWhile (· == 0) = numB 8 n := dropZ_bigB 8 n (by omega)
 have HZ := bigB_length n 8
 go_enter Tryz.func42, Tryz.ntmps42
 go_wp2_with fail
 refine (spec_l1Big n 8 _ (by omega) (by omega)).mono ?_
 rintro e w1 ⟨rfl, hb1⟩
 go_wp2
 go_loop [3] (fun v => ∃ l : List UInt8, v = .string ⟨l.toArray⟩ ∧ l.length ≤ 8 ∧ Hid (l.dropWhile (· == 0) = numB 8 n)) (fun v => match v with | .string s => s.size | _ => 0)
 case atStart => exact ⟨_, rfl, by rw [HZ]; omega, HS⟩
 case round =>
  obtain ⟨l, rfl, hl, HL⟩ := hrel
  clear HS HZ
  match l, hl, HL with
  | [], hl, HL =>
    go_wp2
    go_ret
    exact ⟨ret_string (by rw [← HL.out]; rfl), hb1⟩
  | a :: r, hl, HL =>
    by_cases ha : a = 0
    · subst ha
      go_wp2
      go_round
      case rel => exact ⟨r, congrArg Value.string (ba_tail (0 :: r)), by simp at hl ⊢; omega, by rw [Hid, ← HL.out, dropZ_zero]⟩
      case measure => simp [ByteArray.size]
    · have ha' : ((((ByteArray.mk (a :: r).toArray)[0]'(by simp [ByteArray.size])).toNat : Int) == 0) = false := by
       show ((a.toNat : Int) == 0) = false
       simp only [beq_eq_false_iff_ne, ne_eq]
       intro h
       exact ha (UInt8.toNat_inj.1 (by simpa using h))
      have HR : Hid (a :: r = numB 8 n) := by rw [Hid, ← HL.out]; exact (dropZ_stop a r ha).symm
      go_wp2
      go_ret
      exact ⟨ret_string HR.out, hb1⟩
end Go.Proofs.YthnddgdnialogaaGreatDoor
