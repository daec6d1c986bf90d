/-
  Contracts: FrameOf of the program and of the model.
-/
import Derived.Test.YtgoohohkgmiemaaDoorMathFr
import Derived.Test.YtgoohohkgmiemaaDoorWrap
import Derived.Test.YtgoohohkgmiemaaDoorISum
namespace Go.Proofs.YtgoohohkgmiemaaDoor
open Go.RowKit
set_option linter.unusedVariables false

set_option maxRecDepth 100000 in
set_option maxHeartbeats 400000 in
theorem fr_byteText (x : Int) (c : UInt8) (w : World) (hx : x = (c.toNat : Int)) :
    Calls Tryd.prog 23 #[.int .i64 x] w fun e w' => e = .returned (.string ⟨[c].toArray⟩) ∧ Below w.heap.size w w' := by
  have hc := c.toNat_lt
  have hcv := lit_string [c] #[.int .u8 x] (by simp only [bcells, List.map_cons, List.map_nil]; rw [hx]) 1 rfl (by decide)
  have h0 : 0 ≤ x := by omega
  have h1 : x < 256 := by omega
  clear hx hc
  go_enter Tryd.func23, Tryd.ntmps23
  go_wp2
  go_ret
  exact ⟨rfl, (Below.refl _ _).alloc (Nat.le_refl _) _⟩

theorem fr_and255 (m : Nat) (h : m < 9223372036854775808) : bits BinOp.and IntKind.i64 (m : Int) 255 = ((UInt8.ofNat m).toNat : Int) := by
  have hx : m &&& 255 = m % 256 := Nat.and_two_pow_sub_one_eq_mod m 8
  have : bits BinOp.and IntKind.i64 (m : Int) 255 = ((m % 256 : Nat) : Int) := by
    show IntKind.i64.wrap ((BitVec.ofInt 64 (m : Int) &&& BitVec.ofInt 64 ((255 : Nat) : Int)).toNat : Int) = _
    rw [BitVec.toNat_and, ofInt_u64 m (by omega), ofInt_u64 255 (by omega), hx]
    simp [IntKind.wrap, IntKind.signed, IntKind.bits]; omega
  rw [this, byte_of]; omega

theorem big_step (N j : Nat) (hj : j < 4) : (bigB N 4).drop (4 - (j + 1)) = UInt8.ofNat (N / 256 ^ j) :: (bigB N 4).drop (4 - j) := by
  have hp : (256 : Nat) ^ j = 2 ^ (8 * j) := by rw [Nat.pow_mul]
  have hl : 4 - (j + 1) < (bigB N 4).length := by rw [bigB_length]; omega
  rw [List.drop_eq_getElem_cons hl]
  have e1 : 4 - (j + 1) + 1 = 4 - j := by omega
  have e2 : 4 - 1 - (4 - (j + 1)) = j := by omega
  rw [e1]
  congr 1
  simp only [bigB, List.getElem_map, List.getElem_range, e2, hp]

set_option maxRecDepth 100000 in
set_option maxHeartbeats 1000000 in
theorem impl_frameOf (l : List UInt8) (w : World) (hl : l.length ≤ 1048576) (hT : Tab w) :
    Calls Tryd.prog 11 #[.string ⟨l.toArray⟩] w fun e w' => e = .returned (.string ⟨(frameL l).toArray⟩) ∧ Below w.heap.size w w' := by
  have hz : (ByteArray.mk l.toArray).size = l.length := by simp [ByteArray.size]
  by_cases h6 : l.length ≤ 60000
  · have HR : Hid (frameL l = bigB l.length 4 ++ ((sumL l).take 8 ++ l)) := by rw [Hid, frameL, if_pos h6]; rfl
    have HT : Hid (Tab w) := hT
    have HS := fun W hW => impl_sum l W hl hW
    have h32 := sum_len32 l
    obtain ⟨sm, hsm⟩ : ∃ sm, sm = sumL l := ⟨_, rfl⟩
    rw [← hsm] at HS h32 HR
    have hx8 := ext_to sm 8 (by omega)
    have hzs : (ByteArray.mk sm.toArray).size = 32 := by simp [ByteArray.size, h32]
    obtain ⟨N, hN⟩ : ∃ N, N = l.length := ⟨_, rfl⟩
    have HN : Hid (N = l.length) := hN
    rw [← hN] at hz h6 HR
    clear hT hsm h32 hN
    go_enter Tryd.func11, Tryd.ntmps11
    go_wp2
    go_loopw [3, 4] (fun v t wr => ∃ j m : Nat, ∃ y : List UInt8, j ≤ 4 ∧ m ≤ N ∧ v = .string ⟨y.toArray⟩ ∧ t = .int .i64 (m : Int) ∧ Hid (m = N / 256 ^ j) ∧ Hid (y = (bigB N 4).drop (4 - j)) ∧ Hid (y.length = j) ∧ Below w.heap.size w wr) (fun v _ _ => match v with | .string s => 4 - s.size | _ => 0)
    case atStart => exact ⟨0, N, [], by omega, Nat.le_refl _, rfl, rfl, by simp [Hid], by rw [Hid]; simp [List.drop_of_length_le, bigB_length], rfl, Below.refl _ _⟩
    case round =>
      obtain ⟨j, m, y, hj, hm, rfl, rfl, HM, HY, HJ, hbel⟩ := hrel
      have hsz := hbel.size
      have hzy : (ByteArray.mk y.toArray).size = y.length := by simp [ByteArray.size]
      by_cases hlt : y.length < 4
      · have hj4 : j < 4 := by have := HJ.out; omega
        have hst := big_step N j hj4
        have K1 := fun W => fr_byteText (bits BinOp.and IntKind.i64 (m : Int) 255) (UInt8.ofNat m) W (fr_and255 m (by omega))
        have HY' : Hid (UInt8.ofNat m :: y = (bigB N 4).drop (4 - (j + 1))) := by rw [Hid, hst, HY.out, HM.out]
        have HM' : Hid (m / 256 = N / 256 ^ (j + 1)) := by rw [Hid, HM.out, Nat.div_div_eq_div_mul, Nat.pow_succ]
        have HJ' : Hid ((UInt8.ofNat m :: y).length = j + 1) := by rw [Hid, ← HJ.out]; simp
        obtain ⟨c, hc⟩ : ∃ c, c = UInt8.ofNat m := ⟨_, rfl⟩
        rw [← hc] at K1 HY' HJ'
        clear hst hc HM HY HJ
        go_wp2_with fail
        refine (K1 _).mono ?_
        rintro e w1 ⟨rfl, b1⟩
        have hb := hbel.trans (b1.mono hsz)
        go_wp2
        go_roundw
        case rel => exact ⟨j + 1, m / 256, c :: y, by omega, by omega, by show Value.string (ByteArray.mk #[c] ++ _) = _; rw [ba_cons], by simp, HM', HY', HJ', hb⟩
        case measure => simp [ByteArray.size]; omega
      · have hj4 : j = 4 := by have := HJ.out; omega
        have HF : Hid (y = bigB N 4) := by rw [Hid, HY.out, hj4]; rfl
        have hylen : y.length = 4 := by have := HJ.out; omega
        have HQ := HS wr (HT.out.later hbel)
        clear HM HY HJ HS
        go_wp2_with fail
        refine HQ.mono ?_
        rintro e w1 ⟨rfl, b1⟩
        have hb := hbel.trans (b1.mono hsz)
        go_wp2
        go_ret
        refine ⟨?_, hb⟩
        rw [HR.out, ← HF.out]
        simp [ba_app]
  · have HR : Hid (frameL l = []) := by rw [Hid, frameL, if_neg h6]
    rw [HR.out]
    clear hT HR
    go_enter Tryd.func11, Tryd.ntmps11
    go_wp2
    go_ret
    exact ⟨rfl, Below.refl _ _⟩
end Go.Proofs.YtgoohohkgmiemaaDoor
