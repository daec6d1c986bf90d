/-
  Plain facts on the bytes of numbers.
-/
import Derived.Test.YtnhdkhngpnialaaMathPre
namespace Go.Proofs.Ytnhdkhngpnialaa
open Go.RowKit

/-- The bytes of a number, the highest first, as few as hold it; fuel ahead. -/
def numB : Nat → Nat → List UInt8
  | 0, _ => []
  | f + 1, n => if n = 0 then [] else numB f (n / 256) ++ [UInt8.ofNat n]

/-- So many bytes of a number, the highest first. -/
def bigB (n k : Nat) : List UInt8 := (List.range k).map fun j => UInt8.ofNat (n / 2 ^ (8 * (k - 1 - j)))

theorem bigB_length (n k : Nat) : (bigB n k).length = k := by simp [bigB]

theorem bigB_snoc (n k j : Nat) (h : j < k) : (bigB n k).take (j + 1) = (bigB n k).take j ++ [UInt8.ofNat (n / 2 ^ (8 * (k - 1 - j)))] := by
  rw [List.take_succ_eq_append_getElem (by simpa [bigB] using h)]
  simp [bigB]

theorem byte_of (n : Nat) : ((UInt8.ofNat n).toNat : Int) = (n : Int) % 256 := by
  rw [UInt8.toNat_ofNat']; simp

theorem byte_of_div (n e : Nat) : ((UInt8.ofNat (n / 2 ^ e)).toNat : Int) = (n : Int) / 2 ^ e % 256 := by
  rw [byte_of]; simp

/-- Without noughts ahead, but one byte at least. -/
def strip : List UInt8 → List UInt8
  | a :: b :: r => if a = 0 then strip (b :: r) else a :: b :: r
  | l => l

theorem strip_zero (b : UInt8) (r : List UInt8) : strip (0 :: b :: r) = strip (b :: r) := by simp [strip]

theorem strip_stop (l : List UInt8) (h : l.length ≤ 1 ∨ ∃ a r, l = a :: r ∧ a ≠ 0) : strip l = l := by
  rcases h with h | ⟨a, r, rfl, ha⟩
  · match l, h with
    | [], _ => rfl
    | [_], _ => rfl
    | _ :: _ :: _, h => simp at h
  · cases r with
    | nil => rfl
    | cons b r => simp [strip, ha]

theorem numB_fuel : ∀ (f n : Nat), n < 256 ^ f → numB (f + 1) n = numB f n
  | 0, n, h => by simp at h; subst h; rfl
  | f + 1, n, h => by
    have e1 : numB (f + 1 + 1) n = if n = 0 then [] else numB (f + 1) (n / 256) ++ [UInt8.ofNat n] := rfl
    have e2 : numB (f + 1) n = if n = 0 then [] else numB f (n / 256) ++ [UInt8.ofNat n] := rfl
    rw [e1, e2, numB_fuel f (n / 256) (by rw [Nat.pow_succ] at h; omega)]

theorem numB_step (f m : Nat) (h : m < 256 ^ (f + 1)) (h0 : 0 < m) : numB (f + 1) m = numB f (m / 256) ++ [UInt8.ofNat m] ∧ m / 256 < 256 ^ f := by
  rw [Nat.pow_succ] at h
  exact ⟨by rw [numB, if_neg (by omega)], by omega⟩

theorem numB_zero (f : Nat) : numB f 0 = [] := by cases f <;> simp [numB]

theorem ofNat_mod (n : Nat) : UInt8.ofNat n = UInt8.ofNat (n % 256) := by
  apply UInt8.toNat_inj.1; simp

theorem numB_small (n : Nat) (h : 0 < n) (h1 : n < 256) : numB 8 n = [UInt8.ofNat n] := by
  rw [numB, if_neg (by omega), show n / 256 = 0 from by omega, numB_zero]; rfl

theorem numB_two (n : Nat) (h : 256 ≤ n) (h1 : n < 65536) : numB 8 n = [UInt8.ofNat (n / 256), UInt8.ofNat n] := by
  rw [numB, if_neg (by omega), numB, if_neg (by omega), show n / 256 / 256 = 0 from by omega, numB_zero]; rfl

/-- A length up to 65535 in four bytes, without noughts ahead: as few as hold it. -/
theorem strip_bigB (n : Nat) (h : 0 < n) (h1 : n < 65536) : strip (bigB n 4) = numB 8 n := by
  have e : bigB n 4 = [0, 0, UInt8.ofNat (n / 256), UInt8.ofNat n] := by
    have h3 : n / 2 ^ 24 = 0 := by omega
    have h2 : n / 2 ^ 16 = 0 := by omega
    simp only [bigB, List.range, List.range.loop, List.map_cons, List.map_nil]
    simp [h3, h2]
  rw [e, strip_zero, strip_zero]
  by_cases hs : n < 256
  · have : n / 256 = 0 := by omega
    rw [numB_small n h hs, this]
    have : (UInt8.ofNat 0) = 0 := rfl
    rw [this, strip_zero, strip_stop _ (.inl (by simp))]
  · rw [numB_two n (by omega) h1]
    refine strip_stop _ (.inr ⟨_, _, rfl, fun h0 => ?_⟩)
    have := congrArg UInt8.toNat h0
    simp at this
    omega

theorem i64_and255 (m : Nat) (hm : m < 9223372036854775808) : bits BinOp.and IntKind.i64 (m : Int) 255 % 256 = ((UInt8.ofNat m).toNat : Int) := by
  have hx : m &&& 255 = m % 256 := Nat.and_two_pow_sub_one_eq_mod m 8
  have : bits BinOp.and IntKind.i64 (m : Int) 255 = ((m % 256 : Nat) : Int) := by
    show IntKind.i64.wrap ((BitVec.ofInt 64 (m : Int) &&& BitVec.ofInt 64 ((255 : Nat) : Int)).toNat : Int) = _
    rw [BitVec.toNat_and, ofInt_u64 m (by omega), ofInt_u64 255 (by omega), hx]
    simp [IntKind.wrap, IntKind.signed, IntKind.bits]; omega
  rw [this, byte_of]; omega

/-- What stands ahead of n bytes, and the bytes: 'at' is 128 or 192. -/
def wrapB (l : List UInt8) (h : Nat) : List UInt8 :=
  if l.length ≤ 55 then UInt8.ofNat (h + l.length) :: l else UInt8.ofNat (h + 55 + (numB 8 l.length).length) :: (numB 8 l.length ++ l)

theorem numB_length (n : Nat) (h : 0 < n) (h1 : n < 65536) : (numB 8 n).length ≤ 2 := by
  by_cases hs : n < 256
  · rw [numB_small n h hs]; simp
  · rw [numB_two n (by omega) h1]; simp

theorem ba_cons (b : UInt8) (l : List UInt8) : (ByteArray.mk #[b]) ++ ByteArray.mk l.toArray = ⟨(b :: l).toArray⟩ := by
  apply ByteArray.ext; simp

theorem ba_eq (s : ByteArray) : s = ⟨s.data.toList.toArray⟩ := by
  apply ByteArray.ext; simp

theorem ba_app (a : List UInt8) (s : ByteArray) : ByteArray.mk a.toArray ++ s = ⟨(a ++ s.data.toList).toArray⟩ := by
  apply ByteArray.ext; simp

theorem ba_tail (l : List UInt8) : (ByteArray.mk l.toArray).extract 1 l.length = ⟨l.tail.toArray⟩ := by
  apply ByteArray.ext
  simp [ByteArray.extract, ByteArray.copySlice]
  exact List.take_of_length_le (by simp)

end Go.Proofs.Ytnhdkhngpnialaa
