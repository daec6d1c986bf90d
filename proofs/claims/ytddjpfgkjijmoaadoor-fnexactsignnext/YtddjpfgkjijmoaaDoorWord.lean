/-
  Words of 32 bits: what the walk writes of them, under names of our own.
-/
import Derived.Test.YtddjpfgkjijmoaaDoorBase
import Derived.Laws.BitsAllLaws
namespace Go.Proofs.YtddjpfgkjijmoaaDoor
open Go.RowKit
set_option linter.unusedVariables false

/-- A word's number. -/
def num (a : UInt32) : Int := (a.toNat : Int)
def ad (a b : UInt32) : UInt32 := a + b
def xo (a b : UInt32) : UInt32 := a ^^^ b
def an (a b : UInt32) : UInt32 := a &&& b
def no (a : UInt32) : UInt32 := UInt32.ofNat (4294967295 ^^^ a.toNat)
def sr (a : UInt32) (n : Nat) : UInt32 := UInt32.ofNat (a.toNat / 2 ^ n)
/-- To the right, round. -/
def rr (a : UInt32) (n : Nat) : UInt32 := UInt32.ofNat (a.toNat / 2 ^ n ||| a.toNat * 2 ^ (32 - n) % 4294967296)

theorem num_lo (a : UInt32) : 0 ≤ num a := Int.natCast_nonneg _
theorem num_hi (a : UInt32) : num a < 4294967296 := by have := a.toNat_lt; unfold num; omega
theorem num_of (n : Nat) (h : n < 4294967296) : num (UInt32.ofNat n) = (n : Int) := by unfold num; rw [UInt32.toNat_ofNat']; congr 1; exact Nat.mod_eq_of_lt (by simpa using h)

theorem e_add (a b : UInt32) : (num a + num b) % 4294967296 = num (ad a b) := by
  unfold num ad; rw [UInt32.toNat_add]; omega
theorem e_addw (a b : UInt32) : IntKind.u32.wrap (num a + num b) = num (ad a b) := by
  rw [IntKind.wrap_u32', e_add]
theorem e_xor (a b : UInt32) : bits .xor .u32 (num a) (num b) = num (xo a b) := by
  unfold num xo; rw [u32_xor_nat _ _ a.toNat_lt b.toNat_lt, UInt32.toNat_xor]
theorem e_and (a b : UInt32) : bits .and .u32 (num a) (num b) = num (an a b) := by
  unfold num an; rw [u32_and_nat _ _ a.toNat_lt b.toNat_lt, UInt32.toNat_and]
theorem e_not (a : UInt32) : bits .xor .u32 4294967295 (num a) = num (no a) := by
  have ha := a.toNat_lt
  have h1 : bits .xor .u32 ((4294967295 : Nat) : Int) (num a) = ((4294967295 ^^^ a.toNat : Nat) : Int) := u32_xor_nat _ _ (by omega) ha
  have h2 : 4294967295 ^^^ a.toNat < 4294967296 := by
    have := Nat.xor_lt_two_pow (x := 4294967295) (y := a.toNat) (n := 32) (by omega) (by simpa using ha)
    simpa using this
  rw [no, num_of _ h2]
  exact h1
theorem e_notm (a : UInt32) : bits .xor .u32 IntKind.u32.max (num a) = num (no a) := e_not a
theorem e_noti (a : UInt32) : bits .xor .u32 (if IntKind.u32.signed = true then -1 else IntKind.u32.max) (num a) = num (no a) := e_not a
theorem e_shr (a : UInt32) (n : Nat) (p : Int) (hp : p = ((2 ^ n : Nat) : Int)) : num a / p = num (sr a n) := by
  have ha := a.toNat_lt
  subst hp
  rw [sr, num_of _ (Nat.lt_of_le_of_lt (Nat.div_le_self _ _) ha)]
  unfold num
  rw [Int.natCast_ediv]
theorem e_rot (a : UInt32) (n : Nat) (p q : Int) (hp : p = ((2 ^ n : Nat) : Int)) (hq : q = ((2 ^ (32 - n) : Nat) : Int)) : bits .or .u32 (num a / p) (num a * q % 4294967296) = num (rr a n) ∧ bits .or .u32 (num a * q % 4294967296) (num a / p) = num (rr a n) := by
  have ha := a.toNat_lt
  subst hp hq
  have h1 : a.toNat / 2 ^ n < 4294967296 := Nat.lt_of_le_of_lt (Nat.div_le_self _ _) ha
  have h2 : a.toNat * 2 ^ (32 - n) % 4294967296 < 4294967296 := Nat.mod_lt _ (by omega)
  have e1 : num a / ((2 ^ n : Nat) : Int) = ((a.toNat / 2 ^ n : Nat) : Int) := by unfold num; rw [Int.natCast_ediv]
  have e2 : num a * ((2 ^ (32 - n) : Nat) : Int) % 4294967296 = ((a.toNat * 2 ^ (32 - n) % 4294967296 : Nat) : Int) := by unfold num; rw [Int.natCast_emod, Int.natCast_mul]; rfl
  have h3 : a.toNat / 2 ^ n ||| a.toNat * 2 ^ (32 - n) % 4294967296 < 4294967296 := by
    have := Nat.or_lt_two_pow (n := 32) (by simpa using h1) (by simpa using h2)
    simpa using this
  rw [e1, e2, rr, num_of _ h3]
  exact ⟨u32_or_nat _ _ h1 h2, by rw [u32_or_nat _ _ h2 h1, Nat.or_comm]⟩
end Go.Proofs.YtddjpfgkjijmoaaDoor
