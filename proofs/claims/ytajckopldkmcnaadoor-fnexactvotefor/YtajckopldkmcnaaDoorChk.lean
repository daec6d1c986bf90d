/-
  Contracts: a checkpoint's text (CheckText), of the program and of the model.
-/
import Derived.Test.YtajckopldkmcnaaDoorIDig
import Derived.Test.YtajckopldkmcnaaDoorSChain
import Derived.Test.YtajckopldkmcnaaDoorSNum
namespace Go.Proofs.YtajckopldkmcnaaDoor
open Go.RowKit
set_option linter.unusedVariables false

def tCheck : List UInt8 := [99, 104, 101, 99, 107, 112, 111, 105, 110, 116]
def chkL (n : Nat) (r : List UInt8) : List UInt8 := tagL tCheck [numB 8 n, r]
theorem chkL_len (n : Nat) (r : List UInt8) (h : r.length = 32) : (chkL n r).length = 32 := tagL_len _ _ (by simp) (by have := numB_len 8 n; simp [tCheck, h]; omega)

set_option maxRecDepth 100000 in
set_option maxHeartbeats 400000 in
theorem impl_check (n : Nat) (r : List UInt8) (w : World) (hn : n ≤ 1000000000000) (hr : r.length = 32) (hT : Tab w) :
    Calls Tryd.prog 10 #[.int .i64 (n : Int), .string ⟨r.toArray⟩] w fun e w' => e = .returned (.tuple #[.string ⟨(chkL n r).toArray⟩, .bool true]) ∧ Below w.heap.size w w' := by
  have HT : Hid (Tab w) := hT
  have hr' : (r.length : Int) = 32 := by omega
  have hn0 : ¬ (n : Int) < 0 := by omega
  have hn1 : (n : Int) ≤ 1000000000000 := by omega
  have K1 := impl_numberText n w (by omega)
  have K2 := fun W hW => itag2 tCheck (numB 8 n) r W (by decide) (by have := numB_len 8 n; omega) hW
  have HE : Hid (chkL n r = tagL tCheck [numB 8 n, r]) := rfl
  rw [← HE.out] at K2
  obtain ⟨y, hy⟩ : ∃ y, y = chkL n r := ⟨_, rfl⟩
  rw [← hy] at K2 ⊢
  obtain ⟨p, hp⟩ : ∃ p, p = numB 8 n := ⟨_, rfl⟩
  rw [← hp] at K1 K2
  clear hT HE hy hp
  go_enter Tryd.func10, Tryd.ntmps10
  go_wp2_with fail
  refine K1.mono ?_
  rintro e w1 ⟨rfl, b1⟩
  go_wp2_with fail
  refine (K2 w1 (HT.out.later b1)).mono ?_
  rintro e w2 ⟨rfl, b2⟩
  have B2 := b1.trans (b2.mono b1.size)
  go_wp2
  go_ret2
  exact ⟨rfl, B2⟩

set_option maxRecDepth 100000 in
set_option maxHeartbeats 400000 in
theorem impl_check_no (n : Int) (r : List UInt8) (w : World) (hl : r.length ≤ 1048576) (h : ¬ (0 ≤ n ∧ n ≤ 1000000000000 ∧ r.length = 32)) :
    Calls Tryd.prog 10 #[.int .i64 n, .string ⟨r.toArray⟩] w fun e w' => e = .returned (.tuple #[.string ⟨#[]⟩, .bool false]) ∧ w' = w := by
  by_cases h0 : 0 ≤ n
  · by_cases h1 : n ≤ 1000000000000
    · have hr' : ¬ (r.length : Int) = 32 := fun e => h ⟨h0, h1, by omega⟩
      have hr2 : ((r.length : Int) != 32) = true := by simp; omega
      have hr3 : ((r.length : Int) == 32) = false := by simp; omega
      clear h
      go_enter Tryd.func10, Tryd.ntmps10
      go_wp2
      go_ret2
      exact ⟨rfl, rfl⟩
    · clear h
      go_enter Tryd.func10, Tryd.ntmps10
      go_wp2
      go_ret2
      exact ⟨rfl, rfl⟩
  · clear h
    go_enter Tryd.func10, Tryd.ntmps10
    go_wp2
    go_ret2
    exact ⟨rfl, rfl⟩

set_option maxRecDepth 100000 in
set_option maxHeartbeats 400000 in
theorem spec_check (n : Nat) (r : List UInt8) (w : World) (hn : n ≤ 1000000000000) (hr : r.length = 32) :
    Calls Tryd.prog 9 #[.int .i64 (n : Int), .string ⟨r.toArray⟩] w fun e w' => e = .returned (.tuple #[.string ⟨(chkL n r).toArray⟩, .bool true]) ∧ Below w.heap.size w w' := by
  have hr' : (r.length : Int) = 32 := by omega
  have K0 := l1In_yes (n : Int) 0 1000000000000 w (by omega)
  have K1 := spec_l1Num n w (by omega)
  have K2 := fun W => stag2 tCheck (numB 8 n) r W (by decide) (by have := numB_len 8 n; omega)
  have HE : Hid (chkL n r = tagL tCheck [numB 8 n, r]) := rfl
  rw [← HE.out] at K2
  obtain ⟨y, hy⟩ : ∃ y, y = chkL n r := ⟨_, rfl⟩
  rw [← hy] at K2 ⊢
  obtain ⟨p, hp⟩ : ∃ p, p = numB 8 n := ⟨_, rfl⟩
  rw [← hp] at K1 K2
  clear HE hy hp
  go_enter Tryd.func9, Tryd.ntmps9
  go_wp2_with fail
  refine K0.mono ?_
  rintro e w0 ⟨rfl, rfl⟩
  go_wp2_with fail
  refine K1.mono ?_
  rintro e w1 ⟨rfl, b1⟩
  go_wp2_with fail
  refine (K2 w1).mono ?_
  rintro e w2 ⟨rfl, b2⟩
  have B2 := b1.trans (b2.mono b1.size)
  go_wp2
  go_ret2
  exact ⟨rfl, B2⟩

set_option maxRecDepth 100000 in
set_option maxHeartbeats 400000 in
theorem spec_check_no (n : Int) (r : List UInt8) (w : World) (hl : r.length ≤ 1048576) (h : ¬ (0 ≤ n ∧ n ≤ 1000000000000 ∧ r.length = 32)) :
    Calls Tryd.prog 9 #[.int .i64 n, .string ⟨r.toArray⟩] w fun e w' => e = .returned (.tuple #[.string ⟨#[]⟩, .bool false]) ∧ w' = w := by
  by_cases h0 : 0 ≤ n ∧ n ≤ 1000000000000
  · have hr' : ¬ (r.length : Int) = 32 := fun e => h ⟨h0.1, h0.2, by omega⟩
    have K0 := l1In_yes n 0 1000000000000 w h0
    clear h h0
    go_enter Tryd.func9, Tryd.ntmps9
    go_wp2_with fail
    refine K0.mono ?_
    rintro e w0 ⟨rfl, rfl⟩
    go_wp2
    go_ret2
    exact ⟨rfl, rfl⟩
  · have K0 := l1In_no n 0 1000000000000 w h0
    clear h h0
    go_enter Tryd.func9, Tryd.ntmps9
    go_wp2_with fail
    refine K0.mono ?_
    rintro e w0 ⟨rfl, rfl⟩
    go_wp2
    go_ret2
    exact ⟨rfl, rfl⟩
end Go.Proofs.YtajckopldkmcnaaDoor
