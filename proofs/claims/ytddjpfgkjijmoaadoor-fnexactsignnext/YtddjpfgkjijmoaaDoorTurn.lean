/-
  Contracts: a word turned, the model's way and the program's.
-/
import Derived.Test.YtddjpfgkjijmoaaDoorWord
import Derived.Deep.QuietTactic
import Derived.BigQuiet
namespace Go.Proofs.YtddjpfgkjijmoaaDoor
open Go.RowKit
set_option linter.unusedVariables false

theorem size16 : (Tryd.prog.info? 103).map (·.size) = some 16 := by kernel_rfl

/-- By how many places words are turned. -/
def Turns (n : Nat) : Prop := n = 2 ∨ n = 6 ∨ n = 7 ∨ n = 11 ∨ n = 13 ∨ n = 17 ∨ n = 18 ∨ n = 19 ∨ n = 22 ∨ n = 25

set_option maxRecDepth 100000 in
theorem spec_turn (a : UInt32) (n : Nat) (x : Int) (w : World) (hn : Turns n) (hx : x = (n : Int)) :
    Calls Tryd.prog 94 #[.int .u32 (num a), .int .u64 x] w fun e w' => e = .returned (.int .u32 (num (rr a n))) ∧ w' = w := by
  subst hx
  rcases hn with rfl | rfl | rfl | rfl | rfl | rfl | rfl | rfl | rfl | rfl
  · have h1 : bits .or .u32 (num a / 4) (num a * 1073741824 % 4294967296) = num (rr a 2) := (e_rot a 2 _ _ (by decide) (by decide)).1
    go_enter Tryd.func94, Tryd.ntmps94
    go_wp2
    go_ret
    exact ⟨rfl, rfl⟩
  · have h1 : bits .or .u32 (num a / 64) (num a * 67108864 % 4294967296) = num (rr a 6) := (e_rot a 6 _ _ (by decide) (by decide)).1
    go_enter Tryd.func94, Tryd.ntmps94
    go_wp2
    go_ret
    exact ⟨rfl, rfl⟩
  · have h1 : bits .or .u32 (num a / 128) (num a * 33554432 % 4294967296) = num (rr a 7) := (e_rot a 7 _ _ (by decide) (by decide)).1
    go_enter Tryd.func94, Tryd.ntmps94
    go_wp2
    go_ret
    exact ⟨rfl, rfl⟩
  · have h1 : bits .or .u32 (num a / 2048) (num a * 2097152 % 4294967296) = num (rr a 11) := (e_rot a 11 _ _ (by decide) (by decide)).1
    go_enter Tryd.func94, Tryd.ntmps94
    go_wp2
    go_ret
    exact ⟨rfl, rfl⟩
  · have h1 : bits .or .u32 (num a / 8192) (num a * 524288 % 4294967296) = num (rr a 13) := (e_rot a 13 _ _ (by decide) (by decide)).1
    go_enter Tryd.func94, Tryd.ntmps94
    go_wp2
    go_ret
    exact ⟨rfl, rfl⟩
  · have h1 : bits .or .u32 (num a / 131072) (num a * 32768 % 4294967296) = num (rr a 17) := (e_rot a 17 _ _ (by decide) (by decide)).1
    go_enter Tryd.func94, Tryd.ntmps94
    go_wp2
    go_ret
    exact ⟨rfl, rfl⟩
  · have h1 : bits .or .u32 (num a / 262144) (num a * 16384 % 4294967296) = num (rr a 18) := (e_rot a 18 _ _ (by decide) (by decide)).1
    go_enter Tryd.func94, Tryd.ntmps94
    go_wp2
    go_ret
    exact ⟨rfl, rfl⟩
  · have h1 : bits .or .u32 (num a / 524288) (num a * 8192 % 4294967296) = num (rr a 19) := (e_rot a 19 _ _ (by decide) (by decide)).1
    go_enter Tryd.func94, Tryd.ntmps94
    go_wp2
    go_ret
    exact ⟨rfl, rfl⟩
  · have h1 : bits .or .u32 (num a / 4194304) (num a * 1024 % 4294967296) = num (rr a 22) := (e_rot a 22 _ _ (by decide) (by decide)).1
    go_enter Tryd.func94, Tryd.ntmps94
    go_wp2
    go_ret
    exact ⟨rfl, rfl⟩
  · have h1 : bits .or .u32 (num a / 33554432) (num a * 128 % 4294967296) = num (rr a 25) := (e_rot a 25 _ _ (by decide) (by decide)).1
    go_enter Tryd.func94, Tryd.ntmps94
    go_wp2
    go_ret
    exact ⟨rfl, rfl⟩

set_option maxRecDepth 100000 in
theorem rot_is (a : UInt32) (n : Nat) (x : Int) (w : World) (hn : Turns n) (hx : x = -(n : Int)) :
    Calls Tryd.prog 103 #[.int .u32 (num a), .int .i64 x] w fun e w' => e = .returned (.int .u32 (num (rr a n))) ∧ w' = w := by
  subst hx
  rcases hn with rfl | rfl | rfl | rfl | rfl | rfl | rfl | rfl | rfl | rfl
  · have h0 : bits BinOp.and IntKind.u64 (IntKind.u64.wrap (-2)) 31 = 30 := by decide +kernel
    have h1 : bits .or .u32 (num a * 1073741824 % 4294967296) (num a / 4) = num (rr a 2) := (e_rot a 2 _ _ (by decide) (by decide)).2
    go_enter Tryd.func103, Tryd.ntmps103
    go_wp2
    go_ret
    exact ⟨rfl, rfl⟩
  · have h0 : bits BinOp.and IntKind.u64 (IntKind.u64.wrap (-6)) 31 = 26 := by decide +kernel
    have h1 : bits .or .u32 (num a * 67108864 % 4294967296) (num a / 64) = num (rr a 6) := (e_rot a 6 _ _ (by decide) (by decide)).2
    go_enter Tryd.func103, Tryd.ntmps103
    go_wp2
    go_ret
    exact ⟨rfl, rfl⟩
  · have h0 : bits BinOp.and IntKind.u64 (IntKind.u64.wrap (-7)) 31 = 25 := by decide +kernel
    have h1 : bits .or .u32 (num a * 33554432 % 4294967296) (num a / 128) = num (rr a 7) := (e_rot a 7 _ _ (by decide) (by decide)).2
    go_enter Tryd.func103, Tryd.ntmps103
    go_wp2
    go_ret
    exact ⟨rfl, rfl⟩
  · have h0 : bits BinOp.and IntKind.u64 (IntKind.u64.wrap (-11)) 31 = 21 := by decide +kernel
    have h1 : bits .or .u32 (num a * 2097152 % 4294967296) (num a / 2048) = num (rr a 11) := (e_rot a 11 _ _ (by decide) (by decide)).2
    go_enter Tryd.func103, Tryd.ntmps103
    go_wp2
    go_ret
    exact ⟨rfl, rfl⟩
  · have h0 : bits BinOp.and IntKind.u64 (IntKind.u64.wrap (-13)) 31 = 19 := by decide +kernel
    have h1 : bits .or .u32 (num a * 524288 % 4294967296) (num a / 8192) = num (rr a 13) := (e_rot a 13 _ _ (by decide) (by decide)).2
    go_enter Tryd.func103, Tryd.ntmps103
    go_wp2
    go_ret
    exact ⟨rfl, rfl⟩
  · have h0 : bits BinOp.and IntKind.u64 (IntKind.u64.wrap (-17)) 31 = 15 := by decide +kernel
    have h1 : bits .or .u32 (num a * 32768 % 4294967296) (num a / 131072) = num (rr a 17) := (e_rot a 17 _ _ (by decide) (by decide)).2
    go_enter Tryd.func103, Tryd.ntmps103
    go_wp2
    go_ret
    exact ⟨rfl, rfl⟩
  · have h0 : bits BinOp.and IntKind.u64 (IntKind.u64.wrap (-18)) 31 = 14 := by decide +kernel
    have h1 : bits .or .u32 (num a * 16384 % 4294967296) (num a / 262144) = num (rr a 18) := (e_rot a 18 _ _ (by decide) (by decide)).2
    go_enter Tryd.func103, Tryd.ntmps103
    go_wp2
    go_ret
    exact ⟨rfl, rfl⟩
  · have h0 : bits BinOp.and IntKind.u64 (IntKind.u64.wrap (-19)) 31 = 13 := by decide +kernel
    have h1 : bits .or .u32 (num a * 8192 % 4294967296) (num a / 524288) = num (rr a 19) := (e_rot a 19 _ _ (by decide) (by decide)).2
    go_enter Tryd.func103, Tryd.ntmps103
    go_wp2
    go_ret
    exact ⟨rfl, rfl⟩
  · have h0 : bits BinOp.and IntKind.u64 (IntKind.u64.wrap (-22)) 31 = 10 := by decide +kernel
    have h1 : bits .or .u32 (num a * 1024 % 4294967296) (num a / 4194304) = num (rr a 22) := (e_rot a 22 _ _ (by decide) (by decide)).2
    go_enter Tryd.func103, Tryd.ntmps103
    go_wp2
    go_ret
    exact ⟨rfl, rfl⟩
  · have h0 : bits BinOp.and IntKind.u64 (IntKind.u64.wrap (-25)) 31 = 7 := by decide +kernel
    have h1 : bits .or .u32 (num a * 128 % 4294967296) (num a / 33554432) = num (rr a 25) := (e_rot a 25 _ _ (by decide) (by decide)).2
    go_enter Tryd.func103, Tryd.ntmps103
    go_wp2
    go_ret
    exact ⟨rfl, rfl⟩

set_option maxRecDepth 100000 in
theorem impl_turn (a : UInt32) (n : Nat) (x : Int) (w : World) (hn : Turns n) (hx : x = (n : Int)) :
    Calls Tryd.prog 97 #[.int .u32 (num a), .int .i64 x] w fun e w' => e = .returned (.int .u32 (num (rr a n))) ∧ w' = w := by
  subst hx
  have H := fun x hx => rot_is a n x w hn hx
  have hn' : n < 32 := by unfold Turns at hn; omega
  clear hn
  go_enter Tryd.func97, Tryd.ntmps97
  go_wp2_with fail
  refine (H _ ?_).mono ?_
  · go_num
  rintro e w1 ⟨rfl, rfl⟩
  go_wp2
  go_ret
  exact ⟨rfl, rfl⟩
end Go.Proofs.YtddjpfgkjijmoaaDoor
