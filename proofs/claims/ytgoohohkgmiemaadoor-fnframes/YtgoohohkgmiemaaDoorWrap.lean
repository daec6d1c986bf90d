
/-
  Contracts: lengths in bytes, and what stands ahead of a text or a list.
-/
import Derived.Test.YtgoohohkgmiemaaDoorMath2
import Derived.Test.YtgoohohkgmiemaaDoorMathAll
namespace Go.Proofs.YtgoohohkgmiemaaDoor
open Go.RowKit
set_option linter.unusedVariables false

set_option maxRecDepth 100000 in
set_option maxHeartbeats 400000 in
theorem spec_l1Big (n k : Nat) (w : World) (hn : n < 18446744073709551616) (hk : k ≤ 8) :
    Calls Tryd.prog 25 #[.int .u64 n, .int .i64 k] w fun e w' => e = .returned (.string ⟨(bigB n k).toArray⟩) ∧ Below w.heap.size w w' := by
  obtain ⟨i0, hi0, hz0, hz1, hz2⟩ := info_parts info5
  go_enter Tryd.func25, Tryd.ntmps25
  go_wp2
  go_loopw [5, 6] (fun v i wr => ∃ j g cap : Nat, j ≤ k ∧ i = .int .i64 ((k : Int) - 1 - j) ∧ v = .slice (some ⟨g, 0, none⟩) j cap ∧ wr.ownsRow w.heap.size 5 1 (.slice (some ⟨g, 0, none⟩) j cap) j (bcells ((bigB n k).take j)) ∧ Below w.heap.size w wr) (fun _ i _ => (intOf i + 1).toNat)
  case atStart => exact ⟨0, w.heap.size, 0, Nat.zero_le _, by simp, rfl, World.ownsRow_lit w #[] 0 (Nat.le_refl _) (Nat.zero_le _) rfl, (Below.refl _ _).alloc (Nat.le_refl _) _⟩
  case round =>
    obtain ⟨j, g, cap, hj, rfl, rfl, hown, hbel⟩ := hrel
    have hsz := hbel.size
    have hbg := own_base hown
    by_cases hlt : j < k
    · go_wp2_with (at_builtin; refine wpList_append_lies _ rfl _ _ 22 rfl w.heap.size 5 i0 (.int .u8 0) 1 1 Tryd.underlying22 hi0 hz0 hz1 hz2 rfl (by decide) (.slice (some ⟨g, 0, none⟩) j cap) j _ rfl (hown.alloc _) ⟨wr.heap.size, 0, none⟩ 1 1 [.int .u8 ((n : Int) / 2 ^ (8 * (k - 1 - j)) % 256)] rfl rfl (World.news_of_block (cs := #[.int .u8 ((n : Int) / 2 ^ (8 * (k - 1 - j)) % 256)]) (t := 5) (fr := (0, 0)) (heap_alloc_new wr _)) (by simp [Value.oneCell']) (by omega) (by unfold maxLen; omega) (by omega) (by simp; omega) (wr.heap.size + 1) (by simp) ?_; intro g2 cap2 w1 hown1 hgrow hat hlt1)
      have hbel1 := below_app0 hbel hsz hbg hgrow
      go_roundw
      case rel => exact ⟨j + 1, g2, cap2, by omega, by go_num, rfl, by rw [bigB_snoc n k j hlt, bcells_snoc, byte_of_div]; exact hown1, hbel1⟩
      case measure => simp [intOf]; omega
    · have hcv := own_string (P := Tryd.prog) Tryd.underlying22 Tryd.underlying5 Tryd.underlying9 hown
      go_wp2
      go_ret
      exact ⟨ret_string (by rw [List.take_of_length_le (by rw [bigB_length]; omega)]), hbel⟩

/-- The byte ahead. -/
theorem head_byte (n : Nat) : (n : Int) % 256 = ((UInt8.ofNat n).toNat : Int) := (byte_of n).symm

end Go.Proofs.YtgoohohkgmiemaaDoor
