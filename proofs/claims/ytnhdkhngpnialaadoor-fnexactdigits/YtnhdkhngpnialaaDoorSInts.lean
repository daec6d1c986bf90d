/-
  Contracts of the laws' own helpers on rows of numbers: equal rows, marks laid, marks held.
-/
import Derived.Test.YtnhdkhngpnialaaDoorMathOnce
import Derived.Deep.QuietTactic
import Derived.BigQuiet
namespace Go.Proofs.YtnhdkhngpnialaaDoor
open Go.RowKit
set_option linter.unusedVariables false

theorem grown_of_belowI {w w' : World} (h : Below w.heap.size w w') (row : Option Nat) : w.grownBy w' row := ⟨h.os, h.tape, h.output, h.size, fun k hk _ => h.block k hk⟩

set_option maxRecDepth 100000 in
set_option maxHeartbeats 400000 in
theorem eqI_same (ds : List Nat) (n g cap g' cap' b1 b2 : Nat) (w : World) (hl : n ≤ 16777216) (hd : ds.length = n) (hu : w.ownsRow b1 2 1 (.slice (some ⟨g, 0, none⟩) n cap) n (icells ds)) (hv : w.ownsRow b2 2 1 (.slice (some ⟨g', 0, none⟩) n cap') n (icells ds)) :
    Calls Tryd.prog 43 #[.slice (some ⟨g, 0, none⟩) n cap, .slice (some ⟨g', 0, none⟩) n cap'] w fun e w' => e = .returned (.bool true) ∧ ∃ q, w' = w.drewN q := by
  have hc : ∀ j (h : j < ds.length), w.cell? ⟨g, j, none⟩ = some (.int .i64 (ds[j] : Int)) := fun j h => by rw [hu.cellAt j (by omega), icells_at ds j h]
  have hc' : ∀ j (h : j < ds.length), w.cell? ⟨g', j, none⟩ = some (.int .i64 (ds[j] : Int)) := fun j h => by rw [hv.cellAt j (by omega), icells_at ds j h]
  have HL : Hid (ds.length = n) := hd
  clear hu hv hd
  go_enter Tryd.func43, Tryd.ntmps43
  go_wp2
  go_loopw [5] (fun i wr => ∃ j q : Nat, j ≤ n ∧ i = .int .i64 (j : Int) ∧ wr = w.drewN q) (fun i _ => n - (intOf i).toNat)
  case atStart => exact ⟨0, 0, Nat.zero_le _, rfl, rfl⟩
  case round =>
    obtain ⟨j, q, hj, rfl, rfl⟩ := hrel
    by_cases hlt : j < n
    · have hjl : j < ds.length := by have := HL.out; omega
      have c1 := hc j hjl
      have c2 := hc' j hjl
      have hj0 : (0 : Int) ≤ (j : Int) := by omega
      have hj1 : (j : Int) < (n : Int) := by omega
      obtain ⟨x, hx⟩ : ∃ x, x = ds[j] := ⟨_, rfl⟩
      rw [← hx] at c1 c2
      clear hc hc' hx
      go_wp2
      go_quiet (fail)
      go_wp2
      go_roundw
      case rel => exact ⟨j + 1, _, by omega, by go_num, rfl⟩
      case measure => simp [intOf]; omega
    · go_wp2
      go_ret
      exact ⟨rfl, q, rfl⟩

/-- So many numbers from k on. -/
def imarks (k n : Nat) : List Nat := (List.range n).map fun j => k + j
theorem imarks_length (k n : Nat) : (imarks k n).length = n := by simp [imarks]
theorem imarks_at (k n j : Nat) (h : j < n) : (icells (imarks k n))[j]? = some (.int .i64 ((k + j : Nat) : Int)) := by simp [icells, imarks, h]
theorem imarks_step (k j : Nat) (ds : List Nat) (h : j < ds.length) : (icells (imarks k j ++ ds.drop j)).set j (.int .i64 ((k + j : Nat) : Int)) = icells (imarks k (j + 1) ++ ds.drop (j + 1)) := by
  have e1 : ds.drop j = ds[j] :: ds.drop (j + 1) := List.drop_eq_getElem_cons h
  have e2 : imarks k (j + 1) = imarks k j ++ [k + j] := by simp [imarks, List.range_succ]
  rw [e1, e2, icells_app, List.set_append_right _ _ (by rw [icells_length, imarks_length]; omega), icells_length, imarks_length, Nat.sub_self, List.append_assoc, icells_app]
  rfl

set_option maxRecDepth 100000 in
set_option maxHeartbeats 400000 in
theorem markI_any (ds : List Nat) (n g cap b1 k : Nat) (x : Int) (w : World) (hx : x = (k : Int)) (hl : n ≤ 16777216) (hd : ds.length = n) (hk : k ≤ 16777216) (hv : w.ownsRow b1 2 1 (.slice (some ⟨g, 0, none⟩) n cap) n (icells ds)) :
    Calls Tryd.prog 44 #[.slice (some ⟨g, 0, none⟩) n cap, .int .i64 x] w fun e w' => e = .returned (.int .i64 ((k : Int) + (n : Int))) ∧ w'.ownsRow b1 2 1 (.slice (some ⟨g, 0, none⟩) n cap) n (icells (imarks k n)) ∧ w.grownBy w' (some g) := by
  subst hx
  have HL : Hid (ds.length = n) := hd
  clear hd
  go_enter Tryd.func44, Tryd.ntmps44
  go_wp2
  go_loopw [1, 5] (fun m i wr => ∃ j : Nat, j ≤ n ∧ i = .int .i64 (j : Int) ∧ m = .int .i64 ((k + j : Nat) : Int) ∧ wr.ownsRow b1 2 1 (.slice (some ⟨g, 0, none⟩) n cap) n (icells (imarks k j ++ ds.drop j)) ∧ w.grownBy wr (some g)) (fun _ i _ => n - (intOf i).toNat)
  case atStart => exact ⟨0, Nat.zero_le _, rfl, rfl, by simpa [imarks] using hv, World.grownBy.refl _ _⟩
  case round =>
    obtain ⟨j, hj, rfl, rfl, hown, hgr⟩ := hrel
    clear hv
    by_cases hlt : j < n
    · have hj1 : (j : Int) < (n : Int) := by omega
      have hj0 : (0 : Int) ≤ (j : Int) := by omega
      have hjl : j < ds.length := by have := HL.out; omega
      have hc1 : ∃ o, wr.cell? ⟨g, j, none⟩ = some o := by
        rw [hown.cellAt j (by omega)]
        exact ⟨_, List.getElem?_eq_getElem (by rw [icells_length, List.length_append, imarks_length, List.length_drop]; omega)⟩
      obtain ⟨o, hc1⟩ := hc1
      have hf1 := hown.frozenAt j
      have hst := hown.stored j (.int .i64 ((k + j : Nat) : Int))
      rw [imarks_step k j ds hjl] at hst
      have hown2 := hst.1
      have hgr2 := hgr.trans hst.2
      clear hown hst hgr
      go_wp2
      go_roundw
      case rel => exact ⟨j + 1, by omega, by go_num, by go_num, hown2, hgr2⟩
      case measure => simp [intOf]; omega
    · have hjl : j = n := by omega
      subst hjl
      rw [List.drop_eq_nil_of_le (by rw [HL.out]; omega), List.append_nil] at hown
      go_wp2
      go_ret
      exact ⟨by simp, hown, hgr⟩

set_option maxRecDepth 100000 in
set_option maxHeartbeats 400000 in
theorem heldI_any (n g cap b1 k : Nat) (x : Int) (w : World) (hx : x = (k : Int)) (hl : n ≤ 16777216) (hk : k ≤ 16777216) (hv : w.ownsRow b1 2 1 (.slice (some ⟨g, 0, none⟩) n cap) n (icells (imarks k n))) :
    Calls Tryd.prog 45 #[.slice (some ⟨g, 0, none⟩) n cap, .int .i64 x] w fun e w' => e = .returned (.int .i64 ((k : Int) + (n : Int))) ∧ w' = w := by
  subst hx
  have hc : ∀ j, j < n → w.cell? ⟨g, j, none⟩ = some (.int .i64 ((k + j : Nat) : Int)) := fun j h => by rw [hv.cellAt j (by omega), imarks_at k n j h]
  clear hv
  go_enter Tryd.func45, Tryd.ntmps45
  go_wp2
  go_loop [1, 5] (fun m i => ∃ j : Nat, j ≤ n ∧ i = .int .i64 (j : Int) ∧ m = .int .i64 ((k + j : Nat) : Int)) (fun _ i => n - (intOf i).toNat)
  case atStart => exact ⟨0, Nat.zero_le _, rfl, rfl⟩
  case round =>
    obtain ⟨j, hj, rfl, rfl⟩ := hrel
    by_cases hlt : j < n
    · have hj1 : (j : Int) < (n : Int) := by omega
      have hj0 : (0 : Int) ≤ (j : Int) := by omega
      have hcj := hc j hlt
      clear hc
      go_wp2
      go_round
      case rel => exact ⟨j + 1, by omega, by go_num, by go_num⟩
      case measure => simp [intOf]; omega
    · have hjl : j = n := by omega
      subst hjl
      go_wp2
      go_ret
      exact ⟨by simp, rfl⟩
end Go.Proofs.YtnhdkhngpnialaaDoor
