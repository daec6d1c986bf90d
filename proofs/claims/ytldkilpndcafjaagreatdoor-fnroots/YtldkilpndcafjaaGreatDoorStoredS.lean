
/-
  Contracts of the laws' own helpers on rows of Stored: copies, sizes, equal rows, marks laid and held.
-/
import Derived.Test.YtldkilpndcafjaaGreatDoorStrsAll
import Derived.Test.YtldkilpndcafjaaGreatDoorPairs
import Derived.OneCell
import Derived.Deep.RegionHeld3
namespace Go.Proofs.YtldkilpndcafjaaGreatDoor
open Go.RowKit
set_option linter.unusedVariables false

theorem infoStored : (Tryz.prog.info? 85).map (fun i => (i.zero, i.size, i.bytes)) = some (some (.agg #[.string ⟨#[]⟩, .string ⟨#[]⟩]), 2, 32) := by kernel_rfl

set_option maxRecDepth 100000 in
set_option maxHeartbeats 400000 in
theorem eqStored_same (k v : List UInt8) (w : World) :
    Calls Tryz.prog 53 #[.agg #[.string ⟨k.toArray⟩, .string ⟨v.toArray⟩], .agg #[.string ⟨k.toArray⟩, .string ⟨v.toArray⟩]] w fun e w' => e = .returned (.bool true) ∧ Below w.heap.size w w' := by
  go_enter Tryz.func53, Tryz.ntmps53
  go_wp2
  go_ret
  exact ⟨rfl, ((Below.refl _ _).alloc (Nat.le_refl _) _).alloc (by simp) _⟩

set_option maxRecDepth 100000 in
set_option maxHeartbeats 400000 in
theorem eqStoredS_same (ps : List PairL) (a c : Option Addr) (n m : Nat) (w : World) (hl : ps.length ≤ 16777216) (hu : IsPairs w a ps) (hv : IsPairs w c ps) :
    Calls Tryz.prog 19 #[.slice a ps.length n, .slice c ps.length m] w fun e w' => e = .returned (.bool true) ∧ Below w.heap.size w w' := by
  rcases hu with rfl | ⟨b, off, rfl, h1⟩
  · go_enter Tryz.func19, Tryz.ntmps19
    go_wp2
    refine wp_loop_rounds 1 ?_
    rw [rounds_succ]
    go_wp2
    go_ret
    exact ⟨rfl, Below.refl _ _⟩
  · rcases hv with rfl | ⟨d, of2, rfl, h2⟩
    · go_enter Tryz.func19, Tryz.ntmps19
      go_wp2
      refine wp_loop_rounds 1 ?_
      rw [rounds_succ]
      go_wp2
      go_ret
      exact ⟨rfl, Below.refl _ _⟩
    · go_enter Tryz.func19, Tryz.ntmps19
      go_wp2
      go_loopw [5] (fun i wr => ∃ j : Nat, j ≤ ps.length ∧ i = .int .i64 (j : Int) ∧ Below w.heap.size w wr) (fun i _ => ps.length - (intOf i).toNat)
      case atStart => exact ⟨0, Nat.zero_le _, rfl, Below.refl _ _⟩
      case round =>
        obtain ⟨j, hj, rfl, hbel⟩ := hrel
        have hsz := hbel.size
        by_cases hlt : j < ps.length
        · have c1 := (hbel.cell (p := ⟨b, off + j * 2, none⟩) (World.block_lt_of_cell? w _ (h1 j hlt).1)).trans (h1 j hlt).1
          have c2 := (hbel.cell (p := ⟨b, off + j * 2 + 1, none⟩) (World.block_lt_of_cell? w _ (h1 j hlt).2)).trans (h1 j hlt).2
          have d1 := (hbel.cell (p := ⟨d, of2 + j * 2, none⟩) (World.block_lt_of_cell? w _ (h2 j hlt).1)).trans (h2 j hlt).1
          have d2 := (hbel.cell (p := ⟨d, of2 + j * 2 + 1, none⟩) (World.block_lt_of_cell? w _ (h2 j hlt).2)).trans (h2 j hlt).2
          have hj0 : (0 : Int) ≤ (j : Int) := by omega
          have hj1 : (j : Int) < (ps.length : Int) := by omega
          obtain ⟨x, hx⟩ : ∃ x, x = ps[j].1 := ⟨_, rfl⟩
          obtain ⟨y, hy⟩ : ∃ y, y = ps[j].2 := ⟨_, rfl⟩
          rw [← hx] at c1 d1
          rw [← hy] at c2 d2
          have K := fun W => eqStored_same x y W
          clear h1 h2 hx hy
          go_wp2_with fail
          go_region_held3 (fun w' => w'.cell? ⟨b, off + j * 2, none⟩ = some (.string ⟨x.toArray⟩) ∧ w'.cell? ⟨b, off + j * 2 + 1, none⟩ = some (.string ⟨y.toArray⟩) ∧ w'.cell? ⟨d, of2 + j * 2, none⟩ = some (.string ⟨x.toArray⟩) ∧ w'.cell? ⟨d, of2 + j * 2 + 1, none⟩ = some (.string ⟨y.toArray⟩))
            (first | (exact ⟨by assumption, by assumption, by assumption, by assumption⟩) | go_keep)
            ((go_at_call 53
              refine (K _).mono ?_
              rintro e w1 ⟨rfl, b1'⟩
              have b1 : Below wr.heap.size wr w1 := ⟨b1'.os, b1'.tape, b1'.output, b1'.size, b1'.block⟩
              have x1 := (b1.cell (p := ⟨b, off + j * 2, none⟩) (World.block_lt_of_cell? wr _ c1)).trans c1
              have x2 := (b1.cell (p := ⟨b, off + j * 2 + 1, none⟩) (World.block_lt_of_cell? wr _ c2)).trans c2
              have y1 := (b1.cell (p := ⟨d, of2 + j * 2, none⟩) (World.block_lt_of_cell? wr _ d1)).trans d1
              have y2 := (b1.cell (p := ⟨d, of2 + j * 2 + 1, none⟩) (World.block_lt_of_cell? wr _ d2)).trans d2
              have B1 := hbel.trans (b1.mono hsz)))
          all_goals
            clear K
            go_wp2
            go_roundw
            case rel => exact ⟨j + 1, by omega, by go_num, B1⟩
            case measure => simp [intOf]; omega
        · go_wp2
          go_ret
          exact ⟨rfl, hbel⟩
end Go.Proofs.YtldkilpndcafjaaGreatDoor
