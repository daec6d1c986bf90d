/-
  Contract of the laws' own helper: the size of a row of nodes, with any limit.
-/
import Derived.Test.YtapmakefpmholaaGreatDoorStAll
namespace Go.Proofs.YtapmakefpmholaaGreatDoor
open Go.RowKit
set_option linter.unusedVariables false

set_option maxRecDepth 100000 in
set_option maxHeartbeats 400000 in
theorem szStoredS_gen (L : Nat) (hL : L ≤ 1048576) (a : Option Addr) (cap : Nat) (ps : List PairL) (w : World) (hl : ps.length ≤ 9223372036854775807) (hm : ∀ p ∈ ps, p.1.length ≤ 9223372036854775807 ∧ p.2.length ≤ 9223372036854775807) (hs : IsPairs w a ps) :
    Calls Tryz.prog 5 #[.slice a ps.length cap, .int .i64 (L : Int)] w fun e w' => (e = .returned (.int .i64 (-1)) ∨ (ps.length + sizeP ps ≤ L ∧ ∃ n : Nat, n ≤ L ∧ e = .returned (.int .i64 (n : Int)))) ∧ Below w.heap.size w w' := by
  by_cases hb : ps.length ≤ L
  · rcases hs with rfl | ⟨b, off, rfl, hc⟩
    · go_enter Tryz.func5, Tryz.ntmps5
      go_wp2
      refine wp_loop_rounds 1 ?_
      rw [rounds_succ]
      go_wp2
      go_ret
      exact ⟨.inr ⟨by simp [sizeP], L, Nat.le_refl _, rfl⟩, Below.refl _ _⟩
    · have hm' : ∀ j (h : j < ps.length), ps[j].1.length ≤ 9223372036854775807 ∧ ps[j].2.length ≤ 9223372036854775807 := fun j h => hm _ (List.getElem_mem _)
      clear hm
      go_enter Tryz.func5, Tryz.ntmps5
      go_wp2
      go_loopw [1, 5] (fun v i wr => ∃ j q : Nat, j ≤ ps.length ∧ i = .int .i64 (j : Int) ∧ v = .int .i64 (q : Int) ∧ q + ps.length + sizeP (ps.take j) = L ∧ Below w.heap.size w wr) (fun _ i _ => ps.length - (intOf i).toNat)
      case atStart => exact ⟨0, L - ps.length, Nat.zero_le _, rfl, by simp; omega, by simp [sizeP]; omega, Below.refl _ _⟩
      case round =>
        obtain ⟨j, q, hj, rfl, rfl, hq, hbel⟩ := hrel
        have hsz := hbel.size
        by_cases hlt : j < ps.length
        · have c1 := (hbel.cell (p := ⟨b, off + j * 2, none⟩) (World.block_lt_of_cell? w _ (hc j hlt).1)).trans (hc j hlt).1
          have c2 := (hbel.cell (p := ⟨b, off + j * 2 + 1, none⟩) (World.block_lt_of_cell? w _ (hc j hlt).2)).trans (hc j hlt).2
          have m1 := hm' j hlt
          have HS : Hid (sizeP (ps.take (j + 1)) = sizeP (ps.take j) + (ps[j].1.length + ps[j].2.length)) := sizeP_snoc ps j hlt
          have hj0 : (0 : Int) ≤ (j : Int) := by omega
          have hj1 : (j : Int) < (ps.length : Int) := by omega
          have hqs : q ≤ 1048576 := by omega
          have HQ : Hid (q + ps.length + sizeP (ps.take j) = L) := hq
          obtain ⟨x, hx⟩ : ∃ x, x = ps[j].1 := ⟨_, rfl⟩
          obtain ⟨y, hy⟩ : ∃ y, y = ps[j].2 := ⟨_, rfl⟩
          rw [← hx] at c1 m1 HS
          rw [← hy] at c2 m1 HS
          have K := fun W => szStored_any x y q W hqs m1.1 m1.2
          clear hc hm' hx hy hq m1
          go_wp2_with fail
          refine (K _).mono ?_
          rintro e w1 ⟨he, b1⟩
          have B1 := hbel.trans (b1.mono hsz)
          clear K b1 hbel
          rcases he with ⟨hn, rfl⟩ | ⟨hn, rfl⟩
          · go_wp2
            go_ret
            exact ⟨.inl rfl, B1⟩
          · go_wp2
            go_roundw
            case rel => exact ⟨j + 1, _, by omega, by go_num, rfl, by have := HS.out; have := HQ.out; omega, B1⟩
            case measure => simp [intOf]; omega
        · have hjl : j = ps.length := by omega
          subst hjl
          have HQ : Hid (ps.length + sizeP ps ≤ L) := by rw [Hid]; rw [List.take_length] at hq; omega
          have HQL : Hid (q ≤ L) := by rw [Hid]; omega
          clear hq
          go_wp2
          go_ret
          exact ⟨.inr ⟨HQ.out, q, HQL.out, rfl⟩, hbel⟩
  · have hb' : ¬ (ps.length : Int) ≤ L := by omega
    clear hs hm
    go_enter Tryz.func5, Tryz.ntmps5
    go_wp2
    go_ret
    exact ⟨.inl rfl, Below.refl _ _⟩

end Go.Proofs.YtapmakefpmholaaGreatDoor
