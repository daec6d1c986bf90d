/-
  Contract: whole blocks, taken into a state.
-/
import Derived.Test.YtapmakefpmholaaGreatDoorMixed
import Derived.Test.YtapmakefpmholaaGreatDoorTurnAll
import Derived.Deep.RegionWith
namespace Go.Proofs.YtapmakefpmholaaGreatDoor
open Go.RowKit
set_option linter.unusedVariables false

theorem impl_words (l : List UInt8) (w : World) (hl : l.length = 64) :
    Calls Tryz.prog 75 #[.string ⟨l.toArray⟩] w fun e w' => e = .returned (.agg (wcells (bl l)).toArray) ∧ Below w.heap.size w w' := impl_bw l w hl

set_option maxRecDepth 100000 in
set_option maxHeartbeats 1000000 in
theorem impl_absorbed (s : S8) (l : List UInt8) (m : Nat) (w : World) (hl : l.length = 64 * m) (hm : m ≤ 20000) (hT : Tab w) :
    Calls Tryz.prog 51 #[.agg (wcells s.l).toArray, .string ⟨l.toArray⟩] w fun e w' => e = .returned (.agg (wcells (stAt s l m).l).toArray) ∧ Below w.heap.size w w' := by
  obtain ⟨c0, hc0⟩ : ∃ c0, c0 = (wcells s.l).toArray := ⟨_, rfl⟩
  obtain ⟨cf, hcf⟩ : ∃ cf, cf = (wcells (stAt s l m).l).toArray := ⟨_, rfl⟩
  rw [← hc0, ← hcf]
  have HC0 : Hid (c0 = (wcells s.l).toArray) := hc0
  have HCF : Hid (cf = (wcells (stAt s l m).l).toArray) := hcf
  have HT : Hid (Tab w) := hT
  clear hc0 hcf hT
  go_enter Tryz.func51, Tryz.ntmps51
  go_wp2
  go_loopw [5] (fun i wr => ∃ j : Nat, j ≤ m ∧ i = .int .i64 ((64 * j : Nat) : Int) ∧ Arr wr w.heap.size 90 (stAt s l j).l ∧ (∃ old, wr.heap[w.heap.size + 1]? = some (.cells old 90 (0, 0)) ∧ old.size = 8) ∧ Below w.heap.size w wr ∧ w.heap.size + 2 ≤ wr.heap.size) (fun i _ => 64 * m - (intOf i).toNat)
  case atStart =>
    refine ⟨0, by omega, rfl, ?_, ⟨_, heap_alloc2_new _ _ _, rfl⟩, ((Below.refl _ _).alloc (Nat.le_refl _) _).alloc (by simp) _, by simp⟩
    unfold Arr
    rw [heap_alloc2_old, HC0.out]
    rfl
  case round =>
    obtain ⟨j, hj, rfl, hA, hold, hbel, hsz⟩ := hrel
    by_cases hlt : j < m
    · have hsl := ext_mid l (64 * j) 64 (by omega)
      have H1 := fun W => impl_words ((l.drop (64 * j)).take 64) W (by simp; omega)
      have hbl : (bl ((l.drop (64 * j)).take 64)).length = 16 := bws_length _ _
      have H2 := fun W hW => impl_mixed (stAt s l j) (bl ((l.drop (64 * j)).take 64)) W hbl hW
      have hnx : mix (stAt s l j) (bl ((l.drop (64 * j)).take 64)) = stAt s l (j + 1) := rfl
      rw [hnx] at H2
      obtain ⟨cn, hcn⟩ : ∃ cn, cn = (wcells (stAt s l (j + 1)).l).toArray := ⟨_, rfl⟩
      obtain ⟨cb, hcb⟩ : ∃ cb, cb = (wcells (bl ((l.drop (64 * j)).take 64))).toArray := ⟨_, rfl⟩
      rw [← hcn] at H2
      rw [← hcb] at H1 H2
      obtain ⟨blk, hblk⟩ : ∃ blk, blk = (l.drop (64 * j)).take 64 := ⟨_, rfl⟩
      rw [← hblk] at H1 hsl
      have hnz : cn.size = 8 := by rw [hcn]; rfl
      have hn1 : cn.all (·.oneCell') = true := by rw [hcn]; exact wcells_one _
      have HCN : Hid (cn = (wcells (stAt s l (j + 1)).l).toArray) := hcn
      obtain ⟨p, hp⟩ : ∃ p : Nat, p = 64 * j := ⟨_, rfl⟩
      rw [← hp] at hsl ⊢
      have hpl : (p : Int) < (l.length : Int) := by omega
      have hpm : p ≤ 1300000 := by omega
      have hwp : IntKind.i64.wrap ((p : Int) + 64) = (p : Int) + 64 := i64_wrap_small _ (by omega) (by omega)
      have hpe : (p : Int) + 64 ≤ (l.length : Int) := by omega
      have hp0 : (0 : Int) ≤ (p : Int) + 64 := by omega
      have hpn : ((p : Int) + 64).toNat = p + 64 := by omega
      have HP : Hid (p = 64 * j) := hp
      have hlm : l.length ≤ 1300000 := by omega
      obtain ⟨old, ho1, ho2⟩ := hold
      have HLL : Hid (l.length = 64 * m) := hl
      obtain ⟨S, hS⟩ : ∃ S, S = stAt s l j := ⟨_, rfl⟩
      rw [← hS] at H2 hA
      clear hS hcn hcb hblk hp hbl hnx HC0 HCF hl
      obtain ⟨a, b, c, d, e, f, g, h⟩ := S
      have hAA : wr.heap[w.heap.size]? = some (.cells #[.int .u32 (num a), .int .u32 (num b), .int .u32 (num c), .int .u32 (num d), .int .u32 (num e), .int .u32 (num f), .int .u32 (num g), .int .u32 (num h)] 90 (0, 0)) := hA
      have q := fun k => cell_of_row wr w.heap.size k _ _ _ hAA
      have q0 := q 0
      have q1 := q 1
      have q2 := q 2
      have q3 := q 3
      have q4 := q 4
      have q5 := q 5
      have q6 := q 6
      have q7 := q 7
      have H2' : ∀ W, Tab W → Calls Tryz.prog 74 #[.agg #[.int .u32 (num a), .int .u32 (num b), .int .u32 (num c), .int .u32 (num d), .int .u32 (num e), .int .u32 (num f), .int .u32 (num g), .int .u32 (num h)], .agg cb] W fun e w' => e = .returned (.agg cn) ∧ Below W.heap.size W w' := H2
      have HO : Hid (_ ∧ _ ∧ _) := ⟨ho1, hbel, hAA⟩
      have HTR : Hid (Tab wr) := HT.out.later hbel
      clear H2 q hAA hA ho1 hbel
      go_wp2
      go_region_with (first
        | (go_at_call 75
           refine (H1 wr.drew).mono ?_
           rintro e' w1 ⟨rfl, hb1'⟩
           have hb1 : Below wr.heap.size wr w1 := ⟨hb1'.os, hb1'.tape, hb1'.output, hb1'.size, hb1'.block⟩
           clear hb1'
           have r0 := (hb1.cell (p := ⟨w.heap.size, 0, none⟩) (by simp; omega)).trans q0
           have r1 := (hb1.cell (p := ⟨w.heap.size, 1, none⟩) (by simp; omega)).trans q1
           have r2 := (hb1.cell (p := ⟨w.heap.size, 2, none⟩) (by simp; omega)).trans q2
           have r3 := (hb1.cell (p := ⟨w.heap.size, 3, none⟩) (by simp; omega)).trans q3
           have r4 := (hb1.cell (p := ⟨w.heap.size, 4, none⟩) (by simp; omega)).trans q4
           have r5 := (hb1.cell (p := ⟨w.heap.size, 5, none⟩) (by simp; omega)).trans q5
           have r6 := (hb1.cell (p := ⟨w.heap.size, 6, none⟩) (by simp; omega)).trans q6
           have r7 := (hb1.cell (p := ⟨w.heap.size, 7, none⟩) (by simp; omega)).trans q7)
        | (go_at_call 74
           refine (H2' w1 ?_).mono ?_
           · exact HTR.out.later hb1
           rintro e' w2 ⟨rfl, hb2⟩
           have hw2 : w2.heap[w.heap.size]? = some (.cells #[.int .u32 (num a), .int .u32 (num b), .int .u32 (num c), .int .u32 (num d), .int .u32 (num e), .int .u32 (num f), .int .u32 (num g), .int .u32 (num h)] 90 (0, 0)) := by
             rw [hb2.block _ (by have := hb1.size; omega), hb1.block _ (by omega)]; exact HO.out.2.2
           have hst := store_row (P := Tryz.prog) w2 w.heap.size 90 _ cn hw2 hnz.symm hn1
           have HW2 : Hid (_ ∧ _) := ⟨hb2, hw2⟩
           clear hw2 hb2))
      all_goals
        have hi1 : ((64 * (j + 1) : Nat) : Int) = (p : Int) + 64 := by have := HP.out; omega
        have hA2 : Arr (w2.setRow w.heap.size cn) w.heap.size 90 (stAt s l (j + 1)).l := by
          have := setRow_heap w2 w.heap.size _ cn 90 (0, 0) HW2.out.2
          unfold Arr
          rw [← HCN.out]
          exact this
        have hB2 : Below w.heap.size w w2 := (HO.out.2.1.trans (hb1.mono (by omega))).trans (HW2.out.1.mono (by have := hb1.size; omega))
        have hB3 : Below w.heap.size w (w2.setRow w.heap.size cn) := below_setRow hB2 (Nat.le_refl _) cn
        have hO3 : (w2.setRow w.heap.size cn).heap[w.heap.size + 1]? = some (.cells old 90 (0, 0)) := by
          rw [setRow_other _ _ _ _ (by omega), HW2.out.1.block _ (by have := hb1.size; omega), hb1.block _ (by omega)]
          exact HO.out.1
        have hS3 : w.heap.size + 2 ≤ (w2.setRow w.heap.size cn).heap.size := by have := HW2.out.1.size; have := hb1.size; simp; omega
        have hm64 : p + 64 ≤ 64 * m := by have := HP.out; omega
        have FF : Hid (_ ∧ _ ∧ _ ∧ _ ∧ _) := ⟨hi1, hA2, hB3, hO3, hS3⟩
        clear hi1 hA2 hB3 hO3 hS3 hB2 hst q0 q1 q2 q3 q4 q5 q6 q7 r0 r1 r2 r3 r4 r5 r6 r7 H1 H2' hsl
        go_wp2
        go_roundw
        case rel => exact ⟨j + 1, by omega, by rw [FF.out.1], FF.out.2.1, ⟨old, FF.out.2.2.2.1, ho2⟩, FF.out.2.2.1, FF.out.2.2.2.2⟩
        case measure => simp [intOf]; omega
    · have hjm : j = m := by omega
      subst hjm
      have hA' : wr.heap[w.heap.size]? = some (.cells cf 90 (0, 0)) := by rw [HCF.out]; exact hA
      have hz8 : cf.size = 8 := by rw [HCF.out]; rfl
      have h18 : cf.all (·.oneCell') = true := by rw [HCF.out]; exact wcells_one _
      have hsz8 : (Tryz.prog.info? 90).map (·.size) = some cf.size := by rw [hz8]; exact size8
      obtain ⟨old, ho1, ho2⟩ := hold
      have hbW := below_setRow hbel (show w.heap.size ≤ w.heap.size + 1 by omega) cf
      have hW := setRow_heap wr (w.heap.size + 1) _ cf 90 (0, 0) ho1
      have hso : old.size = cf.size := by omega
      have hjl : ¬ ((64 * j : Nat) : Int) < (l.length : Int) := by omega
      have hlm : l.length ≤ 1300000 := by omega
      obtain ⟨p, hp⟩ : ∃ p : Nat, p = 64 * j := ⟨_, rfl⟩
      rw [← hp] at hjl ⊢
      clear hA hp hl ho2 HCF HC0
      go_wp2_with (first | refine wpList_load_row rfl 90 _ rfl w.heap.size rfl 90 cf (0, 0) _ hA' Tryz.underlying90 rfl hsz8 ?_ | refine wpList_store_row rfl 90 _ _ rfl (w.heap.size + 1) cf rfl rfl 90 _ ho1 hsz8 hso h18 ?_)
      exact bodyPost_ret (v := .agg cf) (results_cell_row rfl _ _ (w.heap.size + 1) 90 _ (0, 0) _ rfl hW Tryz.underlying90 rfl hsz8) rfl ⟨rfl, hbW⟩
end Go.Proofs.YtapmakefpmholaaGreatDoor
