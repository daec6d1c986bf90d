/-
  Contract: the program's block, mixed into a state.
-/
import Derived.Test.YtapmakefpmholaaGreatDoorTurnAll
namespace Go.Proofs.YtapmakefpmholaaGreatDoor
open Go.RowKit
set_option linter.unusedVariables false

theorem size8 : (Tryz.prog.info? 90).map (·.size) = some 8 := by kernel_rfl

/-- The round words lie in the package's variable. -/
def Tab (w : World) : Prop := 1 < w.heap.size ∧ ∀ i, i < 64 → w.cell? ⟨1, i, none⟩ = some (.int .u32 (num (kL.getD i 0)))

theorem Tab.later {w w' : World} (h : Tab w) (hb : Below w.heap.size w w') : Tab w' := ⟨Nat.lt_of_lt_of_le h.1 hb.size, fun i hi => (hb.cell (p := ⟨1, i, none⟩) h.1).trans (h.2 i hi)⟩

/-- The same memory: only draws between the two. -/
structure Same (W w : World) : Prop where
  heap : w.heap = W.heap
  os : w.os = W.os
  tape : w.tape = W.tape
  output : w.output = W.output

theorem Same.refl (W : World) : Same W W := ⟨rfl, rfl, rfl, rfl⟩
theorem Same.drewN {W w : World} (h : Same W w) (q : Nat) : Same W (w.drewN q) := ⟨h.heap, h.os, h.tape, h.output⟩
theorem Same.cell {W w : World} (h : Same W w) (a : Addr) : w.cell? a = W.cell? a := by simp only [World.cell?, h.heap]
theorem Same.below {W w w0 : World} {B : Nat} (h : Same W w) (hb : Below B w0 W) : Below B w0 w := ⟨h.os.trans hb.os, h.tape.trans hb.tape, h.output.trans hb.output, by rw [h.heap]; exact hb.size, fun k hk => by rw [h.heap]; exact hb.block k hk⟩

set_option maxRecDepth 100000 in
set_option maxHeartbeats 1000000 in
theorem impl_mixed (s : S8) (m : List UInt32) (w : World) (hm : m.length = 16) (hT : Tab w) :
    Calls Tryz.prog 74 #[.agg (wcells s.l).toArray, .agg (wcells m).toArray] w fun e w' => e = .returned (.agg (wcells (mix s m).l).toArray) ∧ Below w.heap.size w w' := by
  obtain ⟨ms, hms⟩ : ∃ ms, ms = (wcells m).toArray := ⟨_, rfl⟩
  have hmz : ms.size = 16 := by rw [hms]; simp [wcells_length, hm]
  have HS := fun W => impl_spread m W hm
  have hl48 : (sch m 48).length = 64 := by rw [sch_length, hm]
  have hz64 : (wcells (sch m 48)).toArray.size = 64 := by simp [wcells_length, hl48]
  have h164 := wcells_one (sch m 48)
  rw [← hms] at HS ⊢
  obtain ⟨fin, hfin⟩ : ∃ fin, fin = plus (rnds kL (sch m 48) s 64) s := ⟨_, rfl⟩
  have hfm : mix s m = fin := by rw [hfin]; rfl
  rw [hfm]
  obtain ⟨cf, hcf⟩ : ∃ cf, cf = (wcells fin.l).toArray := ⟨_, rfl⟩
  rw [← hcf]
  have HCF : Hid (cf = (wcells fin.l).toArray) := hcf
  clear hcf
  obtain ⟨ws, hws⟩ : ∃ ws, ws = sch m 48 := ⟨_, rfl⟩
  rw [← hws] at HS hz64 h164 hl48 hfin
  obtain ⟨cs, hcs⟩ : ∃ cs, cs = (wcells ws).toArray := ⟨_, rfl⟩
  rw [← hcs] at HS hz64 h164
  have HC : Hid (cs = (wcells ws).toArray) := hcs
  have HF : Hid (fin = plus (rnds kL ws s 64) s) := hfin
  clear hms hcs hfin hfm hws
  obtain ⟨a, b, c, d, e, f, g, h⟩ := s
  simp only [S8.l, wcells, List.map]
  have hsz16 : (Tryz.prog.info? 106).map (·.size) = some ms.size := by rw [hmz]; exact size16
  have hsz64 : (Tryz.prog.info? 134).map (·.size) = some cs.size := by rw [hz64]; exact size64
  have HW := arr3 w (.cells #[.int .u32 (num a), .int .u32 (num b), .int .u32 (num c), .int .u32 (num d), .int .u32 (num e), .int .u32 (num f), .int .u32 (num g), .int .u32 (num h)] 90) (.cells ms 106) (.cells #[.int .u32 0, .int .u32 0, .int .u32 0, .int .u32 0, .int .u32 0, .int .u32 0, .int .u32 0, .int .u32 0] 90)
  obtain ⟨W0, hW0⟩ : ∃ W0, W0 = ((w.alloc (.cells #[.int .u32 (num a), .int .u32 (num b), .int .u32 (num c), .int .u32 (num d), .int .u32 (num e), .int .u32 (num f), .int .u32 (num g), .int .u32 (num h)] 90)).alloc (.cells ms 106)).alloc (.cells #[.int .u32 0, .int .u32 0, .int .u32 0, .int .u32 0, .int .u32 0, .int .u32 0, .int .u32 0, .int .u32 0] 90) := ⟨_, rfl⟩
  rw [← hW0] at HW
  have HH : Hid (_ ∧ _ ∧ _ ∧ _ ∧ _) := HW
  have HX : Hid (W0 = _) := hW0
  have hms : W0.heap[w.heap.size + 1]? = some (.cells ms 106 (0, 0)) := HW.2.1
  rw [hW0] at hms
  clear HW hW0
  go_enter Tryz.func74, Tryz.ntmps74
  go_wp2_with (refine wpList_load_row rfl 106 _ rfl (w.heap.size + 1) rfl 106 ms (0, 0) _ hms Tryz.underlying106 rfl hsz16 ?_)
  rw [← HX.out]
  refine (HS _).mono ?_
  rintro e' w1 ⟨rfl, hb1⟩
  clear HS hms HX
  have hz0 : w1.heap.size = w1.heap.size := rfl
  go_wp2_with (refine store_laid rfl 134 _ _ rfl w1.heap.size cs rfl rfl 134 _ (heap_alloc_new w1 _) hsz64 (hz64.symm ▸ rfl) h164 ?_; intro W2 hW2)
  have hg3 : w.heap.size + 3 ≤ w1.heap.size := by have := hb1.size; have := HH.out.2.2.2.1; omega
  have hst2 : W2.heap[w.heap.size]? = some (.cells #[.int .u32 (num a), .int .u32 (num b), .int .u32 (num c), .int .u32 (num d), .int .u32 (num e), .int .u32 (num f), .int .u32 (num g), .int .u32 (num h)] 90 (0, 0)) := by
    rw [hW2.other _ (by omega), Below.heap_alloc _ _ _ (by omega), hb1.block _ (by have := HH.out.2.2.2.1; omega)]; exact HH.out.1
  have hre2 : W2.heap[w.heap.size + 1 + 1]? = some (.cells #[.int .u32 0, .int .u32 0, .int .u32 0, .int .u32 0, .int .u32 0, .int .u32 0, .int .u32 0, .int .u32 0] 90 (0, 0)) := by
    rw [hW2.other _ (by omega), Below.heap_alloc _ _ _ (by omega), hb1.block _ (by have := HH.out.2.2.2.1; omega)]; exact HH.out.2.2.1
  have hAw : Arr W2 w1.heap.size 134 (ws) := by have := hW2.row; rw [HC.out] at this; exact this
  have hB2 : Below w.heap.size w W2 := hW2.below ((HH.out.2.2.2.2.trans (hb1.mono (by have := HH.out.2.2.2.1; omega))).alloc (by omega) _) (by omega)
  have hT2 : Tab W2 := hT.later hB2
  have hs2 : W2.heap.size = w1.heap.size + 1 := by rw [hW2.size]; simp
  have HST : Hid (_ = _) := hst2
  have HRE : Hid (_ = _) := hre2
  have q0 := cell_of_row W2 w.heap.size 0 _ _ _ hst2
  have q1 := cell_of_row W2 w.heap.size 1 _ _ _ hst2
  have q2 := cell_of_row W2 w.heap.size 2 _ _ _ hst2
  have q3 := cell_of_row W2 w.heap.size 3 _ _ _ hst2
  have q4 := cell_of_row W2 w.heap.size 4 _ _ _ hst2
  have q5 := cell_of_row W2 w.heap.size 5 _ _ _ hst2
  have q6 := cell_of_row W2 w.heap.size 6 _ _ _ hst2
  have q7 := cell_of_row W2 w.heap.size 7 _ _ _ hst2
  clear hst2 hre2 hb1 hW2 hsz16 hmz hz64 h164 HH hz0 hT
  go_wp2
  go_quiet (fail)
  go_wp2
  go_quiet (fail)
  go_wp2
  go_loopw [6, 7, 8, 9, 10, 11, 12, 13, 39] (fun xa xb xc xd xe xf xg xh i wr => ∃ n : Nat, ∃ s : S8, n ≤ 64 ∧ i = .int .i64 (n : Int) ∧ Hid (s = rnds kL (ws) ⟨a, b, c, d, e, f, g, h⟩ n) ∧ Same W2 wr ∧ xa = .int .u32 (num s.a) ∧ xb = .int .u32 (num s.b) ∧ xc = .int .u32 (num s.c) ∧ xd = .int .u32 (num s.d) ∧ xe = .int .u32 (num s.e) ∧ xf = .int .u32 (num s.f) ∧ xg = .int .u32 (num s.g) ∧ xh = .int .u32 (num s.h)) (fun _ _ _ _ _ _ _ _ i _ => 64 - (intOf i).toNat)
  case atStart => exact ⟨0, ⟨a, b, c, d, e, f, g, h⟩, by omega, rfl, rfl, (Same.refl W2).drewN _ |>.drewN _, rfl, rfl, rfl, rfl, rfl, rfl, rfl, rfl⟩
  case round =>
    obtain ⟨n, s, hn, rfl, HSS, hsame, rfl, rfl, rfl, rfl, rfl, rfl, rfl, rfl⟩ := hrel
    clear q0 q1 q2 q3 q4 q5 q6 q7
    by_cases hlt : n < 64
    · have hk := (hsame.cell _).trans (hT2.2 n hlt)
      have hwd := (hsame.cell _).trans (hAw.cell n (by rw [hl48]; exact hlt))
      have hgd : (ws)[n]'(by rw [hl48]; exact hlt) = (ws).getD n 0 := by simp [List.getD, hl48, hlt]
      rw [hgd] at hwd
      have HN : Hid (rnd s (kL.getD n 0) ((ws).getD n 0) = rnds kL (ws) ⟨a, b, c, d, e, f, g, h⟩ (n + 1)) := by rw [Hid, HSS.out]; rfl
      obtain ⟨k, hk'⟩ : ∃ k, k = kL.getD n 0 := ⟨_, rfl⟩
      obtain ⟨x, hx'⟩ : ∃ x, x = (ws).getD n 0 := ⟨_, rfl⟩
      rw [← hk', ← hx'] at HN
      rw [← hk'] at hk
      rw [← hx'] at hwd
      have hn64 : (n : Int) < 64 := by omega
      have h6 := fun W => impl_turn s.e 6 6 W (by simp [Turns]) rfl
      have h11 := fun W => impl_turn s.e 11 11 W (by simp [Turns]) rfl
      have h25 := fun W => impl_turn s.e 25 25 W (by simp [Turns]) rfl
      have h2 := fun W => impl_turn s.a 2 2 W (by simp [Turns]) rfl
      have h13 := fun W => impl_turn s.a 13 13 W (by simp [Turns]) rfl
      have h22 := fun W => impl_turn s.a 22 22 W (by simp [Turns]) rfl
      have hxo := e_xor
      have had := e_add
      have han := e_and
      have hno := e_notm
      have hadw := e_addw
      have hr : Hid (rnd s k x = ⟨_, _, _, _, _, _, _, _⟩) := rfl
      clear hk' hx' hgd hAw hT2 HF HC HST HRE hB2 HSS
      go_wp2
      go_quiet (first | (go_at_call_of 109 (Value.int .i64 6); exact Calls.quiet_of_same (h6 _)) | (go_at_call_of 109 (Value.int .i64 11); exact Calls.quiet_of_same (h11 _)) | (go_at_call_of 109 (Value.int .i64 25); exact Calls.quiet_of_same (h25 _)))
      go_wp2_with fail
      refine (h2 _).mono ?_
      rintro e' w5 ⟨rfl, rfl⟩
      go_wp2_with fail
      refine (h13 _).mono ?_
      rintro e' w5 ⟨rfl, rfl⟩
      go_wp2_with fail
      refine (h22 _).mono ?_
      rintro e' w5 ⟨rfl, rfl⟩
      go_wp2
      go_roundw
      case rel => exact ⟨n + 1, rnd s k x, by omega, by go_num, HN, hsame.drewN _, rfl, rfl, rfl, rfl, rfl, rfl, rfl, rfl⟩
      case measure => simp [intOf]; omega
    · have hn64 : n = 64 := by omega
      subst hn64
      have HS2 : Hid (Same W2 wr) := hsame
      have HFF : Hid (fin = plus s ⟨a, b, c, d, e, f, g, h⟩) := by rw [Hid, HF.out, HSS.out]
      have hsz : wr.heap.size = w1.heap.size + 1 := by rw [hsame.heap]; exact hs2
      clear hAw hT2 HF HC hsame HSS hm hl48
      have hst : Arr wr w.heap.size 90 (S8.l ⟨a, b, c, d, e, f, g, h⟩) := by unfold Arr; rw [HS2.out.heap]; exact HST.out
      have hre : wr.heap[w.heap.size + 1 + 1]? = some (.cells #[.int .u32 0, .int .u32 0, .int .u32 0, .int .u32 0, .int .u32 0, .int .u32 0, .int .u32 0, .int .u32 0] 90 (0, 0)) := by rw [HS2.out.heap]; exact HRE.out
      have hB3 := HS2.out.below hB2
      have A1 : Hid (_ ∧ _ ∧ _) := ⟨hst, hre, hB3⟩
      clear hst hre hB3 HST HRE HS2 hB2
      go_wp2
      go_loopw [20, 113] (fun _ i wx => ∃ j : Nat, j ≤ 8 ∧ i = .int .i64 (j : Int) ∧ Arr wx (w1.heap.size + 1) 90 (pl s ⟨a, b, c, d, e, f, g, h⟩ j) ∧ Arr wx w.heap.size 90 (S8.l ⟨a, b, c, d, e, f, g, h⟩) ∧ wx.heap[w.heap.size + 1 + 1]? = some (.cells #[.int .u32 0, .int .u32 0, .int .u32 0, .int .u32 0, .int .u32 0, .int .u32 0, .int .u32 0, .int .u32 0] 90 (0, 0)) ∧ Below w.heap.size w wx) (fun _ i _ => 8 - (intOf i).toNat)
      case atStart =>
        refine ⟨0, by omega, rfl, ?_, ?_, ?_, ?_⟩
        · rw [pl_zero]; exact heap_alloc_at _ _ _ hsz
        · exact A1.out.1.kept (Below.heap_alloc _ _ _ (by omega))
        · exact (Below.heap_alloc _ _ _ (by omega)).trans A1.out.2.1
        · exact A1.out.2.2.alloc (by omega) _
      case round =>
        obtain ⟨j, hj, rfl, hAj, hAs, hre, hbel⟩ := hrel
        clear A1
        by_cases hlt : j < 8
        · have c1 := hAj.cell j (by rw [pl_length]; exact hlt)
          rw [pl_at s _ j hlt] at c1
          have c2 := hAs.cell j (by simp [S8.l]; exact hlt)
          rw [s8_at _ j hlt] at c2
          have f1 := hAj.free j
          have HP : Hid (Arr (wr.setCell ⟨w1.heap.size + 1, j, none⟩ (.int .u32 (num (ad (s.l.getD j 0) (S8.l ⟨a, b, c, d, e, f, g, h⟩ |>.getD j 0))))) (w1.heap.size + 1) 90 (pl s ⟨a, b, c, d, e, f, g, h⟩ (j + 1))) := by
            have := hAj.set j (ad (s.l.getD j 0) (S8.l ⟨a, b, c, d, e, f, g, h⟩ |>.getD j 0))
            rw [pl_step s _ j hlt] at this
            exact this
          obtain ⟨x, hx⟩ : ∃ x, x = s.l.getD j 0 := ⟨_, rfl⟩
          obtain ⟨y, hy⟩ : ∃ y, y = (S8.l ⟨a, b, c, d, e, f, g, h⟩ |>.getD j 0) := ⟨_, rfl⟩
          rw [← hx, ← hy] at HP
          rw [← hx] at c1
          rw [← hy] at c2
          have hj8 : (j : Int) < 8 := by omega
          have had := e_add x y
          have hadw := e_addw x y
          have B1 : Hid (_ ∧ _ ∧ _) := ⟨hAs, hre, hbel⟩
          clear hx hy hAj hAs hre hbel
          go_wp2
          go_region
          go_wp2
          go_roundw
          case rel => exact ⟨j + 1, by omega, by go_num, by have := HP.out; exact this.kept rfl, B1.out.1.kept (heap_setCell_other wr _ _ _ (by simp; omega)), (heap_setCell_other wr _ _ _ (by simp; omega)).trans B1.out.2.1, ⟨B1.out.2.2.os, B1.out.2.2.tape, B1.out.2.2.output, by have := B1.out.2.2.size; simpa [World.setCell] using this, fun i hi => (heap_setCell_other wr _ i _ (by simp; omega)).trans (B1.out.2.2.block i hi)⟩⟩
          case measure => simp [intOf]; omega
        · have hj8 : j = 8 := by omega
          subst hj8
          rw [pl_all, ← HFF.out] at hAj
          have hA' : wr.heap[w1.heap.size + 1]? = some (.cells cf 90 (0, 0)) := by rw [HCF.out]; exact hAj
          have hz8 : cf.size = 8 := by rw [HCF.out]; rfl
          have h18 : cf.all (·.oneCell') = true := by rw [HCF.out]; exact wcells_one _
          have hsz8 : (Tryz.prog.info? 90).map (·.size) = some cf.size := by rw [hz8]; exact size8
          have hbW := below_setRow hbel (show w.heap.size ≤ w.heap.size + 1 + 1 by omega) cf
          have hW := setRow_heap wr (w.heap.size + 1 + 1) _ cf 90 (0, 0) hre
          clear hAj hAs
          go_wp2_with (first | refine wpList_load_row rfl 90 _ rfl (w1.heap.size + 1) rfl 90 cf (0, 0) _ hA' Tryz.underlying90 rfl hsz8 ?_ | refine wpList_store_row rfl 90 _ _ rfl (w.heap.size + 1 + 1) cf rfl rfl 90 _ hre hsz8 hz8.symm h18 ?_)
          exact bodyPost_ret (v := .agg cf) (results_cell_row rfl _ _ (w.heap.size + 1 + 1) 90 _ (0, 0) _ rfl hW Tryz.underlying90 rfl hsz8) rfl ⟨rfl, hbW⟩
end Go.Proofs.YtapmakefpmholaaGreatDoor
