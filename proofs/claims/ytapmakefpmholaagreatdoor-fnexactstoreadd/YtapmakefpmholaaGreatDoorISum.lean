/-
  Contract: the program's Sum.
-/
import Derived.Test.YtapmakefpmholaaGreatDoorSumT
namespace Go.Proofs.YtapmakefpmholaaGreatDoor
open Go.RowKit
set_option linter.unusedVariables false

theorem sumL_parts (l : List UInt8) : stT (stAt (stAt initS (l.take (64 * (l.length / 64))) (l.length / 64)) (padB (l.drop (64 * (l.length / 64))) l.length) ((padB (l.drop (64 * (l.length / 64))) l.length).length / 64)) = sumL l := by
  have ha : (l.take (64 * (l.length / 64))).length = 64 * (l.length / 64) := by rw [List.length_take]; omega
  have hp := padB_part (l.take (64 * (l.length / 64))) (l.drop (64 * (l.length / 64))) l.length (by omega)
  rw [List.take_append_drop] at hp
  unfold sumL
  rw [hp, ← stAt_behind initS _ _ _ _ ha]
  congr 2
  rw [List.length_append, ha]
  omega

set_option maxRecDepth 100000 in
set_option maxHeartbeats 1000000 in
theorem impl_sum (l : List UInt8) (w : World) (hl : l.length ≤ 1048576) (hT : Tab w) :
    Calls Tryz.prog 32 #[.string ⟨l.toArray⟩] w fun e w' => e = .returned (.string ⟨(sumL l).toArray⟩) ∧ Below w.heap.size w w' := by
  rw [← sumL_parts]
  obtain ⟨m, hm⟩ : ∃ m, m = l.length / 64 := ⟨_, rfl⟩
  rw [← hm]
  have hml : 64 * m ≤ l.length := by omega
  have hmk : m ≤ 16384 := by omega
  have hext1 := ext_to l (64 * m) hml
  have hext2 := ext_from l (64 * m) hml
  have hal : (l.take (64 * m)).length = 64 * m := by rw [List.length_take]; omega
  have hel : (l.drop (64 * m)).length < 64 := by simp; omega
  have HT : Hid (Tab w) := hT
  clear hT
  have H1 := fun W hW => impl_absorbed initS (l.take (64 * m)) m W hal (by omega) hW
  have H2 := fun W => impl_padded (l.drop (64 * m)) l.length W (by omega) hl
  have hpl := padB_length (l.drop (64 * m)) l.length
  have hpz := padZ_le (l.drop (64 * m)).length
  have H3 := fun W hW => impl_absorbed (stAt initS (l.take (64 * m)) m) (padB (l.drop (64 * m)) l.length) ((padB (l.drop (64 * m)) l.length).length / 64) W (padB_blocks _ _) (by omega) hW
  obtain ⟨S1, hS1⟩ : ∃ S1, S1 = stAt initS (l.take (64 * m)) m := ⟨_, rfl⟩
  rw [← hS1] at H1 H3 ⊢
  obtain ⟨pd, hpd⟩ : ∃ pd, pd = padB (l.drop (64 * m)) l.length := ⟨_, rfl⟩
  rw [← hpd] at H2 H3 ⊢
  obtain ⟨S2, hS2⟩ : ∃ S2, S2 = stAt S1 pd (pd.length / 64) := ⟨_, rfl⟩
  rw [← hS2] at H3 ⊢
  have H4 := fun W => impl_stateText S2 W
  obtain ⟨c2, hc2⟩ : ∃ c2, c2 = (wcells S2.l).toArray := ⟨_, rfl⟩
  rw [← hc2] at H3 H4
  have hz2 : c2.size = 8 := by rw [hc2]; rfl
  have h12 : c2.all (·.oneCell') = true := by rw [hc2]; exact wcells_one _
  obtain ⟨out, hout⟩ : ∃ out, out = stT S2 := ⟨_, rfl⟩
  rw [← hout] at H4 ⊢
  obtain ⟨la, hla⟩ : ∃ la, la = l.take (64 * m) := ⟨_, rfl⟩
  obtain ⟨le, hle⟩ : ∃ le, le = l.drop (64 * m) := ⟨_, rfl⟩
  rw [← hla] at H1 hext1
  rw [← hle] at H2 hext2
  clear hS1 hS2 hpd hc2 hout hpl hpz hal hel hla hle
  obtain ⟨a, b, c, d, e, f, g, h⟩ := S1
  obtain ⟨c1, hc1⟩ : ∃ c1, c1 = (#[.int .u32 (num a), .int .u32 (num b), .int .u32 (num c), .int .u32 (num d), .int .u32 (num e), .int .u32 (num f), .int .u32 (num g), .int .u32 (num h)] : Array Value) := ⟨_, rfl⟩
  have hz1 : c1.size = 8 := by rw [hc1]; rfl
  have h11 : c1.all (·.oneCell') = true := by rw [hc1]; exact wcells_one (S8.l ⟨a, b, c, d, e, f, g, h⟩)
  have H1' : ∀ W, Tab W → Calls Tryz.prog 51 #[.agg #[.int .u32 1779033703, .int .u32 3144134277, .int .u32 1013904242, .int .u32 2773480762, .int .u32 1359893119, .int .u32 2600822924, .int .u32 528734635, .int .u32 1541459225], .string ⟨la.toArray⟩] W fun ee w' => ee = .returned (.agg c1) ∧ Below W.heap.size W w' := by rw [hc1]; exact H1
  have H3' : ∀ W, Tab W → Calls Tryz.prog 51 #[.agg #[.int .u32 (num a), .int .u32 (num b), .int .u32 (num c), .int .u32 (num d), .int .u32 (num e), .int .u32 (num f), .int .u32 (num g), .int .u32 (num h)], .string ⟨pd.toArray⟩] W fun ee w' => ee = .returned (.agg c2) ∧ Below W.heap.size W w' := H3
  have hq1 : (l.length : Int).tdiv 64 = (m : Int) := by rw [Int.tdiv_eq_ediv_of_nonneg (by omega)]; omega
  have hq2 : (m : Int) * 64 = ((64 * m : Nat) : Int) := by omega
  obtain ⟨p, hp⟩ : ∃ p : Nat, p = 64 * m := ⟨_, rfl⟩
  rw [← hp] at hext1 hext2 hq2 hml
  have hpl : (p : Int) ≤ (l.length : Int) := by omega
  have hpk : p ≤ 1048576 := by omega
  have hwl : (l.length : Int) % 18446744073709551616 = (l.length : Int) := by omega
  have hwl2 : IntKind.u64.wrap (l.length : Int) = (l.length : Int) := by rw [show IntKind.u64.wrap (l.length : Int) = (l.length : Int) % 18446744073709551616 by simp [IntKind.wrap, IntKind.bits, IntKind.signed]]; exact hwl
  have HC1 : Hid (c1 = (#[.int .u32 (num a), .int .u32 (num b), .int .u32 (num c), .int .u32 (num d), .int .u32 (num e), .int .u32 (num f), .int .u32 (num g), .int .u32 (num h)] : Array Value)) := hc1
  clear H1 H3 hp hm hc1
  go_enter Tryz.func32, Tryz.ntmps32
  go_wp2
  go_region_with (go_at_call 51; refine (H1' (w.alloc (.cells #[.int .u32 1779033703, .int .u32 3144134277, .int .u32 1013904242, .int .u32 2773480762, .int .u32 1359893119, .int .u32 2600822924, .int .u32 528734635, .int .u32 1541459225] 90)).drew ?_).mono ?_; exact HT.out.later ⟨rfl, rfl, rfl, by simp [heap_drew], fun k hk => Below.heap_alloc _ _ _ hk⟩; rintro e' w1 ⟨rfl, hb1'⟩; have hb1 : Below (w.heap.size + 1) (w.alloc (.cells #[.int .u32 1779033703, .int .u32 3144134277, .int .u32 1013904242, .int .u32 2773480762, .int .u32 1359893119, .int .u32 2600822924, .int .u32 528734635, .int .u32 1541459225] 90)) w1 := ⟨hb1'.os, hb1'.tape, hb1'.output, hb1'.size, fun k hk => hb1'.block k (by simpa [heap_drew] using hk)⟩; have hw1 : w1.heap[w.heap.size]? = some (.cells #[.int .u32 1779033703, .int .u32 3144134277, .int .u32 1013904242, .int .u32 2773480762, .int .u32 1359893119, .int .u32 2600822924, .int .u32 528734635, .int .u32 1541459225] 90 (0, 0)) := (hb1.block _ (by omega)).trans (heap_alloc_new w _); have hst := store_row (P := Tryz.prog) w1 w.heap.size 90 _ c1 hw1 hz1.symm h11; have HW1 : Hid (_ ∧ _) := ⟨hb1, hw1⟩; clear hb1 hw1 hb1')
  have hW2r := setRow_heap w1 w.heap.size _ c1 90 (0, 0) HW1.out.2
  have hW2b : Below w.heap.size w (w1.setRow w.heap.size c1) := below_setRow (((Below.refl _ _).alloc (Nat.le_refl _) _).trans (HW1.out.1.mono (by omega))) (Nat.le_refl _) c1
  have hW2s : w.heap.size + 1 ≤ (w1.setRow w.heap.size c1).heap.size := by have := HW1.out.1.size; simp at this ⊢; omega
  generalize w1.setRow w.heap.size c1 = W2 at hW2r hW2b hW2s ⊢
  rw [HC1.out] at hW2r
  have HT2 : Hid (Tab W2) := HT.out.later hW2b
  have HB2 : Hid (_ ∧ _) := ⟨hW2b, hW2r⟩
  have q := fun k => cell_of_row W2 w.heap.size k _ _ _ hW2r
  have q0 := q 0
  have q1 := q 1
  have q2 := q 2
  have q3 := q 3
  have q4 := q 4
  have q5 := q 5
  have q6 := q 6
  have q7 := q 7
  clear q hW2r hW2b HW1 hst H1' hext1
  go_wp2
  go_region_with (first
    | (go_at_call 52
       refine (H2 W2.drew).mono ?_
       rintro e' w3 ⟨rfl, hb3'⟩
       have hb3 : Below W2.heap.size W2 w3 := ⟨hb3'.os, hb3'.tape, hb3'.output, hb3'.size, hb3'.block⟩
       clear hb3'
       have r0 := (hb3.cell (p := ⟨w.heap.size, 0, none⟩) hW2s).trans q0
       have r1 := (hb3.cell (p := ⟨w.heap.size, 1, none⟩) hW2s).trans q1
       have r2 := (hb3.cell (p := ⟨w.heap.size, 2, none⟩) hW2s).trans q2
       have r3 := (hb3.cell (p := ⟨w.heap.size, 3, none⟩) hW2s).trans q3
       have r4 := (hb3.cell (p := ⟨w.heap.size, 4, none⟩) hW2s).trans q4
       have r5 := (hb3.cell (p := ⟨w.heap.size, 5, none⟩) hW2s).trans q5
       have r6 := (hb3.cell (p := ⟨w.heap.size, 6, none⟩) hW2s).trans q6
       have r7 := (hb3.cell (p := ⟨w.heap.size, 7, none⟩) hW2s).trans q7)
    | (go_at_call 51
       refine (H3' w3 ?_).mono ?_
       · exact HT2.out.later hb3
       rintro e' w4 ⟨rfl, hb4⟩
       have hw4 : w4.heap[w.heap.size]? = some (.cells #[.int .u32 (num a), .int .u32 (num b), .int .u32 (num c), .int .u32 (num d), .int .u32 (num e), .int .u32 (num f), .int .u32 (num g), .int .u32 (num h)] 90 (0, 0)) := by
         rw [hb4.block _ (by have := hb3.size; omega), hb3.block _ (by omega)]; exact HB2.out.2
       have hst := store_row (P := Tryz.prog) w4 w.heap.size 90 _ c2 hw4 hz2.symm h12
       have HW4 : Hid (_ ∧ _) := ⟨hb4, hw4⟩
       clear hw4 hb4))
  all_goals
    have hW5r := setRow_heap w4 w.heap.size _ c2 90 (0, 0) HW4.out.2
    have hW5b : Below w.heap.size w (w4.setRow w.heap.size c2) := below_setRow ((HB2.out.1.trans (hb3.mono (by omega))).trans (HW4.out.1.mono (by have := hb3.size; omega))) (Nat.le_refl _) c2
    generalize w4.setRow w.heap.size c2 = W5 at hW5r hW5b ⊢
    have hsz8 : (Tryz.prog.info? 90).map (·.size) = some c2.size := by rw [hz2]; exact size8
    have hs5 := hW5b.size
    clear hst q0 q1 q2 q3 q4 q5 q6 q7 r0 r1 r2 r3 r4 r5 r6 r7 H2 H3' hext2
    go_wp2_with (refine wpList_load_row rfl 90 _ rfl w.heap.size rfl 90 c2 (0, 0) _ hW5r Tryz.underlying90 rfl hsz8 ?_)
    refine (H4 _).mono ?_
    rintro e' w6 ⟨rfl, hb6⟩
    have hB6 := hW5b.trans (hb6.mono hs5)
    clear H4 hb6 hW5b
    go_wp2
    go_ret
    exact ⟨rfl, hB6⟩
end Go.Proofs.YtapmakefpmholaaGreatDoor
