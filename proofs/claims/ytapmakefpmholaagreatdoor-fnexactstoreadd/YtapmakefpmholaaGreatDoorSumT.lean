/-
  Contracts: a state's text; the last blocks, filled up.
-/
import Derived.Test.YtapmakefpmholaaGreatDoorAbsorb
import Derived.Test.YtapmakefpmholaaGreatDoorMathAll
namespace Go.Proofs.YtapmakefpmholaaGreatDoor
open Go.RowKit
set_option linter.unusedVariables false

theorem idx8_0 (s : S8) (W : World) : (Instr.index 90 (.agg (wcells s.l).toArray) (.int .i64 0)).run Tryz.prog W = .ok (.int .u32 (num (s.l.getD 0 0))) W := by kernel_rfl
theorem idx8_1 (s : S8) (W : World) : (Instr.index 90 (.agg (wcells s.l).toArray) (.int .i64 1)).run Tryz.prog W = .ok (.int .u32 (num (s.l.getD 1 0))) W := by kernel_rfl
theorem idx8_2 (s : S8) (W : World) : (Instr.index 90 (.agg (wcells s.l).toArray) (.int .i64 2)).run Tryz.prog W = .ok (.int .u32 (num (s.l.getD 2 0))) W := by kernel_rfl
theorem idx8_3 (s : S8) (W : World) : (Instr.index 90 (.agg (wcells s.l).toArray) (.int .i64 3)).run Tryz.prog W = .ok (.int .u32 (num (s.l.getD 3 0))) W := by kernel_rfl
theorem idx8_4 (s : S8) (W : World) : (Instr.index 90 (.agg (wcells s.l).toArray) (.int .i64 4)).run Tryz.prog W = .ok (.int .u32 (num (s.l.getD 4 0))) W := by kernel_rfl
theorem idx8_5 (s : S8) (W : World) : (Instr.index 90 (.agg (wcells s.l).toArray) (.int .i64 5)).run Tryz.prog W = .ok (.int .u32 (num (s.l.getD 5 0))) W := by kernel_rfl
theorem idx8_6 (s : S8) (W : World) : (Instr.index 90 (.agg (wcells s.l).toArray) (.int .i64 6)).run Tryz.prog W = .ok (.int .u32 (num (s.l.getD 6 0))) W := by kernel_rfl
theorem idx8_7 (s : S8) (W : World) : (Instr.index 90 (.agg (wcells s.l).toArray) (.int .i64 7)).run Tryz.prog W = .ok (.int .u32 (num (s.l.getD 7 0))) W := by kernel_rfl
theorem idx8 (s : S8) (j : Nat) (h : j < 8) (W : World) : (Instr.index 90 (.agg (wcells s.l).toArray) (.int .i64 (j : Int))).run Tryz.prog W = .ok (.int .u32 (num (s.l.getD j 0))) W := by
  match j, h with
  | 0, _ => exact idx8_0 s W
  | 1, _ => exact idx8_1 s W
  | 2, _ => exact idx8_2 s W
  | 3, _ => exact idx8_3 s W
  | 4, _ => exact idx8_4 s W
  | 5, _ => exact idx8_5 s W
  | 6, _ => exact idx8_6 s W
  | 7, _ => exact idx8_7 s W

theorem bcells_append (a b : List UInt8) : bcells (a ++ b) = bcells a ++ bcells b := by simp [bcells]

set_option maxRecDepth 100000 in
set_option maxHeartbeats 400000 in
theorem impl_stateText (s : S8) (w : World) :
    Calls Tryz.prog 53 #[.agg (wcells s.l).toArray] w fun e w' => e = .returned (.string ⟨(stT s).toArray⟩) ∧ Below w.heap.size w w' := by
  obtain ⟨i0, hi0, hz0, hz1, hz2⟩ := info_parts info5
  have hix := idx8 s
  obtain ⟨cs, hcs⟩ : ∃ cs, cs = (wcells s.l).toArray := ⟨_, rfl⟩
  have hz8 : cs.size = 8 := by rw [hcs]; rfl
  rw [← hcs] at hix ⊢
  have hsz8 : (Tryz.prog.info? 90).map (·.size) = some cs.size := by rw [hz8]; exact size8
  clear hcs hz8
  go_enter Tryz.func53, Tryz.ntmps53
  go_wp2_with (first | (at_make; refine wpList_make_own _ rfl _ _ 68 rfl w.heap.size 5 i0 (.int .u8 0) 1 Tryz.underlying68 hi0 hz0 hz1 _ _ _ 32 rfl rfl (by omega) (by rw [hz2]; omega) (by unfold maxLen; omega) (by simp) ?_; intro w0 hown0 hgrow0; have hr0 : w0.heap[w.heap.size]? = some (.cells cs 90 (0, 0)) := (hgrow0.block _ (by simp) (by simp)).trans (heap_alloc_new w _)) | (refine wpList_load_row rfl 90 _ rfl w.heap.size rfl 90 cs (0, 0) _ hr0 Tryz.underlying90 rfl hsz8 ?_))
  go_loopw [3, 8] (fun v i wr => ∃ j g cap : Nat, j ≤ 8 ∧ i = .int .i64 (j : Int) ∧ v = .slice (some ⟨g, 0, none⟩) (4 * j) cap ∧ wr.ownsRow w.heap.size 5 1 (.slice (some ⟨g, 0, none⟩) (4 * j) cap) (4 * j) (bcells ((s.l.take j).map wB).flatten) ∧ Below w.heap.size w wr) (fun _ i _ => 8 - (intOf i).toNat)
  case atStart => exact ⟨0, w.heap.size + 1, 32, by omega, rfl, rfl, by simpa [bcells] using hown0, ((Below.refl _ _).alloc (Nat.le_refl _) _).grown hgrow0 (by simp) (by simp)⟩
  case round =>
    obtain ⟨j, g, cap, hj, rfl, rfl, hown, hbel⟩ := hrel
    have hsz := hbel.size
    have hbg := own_base hown
    clear hr0 hown0 hgrow0
    by_cases hlt : j < 8
    · have hx := hix j hlt
      have HN := stT_step s j hlt
      obtain ⟨x, hxx⟩ : ∃ x, x = s.l.getD j 0 := ⟨_, rfl⟩
      rw [← hxx] at hx HN
      have HNN : Hid (_ = _) := HN
      have e24 := e_byte x 16777216 16777216 rfl
      have e16 := e_byte x 65536 65536 rfl
      have e8 := e_byte x 256 256 rfl
      have e0 := e_byte0 x
      have hj8 : (j : Int) < 8 := by omega
      clear hix hxx HN
      go_wp2_with (at_builtin; refine wpList_append_lies _ rfl _ _ 68 rfl w.heap.size 5 i0 (.int .u8 0) 1 1 Tryz.underlying68 hi0 hz0 hz1 hz2 rfl (by decide) (.slice (some ⟨g, 0, none⟩) (4 * j) cap) (4 * j) _ rfl (hown.alloc _) ⟨wr.heap.size, 0, none⟩ 4 4 (bcells (wB x)) rfl rfl (World.news_of_block (cs := (bcells (wB x)).toArray) (t := 5) (fr := (0, 0)) (heap_alloc_new wr _)) (bcells_one _) (by omega) (by unfold maxLen; omega) (by omega) (by simp; omega) (wr.heap.size + 1) (by simp) ?_; intro g2 cap2 w1 hown1 hgrow hat hlt1)
      have hbel1 := below_app0 hbel hsz hbg hgrow
      go_roundw
      case rel => exact ⟨j + 1, g2, cap2, by omega, by go_num, by simp [Nat.mul_add], by rw [HNN.out, bcells_append]; simpa [Nat.mul_add] using hown1, hbel1⟩
      case measure => simp [intOf]; omega
    · have hj8 : j = 8 := by omega
      subst hj8
      have hcv := own_string (P := Tryz.prog) Tryz.underlying68 Tryz.underlying5 Tryz.underlying9 hown
      have HR : Hid (((s.l.take 8).map wB).flatten = stT s) := rfl
      clear hix
      go_wp2
      go_ret
      exact ⟨ret_string HR.out, hbel⟩

theorem RowX.drew {w : World} {base g n cap : Nat} {xs : List Value} (h : RowX w base g n cap xs) : RowX w.drew base g n cap xs := ⟨h.len, h.low, h.lt, h.fit, h.cells, h.spare⟩

set_option maxRecDepth 100000 in
set_option maxHeartbeats 400000 in
theorem impl_padded (l : List UInt8) (n : Nat) (w : World) (hl : l.length ≤ 1048576) (hn : n ≤ 1048576) :
    Calls Tryz.prog 52 #[.string ⟨l.toArray⟩, .int .u64 (n : Int)] w fun e w' => e = .returned (.string ⟨(padB l n).toArray⟩) ∧ Below w.heap.size w w' := by
  obtain ⟨i0, hi0, hz0, hz1, hz2⟩ := info_parts info5
  have hz : (ByteArray.mk l.toArray).size = l.length := by simp [ByteArray.size]
  have hcv0 := run_bytes_of_string (P := Tryz.prog) w 9 68 5 ⟨l.toArray⟩ Tryz.underlying9 Tryz.underlying68 Tryz.underlying5
  rw [hz] at hcv0
  have hcap := grownCap_ge w l.length 0 5
  obtain ⟨cap0, hcap0⟩ : ∃ cap0, cap0 = grownCap w l.length 0 5 := ⟨_, rfl⟩
  rw [← hcap0] at hcv0 hcap
  have hrx := conv_row w.drew l w.heap.size cap0 5 (Nat.le_refl _) hcap
  obtain ⟨W1, hW1⟩ : ∃ W1, W1 = w.drew.alloc (.cells (bytesRow ⟨l.toArray⟩ cap0) 5 ((bytesRow ⟨l.toArray⟩ cap0).size, (bytesRow ⟨l.toArray⟩ cap0).size + 1)) := ⟨_, rfl⟩
  have hB1 : Below w.heap.size w W1 := by rw [hW1]; exact ((show Below w.heap.size w w.drew from ⟨rfl, rfl, rfl, Nat.le_refl _, fun _ _ => rfl⟩).alloc (Nat.le_refl _) _)
  have hs1 : W1.heap.size = w.heap.size + 1 := by rw [hW1]; simp [heap_drew]
  rw [← hW1] at hcv0 hrx
  have HRX : Hid (RowX W1 w.heap.size w.heap.size l.length cap0 (bcells l)) := hrx
  have HB1 : Hid (Below w.heap.size w W1) := hB1
  clear hrx hW1 hcap0 hz hB1
  go_enter Tryz.func52, Tryz.ntmps52
  go_wp2_with (at_builtin; refine append_x _ rfl _ _ 68 rfl 5 i0 (.int .u8 0) 1 Tryz.underlying68 hi0 hz0 hz1 hz2 rfl w.heap.size w.heap.size l.length cap0 (bcells l) rfl (HRX.out.alloc _) ⟨w.heap.size + 1, 0, none⟩ 1 1 [.int .u8 128] rfl rfl (World.news_of_block (cs := #[.int .u8 128]) (t := 5) (fr := (0, 0)) (heap_alloc_at W1 _ _ hs1)) (by simp [Value.oneCell']) (by omega) (by unfold maxLen; omega) (by omega) (by simp; omega) ?_; intro g1 cap1 w2 hR2 hg2)
  have hB2 : Below w.heap.size w w2 := (HB1.out.alloc (by omega) _).grown hg2 (by simp; omega) (fun k hk => by simp at hk; omega)
  clear HRX HB1 hcv0 hg2
  go_loopw [5] (fun v wr => ∃ z g cap : Nat, z ≤ padZ l.length ∧ v = .slice (some ⟨g, 0, none⟩) (l.length + 1 + z) cap ∧ RowX wr w.heap.size g (l.length + 1 + z) cap (bcells (l ++ 128 :: List.replicate z 0)) ∧ Below w.heap.size w wr) (fun v _ => l.length + 1 + padZ l.length - vlen v)
  case atStart => exact ⟨0, g1, cap1, Nat.zero_le _, rfl, by rw [bcells_append]; exact hR2, hB2⟩
  case round =>
    obtain ⟨z, g, cap, hzl, rfl, hR, hbel⟩ := hrel
    have hsz := hbel.size
    have hpz := padZ_le l.length
    clear hR2 hB2
    by_cases hlt : z < padZ l.length
    · have hne := padZ_more l.length z hlt
      obtain ⟨q, hq⟩ : ∃ q, q = l.length + 1 + z := ⟨_, rfl⟩
      rw [← hq] at hne hR ⊢
      have htm : (q : Int).tmod 64 = ((q % 64 : Nat) : Int) := by rw [Int.tmod_eq_emod_of_nonneg (by omega)]; omega
      obtain ⟨r, hr⟩ : ∃ r, r = q % 64 := ⟨_, rfl⟩
      rw [← hr] at htm hne
      have hne2 : (r : Int) ≠ 56 := by omega
      have HQ : Hid (q = l.length + 1 + z) := hq
      have HRR : Hid (RowX wr w.heap.size g q cap (bcells (l ++ 128 :: List.replicate z 0))) := hR
      have hq2 : q ≤ 1048640 := by omega
      clear hr hq hR
      go_wp2_with (at_builtin; refine append_x _ rfl _ _ 68 rfl 5 i0 (.int .u8 0) 1 Tryz.underlying68 hi0 hz0 hz1 hz2 rfl w.heap.size g q cap (bcells (l ++ 128 :: List.replicate z 0)) rfl (HRR.out.alloc _) ⟨wr.heap.size, 0, none⟩ 1 1 [.int .u8 0] rfl rfl (World.news_of_block (cs := #[.int .u8 0]) (t := 5) (fr := (0, 0)) (heap_alloc_new wr _)) (by simp [Value.oneCell']) (by omega) (by unfold maxLen; omega) (by omega) (by simp; omega) ?_; intro g3 cap3 w3 hR3 hg3)
      have hB3 : Below w.heap.size w w3 := (hbel.alloc hsz _).grown hg3 (by simp; omega) (fun k hk => by have := HRR.out.low; simp at hk; omega)
      have HR3 : Hid (RowX w3 w.heap.size g3 (l.length + 1 + (z + 1)) cap3 (bcells (l ++ 128 :: List.replicate (z + 1) 0))) := by
        have e1 : q + 1 = l.length + 1 + (z + 1) := by have := HQ.out; omega
        have e2 : bcells (l ++ 128 :: List.replicate (z + 1) 0) = bcells (l ++ 128 :: List.replicate z 0) ++ [.int .u8 0] := by rw [List.replicate_succ', ← List.cons_append, ← List.append_assoc, bcells_append]; rfl
        rw [Hid, ← e1, e2]; exact hR3
      clear hg3 hR3
      go_roundw
      case rel => exact ⟨z + 1, g3, cap3, by omega, by have := HQ.out; simp; omega, HR3.out, hB3⟩
      case measure => have := HQ.out; simp [vlen]; omega
    · have hzz : z = padZ l.length := by omega
      subst hzz
      have hend := padZ_end l.length
      obtain ⟨q, hq⟩ : ∃ q, q = l.length + 1 + padZ l.length := ⟨_, rfl⟩
      rw [← hq] at hend hR ⊢
      obtain ⟨hd, hhd⟩ : ∃ hd, hd = l ++ 128 :: List.replicate (padZ l.length) 0 := ⟨_, rfl⟩
      rw [← hhd] at hR
      have htm : (q : Int).tmod 64 = 56 := by rw [Int.tmod_eq_emod_of_nonneg (by omega)]; omega
      have HF : Hid (padB l n = hd ++ bigB (8 * n) 8) := by rw [Hid, hhd]; rfl
      have HRR : Hid (RowX wr w.heap.size g q cap (bcells hd)) := hR
      have HBB : Hid (Below w.heap.size w wr) := hbel
      have hq2 : q ≤ 1048640 := by omega
      obtain ⟨N, hN⟩ : ∃ N, N = 8 * n := ⟨_, rfl⟩
      rw [← hN] at HF
      have HNN : Hid ((N : Int) = (n : Int) * 8) := by rw [Hid, hN]; omega
      clear hend hq hhd hR hbel hpz hlt hzl hN
      go_wp2
      go_loopw [5, 7] (fun v i wx => ∃ j g cap : Nat, j ≤ 8 ∧ i = .int .i64 (56 - 8 * (j : Int)) ∧ v = .slice (some ⟨g, 0, none⟩) (q + j) cap ∧ RowX wx w.heap.size g (q + j) cap (bcells (hd ++ (bigB N 8).take j)) ∧ Below w.heap.size w wx) (fun v _ _ => q + 8 - vlen v)
      case atStart => exact ⟨0, g, cap, by omega, by simp, by simp, by simpa using HRR.out, HBB.out⟩
      case round =>
        clear HRR HBB
        obtain ⟨j, g4, cap4, hj, rfl, rfl, hR, hbel⟩ := hrel
        have hsz := hbel.size
        have HR4 : Hid (RowX wr w.heap.size g4 (q + j) cap4 (bcells (hd ++ (bigB N 8).take j))) := hR
        by_cases hlt : j < 8
        · have hsh : (56 : Int) - 8 * (j : Int) = ((8 * (8 - 1 - j) : Nat) : Int) := by omega
          rw [hsh]
          obtain ⟨sh, hsh2⟩ : ∃ sh, sh = 8 * (8 - 1 - j) := ⟨_, rfl⟩
          have hs64 : sh ≤ 56 := by omega
          have HSN : Hid ((bigB N 8).take (j + 1) = (bigB N 8).take j ++ [UInt8.ofNat (N / 2 ^ sh)]) := by rw [Hid, hsh2]; exact bigB_snoc N 8 j hlt
          rw [← hsh2]
          have HSH : Hid (sh = 8 * (8 - 1 - j)) := hsh2
          have HBY : Hid ((n : Int) * 8 / 2 ^ sh % 256 = ((UInt8.ofNat (N / 2 ^ sh)).toNat : Int)) := by rw [Hid, byte_of_div, HNN.out]
          clear hsh hsh2 hR
          go_wp2_with (at_builtin; refine append_x _ rfl _ _ 68 rfl 5 i0 (.int .u8 0) 1 Tryz.underlying68 hi0 hz0 hz1 hz2 rfl w.heap.size g4 (q + j) cap4 (bcells (hd ++ (bigB N 8).take j)) rfl (HR4.out.alloc _) ⟨wr.heap.size, 0, none⟩ 1 1 [.int .u8 ((n : Int) * 8 / 2 ^ sh % 256)] rfl rfl (World.news_of_block (cs := #[.int .u8 ((n : Int) * 8 / 2 ^ sh % 256)]) (t := 5) (fr := (0, 0)) (heap_alloc_new wr _)) (by simp [Value.oneCell']) (by omega) (by unfold maxLen; omega) (by omega) (by simp; omega) ?_; intro g5 cap5 w5 hR5 hg5)
          have hB5 : Below w.heap.size w w5 := (hbel.alloc hsz _).grown hg5 (by simp; omega) (fun k hk => by have := HR4.out.low; simp at hk; omega)
          have HR5 : Hid (RowX w5 w.heap.size g5 (q + (j + 1)) cap5 (bcells (hd ++ (bigB N 8).take (j + 1)))) := by
            rw [Hid, HSN.out, ← List.append_assoc, bcells_append, ← Nat.add_assoc]
            rw [HBY.out] at hR5
            exact hR5
          clear hg5 hR5 hbel
          go_roundw
          case rel => exact ⟨j + 1, g5, cap5, by omega, by have := HSH.out; go_num, by simp; omega, HR5.out, hB5⟩
          case measure => simp [vlen]; omega
        · have hj8 : j = 8 := by omega
          subst hj8
          have e8 : (bigB N 8).take 8 = bigB N 8 := List.take_of_length_le (by rw [bigB_length]; omega)
          rw [e8] at HR4
          have hcv := row_string (P := Tryz.prog) Tryz.underlying68 Tryz.underlying5 Tryz.underlying9 HR4.out
          clear hR e8
          go_wp2
          go_ret
          exact ⟨ret_string HF.out.symm, hbel⟩
end Go.Proofs.YtapmakefpmholaaGreatDoor
