/-
  At every code the chunks of the pairs that it draws have as many pairs as may be, but the last one, the first and the last say so, and all pairs are there in order: FnChunkSizes answers true. No condition.
-/
import Derived.Test.YtcgodnmbehjfaaaCodeLaw
import Derived.Test.YtcgodnmbehjfaaaDrawPr
import Derived.Test.YtcgodnmbehjfaaaSChunks
import Derived.Test.YtcgodnmbehjfaaaSameP
import Derived.ProofKit
import Derived.OpenShut
import Derived.ShutString
import Derived.ChangeOld
import Derived.Below
namespace Go.Proofs.Ytcgodnmbehjfaaa.fnChunkSizes
open Go.ChangeShapes Go.WideShapes Go.ChangeAt Go.RowKit
open Go.ChangeMaps (open_string shut_string)
set_option linter.unusedVariables false

theorem own : ownKnob Try.prog.godebug = none := by kernel_rfl

theorem last_iff {n m i : Nat} (hm : 1 ≤ m) (hi : i < chunksN n m) : (min (i * m + m) n = n ↔ i + 1 = chunksN n m) := by
  unfold chunksN at *
  split at hi
  · rename_i h0
    subst h0
    simp
    omega
  · rename_i h0
    rw [if_neg h0]
    have h1 : i ≤ (n - 1) / m := by omega
    have h2 : i * m ≤ n - 1 := Nat.le_trans (Nat.mul_le_mul_right m h1) (Nat.div_mul_le_self _ _)
    have h3 : (n - 1) / m = i ↔ n - 1 < (i + 1) * m := by
      constructor
      · intro h; rw [← h]; have := Nat.lt_div_mul_add (a := n - 1) (b := m) (by omega); rw [Nat.succ_mul]; omega
      · intro h; exact Nat.div_eq_of_lt_le h2 h
    rw [Nat.succ_mul] at h3
    omega
theorem from_lt {n m i : Nat} (hi : i < chunksN n m) : i * m ≤ n ∧ (0 < n → i * m < n) := by
  unfold chunksN at hi
  split at hi
  · have : i = 0 := by omega
    subst this; simp
  · have h2 : i * m ≤ n - 1 := Nat.le_trans (Nat.mul_le_mul_right m (by omega)) (Nat.div_mul_le_self _ _)
    omega
theorem end_ge (n m : Nat) (hm : 1 ≤ m) : n ≤ chunksN n m * m := by
  unfold chunksN
  split
  · omega
  · rw [Nat.succ_mul]; have := Nat.lt_div_mul_add (a := n - 1) (b := m) (by omega); omega
theorem take_more (ps : List PairL) (i m : Nat) : ps.take (i * m) ++ (ps.drop (i * m)).take m = ps.take ((i + 1) * m) := by
  rw [Nat.succ_mul, List.take_add]

set_option maxRecDepth 100000 in
set_option maxHeartbeats 4000000 in
theorem walk (a0 : Option Addr) (len0 cap0 : Nat) (w : World) (w0 : Code w a0 len0) :
    Calls Try.prog 5 #[.slice a0 len0 cap0] w fun e w' => e = .returned (.bool true) ∧ Below w.heap.size w w' := by
  by_cases hb : len0 ≤ 1048576
  · obtain ⟨i0, hi0, hz0, hz1, hz2⟩ := info_parts infoPair
    have HB := bigNo len0 cap0 a0 w hb
    have HC : Hid (Code w a0 len0) := w0
    clear w0
    go_enter Try.func5, Try.ntmps5
    go_wp2_with fail
    refine HB.mono ?_
    rintro e w ⟨rfl, rfl⟩
    clear HB
    have HD := drawChunksOf len0 cap0 a0 w hb HC.out
    go_wp2_with fail
    refine HD.mono ?_
    rintro e w1 ⟨ps, gl, cl, mo, hpl, hsm, rfl, o1, b1⟩
    have hcap : ps.length ≤ cl := by
      rcases o1.2 with ⟨e, _⟩ | ⟨g', cap', cur, e, _, _, hc, _⟩
      · cases e
      · cases e; exact hc
    have HSM : Hid (∀ p ∈ ps, p.1.length ≤ 1048576 ∧ p.2.length ≤ 1048576) := fun p hp => by have := hsm p hp; omega
    have H1 := fun W h => impl_chunksOf gl 0 cl ps mo W (by omega) hcap HSM.out h
    have H2 := fun W h => spec_chunksOf gl 0 cl ps mo W (by omega) hcap HSM.out h
    have HI : Hid (∀ W, Below w1.heap.size w1 W → IsPairs W (some ⟨gl, 0, none⟩) ps) := fun W h => (isPairs_own (kept2 o1 h)).2.2
    clear HD o1 hsm HC
    go_wp2_with fail
    refine (H1 _ (HI.out _ (Below.refl _ _))).mono ?_
    rintro e w2 ⟨v, vs, rfl, O2, b2⟩
    have B2 := b1.trans (b2.mono b1.size)
    clear H1
    go_wp2_with fail
    refine (H2 _ (HI.out _ b2)).mono ?_
    rintro e w3 ⟨v', vs', rfl, _, b3⟩
    have B3 := B2.trans (b3.mono B2.size)
    have b13 := b2.trans (b3.mono b2.size)
    have O3 := O2.later b3
    have HO3 : Hid (OwnC w3 w1.heap.size 46 v (chunksR ps mo) vs) := O3
    clear H2 O2 O3 b2 b3 B2
    cases hok : chunksOkL ps mo with
    | false =>
      clear HO3 HI
      go_wp2
      go_ret
      exact ⟨rfl, B3⟩
    | true =>
      have hk := hok
      simp only [chunksOkL, Bool.and_eq_true, decide_eq_true_eq] at hk
      obtain ⟨m, rfl⟩ : ∃ m : Nat, mo = (m : Int) := ⟨mo.toNat, by omega⟩
      have hm1 : 1 ≤ m := by omega
      have hm8 : m ≤ 8 := by omega
      have HR : Hid (chunksR ps (m : Int) = chunksL ps m) := by rw [Hid, chunksR, if_pos hok, Int.toNat_natCast]
      obtain ⟨r, hr⟩ : ∃ r, r = chunksL ps m := ⟨_, rfl⟩
      rw [HR.out, ← hr] at HO3
      have HRL : Hid (r.length = chunksN ps.length m) := by rw [Hid, hr]; exact chunksL_length ps m
      have HAT : Hid (∀ i, i < r.length → r[i]? = some (chunkAt ps m i)) := fun i hi => by rw [hr] at hi ⊢; rw [chunksL_length] at hi; simp [chunksL, chunksTo, hi]
      have hrp : 1 ≤ r.length := by rw [HRL.out]; exact chunksN_pos _ _
      have hrl : r.length ≤ 61 := by rw [HRL.out]; exact chunksN_le (by omega)
      obtain ⟨g, cap, rfl, hg1, hg2⟩ : ∃ g cap, v = .slice (some ⟨g, 0, none⟩) r.length cap ∧ w1.heap.size ≤ g ∧ g < w3.heap.size := by
        rcases HO3.out.slice with ⟨_, h0⟩ | h
        · exfalso; rw [h0] at hrp; simp at hrp
        · exact h
      have HEND : Hid (ps.take (r.length * m) = ps) := by rw [Hid, HRL.out]; exact List.take_of_length_le (end_ge _ _ hm1)
      have B3a : Below w.heap.size w (w3.alloc (.cells #[] 53)) := B3.alloc B3.size _
      have b3a : Below w3.heap.size w3 (w3.alloc (.cells #[] 53)) := (Below.refl _ _).alloc (Nat.le_refl _) _
      clear hr HR hok hk
      by_cases hps0 : ps = []
      · subst hps0
        have hr1 : r.length = 1 := HRL.out
        have ou := HO3.out.later b3a
        obtain ⟨c, u, hc, hu, a1, cp1, rfl, i1, o1⟩ := ou.kids (j := 0) (by omega)
        rw [HAT.out 0 (by omega)] at hc
        cases hc
        obtain ⟨c1, c2, c3⟩ := ou.cells (HAT.out 0 (by omega)) hu
        have hq0 : (chunkAt [] m 0).2.2 = [] := by simp [chunkAt]
        have c1' : (w3.alloc (.cells #[] 53)).cell? ⟨g, 0, none⟩ = some (.bool true) := by rw [c1]; simp [chunkAt]
        have c2' : (w3.alloc (.cells #[] 53)).cell? ⟨g, 1, none⟩ = some (.bool true) := by simpa [chunkAt] using c2
        rw [hq0] at c3 o1
        have c3' : (w3.alloc (.cells #[] 53)).cell? ⟨g, 2, none⟩ = some (.slice a1 0 cp1) := c3
        have hgl : g < (w3.alloc (.cells #[] 53)).heap.size := by simp; omega
        rw [hr1] at HO3 ⊢
        have O9 := hidOwn (World.ownsRow_lit (e := 53) (size := 2) w3 #[] 0 (base := w3.heap.size) (Nat.le_refl _) (Nat.zero_le _) rfl)
        have hs3 : w.heap.size ≤ w3.heap.size := B3.size
        clear c1 c2 c3 ou hu i1 HO3 HAT HEND HRL hrp hrl hr1
        rcases own_cases2 o1 with ⟨e0, h0, _⟩ | ⟨b1, cp, e0, hb1, hb2, _⟩
        · obtain ⟨rfl, _, rfl⟩ := Value.slice.inj e0
          go_wp2
          refine wp_loop_rounds 2 ?_
          rw [rounds_succ]
          go_wp2_with (at_builtin; refine wpList_append_own_none _ rfl _ _ 22 rfl w3.heap.size 53 i0 2 Try.underlying22 hi0 (.slice (some ⟨w3.heap.size, 0, none⟩) 0 0) _ _ rfl (O9.out.alloc _) rfl ?_)
          go_wp2
          rw [rounds_succ]
          go_wp2_with fail
          refine (samePairs_same [] _ _ _ _ _ (by simp) (.inl rfl) (.inl rfl)).mono ?_
          rintro e w9 ⟨rfl, b9⟩
          have B9 := (B3a.alloc (Nat.le_trans B3.size (by simp)) _).trans (b9.mono (by simp; omega))
          go_wp2
          go_ret
          exact ⟨rfl, B9⟩
        · obtain ⟨rfl, _, rfl⟩ := Value.slice.inj e0
          go_wp2
          refine wp_loop_rounds 2 ?_
          rw [rounds_succ]
          go_wp2_with (at_builtin; refine wpList_append_own _ rfl _ _ 22 rfl w3.heap.size 53 i0 (.agg #[.string ⟨#[]⟩, .string ⟨#[]⟩]) 2 32 Try.underlying22 hi0 hz0 hz1 hz2 rfl (by decide) (.slice (some ⟨w3.heap.size, 0, none⟩) 0 0) 0 _ rfl (O9.out.alloc _) ⟨b1, 0, none⟩ 0 cp1 [] rfl rfl (fun _ _ h => by simp at h) (by simp) (by unfold maxLen; omega) (by omega) (by simp; omega) ?_; intro v5 w5 hown5 hgrow5 hnil5)
          have B5 : Below w.heap.size w w5 := (B3a.alloc (Nat.le_trans B3.size (by simp)) _).grown hgrow5 (by simp; omega) (fun k hk => by simp [Value.ownBlock] at hk; omega)
          obtain ⟨a5, m5, c5, rfl⟩ := own_slice2 hown5
          obtain ⟨rfl, _, _⟩ := isPairs_own (ps := []) hown5
          clear hown5 hgrow5 hnil5
          go_wp2
          rw [rounds_succ]
          go_wp2_with fail
          refine (samePairs_same [] _ _ _ _ _ (by simp) (.inl rfl) (.inl rfl)).mono ?_
          rintro e w9 ⟨rfl, b9⟩
          have B9 := B5.trans (b9.mono B5.size)
          go_wp2
          go_ret
          exact ⟨rfl, B9⟩
      have hps : 0 < ps.length := by rcases Nat.eq_zero_or_pos ps.length with h | h; exact absurd (List.length_eq_zero_iff.1 h) hps0; exact h
      clear hps0
      go_wp2
      go_loopw [9, 10] (fun o i wr => ∃ (j : Nat), j ≤ r.length ∧ i = .int .i64 (j : Int) ∧ wr.ownsRow w3.heap.size 53 2 o (ps.take (j * m)).length (pcells (ps.take (j * m))) ∧ Below w3.heap.size w3 wr) (fun _ i _ => r.length - (intOf i).toNat)
      case atStart => exact ⟨0, Nat.zero_le _, rfl, by simp [pcells]; exact World.ownsRow_lit _ #[] 0 (Nat.le_refl _) (Nat.zero_le _) rfl, b3a⟩
      case round =>
        obtain ⟨j, hj, rfl, hown, hbel⟩ := hrel
        obtain ⟨a9, m9, c9, rfl⟩ := own_slice2 hown
        have hsz := hbel.size
        by_cases hlt : j < r.length
        · have ou := HO3.out.later hbel
          obtain ⟨c, u, hc, hu, a1, cp1, rfl, i1, o1⟩ := ou.kids hlt
          rw [HAT.out j hlt] at hc
          cases hc
          obtain ⟨c1, c2, c3⟩ := ou.cells (HAT.out j hlt) hu
          have HLS : Hid (min (j * m + m) ps.length = ps.length ↔ j + 1 = r.length) := by rw [Hid, HRL.out]; exact last_iff hm1 (by rw [← HRL.out]; exact hlt)
          have HFL := from_lt (n := ps.length) (m := m) (i := j) (by rw [← HRL.out]; exact hlt)
          obtain ⟨L, hL⟩ : ∃ L, Hid (L = (chunkAt ps m j).2.2.length) := ⟨_, rfl⟩
          have HLL : Hid (L = min m (ps.length - j * m)) := by rw [Hid, hL.out]; exact chunkAt_len ps m j
          have HNL : Hid (¬ j + 1 = r.length → L = m) := fun h => by have := HLL.out; have := HLS.out; omega
          have hLm : L ≤ m := by have := HLL.out; omega
          have hLp : 0 < L := by have := HLL.out; have := HFL.2 hps; omega
          have HTK : Hid (ps.take (j * m) ++ (chunkAt ps m j).2.2 = ps.take ((j + 1) * m)) := take_more ps j m
          have hj0' : (0 : Int) ≤ (j : Int) := by omega
          have hj1 : (j : Int) < (r.length : Int) := by omega
          have hgr : g < wr.heap.size := by omega
          have hj60 : (ps.take (j * m)).length ≤ 10 := by rw [List.length_take]; omega
          have OR := hidOwn hown
          obtain ⟨qs, hqs⟩ : ∃ qs, qs = (chunkAt ps m j).2.2 := ⟨_, rfl⟩
          rw [← hqs] at hL HTK i1 o1 c3
          rw [← hL.out] at c3
          clear ou hu HFL hown hqs
          have BC : ∀ o, Below w3.heap.size w3 (wr.alloc o) := fun o => hbel.alloc hsz o
          have HTL : Hid ((ps.take (j * m)).length + L = (ps.take ((j + 1) * m)).length) := by rw [Hid, ← HTK.out, List.length_append, hL.out]
          obtain ⟨b1, cp, e0, hb1, hb2, _⟩ : ∃ b1 cp, (Value.slice a1 qs.length cp1) = .slice (some ⟨b1, 0, none⟩) qs.length cp ∧ w1.heap.size ≤ b1 ∧ b1 < wr.heap.size ∧ True := by
            rcases own_cases2 o1 with ⟨e0, h0, _⟩ | ⟨b1, cp, e0, hb1, hb2, _⟩
            · exfalso; have := hLp; have := hL.out; omega
            · exact ⟨b1, cp, e0, hb1, hb2, trivial⟩
          cases e0
          rw [← hL.out] at o1
          have HF : Hid (∀ o, ∀ i u, (pcells qs)[i]? = some u → (wr.alloc o).cell? ((⟨b1, 0, none⟩ : Addr).add i) = some u) := fun o => isPairs_flat (i1.later ((Below.refl _ _).alloc (Nat.le_refl _) _))
          have hqp : Hid ((pcells qs).length = L * 2) := by rw [Hid, pcells_length, hL.out]
          clear o1 i1 HLL
          by_cases hj0 : j = 0
          · by_cases hls : j + 1 = r.length
            · subst hj0
              have c1' : wr.cell? ⟨g, 0 * 3, none⟩ = some (.bool true) := by rw [c1]; simp only [chunkAt]; rfl
              have c2' : wr.cell? ⟨g, 0 * 3 + 1, none⟩ = some (.bool true) := by rw [c2]; simp only [chunkAt]; rw [decide_eq_true (HLS.out.2 hls)]
              simp only [Nat.zero_mul, Nat.zero_add] at c1' c2' c3
              have z1 : ((1 : Int) == (r.length : Int)) = true := by simp only [beq_iff_eq]; omega
              have hL1 : (L : Int) ≤ (m : Int) := by omega
              have hL2 : ¬ (L : Int) = 0 := by omega
              have hLx : ¬ m < L := by omega
              clear c1 c2 HLS HNL hls
              go_wp2_with (at_builtin; refine wpList_append_own _ rfl _ _ 22 rfl w3.heap.size 53 i0 (.agg #[.string ⟨#[]⟩, .string ⟨#[]⟩]) 2 32 Try.underlying22 hi0 hz0 hz1 hz2 rfl (by decide) (.slice a9 m9 c9) (ps.take (0 * m)).length _ rfl (OR.out.alloc _) ⟨b1, 0, none⟩ L cp1 (pcells qs) rfl hqp.out (HF.out _) (pcells_one qs) (by unfold maxLen; omega) (by omega) (by simp; omega) ?_; intro v5 w5 hown5 hgrow5 hnil5)
              have B5 : Below w3.heap.size w3 w5 := (BC _).grown hgrow5 (by simp; omega) (fun k hk => (OR.out.lt k hk).1)
              have H10 : Hid (w5.ownsRow w3.heap.size 53 2 v5 (ps.take ((0 + 1) * m)).length (pcells (ps.take ((0 + 1) * m)))) := by
                have e1 : pcells (ps.take ((0 + 1) * m)) = pcells (ps.take (0 * m)) ++ pcells qs := by rw [← HTK.out, pcells_app]
                rw [Hid, ← HTL.out, e1]; exact hown5
              clear hown5 hgrow5 hnil5 OR HTK HTL HF
              go_wp2
              go_roundw
              case rel => exact ⟨0 + 1, by omega, by go_num, H10.out, B5⟩
              case measure => simp [intOf]; omega
            · subst hj0
              have c1' : wr.cell? ⟨g, 0 * 3, none⟩ = some (.bool true) := by rw [c1]; simp only [chunkAt]; rfl
              have c2' : wr.cell? ⟨g, 0 * 3 + 1, none⟩ = some (.bool false) := by rw [c2]; simp only [chunkAt]; rw [decide_eq_false (fun h => hls (HLS.out.1 h))]
              simp only [Nat.zero_mul, Nat.zero_add] at c1' c2' c3
              have z1 : ((1 : Int) == (r.length : Int)) = false := by simp only [beq_eq_false_iff_ne, ne_eq]; omega
              have hL2 : ¬ (L : Int) = 0 := by omega
              have hLq : m = L := (HNL.out hls).symm
              have hLx : ¬ m < L := by omega
              clear c1 c2 HLS HNL
              subst hLq
              go_wp2_with (at_builtin; refine wpList_append_own _ rfl _ _ 22 rfl w3.heap.size 53 i0 (.agg #[.string ⟨#[]⟩, .string ⟨#[]⟩]) 2 32 Try.underlying22 hi0 hz0 hz1 hz2 rfl (by decide) (.slice a9 m9 c9) (ps.take (0 * m)).length _ rfl (OR.out.alloc _) ⟨b1, 0, none⟩ m cp1 (pcells qs) rfl hqp.out (HF.out _) (pcells_one qs) (by unfold maxLen; omega) (by omega) (by simp; omega) ?_; intro v5 w5 hown5 hgrow5 hnil5)
              have B5 : Below w3.heap.size w3 w5 := (BC _).grown hgrow5 (by simp; omega) (fun k hk => (OR.out.lt k hk).1)
              have H10 : Hid (w5.ownsRow w3.heap.size 53 2 v5 (ps.take ((0 + 1) * m)).length (pcells (ps.take ((0 + 1) * m)))) := by
                have e1 : pcells (ps.take ((0 + 1) * m)) = pcells (ps.take (0 * m)) ++ pcells qs := by rw [← HTK.out, pcells_app]
                rw [Hid, ← HTL.out, e1]; exact hown5
              clear hown5 hgrow5 hnil5 OR HTK HTL HF
              go_wp2
              go_roundw
              case rel => exact ⟨0 + 1, by omega, by go_num, H10.out, B5⟩
              case measure => simp [intOf]; omega
          · by_cases hls : j + 1 = r.length
            · have c1' : wr.cell? ⟨g, j * 3, none⟩ = some (.bool false) := by rw [c1]; simp only [chunkAt]; rw [decide_eq_false hj0]
              have c2' : wr.cell? ⟨g, j * 3 + 1, none⟩ = some (.bool true) := by rw [c2]; simp only [chunkAt]; rw [decide_eq_true (HLS.out.2 hls)]
              have z0 : ((j : Int) == 0) = false := by simp only [beq_eq_false_iff_ne, ne_eq]; omega
              have z1 : ((j : Int) + 1 == (r.length : Int)) = true := by simp only [beq_iff_eq]; omega
              have hL1 : (L : Int) ≤ (m : Int) := by omega
              have hL2 : ¬ (L : Int) = 0 := by omega
              have hLx : ¬ m < L := by omega
              clear c1 c2 HLS HNL hls
              go_wp2_with (at_builtin; refine wpList_append_own _ rfl _ _ 22 rfl w3.heap.size 53 i0 (.agg #[.string ⟨#[]⟩, .string ⟨#[]⟩]) 2 32 Try.underlying22 hi0 hz0 hz1 hz2 rfl (by decide) (.slice a9 m9 c9) (ps.take (j * m)).length _ rfl (OR.out.alloc _) ⟨b1, 0, none⟩ L cp1 (pcells qs) rfl hqp.out (HF.out _) (pcells_one qs) (by unfold maxLen; omega) (by omega) (by simp; omega) ?_; intro v5 w5 hown5 hgrow5 hnil5)
              have B5 : Below w3.heap.size w3 w5 := (BC _).grown hgrow5 (by simp; omega) (fun k hk => (OR.out.lt k hk).1)
              have H10 : Hid (w5.ownsRow w3.heap.size 53 2 v5 (ps.take ((j + 1) * m)).length (pcells (ps.take ((j + 1) * m)))) := by
                have e1 : pcells (ps.take ((j + 1) * m)) = pcells (ps.take (j * m)) ++ pcells qs := by rw [← HTK.out, pcells_app]
                rw [Hid, ← HTL.out, e1]; exact hown5
              clear hown5 hgrow5 hnil5 OR HTK HTL HF
              go_wp2
              go_roundw
              case rel => exact ⟨j + 1, by omega, by go_num, H10.out, B5⟩
              case measure => simp [intOf]; omega
            · have c1' : wr.cell? ⟨g, j * 3, none⟩ = some (.bool false) := by rw [c1]; simp only [chunkAt]; rw [decide_eq_false hj0]
              have c2' : wr.cell? ⟨g, j * 3 + 1, none⟩ = some (.bool false) := by rw [c2]; simp only [chunkAt]; rw [decide_eq_false (fun h => hls (HLS.out.1 h))]
              have z0 : ((j : Int) == 0) = false := by simp only [beq_eq_false_iff_ne, ne_eq]; omega
              have z1 : ((j : Int) + (1 : Int) == (r.length : Int)) = false := by simp only [beq_eq_false_iff_ne, ne_eq]; omega
              have hL2 : ¬ (L : Int) = 0 := by omega
              have hLq : m = L := (HNL.out hls).symm
              have hLx : ¬ m < L := by omega
              clear c1 c2 HLS HNL
              subst hLq
              go_wp2_with (at_builtin; refine wpList_append_own _ rfl _ _ 22 rfl w3.heap.size 53 i0 (.agg #[.string ⟨#[]⟩, .string ⟨#[]⟩]) 2 32 Try.underlying22 hi0 hz0 hz1 hz2 rfl (by decide) (.slice a9 m9 c9) (ps.take (j * m)).length _ rfl (OR.out.alloc _) ⟨b1, 0, none⟩ m cp1 (pcells qs) rfl hqp.out (HF.out _) (pcells_one qs) (by unfold maxLen; omega) (by omega) (by simp; omega) ?_; intro v5 w5 hown5 hgrow5 hnil5)
              have B5 : Below w3.heap.size w3 w5 := (BC _).grown hgrow5 (by simp; omega) (fun k hk => (OR.out.lt k hk).1)
              have H10 : Hid (w5.ownsRow w3.heap.size 53 2 v5 (ps.take ((j + 1) * m)).length (pcells (ps.take ((j + 1) * m)))) := by
                have e1 : pcells (ps.take ((j + 1) * m)) = pcells (ps.take (j * m)) ++ pcells qs := by rw [← HTK.out, pcells_app]
                rw [Hid, ← HTL.out, e1]; exact hown5
              clear hown5 hgrow5 hnil5 OR HTK HTL HF
              go_wp2
              go_roundw
              case rel => exact ⟨j + 1, by omega, by go_num, H10.out, B5⟩
              case measure => simp [intOf]; omega
        · have hjl : j = r.length := by omega
          subst hjl
          have h9 := hown
          rw [HEND.out] at h9
          obtain ⟨rfl, _, i9⟩ := isPairs_own h9
          have KS := samePairs_same ps a9 (some ⟨gl, 0, none⟩) c9 cl wr (by omega) i9 (HI.out _ (b13.trans (hbel.mono b13.size)))
          have B9 := B3.trans (hbel.mono B3.size)
          have z9 : (1 : Int) ≤ (r.length : Int) := by omega
          clear hown h9 i9 HI HO3 HAT HEND
          go_wp2_with fail
          refine KS.mono ?_
          rintro e w9 ⟨rfl, b9⟩
          have B10 := B9.trans (b9.mono B9.size)
          clear KS b9
          go_wp2
          go_ret
          exact ⟨rfl, B10⟩
  · have HB := bigYes len0 cap0 a0 w hb
    go_enter Try.func5, Try.ntmps5
    go_wp2_with fail
    refine HB.mono ?_
    rintro e w ⟨rfl, rfl⟩
    clear HB
    go_wp2
    go_ret
    exact ⟨rfl, Below.refl _ _⟩

set_option maxRecDepth 100000 in
theorem lifted (os : Os) (started : os.Started) (H : Type) (enc : TypeId × Value → H) :
    ReturnsInHanded {} Try.checked os 5 .any (Rows.fnChunkSizesSpec.pre6 enc Try.prog Try.f5 Rows.fnChunkSizesRow.domain false) (Rows.fnChunkSizesSpec.post enc Try.prog Try.f5 false true false false) := by
  refine returnsInHanded_of_change (C := Try.checked) own started (by kernel_rfl) Try.func5
    (ChangeSpec.witness6 (enc := enc) (C := Try.checked) false ⟨#[], #[.slice none 0 0], []⟩ 8 (by kernel_rfl) (by kernel_rfl) (by kernel_rfl) (by kernel_rfl)) ?_
  intro W base args ds gs before hval0 hW hcnd _
  have hval : ∀ (j : Nat) t v, Try.f5.params[j]? = some t → args[j]? = some v → Value.okWide Try.prog W .any base t v := hval0
  have hW' := hW
  obtain ⟨p, q, hA0, hV, rfl, hfz, hnd⟩ := hW
  have hA : DataW.TrodAll enc Try.prog W 0 (fun _ => true) true Try.f5.params.toList args.toList ds p := hA0
  rw [Try.params5] at hA hval
  obtain ⟨v0, vs0, d0, ds0, p0, q0, hargs, rfl, rfl, h0, r0⟩ := trodAll_cons hA
  obtain ⟨rfl, rfl, rfl⟩ := trodAll_nil r0
  obtain rfl : args = #[v0] := by cases args; simp_all
  obtain ⟨rfl, rfl⟩ := trodVars_none hV
  obtain ⟨a0, len0, cap0, rfl⟩ := okWide_slice Try.underlying41 (hval 0 41 v0 rfl rfl)
  have k0 := h0
  have lt0 : ∀ x ∈ p0, x.block < W.heap.size := by obtain ⟨m, hm⟩ := k0; exact DataW.trod_lt m _ _ _ hm
  have w0 : Code W a0 len0 := by
    obtain ⟨fuel, hf⟩ := h0
    rcases open_ints Try.underlying41 Try.underlying5 (by kernel_rfl) hf with ⟨hcs, _⟩ | ⟨x, l, c, zs, hcs, _, hl, hm, hz, _, hcell, hwz⟩
    · simp [Value.cells] at hcs
      obtain ⟨rfl, rfl, rfl⟩ := hcs
      exact .inl rfl
    · simp [Value.cells] at hcs
      obtain ⟨rfl, rfl, rfl⟩ := hcs
      exact codeOf W x _ _ zs hl (by simpa using hz) hcell hwz
  clear hA0 hval0
  refine (walk a0 len0 cap0 W w0).mono fun e W' ⟨he, bel⟩ => ?_
  subst he
  exact ⟨_, rfl, _, _, _, [], _, [], hW', trodAll_mk1 (shut_bool Try.underlying4 _), (trodAll_cons_mk (Below.trod laidOut (by kernel_rfl) (of_decide_eq_true (by kernel_rfl)) k0 bel lt0) trodAll_mk0), rfl, bel.frame _, fun h => by cases h⟩

theorem over : Rows.fnChunkSizesRow.holds Try.pinned (OpenSpec.ofChange Rows.fnChunkSizesSpec) :=
  OpenClaim.holds_of_wide 5 Try.f5 rfl rfl rfl rfl rfl rfl rfl ⟨rfl, rfl, rfl, rfl, rfl⟩ rfl rfl rfl rfl rfl (by kernel_rfl) Try.func5 (by kernel_rfl)
    (of_decide_eq_true (by kernel_rfl)) (by unfold Func.isWrapper; first | (rw [if_pos (by decide +kernel)]; kernel_rfl) | (rw [if_neg (by decide +kernel)]; exact ⟨rfl, rfl⟩))
    (fun os started H enc _ => lifted os started H enc)

end Go.Proofs.Ytcgodnmbehjfaaa.fnChunkSizes
namespace Go.Proofs.Ytcgodnmbehjfaaa
theorem fnChunkSizes_holds : Rows.FnChunkSizesSaid := fnChunkSizes.over
end Go.Proofs.Ytcgodnmbehjfaaa
