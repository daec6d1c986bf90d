/-
  Texts that are laid as one: CertL, OpenC.
-/
import Derived.Test.YtajckopldkmcnaaDoorVotesE
import Derived.Test.YtajckopldkmcnaaDoorOpenV
import Derived.Test.YtajckopldkmcnaaDoorVotesS
import Derived.Deep.SlicePairs
import Derived.Lib.SmallJoins
namespace Go.Proofs.YtajckopldkmcnaaDoor
open Go.RowKit
set_option linter.unusedVariables false

set_option maxRecDepth 100000 in
set_option maxHeartbeats 1000000 in
theorem szCert_gen (n : Int) (root : List UInt8) (a : Option Addr) (cb : Nat) (vs : List VoteV) (L : Nat) (w : World) (hL : L ≤ 1048576) (hr : root.length ≤ 9223372036854775807) (hl : vs.length ≤ 9223372036854775807) (hm : ∀ v ∈ vs, bigV v) (hs : IsVotes w a vs) :
    Calls Tryd.prog 26 #[.agg #[.int .i64 n, .string ⟨root.toArray⟩, .slice a vs.length cb], .int .i64 (L : Int)] w fun e w' => (e = .returned (.int .i64 (-1)) ∨ (root.length + (vs.length + sizeVs vs) ≤ L ∧ ∃ k : Nat, k ≤ L ∧ k + (root.length + (vs.length + sizeVs vs)) = L ∧ e = .returned (.int .i64 (k : Int)))) ∧ Below w.heap.size w w' := by
  have B1 : Below w.heap.size w (w.alloc (.cells #[.int .i64 n, .string ⟨root.toArray⟩, .slice a vs.length cb] 53)) := (Below.refl _ _).alloc (Nat.le_refl _) _
  by_cases hb : root.length ≤ L
  · have hb' : (root.length : Int) ≤ (L : Int) := by omega
    obtain ⟨m, hmd⟩ : ∃ m : Nat, m + root.length = L := ⟨L - root.length, by omega⟩
    have e1 : (L : Int) - (root.length : Int) = (m : Int) := by omega
    have K1 := szVoteS_gen a cb vs m (w.alloc (.cells #[.int .i64 n, .string ⟨root.toArray⟩, .slice a vs.length cb] 53)) (by omega) hl hm (hs.later B1)
    clear hs hm
    go_enter Tryd.func26, Tryd.ntmps26
    go_wp2_with fail
    refine K1.mono ?_
    rintro e w1 ⟨he, b1⟩
    have B2 := B1.trans (b1.mono (by simp))
    clear K1 b1
    rcases he with rfl | ⟨hbb, k, hk, hkk, rfl⟩
    · go_wp2
      go_ret
      exact ⟨.inl rfl, B2⟩
    · have HN : Hid (root.length + (vs.length + sizeVs vs) ≤ L ∧ k ≤ L ∧ k + (root.length + (vs.length + sizeVs vs)) = L) := ⟨by omega, by omega, by omega⟩
      clear hkk hbb e1
      go_wp2
      go_ret
      exact ⟨.inr ⟨HN.out.1, k, HN.out.2.1, HN.out.2.2, rfl⟩, B2⟩
  · have hb' : (L : Int) - (root.length : Int) < 0 := by omega
    clear hs hm
    go_enter Tryd.func26, Tryd.ntmps26
    go_wp2
    go_ret
    exact ⟨.inl rfl, B1⟩

set_option maxRecDepth 100000 in
set_option maxHeartbeats 1000000 in
theorem eqCert_is (n : Int) (root : List UInt8) (u v : Option Addr) (c d : Nat) (vs : List VoteV) (w : World) (hl : vs.length ≤ 16777216) (hm : ∀ v ∈ vs, smallV v) (h1 : IsVotes w u vs) (h2 : IsVotes w v vs) :
    Calls Tryd.prog 30 #[.agg #[.int .i64 n, .string ⟨root.toArray⟩, .slice u vs.length c], .agg #[.int .i64 n, .string ⟨root.toArray⟩, .slice v vs.length d]] w fun e w' => e = .returned (.bool true) ∧ Below w.heap.size w w' := by
  obtain ⟨wa, hwa⟩ : ∃ wa, wa = (w.alloc (.cells #[.int .i64 n, .string ⟨root.toArray⟩, .slice u vs.length c] 58)).alloc (.cells #[.int .i64 n, .string ⟨root.toArray⟩, .slice v vs.length d] 58) := ⟨_, rfl⟩
  have Ba : Below w.heap.size w wa := by rw [hwa]; exact ((Below.refl _ _).alloc (Nat.le_refl _) _).alloc (by simp) _
  have K0 := eqVoteS_is vs u v c d wa hl hm (h1.later Ba) (h2.later Ba)
  clear h1 h2 hm
  rw [hwa] at K0
  go_enter Tryd.func30, Tryd.ntmps30
  go_wp2_with fail
  refine K0.mono ?_
  rintro e w1 ⟨rfl, b1⟩
  rw [← hwa] at b1
  have B1 := Ba.trans (b1.mono Ba.size)
  clear K0 b1
  go_wp2
  go_ret
  exact ⟨rfl, B1⟩

/-- The votes lie there whatever becomes of what lies below b0. -/
def VotesFrom (w : World) (b0 : Nat) (a : Option Addr) (vs : List VoteV) : Prop := ∀ W : World, (∀ k, b0 ≤ k → W.heap[k]? = w.heap[k]?) → IsVotes W a vs
theorem strs_block {w W : World} {g : Nat} {ls : List (List UInt8)} (h : IsStrs w (some ⟨g, 0, none⟩) ls) (e : W.heap[g]? = w.heap[g]?) : IsStrs W (some ⟨g, 0, none⟩) ls := by
  rcases h with h | ⟨b, off, h1, h2⟩
  · exact .inl h
  · cases h1
    exact .inr ⟨g, 0, rfl, fun q hq => (World.cell?_of_block (a := ⟨g, 0 + q, none⟩) e).trans (h2 q hq)⟩
/-- The first j votes are laid into the row of the block g. -/
def VoteRowF (w : World) (g : Nat) (vs : List VoteV) (xs : List Value) (j : Nat) : Prop := ∀ q (h : q < vs.length), q < j → ∃ g1 g2 : Nat, g < g1 ∧ g < g2 ∧ xs[q * 4]? = some (.int .i64 vs[q].nd) ∧ xs[q * 4 + 1]? = some (.int .i64 vs[q].i) ∧ xs[q * 4 + 2]? = some (.slice (some ⟨g1, 0, none⟩) vs[q].os.length vs[q].os.length) ∧ xs[q * 4 + 3]? = some (.slice (some ⟨g2, 0, none⟩) vs[q].ps.length vs[q].ps.length) ∧ IsStrs w (some ⟨g1, 0, none⟩) vs[q].os ∧ IsStrs w (some ⟨g2, 0, none⟩) vs[q].ps
theorem voteRowF_step {w w' : World} {g : Nat} {vs : List VoteV} {xs : List Value} {j g1 g2 : Nat} (hx : xs.length = vs.length * 4) (h : VoteRowF w g vs xs j) (hj : j < vs.length) (hb : Below w.heap.size w w') (n1 : g < g1) (n2 : g < g2) (i1 : IsStrs w' (some ⟨g1, 0, none⟩) vs[j].os) (i2 : IsStrs w' (some ⟨g2, 0, none⟩) vs[j].ps) (W : World) (hW : W = (((w'.setCell ⟨g, j * 4, none⟩ (.int .i64 vs[j].nd)).setCell ⟨g, j * 4 + 1, none⟩ (.int .i64 vs[j].i)).setCell ⟨g, j * 4 + 2, none⟩ (.slice (some ⟨g1, 0, none⟩) vs[j].os.length vs[j].os.length)).setCell ⟨g, j * 4 + 3, none⟩ (.slice (some ⟨g2, 0, none⟩) vs[j].ps.length vs[j].ps.length)) :
    VoteRowF W g vs ((((xs.set (j * 4) (.int .i64 vs[j].nd)).set (j * 4 + 1) (.int .i64 vs[j].i)).set (j * 4 + 2) (.slice (some ⟨g1, 0, none⟩) vs[j].os.length vs[j].os.length)).set (j * 4 + 3) (.slice (some ⟨g2, 0, none⟩) vs[j].ps.length vs[j].ps.length)) (j + 1) := by
  subst hW
  have keep : ∀ {b : Nat} {ls : List (List UInt8)}, b ≠ g → IsStrs w' (some ⟨b, 0, none⟩) ls → IsStrs ((((w'.setCell ⟨g, j * 4, none⟩ (.int .i64 vs[j].nd)).setCell ⟨g, j * 4 + 1, none⟩ (.int .i64 vs[j].i)).setCell ⟨g, j * 4 + 2, none⟩ (.slice (some ⟨g1, 0, none⟩) vs[j].os.length vs[j].os.length)).setCell ⟨g, j * 4 + 3, none⟩ (.slice (some ⟨g2, 0, none⟩) vs[j].ps.length vs[j].ps.length)) (some ⟨b, 0, none⟩) ls := fun hne hi =>
    have q := fun b' off (e : some (⟨_, 0, none⟩ : Addr) = some ⟨b', off, none⟩) => (by cases e; exact hne : b' ≠ g)
    strs_store (strs_store (strs_store (strs_store hi q _) q _) q _) q _
  intro q hq hqj
  by_cases e : q = j
  · subst e
    refine ⟨g1, g2, n1, n2, ?_, ?_, ?_, ?_, keep (by omega) i1, keep (by omega) i2⟩ <;> simp [List.getElem?_set] <;> omega
  · obtain ⟨h1, h2, m1, m2, c0, c1, c2, c3, s1, s2⟩ := h q hq (by omega)
    refine ⟨h1, h2, m1, m2, ?_, ?_, ?_, ?_, keep (by omega) (strs_later s1 hb), keep (by omega) (strs_later s2 hb)⟩
    · rw [List.getElem?_set_ne (by omega), List.getElem?_set_ne (by omega), List.getElem?_set_ne (by omega), List.getElem?_set_ne (by omega)]; exact c0
    · rw [List.getElem?_set_ne (by omega), List.getElem?_set_ne (by omega), List.getElem?_set_ne (by omega), List.getElem?_set_ne (by omega)]; exact c1
    · rw [List.getElem?_set_ne (by omega), List.getElem?_set_ne (by omega), List.getElem?_set_ne (by omega), List.getElem?_set_ne (by omega)]; exact c2
    · rw [List.getElem?_set_ne (by omega), List.getElem?_set_ne (by omega), List.getElem?_set_ne (by omega), List.getElem?_set_ne (by omega)]; exact c3
set_option maxRecDepth 100000 in
set_option maxHeartbeats 2000000 in
theorem toVoteS_from (a : Option Addr) (cap : Nat) (vs : List VoteV) (w : World) (hl : vs.length ≤ 1048576) (hm : ∀ v ∈ vs, smallV v) (hs : IsVotes w a vs) :
    Calls Tryd.prog 57 #[.slice a vs.length cap] w fun e w' => e = .returned (.slice (some ⟨w.heap.size, 0, none⟩) vs.length vs.length) ∧ VotesFrom w' w.heap.size (some ⟨w.heap.size, 0, none⟩) vs ∧ Below w.heap.size w w' := by
  obtain ⟨i0, hi0, hz0, hz1, hz2⟩ := info_parts infoVt
  have HVS : Hid (∀ W, Below w.heap.size w W → IsVotes W a vs) := fun W hW => hs.later hW
  have HM : Hid (∀ v ∈ vs, smallV v) := hm
  clear hs hm
  go_enter Tryd.func57, Tryd.ntmps57
  go_wp2_with (at_make; refine wpList_make_full _ rfl _ _ 56 rfl w.heap.size 33 i0 (.agg #[.int .i64 0, .int .i64 0, .slice none 0 0, .slice none 0 0]) 4 Tryd.underlying56 hi0 hz0 hz1 _ _ _ _ vs.length rfl rfl (by omega) (by omega) (by rw [hz2]; omega) (by unfold maxLen; omega) (Nat.le_refl _) ?_; intro w0 hown0 hgrow0)
  have hb0 := (Below.refl w.heap.size w).grown hgrow0 (Nat.le_refl _) (by simp)
  have hs0 := hgrow0.size
  obtain ⟨xs0, hxs0⟩ : ∃ xs : List Value, w0.ownsRow w.heap.size 33 4 (.slice (some ⟨w.heap.size, 0, none⟩) vs.length vs.length) vs.length xs := ⟨_, hown0⟩
  have HX0 := hidOwn4 hxs0
  clear hown0 hgrow0 hxs0
  go_loopw [4] (fun i wr => ∃ j : Nat, ∃ xs : List Value, j ≤ vs.length ∧ i = .int .i64 (j : Int) ∧ wr.ownsRow w.heap.size 33 4 (.slice (some ⟨w.heap.size, 0, none⟩) vs.length vs.length) vs.length xs ∧ VoteRowF wr w.heap.size vs xs j ∧ Below w.heap.size w wr) (fun i _ => vs.length - (intOf i).toNat)
  case atStart => exact ⟨0, xs0, Nat.zero_le _, rfl, HX0.out, fun q hq h => by omega, hb0⟩
  case round =>
    obtain ⟨j, xs, hj, rfl, hown, hrow, hbel⟩ := hrel
    have hsz := hbel.size
    by_cases hlt : j < vs.length
    · obtain ⟨b, off, rfl, hc⟩ : ∃ b off, a = some ⟨b, off, none⟩ ∧ ∀ j (h : j < vs.length), ∃ ao co ap cp, wr.cell? ⟨b, off + j * 4, none⟩ = some (.int .i64 vs[j].nd) ∧ wr.cell? ⟨b, off + j * 4 + 1, none⟩ = some (.int .i64 vs[j].i) ∧ wr.cell? ⟨b, off + j * 4 + 2, none⟩ = some (.slice ao vs[j].os.length co) ∧ wr.cell? ⟨b, off + j * 4 + 3, none⟩ = some (.slice ap vs[j].ps.length cp) ∧ IsStrs wr ao vs[j].os ∧ IsStrs wr ap vs[j].ps := by
        rcases HVS.out wr hbel with h | h
        · rw [h] at hlt; simp at hlt
        · exact h
      obtain ⟨ao, co, ap, cp, c0, c1, c2, c3, s1, s2⟩ := hc j hlt
      obtain ⟨m1, m2⟩ := HM.out vs[j] (List.getElem_mem hlt)
      have hj0 : (0 : Int) ≤ (j : Int) := by omega
      have hj1 : (j : Int) < (vs.length : Int) := by omega
      have HLEN : Hid (xs.length = vs.length * 4) := hown.1
      have HOW := hidOwn4 hown
      have HROW : Hid (VoteRowF wr w.heap.size vs xs j) := hrow
      have HSTEP : Hid (∀ (w1 : World) (g1 g2 : Nat), Below wr.heap.size wr w1 → w.heap.size < g1 → w.heap.size < g2 → IsStrs w1 (some ⟨g1, 0, none⟩) vs[j].os → IsStrs w1 (some ⟨g2, 0, none⟩) vs[j].ps → ∀ W, W = (((w1.setCell ⟨w.heap.size, j * 4, none⟩ (.int .i64 vs[j].nd)).setCell ⟨w.heap.size, j * 4 + 1, none⟩ (.int .i64 vs[j].i)).setCell ⟨w.heap.size, j * 4 + 2, none⟩ (.slice (some ⟨g1, 0, none⟩) vs[j].os.length vs[j].os.length)).setCell ⟨w.heap.size, j * 4 + 3, none⟩ (.slice (some ⟨g2, 0, none⟩) vs[j].ps.length vs[j].ps.length) → VoteRowF W w.heap.size vs ((((xs.set (j * 4) (.int .i64 vs[j].nd)).set (j * 4 + 1) (.int .i64 vs[j].i)).set (j * 4 + 2) (.slice (some ⟨g1, 0, none⟩) vs[j].os.length vs[j].os.length)).set (j * 4 + 3) (.slice (some ⟨g2, 0, none⟩) vs[j].ps.length vs[j].ps.length)) (j + 1)) := fun w1 g1 g2 hb n1 n2 i1 i2 W hW => voteRowF_step HLEN.out hrow hlt hb n1 n2 i1 i2 W hW
      obtain ⟨⟨nd, i, os, ps⟩, hx⟩ : ∃ x, x = vs[j] := ⟨_, rfl⟩
      rw [← hx] at c0 c1 c2 c3 s1 s2 m1 m2 HSTEP
      simp only at c0 c1 c2 c3 m1 m2
      have K := toVote_any nd i ao ap co cp os ps wr m1 m2 s1 s2
      have hgl := own_lt4 hown
      clear hc hx hown hrow s1 s2 HX0 hb0
      go_wp2_with fail
      refine K.mono ?_
      rintro e w1 ⟨g1, g2, rfl, o1, o2, b1⟩
      have hO1 := keptV4 HOW.out b1
      have B1 := hbel.trans (b1.mono hsz)
      have n1 : w.heap.size < g1 := by have := own_base o1; omega
      have n2 : w.heap.size < g2 := by have := own_base o2; omega
      have R1 : Hid (∀ W, W = _ → VoteRowF W w.heap.size vs _ (j + 1)) := HSTEP.out w1 g1 g2 b1 n1 n2 (isStrs_own o1).2.2 (isStrs_own o2).2.2
      obtain ⟨y0, hy0⟩ : ∃ o, w1.cell? ⟨w.heap.size, j * 4, none⟩ = some o := by rw [hO1.cellAt (j * 4) (by omega)]; exact ⟨_, List.getElem?_eq_getElem (by rw [HLEN.out]; omega)⟩
      obtain ⟨y1, hy1⟩ : ∃ o, w1.cell? ⟨w.heap.size, j * 4 + 1, none⟩ = some o := by rw [hO1.cellAt (j * 4 + 1) (by omega)]; exact ⟨_, List.getElem?_eq_getElem (by rw [HLEN.out]; omega)⟩
      obtain ⟨y2, hy2⟩ : ∃ o, w1.cell? ⟨w.heap.size, j * 4 + 2, none⟩ = some o := by rw [hO1.cellAt (j * 4 + 2) (by omega)]; exact ⟨_, List.getElem?_eq_getElem (by rw [HLEN.out]; omega)⟩
      obtain ⟨y3, hy3⟩ : ∃ o, w1.cell? ⟨w.heap.size, j * 4 + 3, none⟩ = some o := by rw [hO1.cellAt (j * 4 + 3) (by omega)]; exact ⟨_, List.getElem?_eq_getElem (by rw [HLEN.out]; omega)⟩
      have hf0 := hO1.frozenAt (j * 4)
      have hf1 := hO1.frozenAt (j * 4 + 1)
      have hf2 := hO1.frozenAt (j * 4 + 2)
      have hf3 := hO1.frozenAt (j * 4 + 3)
      have HST := hidOwn4 ((((hO1.stored (j * 4) (.int .i64 nd)).1.stored (j * 4 + 1) (.int .i64 i)).1.stored (j * 4 + 2) (.slice (some ⟨g1, 0, none⟩) os.length os.length)).1.stored (j * 4 + 3) (.slice (some ⟨g2, 0, none⟩) ps.length ps.length)).1
      have HB2 : Hid (Below w.heap.size w ((((w1.setCell ⟨w.heap.size, j * 4, none⟩ (.int .i64 nd)).setCell ⟨w.heap.size, j * 4 + 1, none⟩ (.int .i64 i)).setCell ⟨w.heap.size, j * 4 + 2, none⟩ (.slice (some ⟨g1, 0, none⟩) os.length os.length)).setCell ⟨w.heap.size, j * 4 + 3, none⟩ (.slice (some ⟨g2, 0, none⟩) ps.length ps.length))) := (((B1.setCell (Nat.le_refl _) _).setCell (Nat.le_refl _) _).setCell (Nat.le_refl _) _).setCell (Nat.le_refl _) _
      clear hO1 b1 o1 o2 K HOW HSTEP HROW c0 c1 c2 c3
      go_wp2
      go_roundw
      case rel => exact ⟨j + 1, _, by omega, by go_num, HST.out, R1.out _ rfl, HB2.out⟩
      case measure => simp [intOf]; omega
    · have hjl : j = vs.length := by omega
      subst hjl
      have HI : Hid (VotesFrom wr w.heap.size (some ⟨w.heap.size, 0, none⟩) vs) := fun W hW => .inr ⟨w.heap.size, 0, rfl, fun q hq => by
        obtain ⟨g1, g2, m1, m2, d0, d1, d2, d3, s1, s2⟩ := hrow q hq hq
        have hb : ∀ o, W.cell? ⟨w.heap.size, o, none⟩ = wr.cell? ⟨w.heap.size, o, none⟩ := fun o => World.cell?_of_block (a := ⟨w.heap.size, o, none⟩) (hW _ (Nat.le_refl _))
        refine ⟨some ⟨g1, 0, none⟩, vs[q].os.length, some ⟨g2, 0, none⟩, vs[q].ps.length, ?_, ?_, ?_, ?_, strs_block s1 (hW g1 (by omega)), strs_block s2 (hW g2 (by omega))⟩
        · rw [hb, Nat.zero_add, hown.cellAt (q * 4) (by omega)]; exact d0
        · rw [hb, Nat.zero_add, hown.cellAt (q * 4 + 1) (by omega)]; exact d1
        · rw [hb, Nat.zero_add, hown.cellAt (q * 4 + 2) (by omega)]; exact d2
        · rw [hb, Nat.zero_add, hown.cellAt (q * 4 + 3) (by omega)]; exact d3⟩
      clear hown hrow HX0 hb0
      go_wp2
      go_ret
      exact ⟨rfl, HI.out, hbel⟩

set_option maxRecDepth 100000 in
set_option maxHeartbeats 1000000 in
theorem toCert_any (n : Int) (root : List UInt8) (a : Option Addr) (cb : Nat) (vs : List VoteV) (w : World) (hl : vs.length ≤ 1048576) (hm : ∀ v ∈ vs, smallV v) (hs : IsVotes w a vs) :
    Calls Tryd.prog 28 #[.agg #[.int .i64 n, .string ⟨root.toArray⟩, .slice a vs.length cb]] w fun e w' => ∃ g : Nat, e = .returned (.agg #[.int .i64 n, .string ⟨root.toArray⟩, .slice (some ⟨g, 0, none⟩) vs.length vs.length]) ∧ IsVotes w' (some ⟨g, 0, none⟩) vs ∧ Below w.heap.size w w' := by
  obtain ⟨wa, hwa⟩ : ∃ wa, wa = ((w.alloc (.cells #[.int .i64 n, .string ⟨root.toArray⟩, .slice a vs.length cb] 53)).alloc (.cells #[.int .i64 0, .string ⟨#[]⟩, .slice none 0 0] 58)).alloc (.cells #[.int .i64 n, .string ⟨root.toArray⟩, .slice none 0 0] 58) := ⟨_, rfl⟩
  have Ba : Below w.heap.size w wa := by rw [hwa]; exact (((Below.refl _ _).alloc (Nat.le_refl _) _).alloc (by simp) _).alloc (by simp; omega) _
  have sa : wa.heap.size = w.heap.size + 3 := by rw [hwa]; simp
  have a1 : wa.heap[w.heap.size + 1]? = some (.cells #[.int .i64 0, .string ⟨#[]⟩, .slice none 0 0] 58 (0, 0)) := by rw [hwa, Below.heap_alloc _ _ _ (by simp)]; exact new_atV _ (by simp) _
  have a2 : wa.heap[w.heap.size + 2]? = some (.cells #[.int .i64 n, .string ⟨root.toArray⟩, .slice none 0 0] 58 (0, 0)) := by rw [hwa]; exact new_atV _ (by simp) _
  have K1 := toVoteS_from a cb vs wa hl hm (hs.later Ba)
  have HWA : Hid (wa = ((w.alloc (.cells #[.int .i64 n, .string ⟨root.toArray⟩, .slice a vs.length cb] 53)).alloc (.cells #[.int .i64 0, .string ⟨#[]⟩, .slice none 0 0] 58)).alloc (.cells #[.int .i64 n, .string ⟨root.toArray⟩, .slice none 0 0] 58)) := hwa
  rw [sa] at K1
  clear hs hm hwa
  go_enter Tryd.func28, Tryd.ntmps28
  go_wp2_with fail
  rw [← HWA.out]
  refine K1.mono ?_
  rintro e w1 ⟨rfl, v1, b1'⟩
  have b1 : Below wa.heap.size wa w1 := by rw [sa]; exact b1'
  have B1 := Ba.trans (b1.mono (by omega))
  have e1 := (b1.block (w.heap.size + 1) (by omega)).trans a1
  have e2 := (b1.block (w.heap.size + 2) (by omega)).trans a2
  have V1 : Hid (VotesFrom w1 (w.heap.size + 3) (some ⟨w.heap.size + 3, 0, none⟩) vs) := v1
  obtain ⟨p0, p1, p2, pf⟩ := tri_cells e2
  obtain ⟨q0, q1, q2, qf⟩ := tri_cells e1
  have pf2 := pf 2
  have qf0 := qf 0
  have qf1 := qf 1
  have qf2 := qf 2
  clear K1 a1 a2 b1 b1' Ba v1 sa pf qf HWA
  go_wp2
  have y1 : (w1.setCell ⟨w.heap.size + 1 + 1, 2, none⟩ (.slice (some ⟨w.heap.size + 3, 0, none⟩) vs.length vs.length)).heap[w.heap.size + 1]? = _ := (Below.heap_setCell _ _ _ _ (by simp)).trans e1
  have y5 := tri_set (j := 2) (y := (.slice (some ⟨w.heap.size + 3, 0, none⟩) vs.length vs.length)) (tri_set (j := 1) (y := .string ⟨root.toArray⟩) (tri_set (j := 0) (y := .int .i64 n) y1))
  exact bodyPost_ret (v := .agg #[.int .i64 n, .string ⟨root.toArray⟩, .slice (some ⟨w.heap.size + 3, 0, none⟩) vs.length vs.length]) (results_cell_row rfl _ _ (w.heap.size + 1) 58 _ (0, 0) _ rfl y5 Tryd.underlying58 rfl (by kernel_rfl)) rfl ⟨w.heap.size + 3, rfl, V1.out _ (fun k hk => (Below.heap_setCell _ _ _ _ (by simp; omega)).trans ((Below.heap_setCell _ _ _ _ (by simp; omega)).trans ((Below.heap_setCell _ _ _ _ (by simp; omega)).trans (Below.heap_setCell _ _ _ _ (by simp; omega))))), (((B1.setCell (by simp; omega) _).setCell (by simp) _).setCell (by simp) _).setCell (by simp) _⟩
end Go.Proofs.YtajckopldkmcnaaDoor
namespace Go.Proofs.YtajckopldkmcnaaDoor
open Go.ChangeShapes Go.WideShapes Go.ChangeAt Go.RowKit
set_option linter.unusedVariables false

set_option maxRecDepth 100000 in
theorem votes_of {H : Type} {enc : TypeId × Value → H} {W : World} {fuel : Nat} {u : Value} {y : DataW H × List MemPlace} (hf : DataW.trod enc Tryd.prog W 0 (fun _ => true) true fuel 51 [u] = some y) :
    ∃ (a : Option Addr) (vs : List VoteV) (cap : Nat), u = .slice a vs.length cap ∧ (∀ v ∈ vs, bigV v) ∧ IsVotes W a vs ∧ vs.length ≤ 9223372036854775807 := by
  rcases Go.Deep.open_slice Tryd.underlying51 hf with ⟨hcs, _⟩ | ⟨a, len, cap, m, n, D, Pl, hcs, _, hl, hm, hmm, _, hx⟩
  · simp at hcs
    exact ⟨none, [], 0, hcs, by simp, .inl rfl, by simp⟩
  · simp at hcs
    unfold maxLen at hm
    simp only [if_true] at hmm
    have ce : Tryd.prog.cellsOf 43 = 4 := by kernel_rfl
    have c1 : Tryd.prog.cellsOf 2 = 1 := by kernel_rfl
    have c3 : Tryd.prog.cellsOf 41 = 3 := by kernel_rfl
    have cs1 : Tryd.prog.cellsOf 29 = 1 := by kernel_rfl
    have each : ∀ i, ∃ q : VoteV, i < len → (∃ ao co ap cp, W.cell? (a.add (i * 4)) = some (.int .i64 q.nd) ∧ W.cell? (a.add (i * 4 + 1)) = some (.int .i64 q.i) ∧ W.cell? (a.add (i * 4 + 2)) = some (.slice ao q.os.length co) ∧ W.cell? (a.add (i * 4 + 3)) = some (.slice ap q.ps.length cp) ∧ IsStrs W ao q.os ∧ IsStrs W ap q.ps) ∧ bigV q := by
      intro i
      by_cases hi : i < len
      · obtain ⟨cs', h1, h2⟩ := hx i (by omega)
        rw [ce] at h1
        obtain ⟨_, hlen, hcell⟩ := World.cells?_some h1
        match cs', hlen with
        | [v0, v1, v2, v3], _ =>
          obtain ⟨y0, y1, n, _, _, h0, h3⟩ := trod_struct2 Tryd.underlying43 h2
          simp [c1, c3] at h0 h3
          obtain ⟨z0, z1, z2, m, _, _, g0, g1, g2⟩ := Go.Deep.trod_struct3 Tryd.underlying41 h3
          simp [c1, cs1] at g0 g1 g2
          have e0 := hcell 0 (by omega)
          have e1 := hcell 1 (by omega)
          have e2 := hcell 2 (by omega)
          have e3 := hcell 3 (by omega)
          rw [Go.Deep.add_add] at e0 e1 e2 e3
          obtain ⟨nd, rfl⟩ := int_of h0
          obtain ⟨i', rfl⟩ := int_of g0
          obtain ⟨ao, os, co, rfl, m1, s1, l1⟩ := strs_of g1
          obtain ⟨ap, ps, cp, rfl, m2, s2, l2⟩ := strs_of g2
          exact ⟨⟨nd, i', os, ps⟩, fun _ => ⟨⟨ao, co, ap, cp, by simpa using e0, by simpa using e1, by simpa using e2, by simpa using e3, s1, s2⟩, l1, l2, m1, m2⟩⟩
      · exact ⟨⟨0, 0, [], []⟩, fun h => absurd h hi⟩
    obtain ⟨q, hq⟩ := Classical.skolem.1 each
    refine ⟨some a, (List.range len).map q, cap, by rw [hcs]; simp, ?_, ?_, by simp; omega⟩
    · intro p hp
      simp only [List.mem_map, List.mem_range] at hp
      obtain ⟨i, hi, rfl⟩ := hp
      exact (hq i hi).2
    · by_cases h0 : len = 0
      · exact .inl (by simp [h0])
      · obtain ⟨b, off, spot⟩ := a
        obtain ⟨_, _, _, _, hc, _⟩ := (hq 0 (by omega)).1
        have hspot : spot = none := by simpa [Addr.add] using World.cell?_spot hc
        subst hspot
        refine .inr ⟨b, off, rfl, fun j hj => ?_⟩
        simp at hj
        have hcj := (hq j hj).1
        have e1 : (⟨b, off, none⟩ : Addr).add (j * 4) = ⟨b, off + j * 4, none⟩ := by simp [Addr.add]
        have e2 : (⟨b, off, none⟩ : Addr).add (j * 4 + 1) = ⟨b, off + j * 4 + 1, none⟩ := by simp [Addr.add, Nat.add_assoc]
        have e3 : (⟨b, off, none⟩ : Addr).add (j * 4 + 2) = ⟨b, off + j * 4 + 2, none⟩ := by simp [Addr.add, Nat.add_assoc]
        have e4 : (⟨b, off, none⟩ : Addr).add (j * 4 + 3) = ⟨b, off + j * 4 + 3, none⟩ := by simp [Addr.add, Nat.add_assoc]
        rw [e1, e2, e3, e4] at hcj
        simp only [List.getElem_map, List.getElem_range]
        exact hcj

set_option maxRecDepth 100000 in
theorem cert_of {H : Type} {enc : TypeId × Value → H} {W : World} {r : Reach} {b0 : Nat} {v : Value} {d : DataW H} {p : List MemPlace} (hv : Value.okWide Tryd.prog W r b0 53 v) (h : DataW.Trod enc Tryd.prog W 0 (fun _ => true) true 53 v d p) :
    ∃ (n : Int) (root : List UInt8) (a : Option Addr) (cap : Nat) (vs : List VoteV), v = .agg #[.int .i64 n, .string ⟨root.toArray⟩, .slice a vs.length cap] ∧ root.length ≤ 9223372036854775807 ∧ IsVotes W a vs ∧ vs.length ≤ 9223372036854775807 ∧ (∀ v ∈ vs, bigV v) := by
  obtain ⟨u0, u1, u2, y0, y1, y2, n, rfl, _, _, t0, t1, t2⟩ := Go.Joins.open_agg3 Tryd.underlying53 (by kernel_rfl) (by kernel_rfl) hv h
  obtain ⟨c, hc, _, _⟩ := DataW.trod_int Tryd.underlying2 t0
  obtain ⟨s0, hs0, _, w0⟩ := DataW.trod_string Tryd.underlying9 t1
  obtain ⟨a, vs, cap, rfl, m2, i2, l2⟩ := votes_of t2
  simp at hc hs0
  subst hc hs0
  unfold maxLen at w0
  exact ⟨c, s0.data.toList, a, cap, vs, by simp, by simp only [Array.length_toList]; exact w0, i2, l2, m2⟩
end Go.Proofs.YtajckopldkmcnaaDoor
