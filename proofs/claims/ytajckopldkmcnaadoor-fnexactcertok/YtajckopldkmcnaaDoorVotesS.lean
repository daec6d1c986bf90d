/-
  Lists of votes: where they lie, the laws' own helpers on them (written by mkvotess.py).
-/
import Derived.Test.YtajckopldkmcnaaDoorVoteL
import Derived.Test.YtajckopldkmcnaaDoorStrsX
import Derived.Laws.OwnMore
namespace Go.Proofs.YtajckopldkmcnaaDoor
open Go.RowKit
set_option linter.unusedVariables false

structure VoteV where
  nd : Int
  i : Int
  os : List (List UInt8)
  ps : List (List UInt8)
/-- The votes lie there: four cells each, the two lists of texts elsewhere. -/
def IsVotes (w : World) (a : Option Addr) (vs : List VoteV) : Prop :=
  vs = [] ∨ ∃ b off, a = some ⟨b, off, none⟩ ∧ ∀ j (h : j < vs.length), ∃ ao co ap cp, w.cell? ⟨b, off + j * 4, none⟩ = some (.int .i64 vs[j].nd) ∧ w.cell? ⟨b, off + j * 4 + 1, none⟩ = some (.int .i64 vs[j].i) ∧ w.cell? ⟨b, off + j * 4 + 2, none⟩ = some (.slice ao vs[j].os.length co) ∧ w.cell? ⟨b, off + j * 4 + 3, none⟩ = some (.slice ap vs[j].ps.length cp) ∧ IsStrs w ao vs[j].os ∧ IsStrs w ap vs[j].ps
theorem IsVotes.later {w w' : World} {a : Option Addr} {vs : List VoteV} (h : IsVotes w a vs) (hb : Below w.heap.size w w') : IsVotes w' a vs := by
  rcases h with h | ⟨b, off, h1, h2⟩
  · exact .inl h
  · refine .inr ⟨b, off, h1, fun j hj => ?_⟩
    obtain ⟨ao, co, ap, cp, c0, c1, c2, c3, s1, s2⟩ := h2 j hj
    have hl := World.block_lt_of_cell? w _ c0
    exact ⟨ao, co, ap, cp, (hb.cell (p := ⟨b, off + j * 4, none⟩) hl).trans c0, (hb.cell (p := ⟨b, off + j * 4 + 1, none⟩) hl).trans c1, (hb.cell (p := ⟨b, off + j * 4 + 2, none⟩) hl).trans c2, (hb.cell (p := ⟨b, off + j * 4 + 3, none⟩) hl).trans c3, strs_later s1 hb, strs_later s2 hb⟩
def sizeV (v : VoteV) : Nat := v.os.length + v.os.flatten.length + v.ps.length + v.ps.flatten.length
def sizeVs (vs : List VoteV) : Nat := (vs.map sizeV).sum
theorem sizeVs_take (vs : List VoteV) (j : Nat) (h : j < vs.length) : sizeVs (vs.take (j + 1)) = sizeVs (vs.take j) + sizeV vs[j] := by
  rw [List.take_succ_eq_append_getElem h, sizeVs, sizeVs, List.map_append, List.sum_append]; simp
theorem sizeVs_at (vs : List VoteV) (j : Nat) (h : j < vs.length) : sizeV vs[j] ≤ sizeVs vs := by
  have : ∀ (l : List VoteV) (v : VoteV), v ∈ l → sizeV v ≤ sizeVs l := fun l => by
    induction l with
    | nil => simp
    | cons x r ih =>
      intro v hv
      rcases List.mem_cons.1 hv with rfl | h1
      · simp [sizeVs]
      · have := ih v h1; simp only [sizeVs, List.map_cons, List.sum_cons] at this ⊢; omega
  exact this vs _ (List.getElem_mem h)
/-- No text of a vote that came in is too long for a machine. -/
def bigV (v : VoteV) : Prop := v.os.length ≤ 9223372036854775807 ∧ v.ps.length ≤ 9223372036854775807 ∧ (∀ l ∈ v.os, l.length ≤ 9223372036854775807) ∧ (∀ l ∈ v.ps, l.length ≤ 9223372036854775807)

set_option maxRecDepth 100000 in
set_option maxHeartbeats 1000000 in
theorem szVoteS_gen (a : Option Addr) (cap : Nat) (vs : List VoteV) (L : Nat) (w : World) (hL : L ≤ 1048576) (hl : vs.length ≤ 9223372036854775807) (hm : ∀ v ∈ vs, bigV v) (hs : IsVotes w a vs) :
    Calls Tryd.prog 56 #[.slice a vs.length cap, .int .i64 (L : Int)] w fun e w' => (e = .returned (.int .i64 (-1)) ∨ (vs.length + sizeVs vs ≤ L ∧ ∃ n : Nat, n ≤ L ∧ n + (vs.length + sizeVs vs) = L ∧ e = .returned (.int .i64 (n : Int)))) ∧ Below w.heap.size w w' := by
  by_cases hb : vs.length ≤ L
  · have hb' : (vs.length : Int) ≤ (L : Int) := by omega
    have HVS : Hid (∀ W, Below w.heap.size w W → IsVotes W a vs) := fun W hW => hs.later hW
    have HM : Hid (∀ v ∈ vs, bigV v) := hm
    clear hs hm
    go_enter Tryd.func56, Tryd.ntmps56
    go_wp2
    go_loopw [1, 5] (fun v i wr => ∃ j q : Nat, j ≤ vs.length ∧ i = .int .i64 (j : Int) ∧ v = .int .i64 (q : Int) ∧ q + vs.length + sizeVs (vs.take j) = L ∧ Below w.heap.size w wr) (fun _ i _ => vs.length - (intOf i).toNat)
    case atStart => exact ⟨0, L - vs.length, Nat.zero_le _, rfl, by simp; omega, by simp [sizeVs]; omega, Below.refl _ _⟩
    case round =>
      obtain ⟨j, q, hj, rfl, rfl, hq, hbel⟩ := hrel
      have hsz := hbel.size
      by_cases hlt : j < vs.length
      · obtain ⟨b, off, rfl, hc⟩ : ∃ b off, a = some ⟨b, off, none⟩ ∧ ∀ j (h : j < vs.length), ∃ ao co ap cp, wr.cell? ⟨b, off + j * 4, none⟩ = some (.int .i64 vs[j].nd) ∧ wr.cell? ⟨b, off + j * 4 + 1, none⟩ = some (.int .i64 vs[j].i) ∧ wr.cell? ⟨b, off + j * 4 + 2, none⟩ = some (.slice ao vs[j].os.length co) ∧ wr.cell? ⟨b, off + j * 4 + 3, none⟩ = some (.slice ap vs[j].ps.length cp) ∧ IsStrs wr ao vs[j].os ∧ IsStrs wr ap vs[j].ps := by
          rcases HVS.out wr hbel with h | h
          · rw [h] at hlt; simp at hlt
          · exact h
        obtain ⟨ao, co, ap, cp, c0, c1, c2, c3, s1, s2⟩ := hc j hlt
        obtain ⟨m1, m2, m3, m4⟩ := HM.out vs[j] (List.getElem_mem hlt)
        have HS : Hid (sizeVs (vs.take (j + 1)) = sizeVs (vs.take j) + sizeV vs[j]) := sizeVs_take vs j hlt
        have hj0 : (0 : Int) ≤ (j : Int) := by omega
        have hj1 : (j : Int) < (vs.length : Int) := by omega
        have hqs : q ≤ 1048576 := by omega
        have HQ : Hid (q + vs.length + sizeVs (vs.take j) = L) := hq
        obtain ⟨⟨nd, i, os, ps⟩, hx⟩ : ∃ x, x = vs[j] := ⟨_, rfl⟩
        rw [← hx] at c0 c1 c2 c3 s1 s2 m1 m2 m3 m4 HS
        have K := fun W (h1 : IsStrs W ao os) (h2 : IsStrs W ap ps) => szVote_gen nd i ao ap co cp os ps q W hqs m1 m3 m2 m4 h1 h2
        simp only [sizeV] at HS c0 c1 c2 c3
        have I : Hid (IsStrs wr ao os ∧ IsStrs wr ap ps) := ⟨s1, s2⟩
        clear hc hx hq m3 m4 s1 s2
        go_wp2_with fail
        refine (K _ I.out.1 I.out.2).mono ?_
        rintro e w1 ⟨he, b1⟩
        have B1 := hbel.trans (b1.mono hsz)
        clear K b1 hbel
        rcases he with rfl | ⟨hn, k, hk, hkk, rfl⟩
        · go_wp2
          go_ret
          exact ⟨.inl rfl, B1⟩
        · have HK : Hid (k + vs.length + sizeVs (vs.take (j + 1)) = L) := by rw [Hid, HS.out]; have := HQ.out; omega
          clear hn hkk
          go_wp2
          go_roundw
          case rel => exact ⟨j + 1, k, by omega, by go_num, rfl, HK.out, B1⟩
          case measure => simp [intOf]; omega
      · have hjl : j = vs.length := by omega
        subst hjl
        have HQ : Hid (vs.length + sizeVs vs ≤ L ∧ q ≤ L ∧ q + (vs.length + sizeVs vs) = L) := by rw [Hid]; rw [List.take_length] at hq; omega
        clear hq
        go_wp2
        go_ret
        exact ⟨.inr ⟨HQ.out.1, q, HQ.out.2.1, HQ.out.2.2, rfl⟩, hbel⟩
  · have hb' : ¬ (vs.length : Int) ≤ (L : Int) := by omega
    clear hs hm
    go_enter Tryd.func56, Tryd.ntmps56
    go_wp2
    go_ret
    exact ⟨.inl rfl, Below.refl _ _⟩

theorem hidOwn4 {w : World} {b e n : Nat} {v : Value} {xs : List Value} (h : w.ownsRow b e 4 v n xs) : Hid (w.ownsRow b e 4 v n xs) := h
theorem own_lt4 {w : World} {b e n g m cap : Nat} {xs : List Value} (h : w.ownsRow b e 4 (.slice (some ⟨g, 0, none⟩) m cap) n xs) : g < w.heap.size := (h.lt g (by simp [Value.ownBlock])).2
theorem strs_store {w : World} {a : Option Addr} {ls : List (List UInt8)} {g j : Nat} (h : IsStrs w a ls) (hne : ∀ b off, a = some ⟨b, off, none⟩ → b ≠ g) (y : Value) : IsStrs (w.setCell ⟨g, j, none⟩ y) a ls := by
  rcases h with h | ⟨b, off, h1, h2⟩
  · exact .inl h
  · exact .inr ⟨b, off, h1, fun q hq => (World.cell?_of_block (a := ⟨b, off + q, none⟩) (Below.heap_setCell _ _ _ _ (hne b off h1))).trans (h2 q hq)⟩
/-- The first j votes are laid into the row of the block g. -/
def VoteRow (w : World) (g : Nat) (vs : List VoteV) (xs : List Value) (j : Nat) : Prop := ∀ q (h : q < vs.length), q < j → ∃ g1 g2 : Nat, g1 ≠ g ∧ g2 ≠ g ∧ xs[q * 4]? = some (.int .i64 vs[q].nd) ∧ xs[q * 4 + 1]? = some (.int .i64 vs[q].i) ∧ xs[q * 4 + 2]? = some (.slice (some ⟨g1, 0, none⟩) vs[q].os.length vs[q].os.length) ∧ xs[q * 4 + 3]? = some (.slice (some ⟨g2, 0, none⟩) vs[q].ps.length vs[q].ps.length) ∧ IsStrs w (some ⟨g1, 0, none⟩) vs[q].os ∧ IsStrs w (some ⟨g2, 0, none⟩) vs[q].ps
theorem voteRow_step {w w' : World} {g : Nat} {vs : List VoteV} {xs : List Value} {j g1 g2 : Nat} (hx : xs.length = vs.length * 4) (h : VoteRow w g vs xs j) (hj : j < vs.length) (hb : Below w.heap.size w w') (n1 : g1 ≠ g) (n2 : g2 ≠ g) (i1 : IsStrs w' (some ⟨g1, 0, none⟩) vs[j].os) (i2 : IsStrs w' (some ⟨g2, 0, none⟩) vs[j].ps) (W : World) (hW : W = (((w'.setCell ⟨g, j * 4, none⟩ (.int .i64 vs[j].nd)).setCell ⟨g, j * 4 + 1, none⟩ (.int .i64 vs[j].i)).setCell ⟨g, j * 4 + 2, none⟩ (.slice (some ⟨g1, 0, none⟩) vs[j].os.length vs[j].os.length)).setCell ⟨g, j * 4 + 3, none⟩ (.slice (some ⟨g2, 0, none⟩) vs[j].ps.length vs[j].ps.length)) :
    VoteRow W g vs ((((xs.set (j * 4) (.int .i64 vs[j].nd)).set (j * 4 + 1) (.int .i64 vs[j].i)).set (j * 4 + 2) (.slice (some ⟨g1, 0, none⟩) vs[j].os.length vs[j].os.length)).set (j * 4 + 3) (.slice (some ⟨g2, 0, none⟩) vs[j].ps.length vs[j].ps.length)) (j + 1) := by
  subst hW
  have keep : ∀ {b : Nat} {ls : List (List UInt8)}, b ≠ g → IsStrs w' (some ⟨b, 0, none⟩) ls → IsStrs ((((w'.setCell ⟨g, j * 4, none⟩ (.int .i64 vs[j].nd)).setCell ⟨g, j * 4 + 1, none⟩ (.int .i64 vs[j].i)).setCell ⟨g, j * 4 + 2, none⟩ (.slice (some ⟨g1, 0, none⟩) vs[j].os.length vs[j].os.length)).setCell ⟨g, j * 4 + 3, none⟩ (.slice (some ⟨g2, 0, none⟩) vs[j].ps.length vs[j].ps.length)) (some ⟨b, 0, none⟩) ls := fun hne hi =>
    have q := fun b' off (e : some (⟨_, 0, none⟩ : Addr) = some ⟨b', off, none⟩) => (by cases e; exact hne : b' ≠ g)
    strs_store (strs_store (strs_store (strs_store hi q _) q _) q _) q _
  intro q hq hqj
  by_cases e : q = j
  · subst e
    refine ⟨g1, g2, n1, n2, ?_, ?_, ?_, ?_, keep n1 i1, keep n2 i2⟩ <;> simp [List.getElem?_set] <;> omega
  · obtain ⟨h1, h2, m1, m2, c0, c1, c2, c3, s1, s2⟩ := h q hq (by omega)
    refine ⟨h1, h2, m1, m2, ?_, ?_, ?_, ?_, keep m1 (strs_later s1 hb), keep m2 (strs_later s2 hb)⟩
    · rw [List.getElem?_set_ne (by omega), List.getElem?_set_ne (by omega), List.getElem?_set_ne (by omega), List.getElem?_set_ne (by omega)]; exact c0
    · rw [List.getElem?_set_ne (by omega), List.getElem?_set_ne (by omega), List.getElem?_set_ne (by omega), List.getElem?_set_ne (by omega)]; exact c1
    · rw [List.getElem?_set_ne (by omega), List.getElem?_set_ne (by omega), List.getElem?_set_ne (by omega), List.getElem?_set_ne (by omega)]; exact c2
    · rw [List.getElem?_set_ne (by omega), List.getElem?_set_ne (by omega), List.getElem?_set_ne (by omega), List.getElem?_set_ne (by omega)]; exact c3
theorem infoVt : (Tryd.prog.info? 33).map (fun i => (i.zero, i.size, i.bytes)) = some (some (.agg #[.int .i64 0, .int .i64 0, .slice none 0 0, .slice none 0 0]), 4, 64) := by kernel_rfl
theorem keptV4 {w w' : World} {b e n : Nat} {v : Value} {xs : List Value} (h : w.ownsRow b e 4 v n xs) (hb : Below w.heap.size w w') : w'.ownsRow b e 4 v n xs :=
  h.kept (row := none) ⟨hb.os, hb.tape, hb.output, hb.size, fun k hk _ => hb.block k hk⟩ (by cases v.ownBlock with | none => exact .inl rfl | some k => exact .inr (by simp))
/-- A vote as the laws copy it, of both parts small. -/
def smallV (v : VoteV) : Prop := v.os.length ≤ 1048576 ∧ v.ps.length ≤ 1048576

set_option maxRecDepth 100000 in
set_option maxHeartbeats 2000000 in
theorem toVoteS_any (a : Option Addr) (cap : Nat) (vs : List VoteV) (w : World) (hl : vs.length ≤ 1048576) (hm : ∀ v ∈ vs, smallV v) (hs : IsVotes w a vs) :
    Calls Tryd.prog 57 #[.slice a vs.length cap] w fun e w' => e = .returned (.slice (some ⟨w.heap.size, 0, none⟩) vs.length vs.length) ∧ IsVotes w' (some ⟨w.heap.size, 0, none⟩) vs ∧ Below w.heap.size w w' := by
  obtain ⟨i0, hi0, hz0, hz1, hz2⟩ := info_parts infoVt
  have HVS : Hid (∀ W, Below w.heap.size w W → IsVotes W a vs) := fun W hW => hs.later hW
  have HM : Hid (∀ v ∈ vs, smallV v) := hm
  clear hs hm
  go_enter Tryd.func57, Tryd.ntmps57
  go_wp2_with (at_make; refine wpList_make_full _ rfl _ _ 56 rfl w.heap.size 33 i0 (.agg #[.int .i64 0, .int .i64 0, .slice none 0 0, .slice none 0 0]) 4 Tryd.underlying56 hi0 hz0 hz1 _ _ _ _ vs.length rfl rfl (by omega) (by omega) (by rw [hz2]; omega) (by unfold maxLen; omega) (Nat.le_refl _) ?_; intro w0 hown0 hgrow0)
  have hb0 := (Below.refl w.heap.size w).grown hgrow0 (Nat.le_refl _) (by simp)
  have hs0 := hgrow0.size
  obtain ⟨xs0, hxs0⟩ : ∃ xs : List Value, w0.ownsRow w.heap.size 33 4 (.slice (some ⟨w.heap.size, 0, none⟩) vs.length vs.length) vs.length xs := ⟨_, hown0⟩
  have HX0 := hidOwn4 hxs0
  clear hown0 hgrow0 hxs0
  go_loopw [4] (fun i wr => ∃ j : Nat, ∃ xs : List Value, j ≤ vs.length ∧ i = .int .i64 (j : Int) ∧ wr.ownsRow w.heap.size 33 4 (.slice (some ⟨w.heap.size, 0, none⟩) vs.length vs.length) vs.length xs ∧ VoteRow wr w.heap.size vs xs j ∧ Below w.heap.size w wr) (fun i _ => vs.length - (intOf i).toNat)
  case atStart => exact ⟨0, xs0, Nat.zero_le _, rfl, HX0.out, fun q hq h => by omega, hb0⟩
  case round =>
    obtain ⟨j, xs, hj, rfl, hown, hrow, hbel⟩ := hrel
    have hsz := hbel.size
    by_cases hlt : j < vs.length
    · obtain ⟨b, off, rfl, hc⟩ : ∃ b off, a = some ⟨b, off, none⟩ ∧ ∀ j (h : j < vs.length), ∃ ao co ap cp, wr.cell? ⟨b, off + j * 4, none⟩ = some (.int .i64 vs[j].nd) ∧ wr.cell? ⟨b, off + j * 4 + 1, none⟩ = some (.int .i64 vs[j].i) ∧ wr.cell? ⟨b, off + j * 4 + 2, none⟩ = some (.slice ao vs[j].os.length co) ∧ wr.cell? ⟨b, off + j * 4 + 3, none⟩ = some (.slice ap vs[j].ps.length cp) ∧ IsStrs wr ao vs[j].os ∧ IsStrs wr ap vs[j].ps := by
        rcases HVS.out wr hbel with h | h
        · rw [h] at hlt; simp at hlt
        · exact h
      obtain ⟨ao, co, ap, cp, c0, c1, c2, c3, s1, s2⟩ := hc j hlt
      obtain ⟨m1, m2⟩ := HM.out vs[j] (List.getElem_mem hlt)
      have hj0 : (0 : Int) ≤ (j : Int) := by omega
      have hj1 : (j : Int) < (vs.length : Int) := by omega
      have HLEN : Hid (xs.length = vs.length * 4) := hown.1
      have HOW := hidOwn4 hown
      have HROW : Hid (VoteRow wr w.heap.size vs xs j) := hrow
      have HSTEP : Hid (∀ (w1 : World) (g1 g2 : Nat), Below wr.heap.size wr w1 → g1 ≠ w.heap.size → g2 ≠ w.heap.size → IsStrs w1 (some ⟨g1, 0, none⟩) vs[j].os → IsStrs w1 (some ⟨g2, 0, none⟩) vs[j].ps → ∀ W, W = (((w1.setCell ⟨w.heap.size, j * 4, none⟩ (.int .i64 vs[j].nd)).setCell ⟨w.heap.size, j * 4 + 1, none⟩ (.int .i64 vs[j].i)).setCell ⟨w.heap.size, j * 4 + 2, none⟩ (.slice (some ⟨g1, 0, none⟩) vs[j].os.length vs[j].os.length)).setCell ⟨w.heap.size, j * 4 + 3, none⟩ (.slice (some ⟨g2, 0, none⟩) vs[j].ps.length vs[j].ps.length) → VoteRow W w.heap.size vs ((((xs.set (j * 4) (.int .i64 vs[j].nd)).set (j * 4 + 1) (.int .i64 vs[j].i)).set (j * 4 + 2) (.slice (some ⟨g1, 0, none⟩) vs[j].os.length vs[j].os.length)).set (j * 4 + 3) (.slice (some ⟨g2, 0, none⟩) vs[j].ps.length vs[j].ps.length)) (j + 1)) := fun w1 g1 g2 hb n1 n2 i1 i2 W hW => voteRow_step HLEN.out hrow hlt hb n1 n2 i1 i2 W hW
      obtain ⟨⟨nd, i, os, ps⟩, hx⟩ : ∃ x, x = vs[j] := ⟨_, rfl⟩
      rw [← hx] at c0 c1 c2 c3 s1 s2 m1 m2 HSTEP
      simp only at c0 c1 c2 c3 m1 m2
      have K := toVote_any nd i ao ap co cp os ps wr m1 m2 s1 s2
      have hgl := own_lt4 hown
      clear hc hx hown hrow s1 s2 HX0 hb0
      go_wp2_with fail
      refine K.mono ?_
      rintro e w1 ⟨g1, g2, rfl, o1, o2, b1⟩
      have hO1 := keptV4 HOW.out b1
      have B1 := hbel.trans (b1.mono hsz)
      have n1 : g1 ≠ w.heap.size := by have := own_base o1; omega
      have n2 : g2 ≠ w.heap.size := by have := own_base o2; omega
      have R1 : Hid (∀ W, W = _ → VoteRow W w.heap.size vs _ (j + 1)) := HSTEP.out w1 g1 g2 b1 n1 n2 (isStrs_own o1).2.2 (isStrs_own o2).2.2
      obtain ⟨y0, hy0⟩ : ∃ o, w1.cell? ⟨w.heap.size, j * 4, none⟩ = some o := by rw [hO1.cellAt (j * 4) (by omega)]; exact ⟨_, List.getElem?_eq_getElem (by rw [HLEN.out]; omega)⟩
      obtain ⟨y1, hy1⟩ : ∃ o, w1.cell? ⟨w.heap.size, j * 4 + 1, none⟩ = some o := by rw [hO1.cellAt (j * 4 + 1) (by omega)]; exact ⟨_, List.getElem?_eq_getElem (by rw [HLEN.out]; omega)⟩
      obtain ⟨y2, hy2⟩ : ∃ o, w1.cell? ⟨w.heap.size, j * 4 + 2, none⟩ = some o := by rw [hO1.cellAt (j * 4 + 2) (by omega)]; exact ⟨_, List.getElem?_eq_getElem (by rw [HLEN.out]; omega)⟩
      obtain ⟨y3, hy3⟩ : ∃ o, w1.cell? ⟨w.heap.size, j * 4 + 3, none⟩ = some o := by rw [hO1.cellAt (j * 4 + 3) (by omega)]; exact ⟨_, List.getElem?_eq_getElem (by rw [HLEN.out]; omega)⟩
      have hf0 := hO1.frozenAt (j * 4)
      have hf1 := hO1.frozenAt (j * 4 + 1)
      have hf2 := hO1.frozenAt (j * 4 + 2)
      have hf3 := hO1.frozenAt (j * 4 + 3)
      have HST := hidOwn4 ((((hO1.stored (j * 4) (.int .i64 nd)).1.stored (j * 4 + 1) (.int .i64 i)).1.stored (j * 4 + 2) (.slice (some ⟨g1, 0, none⟩) os.length os.length)).1.stored (j * 4 + 3) (.slice (some ⟨g2, 0, none⟩) ps.length ps.length)).1
      have HB2 : Hid (Below w.heap.size w ((((w1.setCell ⟨w.heap.size, j * 4, none⟩ (.int .i64 nd)).setCell ⟨w.heap.size, j * 4 + 1, none⟩ (.int .i64 i)).setCell ⟨w.heap.size, j * 4 + 2, none⟩ (.slice (some ⟨g1, 0, none⟩) os.length os.length)).setCell ⟨w.heap.size, j * 4 + 3, none⟩ (.slice (some ⟨g2, 0, none⟩) ps.length ps.length))) := (((B1.setCell (Nat.le_refl _) _).setCell (Nat.le_refl _) _).setCell (Nat.le_refl _) _).setCell (Nat.le_refl _) _
      clear hO1 b1 o1 o2 K HOW HSTEP HROW c0 c1 c2 c3
      go_wp2
      go_roundw
      case rel => exact ⟨j + 1, _, by omega, by go_num, HST.out, R1.out _ rfl, HB2.out⟩
      case measure => simp [intOf]; omega
    · have hjl : j = vs.length := by omega
      subst hjl
      have HI : Hid (IsVotes wr (some ⟨w.heap.size, 0, none⟩) vs) := .inr ⟨w.heap.size, 0, rfl, fun q hq => by
        obtain ⟨g1, g2, _, _, d0, d1, d2, d3, s1, s2⟩ := hrow q hq hq
        refine ⟨some ⟨g1, 0, none⟩, vs[q].os.length, some ⟨g2, 0, none⟩, vs[q].ps.length, ?_, ?_, ?_, ?_, s1, s2⟩
        · rw [Nat.zero_add, hown.cellAt (q * 4) (by omega)]; exact d0
        · rw [Nat.zero_add, hown.cellAt (q * 4 + 1) (by omega)]; exact d1
        · rw [Nat.zero_add, hown.cellAt (q * 4 + 2) (by omega)]; exact d2
        · rw [Nat.zero_add, hown.cellAt (q * 4 + 3) (by omega)]; exact d3⟩
      clear hown hrow HX0 hb0
      go_wp2
      go_ret
      exact ⟨rfl, HI.out, hbel⟩
end Go.Proofs.YtajckopldkmcnaaDoor
