/-
  Contracts of the laws' own helpers: equal texts, signatures, votes and lists of votes, wherever they lie (written by mkvotese.py).
-/
import Derived.Test.YtajckopldkmcnaaDoorVotesS
namespace Go.Proofs.YtajckopldkmcnaaDoor
open Go.RowKit
set_option linter.unusedVariables false

set_option maxRecDepth 100000 in
set_option maxHeartbeats 400000 in
theorem eqS_is (ls : List (List UInt8)) (a a' : Option Addr) (c c' : Nat) (w : World) (hl : ls.length ≤ 16777216) (hu : IsStrs w a ls) (hv : IsStrs w a' ls) :
    Calls Tryd.prog 25 #[.slice a ls.length c, .slice a' ls.length c'] w fun e w' => e = .returned (.bool true) ∧ ∃ q, w' = w.drewN q := by
  rcases hu with rfl | ⟨b, off, rfl, hc⟩
  · go_enter Tryd.func25, Tryd.ntmps25
    go_wp2
    refine wp_loop_rounds 1 ?_
    rw [rounds_succ]
    go_wp2
    go_ret
    exact ⟨rfl, 0, rfl⟩
  · rcases hv with rfl | ⟨b', off', rfl, hc'⟩
    · go_enter Tryd.func25, Tryd.ntmps25
      go_wp2
      refine wp_loop_rounds 1 ?_
      rw [rounds_succ]
      go_wp2
      go_ret
      exact ⟨rfl, 0, rfl⟩
    · go_enter Tryd.func25, Tryd.ntmps25
      go_wp2
      go_loopw [5] (fun i wr => ∃ j q : Nat, j ≤ ls.length ∧ i = .int .i64 (j : Int) ∧ wr = w.drewN q) (fun i _ => ls.length - (intOf i).toNat)
      case atStart => exact ⟨0, 0, Nat.zero_le _, rfl, rfl⟩
      case round =>
        obtain ⟨j, q, hj, rfl, rfl⟩ := hrel
        by_cases hlt : j < ls.length
        · have c1 := hc j hlt
          have c2 := hc' j hlt
          have hj0 : (0 : Int) ≤ (j : Int) := by omega
          have hj1 : (j : Int) < (ls.length : Int) := by omega
          obtain ⟨x, hx⟩ : ∃ x, x = ls[j] := ⟨_, rfl⟩
          rw [← hx] at c1 c2
          clear hc hc' hx
          go_wp2
          go_quiet (fail)
          go_wp2
          go_roundw
          case rel => exact ⟨j + 1, _, by omega, by go_num, rfl⟩
          case measure => simp [intOf]; omega
        · go_wp2
          go_ret
          exact ⟨rfl, q, rfl⟩

set_option maxRecDepth 100000 in
set_option maxHeartbeats 400000 in
theorem eqSig_is (i : Int) (u1 u2 v1 v2 : Option Addr) (c1 c2 d1 d2 : Nat) (os ps : List (List UInt8)) (w : World) (ho : os.length ≤ 16777216) (hp : ps.length ≤ 16777216) (h1 : IsStrs w u1 os) (h2 : IsStrs w u2 ps) (h3 : IsStrs w v1 os) (h4 : IsStrs w v2 ps) :
    Calls Tryd.prog 48 #[.agg #[.int .i64 i, .slice u1 os.length c1, .slice u2 ps.length c2], .agg #[.int .i64 i, .slice v1 os.length d1, .slice v2 ps.length d2]] w fun e w' => e = .returned (.bool true) ∧ Below w.heap.size w w' := by
  have HH : Hid (IsStrs w u2 ps ∧ IsStrs w v2 ps) := ⟨h2, h4⟩
  obtain ⟨wa, hwa⟩ : ∃ wa, wa = (w.alloc (.cells #[.int .i64 i, .slice u1 os.length c1, .slice u2 ps.length c2] 31)).alloc (.cells #[.int .i64 i, .slice v1 os.length d1, .slice v2 ps.length d2] 31) := ⟨_, rfl⟩
  have Ba : Below w.heap.size w wa := by rw [hwa]; exact ((Below.refl _ _).alloc (Nat.le_refl _) _).alloc (by simp) _
  have K1 := eqS_is os u1 v1 c1 d1 wa ho (strs_later h1 Ba) (strs_later h3 Ba)
  rw [hwa] at K1
  have e0 : wa.heap[w.heap.size]? = some (.cells #[.int .i64 i, .slice u1 os.length c1, .slice u2 ps.length c2] 31 (0, 0)) := by rw [hwa, Below.heap_alloc _ _ _ (by simp)]; exact heap_alloc_new w _
  have e1 : wa.heap[w.heap.size + 1]? = some (.cells #[.int .i64 i, .slice v1 os.length d1, .slice v2 ps.length d2] 31 (0, 0)) := by rw [hwa]; exact new_atV _ (by simp) _
  clear h1 h2 h3 h4
  go_enter Tryd.func48, Tryd.ntmps48
  go_wp2_with fail
  refine K1.mono ?_
  rintro e w1 ⟨rfl, q, rfl⟩
  rw [← hwa]
  obtain ⟨_, _, p2, _⟩ := tri_cells e0
  obtain ⟨_, _, q2, _⟩ := tri_cells e1
  have Bq : Below w.heap.size w (wa.drewN q) := ⟨Ba.os, Ba.tape, Ba.output, Ba.size, Ba.block⟩
  have K2 := eqS_is ps u2 v2 c2 d2 (wa.drewN q) hp (strs_later HH.out.1 Bq) (strs_later HH.out.2 Bq)
  clear K1 hwa e0 e1
  go_wp2_with fail
  refine K2.mono ?_
  rintro e w2 ⟨rfl, q3, rfl⟩
  clear K2
  go_wp2
  go_ret
  exact ⟨rfl, Ba.os, Ba.tape, Ba.output, Ba.size, Ba.block⟩

set_option maxRecDepth 100000 in
set_option maxHeartbeats 400000 in
theorem eqVote_is (nd i : Int) (u1 u2 v1 v2 : Option Addr) (c1 c2 d1 d2 : Nat) (os ps : List (List UInt8)) (w : World) (ho : os.length ≤ 16777216) (hp : ps.length ≤ 16777216) (h1 : IsStrs w u1 os) (h2 : IsStrs w u2 ps) (h3 : IsStrs w v1 os) (h4 : IsStrs w v2 ps) :
    Calls Tryd.prog 16 #[.agg #[.int .i64 nd, .int .i64 i, .slice u1 os.length c1, .slice u2 ps.length c2], .agg #[.int .i64 nd, .int .i64 i, .slice v1 os.length d1, .slice v2 ps.length d2]] w fun e w' => e = .returned (.bool true) ∧ Below w.heap.size w w' := by
  obtain ⟨wa, hwa⟩ : ∃ wa, wa = (w.alloc (.cells #[.int .i64 nd, .int .i64 i, .slice u1 os.length c1, .slice u2 ps.length c2] 33)).alloc (.cells #[.int .i64 nd, .int .i64 i, .slice v1 os.length d1, .slice v2 ps.length d2] 33) := ⟨_, rfl⟩
  have Ba : Below w.heap.size w wa := by rw [hwa]; exact ((Below.refl _ _).alloc (Nat.le_refl _) _).alloc (by simp) _
  have K0 := eqSig_is i u1 u2 v1 v2 c1 c2 d1 d2 os ps wa ho hp (strs_later h1 Ba) (strs_later h2 Ba) (strs_later h3 Ba) (strs_later h4 Ba)
  clear h1 h2 h3 h4
  rw [hwa] at K0
  go_enter Tryd.func16, Tryd.ntmps16
  go_wp2_with fail
  refine K0.mono ?_
  rintro e w1 ⟨rfl, b1⟩
  rw [← hwa] at b1
  have B1 := Ba.trans (b1.mono Ba.size)
  clear K0 b1
  go_wp2
  go_ret
  exact ⟨rfl, B1⟩

set_option maxRecDepth 100000 in
set_option maxHeartbeats 2000000 in
theorem eqVoteS_is (vs : List VoteV) (a a' : Option Addr) (c c' : Nat) (w : World) (hl : vs.length ≤ 16777216) (hm : ∀ v ∈ vs, smallV v) (hu : IsVotes w a vs) (hv : IsVotes w a' vs) :
    Calls Tryd.prog 59 #[.slice a vs.length c, .slice a' vs.length c'] w fun e w' => e = .returned (.bool true) ∧ Below w.heap.size w w' := by
  have HVS : Hid (∀ W, Below w.heap.size w W → IsVotes W a vs ∧ IsVotes W a' vs) := fun W hW => ⟨hu.later hW, hv.later hW⟩
  have HM : Hid (∀ v ∈ vs, smallV v) := hm
  clear hu hv hm
  go_enter Tryd.func59, Tryd.ntmps59
  go_wp2
  go_loopw [5] (fun i wr => ∃ j : Nat, j ≤ vs.length ∧ i = .int .i64 (j : Int) ∧ Below w.heap.size w wr) (fun i _ => vs.length - (intOf i).toNat)
  case atStart => exact ⟨0, Nat.zero_le _, rfl, Below.refl _ _⟩
  case round =>
    obtain ⟨j, hj, rfl, hbel⟩ := hrel
    have hsz := hbel.size
    by_cases hlt : j < vs.length
    · obtain ⟨b, off, rfl, hc⟩ : ∃ b off, a = some ⟨b, off, none⟩ ∧ ∀ j (h : j < vs.length), ∃ ao co ap cp, wr.cell? ⟨b, off + j * 4, none⟩ = some (.int .i64 vs[j].nd) ∧ wr.cell? ⟨b, off + j * 4 + 1, none⟩ = some (.int .i64 vs[j].i) ∧ wr.cell? ⟨b, off + j * 4 + 2, none⟩ = some (.slice ao vs[j].os.length co) ∧ wr.cell? ⟨b, off + j * 4 + 3, none⟩ = some (.slice ap vs[j].ps.length cp) ∧ IsStrs wr ao vs[j].os ∧ IsStrs wr ap vs[j].ps := by
        rcases (HVS.out wr hbel).1 with h | h
        · rw [h] at hlt; simp at hlt
        · exact h
      obtain ⟨b', off', rfl, hc'⟩ : ∃ b' off', a' = some ⟨b', off', none⟩ ∧ ∀ j (h : j < vs.length), ∃ ao co ap cp, wr.cell? ⟨b', off' + j * 4, none⟩ = some (.int .i64 vs[j].nd) ∧ wr.cell? ⟨b', off' + j * 4 + 1, none⟩ = some (.int .i64 vs[j].i) ∧ wr.cell? ⟨b', off' + j * 4 + 2, none⟩ = some (.slice ao vs[j].os.length co) ∧ wr.cell? ⟨b', off' + j * 4 + 3, none⟩ = some (.slice ap vs[j].ps.length cp) ∧ IsStrs wr ao vs[j].os ∧ IsStrs wr ap vs[j].ps := by
        rcases (HVS.out wr hbel).2 with h | h
        · rw [h] at hlt; simp at hlt
        · exact h
      obtain ⟨u1, c1, u2, c2, x0, x1, x2, x3, s1, s2⟩ := hc j hlt
      obtain ⟨v1, d1, v2, d2, y0, y1, y2, y3, r1, r2⟩ := hc' j hlt
      obtain ⟨m1, m2⟩ := HM.out vs[j] (List.getElem_mem hlt)
      have hj0 : (0 : Int) ≤ (j : Int) := by omega
      have hj1 : (j : Int) < (vs.length : Int) := by omega
      obtain ⟨⟨nd, i, os, ps⟩, hx⟩ : ∃ x, x = vs[j] := ⟨_, rfl⟩
      rw [← hx] at x0 x1 x2 x3 y0 y1 y2 y3 s1 s2 r1 r2 m1 m2
      simp only at x0 x1 x2 x3 y0 y1 y2 y3 m1 m2
      have hd : Below wr.heap.size wr wr.drew := ⟨rfl, rfl, rfl, Nat.le_refl _, fun _ _ => rfl⟩
      have K := eqVote_is nd i u1 u2 v1 v2 c1 c2 d1 d2 os ps wr.drew (by omega) (by omega) (strs_later s1 hd) (strs_later s2 hd) (strs_later r1 hd) (strs_later r2 hd)
      have SX : Hid (wr.cell? ⟨b, off + j * 4, none⟩ = some (.int .i64 nd) ∧ wr.cell? ⟨b, off + j * 4 + 1, none⟩ = some (.int .i64 i) ∧ wr.cell? ⟨b, off + j * 4 + 2, none⟩ = some (.slice u1 os.length c1) ∧ wr.cell? ⟨b, off + j * 4 + 3, none⟩ = some (.slice u2 ps.length c2) ∧ wr.cell? ⟨b', off' + j * 4, none⟩ = some (.int .i64 nd) ∧ wr.cell? ⟨b', off' + j * 4 + 1, none⟩ = some (.int .i64 i) ∧ wr.cell? ⟨b', off' + j * 4 + 2, none⟩ = some (.slice v1 os.length d1) ∧ wr.cell? ⟨b', off' + j * 4 + 3, none⟩ = some (.slice v2 ps.length d2)) := ⟨x0, x1, x2, x3, y0, y1, y2, y3⟩
      have hbl := World.block_lt_of_cell? wr _ x0
      have hbl2 := World.block_lt_of_cell? wr _ y0
      clear hc hc' hx s1 s2 r1 r2 hd
      go_wp2_with fail
      go_region_held3 (fun w' => w'.cell? ⟨b, off + j * 4, none⟩ = some (.int .i64 nd) ∧ w'.cell? ⟨b, off + j * 4 + 1, none⟩ = some (.int .i64 i) ∧ w'.cell? ⟨b, off + j * 4 + 2, none⟩ = some (.slice u1 os.length c1) ∧ w'.cell? ⟨b, off + j * 4 + 3, none⟩ = some (.slice u2 ps.length c2) ∧ w'.cell? ⟨b', off' + j * 4, none⟩ = some (.int .i64 nd) ∧ w'.cell? ⟨b', off' + j * 4 + 1, none⟩ = some (.int .i64 i) ∧ w'.cell? ⟨b', off' + j * 4 + 2, none⟩ = some (.slice v1 os.length d1) ∧ w'.cell? ⟨b', off' + j * 4 + 3, none⟩ = some (.slice v2 ps.length d2))
        (first | exact S2.out | exact SX.out)
        (first
          | (go_at_call 16
             refine K.mono ?_
             rintro e w2 ⟨rfl, b2⟩
             have b2' : Below wr.heap.size wr w2 := ⟨b2.os, b2.tape, b2.output, b2.size, b2.block⟩
             have B2 := hbel.trans (b2'.mono hsz)
             have S2 : Hid (w2.cell? ⟨b, off + j * 4, none⟩ = some (.int .i64 nd) ∧ w2.cell? ⟨b, off + j * 4 + 1, none⟩ = some (.int .i64 i) ∧ w2.cell? ⟨b, off + j * 4 + 2, none⟩ = some (.slice u1 os.length c1) ∧ w2.cell? ⟨b, off + j * 4 + 3, none⟩ = some (.slice u2 ps.length c2) ∧ w2.cell? ⟨b', off' + j * 4, none⟩ = some (.int .i64 nd) ∧ w2.cell? ⟨b', off' + j * 4 + 1, none⟩ = some (.int .i64 i) ∧ w2.cell? ⟨b', off' + j * 4 + 2, none⟩ = some (.slice v1 os.length d1) ∧ w2.cell? ⟨b', off' + j * 4 + 3, none⟩ = some (.slice v2 ps.length d2)) := ⟨(b2'.cell (p := ⟨b, off + j * 4, none⟩) hbl).trans SX.out.1, (b2'.cell (p := ⟨b, off + j * 4 + 1, none⟩) hbl).trans SX.out.2.1, (b2'.cell (p := ⟨b, off + j * 4 + 2, none⟩) hbl).trans SX.out.2.2.1, (b2'.cell (p := ⟨b, off + j * 4 + 3, none⟩) hbl).trans SX.out.2.2.2.1, (b2'.cell (p := ⟨b', off' + j * 4, none⟩) hbl2).trans SX.out.2.2.2.2.1, (b2'.cell (p := ⟨b', off' + j * 4 + 1, none⟩) hbl2).trans SX.out.2.2.2.2.2.1, (b2'.cell (p := ⟨b', off' + j * 4 + 2, none⟩) hbl2).trans SX.out.2.2.2.2.2.2.1, (b2'.cell (p := ⟨b', off' + j * 4 + 3, none⟩) hbl2).trans SX.out.2.2.2.2.2.2.2⟩
             clear b2 b2'))
      all_goals
        go_wp2
        go_roundw
        case rel => exact ⟨j + 1, by omega, by go_num, B2⟩
        case measure => simp [intOf]; omega
    · go_wp2
      go_ret
      exact ⟨rfl, hbel⟩
end Go.Proofs.YtajckopldkmcnaaDoor
