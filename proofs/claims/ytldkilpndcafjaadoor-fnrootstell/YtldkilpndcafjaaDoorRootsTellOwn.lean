/-
  At every code unlike pairs have unlike roots, unless two unlike nodes have one hash: FnRootsTell answers true. No condition; the round words are laid as the program's text lays them.
-/
import Derived.Test.YtldkilpndcafjaaDoorDrawPs
import Derived.Test.YtldkilpndcafjaaDoorMathTellP
import Derived.Test.YtldkilpndcafjaaDoorSetAll
import Derived.Test.YtldkilpndcafjaaDoorLaidAll
import Derived.Test.YtldkilpndcafjaaDoorSeatAll
import Derived.Test.YtldkilpndcafjaaDoorTie
import Derived.Test.YtldkilpndcafjaaDoorCards
import Derived.ProofKit
import Derived.LaidMore
import Derived.OpenShut
import Derived.ShutString
import Derived.ChangeOld
import Derived.Below
import Derived.Stop.Joined
import Derived.Lib.LaidTab
import Derived.SevenTiedAt
import Derived.SliceStrings
namespace Go.Proofs.YtldkilpndcafjaaDoor.fnRootsTell
open Go.ChangeShapes Go.WideShapes Go.ChangeAt Go.RowKit
open Go.ChangeMaps (open_string shut_string)
set_option linter.unusedVariables false

theorem own : ownKnob Tryd.prog.godebug = none := by kernel_rfl
theorem laidOut0 : laidOutB Tryd.prog = true := by kernel_rfl
theorem gTab : Tryd.prog.globalNamed "loop.example/g00226/impl.roundWords" = some 1 := by kernel_rfl
theorem tTab : (Tryd.prog.globals[1]?).map (·.type) = some 127 := by kernel_rfl

/-- The door's own heap meets the condition. -/
theorem door_met (os : Os) (args : Array Value) : laidMetH Tryd.prog Rows.fnRootsTellRow.laid ((World.doorLaid Tryd.prog 400 os).forCall (fun _ _ => 0) ⟨#[], args, []⟩).memory :=
  laidMetH_of_parts3 (fuel := 8) (laidMet_of_run' 8 (by kernel_rfl) (by kernel_rfl)) (by kernel_rfl) (by kernel_rfl)

/-- What the condition gives the walks: the round words' cells. -/
theorem tab_of {W : World} (h : laidMetH Tryd.prog Rows.fnRootsTellRow.laid W) : Tab W := by
  rw [MakeChecks.laidMetH_plain _ _ _ (by kernel_rfl)] at h
  have hT : Lib.TabIs Tryd.prog W "loop.example/g00226/impl.roundWords" .u32 (kL.map fun x => num x) := Lib.tabIs_of_head (rest := []) gTab tTab Tryd.underlying127 Tryd.underlying92 (by kernel_rfl) (by kernel_rfl) h
  have hc : ∀ i, i < 64 → W.cell? ⟨1, i, none⟩ = some (.int .u32 (num (kL.getD i 0))) := fun i hi => by
    have hl : i < kL.length := hi
    have := hT.cell gTab i (by rw [List.length_map]; exact hl)
    rw [this]
    simp [List.getD, hl]
  exact ⟨block_lt_of_cell (hc 0 (by omega)), hc⟩

theorem small_le {ps : List PairL} (h : smallP ps) : ∀ p ∈ ps, p.1.length ≤ 1048576 ∧ p.2.length ≤ 1048576 := fun p hp => by
  have := h p hp
  exact ⟨by omega, by omega⟩

theorem set_small {ps : List PairL} {k v : List UInt8} (h : smallP ps) (hk : k.length ≤ 5) (hv : v.length ≤ 5) (hl : ps.length ≤ 9) : (setR ps k v).length ≤ 10 ∧ ∀ p ∈ setR ps k v, p.1.length ≤ 1048576 ∧ p.2.length ≤ 1048576 := by
  unfold setR
  split
  · have h1 := setL_len ps k v
    exact ⟨by omega, small_le (smallP_set h (by omega) hv)⟩
  · exact ⟨by simp, fun p hp => by simp at hp⟩

set_option maxRecDepth 100000 in
set_option maxHeartbeats 4000000 in
theorem walk (a0 : Option Addr) (len0 cap0 : Nat) (w : World) (w0 : Code w a0 len0) (hT : Tab w) :
    Calls Tryd.prog 3 #[.slice a0 len0 cap0] w fun e w' => e = .returned (.bool true) ∧ Below w.heap.size w w' := by
  by_cases hb : len0 ≤ 1048576
  · have HB := bigNo len0 cap0 a0 w hb
    have HC : Hid (Code w a0 len0) := w0
    have HT : Hid (Tab w) := hT
    clear w0 hT
    go_enter Tryd.func3, Tryd.ntmps3
    go_wp2_with fail
    refine HB.mono ?_
    rintro e w ⟨rfl, rfl⟩
    clear HB
    have HD := drawSetPair len0 cap0 a0 w hb HC.out
    go_wp2_with fail
    refine HD.mono ?_
    rintro e w1 ⟨ps, g, c, k, v, hpl, hsm, hkl, hvl, rfl, o1, B1⟩
    have hmm := small_le hsm
    obtain ⟨hrl, hrm⟩ := set_small hsm hkl hvl hpl
    have hcap : ps.length ≤ c := by
      rcases o1.2 with ⟨h1, _⟩ | ⟨g', c', cur, h1, _, _, h3, _⟩
      · cases h1
      · cases h1; exact h3
    have I1 := (isPairs_own o1).2.2
    have K1 := impl_setPair g 0 c ps k v w1 (by omega) hcap hmm (by omega) (by omega) I1
    have HK2 : Hid (∀ W, IsPairs W (some ⟨g, 0, none⟩) ps → _) := fun W h => spec_setPair (some ⟨g, 0, none⟩) c ps k v W (by omega) hmm (by omega) (by omega) h
    have HK3 : Hid (∀ a c W, IsPairs W a ps → Tab W → _) := fun a c W h hT => impl_rootOf a c ps W (by omega) hmm h hT
    have HK4 : Hid (∀ a c W, IsPairs W a ps → Tab W → _) := fun a c W h hT => impl_nodesOf a c ps W (by omega) hmm h hT
    have HK5 : Hid (∀ a c W, IsPairs W a (setR ps k v) → Tab W → _) := fun a c W h hT => impl_rootOf a c (setR ps k v) W (by omega) hrm h hT
    have HK6 : Hid (∀ a c W, IsPairs W a (setR ps k v) → Tab W → _) := fun a c W h hT => impl_nodesOf a c (setR ps k v) W (by omega) hrm h hT
    have HVAL : Hid (setOk ps k v = true → (findL (setR ps k v) k).getD [] = v) := fun h => by rw [setR, if_pos h]; exact set_value ps k v
    obtain ⟨r, hr⟩ : ∃ r, r = setR ps k v := ⟨_, rfl⟩
    obtain ⟨ok, hok⟩ : ∃ ok, ok = setOk ps k v := ⟨_, rfl⟩
    rw [← hr, ← hok] at K1 HK2 HVAL
    rw [← hr] at HK5 HK6 hrl
    have HI1 : Hid (∀ W, Below w1.heap.size w1 W → IsPairs W (some ⟨g, 0, none⟩) ps) := fun W hW => I1.later hW
    clear HD hsm hmm hrm o1 I1 hr hok
    go_wp2_with fail
    refine K1.mono ?_
    rintro e w2 ⟨ma, mm, mc, rfl, o2, b2⟩
    have B2 := B1.trans (b2.mono B1.size)
    have HO2 := hidOwn o2
    obtain ⟨rfl, _, _⟩ := isPairs_own o2
    have BB2 : Hid (Below w1.heap.size w1 w2) := b2
    clear K1 o2 b2
    go_wp2_with fail
    refine (HK2.out w2 (HI1.out w2 BB2.out)).mono ?_
    rintro e w3 ⟨na, nm, nc, rfl, o3, b3⟩
    have B3 := B2.trans (b3.mono B2.size)
    have HM3 : Hid (IsPairs w3 ma r) := (isPairs_own (kept2 HO2.out b3)).2.2
    have HN3 : Hid (IsPairs w3 na r) := (isPairs_own o3).2.2
    obtain ⟨rfl, _, _⟩ := isPairs_own o3
    have BB3 : Hid (Below w1.heap.size w1 w3) := BB2.out.trans (b3.mono BB2.out.size)
    clear HK2 HO2 o3 b3 BB2
    have KS := samePairs_same r ma na mc nc w3 (by omega) HM3.out HN3.out
    go_wp2_with fail
    refine KS.mono ?_
    rintro e w4 ⟨rfl, b4⟩
    have B4 := B3.trans (b4.mono B3.size)
    have HM4 : Hid (IsPairs w4 ma r) := HM3.out.later b4
    have HN4 : Hid (IsPairs w4 na r) := HN3.out.later b4
    have BB4 : Hid (Below w1.heap.size w1 w4) := BB3.out.trans (b4.mono BB3.out.size)
    clear KS HM3 HN3 b4 BB3
    cases ok with
    | false =>
      have KS := samePairs_same r ma na mc nc w4 (by omega) HM4.out HN4.out
      go_wp2_with fail
      refine KS.mono ?_
      rintro e w5 ⟨rfl, b5⟩
      have B5 := B4.trans (b5.mono B4.size)
      go_wp2
      go_ret
      exact ⟨rfl, B5⟩
    | true =>
      have KV := lawValue_any ma mc r k w4 (by omega) HM4.out
      rw [HVAL.out rfl] at KV
      go_wp2_with fail
      refine KV.mono ?_
      rintro e w5 ⟨rfl, b5⟩
      have B5 := B4.trans (b5.mono B4.size)
      have HM5 : Hid (IsPairs w5 ma r) := HM4.out.later b5
      have BB5 : Hid (Below w1.heap.size w1 w5) := BB4.out.trans (b5.mono BB4.out.size)
      have HTELL : Hid (rootOk ps = true → rootOk r = true → ¬ ps = r → rootR ps = rootR r → ∃ x ∈ nodesR ps, ∃ y ∈ nodesR r, x.1 = y.1 ∧ x.2 ≠ y.2) := fun h1 h2 h3 h4 => tell_pairs ps r h1 h2 h3 h4
      have K5 := HK3.out (some ⟨g, 0, none⟩) c w5 (HI1.out w5 BB5.out) (HT.out.later B5)
      have hxl := nodesR_len ps
      have hyl := nodesR_len r
      have HREF : Hid (ps = r → rootR ps = rootR r) := fun h => by rw [h]
      obtain ⟨r1, hr1⟩ : ∃ r1, r1 = rootR ps := ⟨_, rfl⟩
      obtain ⟨r2, hr2⟩ : ∃ r2, r2 = rootR r := ⟨_, rfl⟩
      obtain ⟨i1, hi1⟩ : ∃ i1, i1 = rootOk ps := ⟨_, rfl⟩
      obtain ⟨i2, hi2⟩ : ∃ i2, i2 = rootOk r := ⟨_, rfl⟩
      obtain ⟨X, hX⟩ : ∃ X, X = nodesR ps := ⟨_, rfl⟩
      obtain ⟨Y, hY⟩ : ∃ Y, Y = nodesR r := ⟨_, rfl⟩
      rw [← hr1, ← hr2] at HTELL HREF
      rw [← hi1, ← hi2, ← hX, ← hY] at HTELL
      rw [← hr1, ← hi1] at HK3 K5
      rw [← hr2, ← hi2] at HK5
      rw [← hi1, ← hX] at HK4
      rw [← hi2, ← hY] at HK6
      rw [← hX] at hxl
      rw [← hY] at hyl
      clear KV HVAL HM4 HN4 b5 BB4 hr1 hr2 hi1 hi2 hX hY HK3
      go_wp2_with fail
      refine K5.mono ?_
      rintro e w6 ⟨rfl, b6⟩
      have B6 := B5.trans (b6.mono B5.size)
      have HM6 : Hid (IsPairs w6 ma r) := HM5.out.later b6
      have BB6 : Hid (Below w1.heap.size w1 w6) := BB5.out.trans (b6.mono BB5.out.size)
      have K6 := HK5.out ma mc w6 HM6.out (HT.out.later B6)
      clear K5 HM5 b6 BB5 HK5
      go_wp2_with fail
      refine K6.mono ?_
      rintro e w7 ⟨rfl, b7⟩
      have B7 := B6.trans (b7.mono B6.size)
      have HM7 : Hid (IsPairs w7 ma r) := HM6.out.later b7
      have BB7 : Hid (Below w1.heap.size w1 w7) := BB6.out.trans (b7.mono BB6.out.size)
      clear K6 HM6 b7 BB6
      cases i1 with
      | false =>
        go_wp2
        go_ret
        exact ⟨rfl, B7⟩
      | true =>
        cases i2 with
        | false =>
          go_wp2
          go_ret
          exact ⟨rfl, B7⟩
        | true =>
          have KS := samePairs_any ps r (some ⟨g, 0, none⟩) ma c mc w7 (by omega) (by omega) (HI1.out w7 BB7.out) HM7.out
          by_cases hsame : ps = r
          · have hd : decide (ps = r) = true := by simpa using hsame
            have hrr := HREF.out hsame
            rw [hd] at KS
            clear hd hsame
            subst hrr
            go_wp2_with fail
            refine KS.mono ?_
            rintro e w8 ⟨rfl, b8⟩
            have B8 := B7.trans (b8.mono B7.size)
            go_wp2
            go_ret
            exact ⟨rfl, B8⟩
          · have hd : decide (ps = r) = false := by simpa using hsame
            rw [hd] at KS
            clear hd
            by_cases hrr : r1 = r2
            · obtain ⟨x, hx, y, hy, hxy⟩ := HTELL.out rfl rfl hsame hrr
              have HEX : Hid (∃ i j, ∃ hi : i < X.length, ∃ hj : j < Y.length, X[i].1 = Y[j].1 ∧ X[i].2 ≠ Y[j].2) := by
                obtain ⟨i, hi, rfl⟩ := List.getElem_of_mem hx
                obtain ⟨j, hj, rfl⟩ := List.getElem_of_mem hy
                exact ⟨i, j, hi, hj, hxy⟩
              have hx0 : 0 < X.length := List.length_pos_of_mem hx
              have hy0 : 0 < Y.length := List.length_pos_of_mem hy
              subst hrr
              clear hsame hx hy hxy HTELL HREF
              go_wp2_with fail
              refine KS.mono ?_
              rintro e w8 ⟨rfl, b8⟩
              have B8 := B7.trans (b8.mono B7.size)
              have HM8 : Hid (IsPairs w8 ma r) := HM7.out.later b8
              have BB8 : Hid (Below w1.heap.size w1 w8) := BB7.out.trans (b8.mono BB7.out.size)
              have K9 := HK4.out (some ⟨g, 0, none⟩) c w8 (HI1.out w8 BB8.out) (HT.out.later B8)
              clear KS HM7 b8 BB7 HK4
              go_wp2_with fail
              refine K9.mono ?_
              rintro e w9 ⟨xa, xm, xc, rfl, o9, b9⟩
              have B9 := B8.trans (b9.mono B8.size)
              have HM9 : Hid (IsPairs w9 ma r) := HM8.out.later b9
              have HO9 := hidOwn o9
              obtain ⟨rfl, _, _⟩ := isPairs_own o9
              have K10 := HK6.out ma mc w9 HM9.out (HT.out.later B9)
              clear K9 HM8 b9 BB8 HK6 o9
              go_wp2_with fail
              refine K10.mono ?_
              rintro e w10 ⟨ya, ym, yc, rfl, o10, b10⟩
              have B10 := B9.trans (b10.mono B9.size)
              obtain ⟨rfl, _, hyp⟩ := isPairs_own o10
              have hxp := (isPairs_own (kept2 HO9.out b10)).2.2
              rcases hxp with h | ⟨gx, ox, rfl, hcx⟩
              · rw [h] at hx0; exact absurd hx0 (by simp)
              rcases hyp with h | ⟨gy, oy, rfl, hcy⟩
              · rw [h] at hy0; exact absurd hy0 (by simp)
              have HCX : Hid (∀ j (h : j < X.length), w10.cell? ⟨gx, ox + j * 2, none⟩ = some (.string ⟨X[j].1.toArray⟩) ∧ w10.cell? ⟨gx, ox + j * 2 + 1, none⟩ = some (.string ⟨X[j].2.toArray⟩)) := hcx
              have HCY : Hid (∀ j (h : j < Y.length), w10.cell? ⟨gy, oy + j * 2, none⟩ = some (.string ⟨Y[j].1.toArray⟩) ∧ w10.cell? ⟨gy, oy + j * 2 + 1, none⟩ = some (.string ⟨Y[j].2.toArray⟩)) := hcy
              have hgx : gx < w10.heap.size := World.block_lt_of_cell? w10 _ (hcx 0 hx0).1
              have hgy : gy < w10.heap.size := World.block_lt_of_cell? w10 _ (hcy 0 hy0).1
              clear K10 HM9 HO9 o10 b10 hcx hcy
              go_wp2
              go_loopw [18, 19] (fun i _ wr => ∃ j : Nat, j ≤ X.length ∧ i = .int .i64 (j : Int) ∧ Hid (∀ q (hq : q < X.length), q < j → ∀ t (ht : t < Y.length), ¬ (X[q].1 = Y[t].1 ∧ X[q].2 ≠ Y[t].2)) ∧ Below w10.heap.size w10 wr) (fun i _ _ => X.length - (intOf i).toNat)
              case atStart => exact ⟨0, Nat.zero_le _, rfl, fun q _ h => by omega, Below.refl _ _⟩
              case round =>
                obtain ⟨i, hi, rfl, HG, hbel⟩ := hrel
                by_cases hlt : i < X.length
                · have hi0 : (0 : Int) ≤ (i : Int) := by omega
                  have hi1 : (i : Int) < (X.length : Int) := by omega
                  obtain ⟨x1, hx1⟩ : ∃ x1, x1 = X[i].1 := ⟨_, rfl⟩
                  obtain ⟨x2, hx2⟩ : ∃ x2, x2 = X[i].2 := ⟨_, rfl⟩
                  have HX : Hid (x1 = X[i].1 ∧ x2 = X[i].2) := ⟨hx1, hx2⟩
                  have HCI : Hid (∀ W, Below w10.heap.size w10 W → W.cell? ⟨gx, ox + i * 2, none⟩ = some (.string ⟨x1.toArray⟩) ∧ W.cell? ⟨gx, ox + i * 2 + 1, none⟩ = some (.string ⟨x2.toArray⟩)) := fun W hW => by
                    rw [hx1, hx2]
                    exact ⟨(hW.cell (p := ⟨gx, ox + i * 2, none⟩) hgx).trans (HCX.out i hlt).1, (hW.cell (p := ⟨gx, ox + i * 2 + 1, none⟩) hgx).trans (HCX.out i hlt).2⟩
                  clear hx1 hx2
                  go_wp2
                  obtain ⟨wo, hwo⟩ : ∃ wo, wo = wr := ⟨_, rfl⟩
                  subst hwo
                  go_loopw [19] (fun t wr => ∃ j : Nat, j ≤ Y.length ∧ t = .int .i64 (j : Int) ∧ Hid (∀ q (hq : q < Y.length), q < j → ¬ (X[i].1 = Y[q].1 ∧ X[i].2 ≠ Y[q].2)) ∧ Below w10.heap.size w10 wr) (fun t _ => Y.length - (intOf t).toNat)
                  case atStart => exact ⟨0, Nat.zero_le _, rfl, fun q _ h => by omega, hbel⟩
                  case round =>
                    obtain ⟨t, ht, rfl, HG2, hbel2⟩ := hrel
                    by_cases hlt2 : t < Y.length
                    · have ht0 : (0 : Int) ≤ (t : Int) := by omega
                      have ht1 : (t : Int) < (Y.length : Int) := by omega
                      obtain ⟨a1, a2⟩ := HCI.out _ hbel2
                      have b1 := (hbel2.cell (p := ⟨gy, oy + t * 2, none⟩) hgy).trans (HCY.out t hlt2).1
                      have b2 := (hbel2.cell (p := ⟨gy, oy + t * 2 + 1, none⟩) hgy).trans (HCY.out t hlt2).2
                      obtain ⟨y1, hy1⟩ : ∃ y1, y1 = Y[t].1 := ⟨_, rfl⟩
                      obtain ⟨y2, hy2⟩ : ∃ y2, y2 = Y[t].2 := ⟨_, rfl⟩
                      rw [← hy1] at b1
                      rw [← hy2] at b2
                      have HY : Hid (y1 = Y[t].1 ∧ y2 = Y[t].2) := ⟨hy1, hy2⟩
                      have B11 := B10.trans (hbel2.mono B10.size)
                      clear hy1 hy2
                      by_cases h1 : x1 = y1
                      · by_cases h2 : x2 = y2
                        · have HN : Hid (¬ (X[i].1 = Y[t].1 ∧ X[i].2 ≠ Y[t].2)) := fun h => h.2 (by rw [← HX.out.2, ← HY.out.2]; exact h2)
                          subst h1 h2
                          go_wp2
                          go_quiet (fail)
                          go_wp2
                          go_roundw
                          case rel => exact ⟨t + 1, by omega, by go_num, fun q hq hq2 => by
                            by_cases e : q = t
                            · subst e; exact HN.out
                            · exact HG2.out q hq (by omega), ⟨hbel2.os, hbel2.tape, hbel2.output, hbel2.size, hbel2.block⟩⟩
                          case measure => simp [intOf]; omega
                        · have h2b : (x2 != y2) = true := by rw [bne_iff_ne]; exact h2
                          have h2c : (x2 == y2) = false := by rw [beq_eq_false_iff_ne]; exact h2
                          subst h1
                          clear h2
                          go_wp2
                          go_quiet (fail)
                          go_wp2
                          go_ret
                          exact ⟨rfl, ⟨B11.os, B11.tape, B11.output, B11.size, B11.block⟩⟩
                      · have h1b : (x1 == y1) = false := by rw [beq_eq_false_iff_ne]; exact h1
                        have HN : Hid (¬ (X[i].1 = Y[t].1 ∧ X[i].2 ≠ Y[t].2)) := fun h => h1 (by rw [HX.out.1, HY.out.1]; exact h.1)
                        clear h1
                        go_wp2
                        go_quiet (fail)
                        go_wp2
                        go_roundw
                        case rel => exact ⟨t + 1, by omega, by go_num, fun q hq hq2 => by
                          by_cases e : q = t
                          · subst e; exact HN.out
                          · exact HG2.out q hq (by omega), ⟨hbel2.os, hbel2.tape, hbel2.output, hbel2.size, hbel2.block⟩⟩
                        case measure => simp [intOf]; omega
                    · go_wp2
                      go_roundw
                      case rel => exact ⟨i + 1, by omega, by go_num, fun q hq hq2 s hs => by
                        by_cases e : q = i
                        · subst e; exact HG2.out s hs (by omega)
                        · exact HG.out q hq (by omega) s hs, hbel2⟩
                      case measure => simp [intOf]; omega
                · exfalso
                  obtain ⟨q, s, hq, hs, hh⟩ := HEX.out
                  exact HG.out q hq (by omega) s hs hh
            · have hrb : (r1 == r2) = false := by rw [beq_eq_false_iff_ne]; exact hrr
              clear hrr hsame
              go_wp2_with fail
              refine KS.mono ?_
              rintro e w8 ⟨rfl, b8⟩
              have B8 := B7.trans (b8.mono B7.size)
              go_wp2
              go_ret
              exact ⟨rfl, B8⟩
  · have HB := bigYes len0 cap0 a0 w hb
    clear w0
    go_enter Tryd.func3, Tryd.ntmps3
    go_wp2_with fail
    refine HB.mono ?_
    rintro e w1 ⟨rfl, rfl⟩
    go_wp2
    go_ret
    exact ⟨rfl, Below.refl _ _⟩

set_option maxRecDepth 100000 in
theorem lifted (os : Os) (started : os.Started) (H : Type) (enc : TypeId × Value → H) :
    ReturnsInHanded {} Tryd.checked os 3 .any (fun w args => (Rows.fnRootsTellSpec.pre enc Tryd.prog Tryd.f3 [] false w args ∧ laidMetH Tryd.prog Rows.fnRootsTellRow.laid w) ∧ sizedMet enc Tryd.prog Tryd.f3 (OpenSpec.ofChange Rows.fnRootsTellSpec) false w args)
      (Rows.fnRootsTellSpec.post enc Tryd.prog Tryd.f3 false true false false) := by
  refine returnsInHanded_of_change_and (C := Tryd.checked) (X := fun w _ => laidMetH Tryd.prog Rows.fnRootsTellRow.laid w) (fun _ _ _ hh h => h.of_heap hh) own started (by kernel_rfl) Tryd.func3
    (ChangeSpec.witness_shaped (enc := enc) (C := Tryd.checked) (os := os) (X := fun w _ => laidMetH Tryd.prog Rows.fnRootsTellRow.laid w) false (World.doorLaid Tryd.prog 400 os) #[.slice none 0 0] 8 rfl (World.shaped_of_RefB (by kernel_rfl) (by kernel_rfl)) (by kernel_rfl) (by kernel_rfl) (by kernel_rfl) (door_met os _)) ?_
  intro W base args ds gs before hval0 hW _ _ hL _
  have hval : ∀ (j : Nat) t v, Tryd.f3.params[j]? = some t → args[j]? = some v → Value.okWide Tryd.prog W .any base t v := hval0
  have hW' := hW
  obtain ⟨p, q, hA0, hV0, rfl, hfz, hnd⟩ := hW
  have hA : DataW.TrodAll enc Tryd.prog W 0 (fun _ => true) true Tryd.f3.params.toList args.toList ds p := hA0
  have hV : DataW.TrodVars enc Tryd.prog W (fun _ => true) ["loop.example/g00226/impl.roundWords"] gs q := hV0
  rw [Tryd.params3] at hA hval
  obtain ⟨v0, vs0, d0, ds0, p0, q0, hargs, rfl, rfl, h0, r0⟩ := trodAll_cons hA
  obtain ⟨rfl, rfl, rfl⟩ := trodAll_nil r0
  obtain rfl : args = #[v0] := by cases args; simp_all
  obtain ⟨a0, len0, cap0, rfl⟩ := okWide_slice Tryd.underlying22 (hval 0 22 v0 rfl rfl)
  have k0 := h0
  have lt0 : ∀ x ∈ p0, x.block < W.heap.size := by obtain ⟨m, hm⟩ := k0; exact DataW.trod_lt m _ _ _ hm
  have w0 : Code W a0 len0 := by
    obtain ⟨fuel, hf⟩ := h0
    rcases open_ints Tryd.underlying22 Tryd.underlying5 (by kernel_rfl) hf with ⟨hcs, _⟩ | ⟨x, l, c, zs, hcs, _, hl, hm, hz, _, hcell, hwz⟩
    · simp [Value.cells] at hcs
      obtain ⟨rfl, rfl, rfl⟩ := hcs
      exact .inl rfl
    · simp [Value.cells] at hcs
      obtain ⟨rfl, rfl, rfl⟩ := hcs
      exact codeOf W x _ _ zs hl (by simpa using hz) hcell hwz
  obtain ⟨g, t, cs, fuel, d, p', rfl, hg, ht, hvar, hd, rfl⟩ := trodVars_one hV
  obtain rfl := Option.some.inj (gTab.symm.trans hg)
  obtain rfl := Option.some.inj (tTab.symm.trans ht)
  have hT := tab_of hL
  have hltv : ∀ x ∈ p', x.block < W.heap.size := fun x hx => hW'.lt x (List.mem_append_right _ (List.mem_append_right _ hx))
  clear hA0 hV0 hval0 hA hV
  refine (walk a0 len0 cap0 W w0 hT).mono fun e W' ⟨he, hB⟩ => ?_
  subst he
  obtain ⟨fuel', hd'⟩ := Below.trod laidOut0 (by kernel_rfl) (of_decide_eq_true (by kernel_rfl)) (v := .agg cs) (⟨fuel, by simpa [Value.cells] using hd⟩ : DataW.Trod enc Tryd.prog W 0 (fun _ => true) true 127 (.agg cs) d p') hB hltv
  have hv' := trodVars_mk1 (enc := enc) (spare := fun b => decide (b < W.heap.size)) hg ht (var?_below hB hg hT.1 hvar) (by simpa [Value.cells] using hd')
  exact ⟨_, rfl, _, _, _, [], _, _, hW', trodAll_mk1 (shut_bool Tryd.underlying4 _), (trodAll_cons_mk (Below.trod laidOut0 (by kernel_rfl) (of_decide_eq_true (by kernel_rfl)) k0 hB lt0) trodAll_mk0), hv', hB.frame _, fun h => by cases h⟩

theorem named0 : Tryd.prog.funcNamed "loop.example/g00226/laws.FnRootsTell" = some 3 := by kernel_rfl
theorem closed0 : joinedFacts Tryd.prog 3 Tryd.f3 Rows.fnRootsTellSpec Rows.fnRootsTellRow = true := by
  unfold joinedFacts
  rw [seat_may, seat_lifts, seat_make]
  kernel_rfl
theorem inst0 : Tryd.f3.isInstance Tryd.prog Rows.fnRootsTellRow.origin Rows.fnRootsTellRow.targs := of_decide_eq_true (by kernel_rfl)
theorem wrap0 : Tryd.f3.isWrapper Tryd.prog Rows.fnRootsTellRow.wrapper Rows.fnRootsTellRow.mainSum := by unfold Func.isWrapper; first | (rw [if_pos (by decide +kernel)]; kernel_rfl) | (rw [if_neg (by decide +kernel)]; exact ⟨rfl, rfl⟩)

theorem over : Rows.fnRootsTellRow.holds Tryd.pinned (OpenSpec.ofChange Rows.fnRootsTellSpec) :=
  OpenClaim.holds_of_wide 3 Tryd.f3 rfl rfl rfl rfl rfl rfl rfl ⟨rfl, rfl, rfl, rfl, rfl⟩ rfl rfl rfl rfl rfl named0 Tryd.func3 closed0 inst0 wrap0
    (fun os started H enc _ => lifted os started H enc)

theorem text0 : Rows.fnRootsTellRow.wfByText (OpenSpec.ofChange Rows.fnRootsTellSpec) = true := by kernel_rfl
theorem looks0 : false = Tryd.prog.looks [] := by kernel_rfl
theorem goes0 : false = Rows.fnRootsTellRow.goesBy Tryd.prog := by kernel_rfl
theorem wants0 : ([22].all fun u => !Tryd.prog.wantsStandIn u) = true := by kernel_rfl

theorem card : Claim7.holds Tryd.pinned (.plain (OpenSpec.ofChange Rows.fnRootsTellSpec)) Rows.fnRootsTellCard :=
  Claim7.holds_tied_plain_at .later [] [.data] true (true, Rows.fnRootsTellCard.stood.harness.2) false
    over (fun _ h => by cases h) text0 (fun _ h => by cases h) fnRootsTell_row_tie rfl ⟨rfl, rfl⟩ seat_main rfl
    (fun f fn hf hfn => by
      obtain rfl : f = 3 := Option.some.inj (named0.symm.trans hf) |>.symm
      obtain rfl : fn = Tryd.f3 := (Option.some.inj (Tryd.func3.symm.trans hfn)).symm
      exact ⟨looks0, fun j t ht => by
        rw [Tryd.params3] at ht
        have hm : t ∈ [22] := by simpa using Array.mem_of_getElem? ht
        exact (show Tryd.prog.wantsStandIn t = false by simpa using List.all_eq_true.1 wants0 t hm)⟩)
    goes0

end Go.Proofs.YtldkilpndcafjaaDoor.fnRootsTell
namespace Go.Proofs.YtldkilpndcafjaaDoor
theorem fnRootsTell_holds : Rows.FnRootsTellCardSaid := fnRootsTell.card
end Go.Proofs.YtldkilpndcafjaaDoor
