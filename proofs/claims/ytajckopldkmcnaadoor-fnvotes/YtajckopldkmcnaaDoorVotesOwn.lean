/-
  At every code what a signer votes for is a vote for that, by its root, and what is refused leaves the signer: FnVotes answers true. No condition; the round words are laid as the program's text lays them.
-/
import Derived.Test.YtajckopldkmcnaaDoorVoteAll
import Derived.Test.YtajckopldkmcnaaDoorVotesAll
import Derived.Test.YtajckopldkmcnaaDoorVOkAll
import Derived.Test.YtajckopldkmcnaaDoorSeatAll
import Derived.Test.YtajckopldkmcnaaDoorTie
import Derived.Test.YtajckopldkmcnaaDoorCards
import Derived.ProofKit
import Derived.LaidMore
import Derived.OpenShut
import Derived.ShutString
import Derived.ChangeOld
import Derived.Below
import Derived.Stop.Joined
import Derived.Lib.LaidTab
import Derived.SevenTiedAt
import Derived.SliceStrings
namespace Go.Proofs.YtajckopldkmcnaaDoor.fnVotes
open Go.ChangeShapes Go.WideShapes Go.ChangeAt Go.RowKit
open Go.ChangeMaps (open_string shut_string)
set_option linter.unusedVariables false

theorem own : ownKnob Tryd.prog.godebug = none := by kernel_rfl
theorem laidOut0 : laidOutB Tryd.prog = true := by kernel_rfl
theorem gTab : Tryd.prog.globalNamed "loop.example/g00226/impl.roundWords" = some 0 := by kernel_rfl
theorem tTab : (Tryd.prog.globals[0]?).map (·.type) = some 191 := by kernel_rfl

/-- The door's own heap meets the condition. -/
theorem door_met (os : Os) (args : Array Value) : laidMetH Tryd.prog Rows.fnVotesRow.laid ((World.doorLaid Tryd.prog 400 os).forCall (fun _ _ => 0) ⟨#[], args, []⟩).memory :=
  laidMetH_of_parts3 (fuel := 8) (laidMet_of_run' 8 (by kernel_rfl) (by kernel_rfl)) (by kernel_rfl) (by kernel_rfl)

/-- What the condition gives the walks: the round words' cells. -/
theorem tab_of {W : World} (h : laidMetH Tryd.prog Rows.fnVotesRow.laid W) : Tab W := by
  rw [MakeChecks.laidMetH_plain _ _ _ (by kernel_rfl)] at h
  have hT : Lib.TabIs Tryd.prog W "loop.example/g00226/impl.roundWords" .u32 (kL.map fun x => num x) := Lib.tabIs_of_head (rest := []) gTab tTab Tryd.underlying191 Tryd.underlying142 (by kernel_rfl) (by kernel_rfl) h
  have hc : ∀ i, i < 64 → W.cell? ⟨0, i, none⟩ = some (.int .u32 (num (kL.getD i 0))) := fun i hi => by
    have hl : i < kL.length := hi
    have := hT.cell gTab i (by rw [List.length_map]; exact hl)
    rw [this]
    simp [List.getD, hl]
  exact ⟨block_lt_of_cell (hc 0 (by omega)), hc⟩

set_option maxRecDepth 100000 in
set_option maxHeartbeats 4000000 in
theorem walk (a0 : Option Addr) (len0 cap0 : Nat) (w : World) (w0 : Code w a0 len0) (hT : Tab w) :
    Calls Tryd.prog 7 #[.slice a0 len0 cap0] w fun e w' => e = .returned (.bool true) ∧ Below w.heap.size w w' := by
  by_cases hb : len0 ≤ 1048576
  · have HB := bigNo len0 cap0 a0 w hb
    have HC : Hid (Code w a0 len0) := w0
    have HT : Hid (Tab w) := hT
    clear w0 hT
    go_enter Tryd.func7, Tryd.ntmps7
    go_wp2_with fail
    refine HB.mono ?_
    rintro e w ⟨rfl, rfl⟩
    clear HB
    have HD := drawVoteFor len0 cap0 a0 w hb HC.out
    go_wp2_with fail
    refine HD.mono ?_
    rintro e w1 ⟨s, n, nd, cx, msg, hsl, hcx, hml, rfl, b1⟩
    clear HD HC
    obtain ⟨us, ix, vn, ok, os, ps, lo, lp, hr⟩ := voutcome s msg n nd (cx : Int)
    obtain ⟨wa, hwa⟩ : ∃ wa, wa = w1.alloc (.cells #[.string ⟨s.toArray⟩, .int .i64 n] 28) := ⟨_, rfl⟩
    have ba : Below w1.heap.size w1 wa := by rw [hwa]; exact (Below.refl _ _).alloc (Nat.le_refl _) _
    have sa : wa.heap.size = w1.heap.size + 1 := by rw [hwa]; simp
    have BA := b1.trans (ba.mono b1.size)
    have za : wa.heap[w1.heap.size]? = some (.cells #[.string ⟨s.toArray⟩, .int .i64 n] 28 (0, 0)) := by rw [hwa]; exact heap_alloc_new w1 _
    have n1 := b1.size
    have K1 := ivote_any s msg n nd (cx : Int) us ix vn ok os ps wa (by omega) (by omega) hr (HT.out.later BA)
    have K2 := fun W => svote_any s msg n nd (cx : Int) us ix vn ok os ps W (by omega) (by omega) hr
    rw [hwa] at K1
    go_wp2_with fail
    refine K1.mono ?_
    rintro e w2 ⟨x1, xm1, xc1, x2, xm2, xc2, rfl, _, o1, o2, b2⟩
    rw [← hwa] at b2
    have s2 := b2.size
    have B2 := BA.trans (b2.mono BA.size)
    have z2 := (b2.block _ (by omega)).trans za
    have Z2 : ((w2.alloc (.cells #[.string ⟨s.toArray⟩, .int .i64 us] 28)).alloc (.cells #[.int .i64 vn, .int .i64 ix, .slice x1 xm1 xc1, .slice x2 xm2 xc2] 33)).heap[w1.heap.size]? = _ := (two_alloc (by omega)).trans z2
    obtain ⟨f0, f1, _⟩ := duo_row Z2
    obtain ⟨hx1, _, i1⟩ := isStrs_own o1
    obtain ⟨hx2, _, i2⟩ := isStrs_own o2
    have HX : Hid (xm1 = os.length ∧ xm2 = ps.length) := ⟨hx1, hx2⟩
    have I1 : Hid (IsStrs w2 x1 os) := i1
    have I2 : Hid (IsStrs w2 x2 ps) := i2
    clear K1 hwa o1 o2 i1 i2 hx1 hx2
    go_wp2_with fail
    refine (K2 _).mono ?_
    rintro e w3 ⟨y1, ym1, yc1, y2, ym2, yc2, rfl, _, _, b3⟩
    have C3 : Below w2.heap.size w2 w3 := (two_below (w := w2)).trans (b3.mono (by rw [two_size]; omega))
    have B3 := B2.trans (C3.mono B2.size)
    have s3 : w2.heap.size + 2 ≤ w3.heap.size := by have := b3.size; rw [two_size] at this; exact this
    have z3 := (b3.block _ (by rw [two_size]; omega)).trans Z2
    have y3 := (b3.block w2.heap.size (by rw [two_size]; omega)).trans two_first
    have v3 := (b3.block (w2.heap.size + 1) (by rw [two_size]; omega)).trans two_second
    obtain ⟨wb, hwb⟩ : ∃ wb, wb = ((w3.alloc (.cells #[.string ⟨s.toArray⟩, .int .i64 us] 28)).alloc (.cells #[.int .i64 vn, .int .i64 ix, .slice y1 ym1 yc1, .slice y2 ym2 yc2] 33)) := ⟨_, rfl⟩
    have bb : Below w3.heap.size w3 wb := by rw [hwb]; exact two_below
    have sb : wb.heap.size = w3.heap.size + 2 := by rw [hwb]; exact two_size
    have BB := B3.trans (bb.mono B3.size)
    have HB3 : Hid (wb.heap[w1.heap.size]? = some (.cells #[.string ⟨s.toArray⟩, .int .i64 n] 28 (0, 0)) ∧ wb.heap[w2.heap.size]? = some (.cells #[.string ⟨s.toArray⟩, .int .i64 us] 28 (0, 0)) ∧ wb.heap[w2.heap.size + 1]? = some (.cells #[.int .i64 vn, .int .i64 ix, .slice x1 xm1 xc1, .slice x2 xm2 xc2] 33 (0, 0))) := ⟨(bb.block _ (by omega)).trans z3, (bb.block _ (by omega)).trans y3, (bb.block _ (by omega)).trans v3⟩
    have I1b : Hid (IsStrs wb x1 os) := (I1.out.later C3).later bb
    have I2b : Hid (IsStrs wb x2 ps) := (I2.out.later C3).later bb
    clear f0 f1 b2 b3 z2 z3 y3 v3 Z2 C3 K2 bb I1 I2
    cases ok with
    | false =>
      have hun : us = n := by
        rcases hr with ⟨_, _, _, _, _, _, h, _⟩ | ⟨_, _, h, _⟩
        · rcases h with ⟨h0, _⟩ | ⟨_, h, _⟩
          · cases h0
          · exact h
        · exact h
      subst hun
      obtain ⟨g0, g1, _⟩ := duo_row HB3.out.1
      obtain ⟨h0, h1, _⟩ := duo_row HB3.out.2.1
      rw [hwb] at g0 g1 h0 h1 BB
      clear hwb hr HB3 I1b I2b
      go_wp2
      go_ret
      exact ⟨rfl, BB⟩
    | true =>
      obtain ⟨hs, hm, i, m, hi, hn, hus, hix, hvn, hos, hps, hnd, hm6⟩ : s.length = 32 ∧ msg.length = 32 ∧ ∃ i m : Nat, i < 4 ∧ n = (i : Int) ∧ us = (i : Int) + 1 ∧ ix = (i : Int) ∧ vn = nd ∧ os = sigL (leafL s i) (chkL cx msg) 19 ∧ ps = pathL s i ∧ nd = (m : Int) ∧ m ≤ 6 := by
        rcases hr with ⟨k, h1, h2, h3, h4, h5, h, h7⟩ | ⟨_, h, _⟩
        · rcases h with ⟨_, i, hi, h8, h9, ha, hb, hc, hd⟩ | ⟨h, _⟩
          · have hk : k = cx := by omega
            subst hk
            exact ⟨h8, h3, i, nd.toNat, hi, h9, ha, hb, by simpa using h7, hc, hd, by omega, by omega⟩
          · cases h
        · cases h
      subst hn hus hix hvn hos hps hnd
      clear hr
      obtain ⟨hx1, hx2⟩ : xm1 = 19 ∧ xm2 = 2 := ⟨by rw [HX.out.1, sigL_length], by rw [HX.out.2, pathL_length]⟩
      subst hx1 hx2
      have K4 := impl_keyRoot s wb hs (HT.out.later BB)
      obtain ⟨g0, g1, _⟩ := duo_row HB3.out.1
      obtain ⟨h0, h1, _⟩ := duo_row HB3.out.2.1
      have HRT : Hid (RootIs (chkL cx msg) (i : Int) (sigL (leafL s i) (chkL cx msg) 19) (pathL s i) (rootL s) true) := signed_root s (chkL cx msg) i hs hi
      have HRL : Hid ((rootL s).length = 32) := rootL_len s hs
      have HVP : Hid (∀ a b c d W, IsStrs W a (sigL (leafL s i) (chkL cx msg) 19) → IsStrs W b (pathL s i) → Tab W → Calls Tryd.prog 35 #[.string ⟨(rootL s).toArray⟩, .string ⟨(chkL cx msg).toArray⟩, .agg #[.int .i64 (i : Int), .slice a 19 c, .slice b 2 d]] W fun e w' => e = .returned (.bool true) ∧ Below W.heap.size W w') := fun a b c d W h1 h2 h3 => ver_yes s (chkL cx msg) i a b c d W hs hi (by rw [chkL_len _ _ hm]; omega) h1 h2 h3
      have HCT : Hid (∀ W, Tab W → Calls Tryd.prog 10 #[.int .i64 (cx : Int), .string ⟨msg.toArray⟩] W fun e w' => e = .returned (.tuple #[.string ⟨(chkL cx msg).toArray⟩, .bool true]) ∧ Below W.heap.size W w') := fun W hW => impl_check cx msg W (by omega) hm hW
      have hml2 := chkL_len cx msg hm
      rw [hwb] at K4 g0 g1 h0 h1
      go_wp2_with fail
      refine K4.mono ?_
      rintro e w4 ⟨rfl, b4⟩
      rw [← hwb] at b4
      have s4 := b4.size
      have B4 := BB.trans (b4.mono BB.size)
      have HB4 : Hid (w4.heap[w1.heap.size]? = some (.cells #[.string ⟨s.toArray⟩, .int .i64 (i : Int)] 28 (0, 0)) ∧ w4.heap[w2.heap.size]? = some (.cells #[.string ⟨s.toArray⟩, .int .i64 ((i : Int) + 1)] 28 (0, 0)) ∧ w4.heap[w2.heap.size + 1]? = some (.cells #[.int .i64 (m : Int), .int .i64 (i : Int), .slice x1 19 xc1, .slice x2 2 xc2] 33 (0, 0))) := ⟨(b4.block _ (by omega)).trans HB3.out.1, (b4.block _ (by omega)).trans HB3.out.2.1, (b4.block _ (by omega)).trans HB3.out.2.2⟩
      have I14 : Hid (IsStrs w4 x1 (sigL (leafL s i) (chkL cx msg) 19)) := I1b.out.later b4
      have I24 : Hid (IsStrs w4 x2 (pathL s i)) := I2b.out.later b4
      have n4 : w2.heap.size + 1 < w4.heap.size := by omega
      obtain ⟨rt, hrt⟩ : ∃ rt, rt = rootL s := ⟨_, rfl⟩
      obtain ⟨os, hos⟩ : ∃ os, os = sigL (leafL s i) (chkL cx msg) 19 := ⟨_, rfl⟩
      obtain ⟨ps, hps⟩ : ∃ ps, ps = pathL s i := ⟨_, rfl⟩
      obtain ⟨tx, htx⟩ : ∃ tx, tx = chkL cx msg := ⟨_, rfl⟩
      rw [← hrt] at HVP HRT HRL ⊢
      rw [← hos] at HVP HRT I14 lo
      rw [← hps] at HVP HRT I24 lp
      have HTX : Hid (tx = chkL cx msg) := htx
      rw [← htx] at HVP HRT HCT hml2
      have l19 : os.length = 19 := by rw [hos, sigL_length]
      have l2 : ps.length = 2 := by rw [hps, pathL_length]
      have HOM : Hid (∀ l ∈ os, l.length ≤ 1048576) := by rw [hos]; exact sig_len s _ i hs
      have HPM : Hid (∀ l ∈ ps, l.length ≤ 1048576) := by rw [hps]; exact fun l hl => by rw [path32 s i hs hi l hl]; omega
      clear hrt hos hps htx b4 K4 HB3 hwb g0 g1 h0 h1 BB I1b I2b sb HX
      obtain ⟨i0, hi0, hz0, hz1, hz2⟩ := info_parts info9i
      obtain ⟨em, hem⟩ : ∃ em, em = emptyL := ⟨_, rfl⟩
      have HEM : Hid (em.length = 32) := by rw [hem]; exact sumL_len _
      have HKE : Hid (∀ W, Tab W → Calls Tryd.prog 34 #[] W fun e w' => e = .returned (.string ⟨em.toArray⟩) ∧ Below W.heap.size W w') := fun W hW => by rw [hem]; exact impl_empty W hW
      clear hem
      go_wp2
      go_loopw [15, 16] (fun v i wr => ∃ j g cap : Nat, j ≤ 7 ∧ i = .int .i64 (j : Int) ∧ v = .slice (some ⟨g, 0, none⟩) j cap ∧ wr.ownsRow w4.heap.size 9 1 (.slice (some ⟨g, 0, none⟩) j cap) j (scells (List.replicate j em)) ∧ Below w4.heap.size w4 wr) (fun _ i _ => 7 - (intOf i).toNat)
      case atStart => exact ⟨0, w4.heap.size, 0, by omega, rfl, rfl, World.ownsRow_lit w4 #[] 0 (Nat.le_refl _) (Nat.zero_le _) rfl, (Below.refl _ _).alloc (Nat.le_refl _) _⟩
      case round =>
        obtain ⟨j, g, cap, hj, rfl, rfl, hown, hbel⟩ := hrel
        have hsz := hbel.size
        have hbg := own_base hown
        by_cases hlt : j < 7
        · have hlt' : (j : Int) < 7 := by omega
          have HO := hidOwn hown
          have K5 := HKE.out wr (HT.out.later (B4.trans (hbel.mono B4.size)))
          clear hown
          go_wp2_with fail
          refine K5.mono ?_
          rintro e w5 ⟨rfl, b5⟩
          have hown5 := keptO HO.out b5
          have hbel5 := hbel.trans (b5.mono hsz)
          have hsz5 := hbel5.size
          clear HO hbel b5 K5
          go_wp2_with (at_builtin; refine wpList_append_lies _ rfl _ _ 29 rfl w4.heap.size 9 i0 (.string ⟨#[]⟩) 1 16 Tryd.underlying29 hi0 hz0 hz1 hz2 rfl (by decide) (.slice (some ⟨g, 0, none⟩) j cap) j _ rfl (hown5.alloc _) ⟨w5.heap.size, 0, none⟩ 1 1 [.string ⟨em.toArray⟩] rfl rfl (World.news_of_block (cs := #[.string ⟨em.toArray⟩]) (t := 9) (fr := (0, 0)) (heap_alloc_new w5 _)) (by simp [Value.oneCell']) (by omega) (by unfold maxLen; omega) (by omega) (by simp; omega) (w5.heap.size + 1) (by simp) ?_; intro g2 cap2 w6 hown6 hgrow hat hlt6)
          have hbel6 := below_app0 hbel5 hsz5 hbg hgrow
          have HO6 : Hid (w6.ownsRow w4.heap.size 9 1 (.slice (some ⟨g2, 0, none⟩) (j + 1) cap2) (j + 1) (scells (List.replicate (j + 1) em))) := by rw [Hid, List.replicate_succ', scells_snoc]; exact hown6
          clear hgrow hown6 hown5 hat hlt6
          go_roundw
          case rel => exact ⟨j + 1, g2, cap2, by omega, by go_num, rfl, HO6.out, hbel6⟩
          case measure => simp [intOf]; omega
        · have hj7 : j = 7 := by omega
          subst hj7
          obtain ⟨hc, hf⟩ : wr.cell? ⟨g, m, none⟩ = some (.string ⟨em.toArray⟩) ∧ wr.frozen? ⟨g, m, none⟩ = false := by
            rcases own_cases hown with ⟨_, h0, _⟩ | ⟨g', cap', he, _, _, hc, hf⟩
            · omega
            · cases he
              refine ⟨?_, hf m⟩
              rw [hc m (by omega), scells_at _ m (by simp; omega), List.getElem_replicate]
          have hm0 : (0 : Int) ≤ (m : Int) := by omega
          have hm7 : (m : Int) < 7 := by omega
          have HO := hidOwn hown
          have HBW : Hid (Below w4.heap.size w4 wr) := hbel
          have hgl := own_lt hown
          clear hown hbel hlt
          go_wp2_with fail
          obtain ⟨wx, hwx⟩ : ∃ wx, wx = wr.setCell ⟨g, m, none⟩ (.string ⟨rt.toArray⟩) := ⟨_, rfl⟩
          have HOX : Hid (wx.ownsRow w4.heap.size 9 1 (.slice (some ⟨g, 0, none⟩) 7 cap) 7 (scells ((List.replicate 7 em).set m rt))) := by
            rw [Hid, hwx]
            have := (HO.out.stored m (.string ⟨rt.toArray⟩)).1
            have e : (scells (List.replicate 7 em)).set m (.string ⟨rt.toArray⟩) = scells ((List.replicate 7 em).set m rt) := by simp [scells, List.map_set]
            rw [e] at this
            exact this
          have BX : Below w4.heap.size w4 wx := by rw [hwx]; exact HBW.out.setCell hbg _
          rw [← hwx]
          clear hwx HO HBW hc hf
          have B5 := B4.trans (BX.mono B4.size)
          have s5 := BX.size
          have K6 := HCT.out wx (HT.out.later B5)
          go_wp2_with fail
          refine K6.mono ?_
          rintro e w6 ⟨rfl, b6⟩
          have B6 := B5.trans (b6.mono B5.size)
          have D6 : Below w4.heap.size w4 w6 := BX.trans (b6.mono s5)
          have s6 := b6.size
          have O6 := keptO HOX.out b6
          have IK : Hid (IsStrs w6 (some ⟨g, 0, none⟩) ((List.replicate 7 em).set m rt)) := (isStrs_own O6).2.2
          have I16 : Hid (IsStrs w6 x1 os) := I14.out.later D6
          have I26 : Hid (IsStrs w6 x2 ps) := I24.out.later D6
          have c1 := (D6.block _ (by omega)).trans HB4.out.1
          have c2 := (D6.block _ (by omega)).trans HB4.out.2.1
          have c3 := (D6.block _ (by omega)).trans HB4.out.2.2
          obtain ⟨g0, g1, _⟩ := duo_row c1
          obtain ⟨h0, h1, _⟩ := duo_row c2
          obtain ⟨l0, l1, l2', l3, _⟩ := vq_cells c3
          clear b6 K6 O6 HOX BX c1 c2 c3 HB4
          go_wp2_with fail
          obtain ⟨ks, hks⟩ : ∃ ks, ks = (List.replicate 7 em).set m rt := ⟨_, rfl⟩
          have hk7 : ks.length = 7 := by rw [hks]; simp
          have hkd : ks.getD m [] = rt := by rw [hks, List.getD_eq_getElem?_getD, List.getElem?_set_self (by simp; omega)]; rfl
          have hka : ∀ l ∈ ks, l.length = 32 := fun l hl => by
            rw [hks] at hl
            rcases List.mem_or_eq_of_mem_set hl with h | h
            · rw [List.eq_of_mem_replicate h]; exact HEM.out
            · rw [h]; exact HRL.out
          rw [← hks] at IK
          have K7 := impl_voteOk (some ⟨g, 0, none⟩) cap ks (cx : Int) msg (m : Int) (i : Int) x1 x2 xc1 xc2 os ps w6 (by omega) (fun l hl => by rw [hka l hl]; omega) (by omega) (by omega) HOM.out (by omega) HPM.out IK.out I16.out I26.out (HT.out.later B6) rt true (by rw [Int.toNat_natCast, ← HTX.out]; exact HRT.out)
          have hv : vOk ks (cx : Int) msg (m : Int) rt true = true := by
            rw [vOk_all ks (cx : Int) msg (m : Int) rt true ⟨by omega, by omega, hm⟩ (keysOk_yes ks (by omega) (by omega) hka) (by omega) (by omega), Int.toNat_natCast, hkd]
            simp
          rw [hv, hk7, l19, l2] at K7
          have K8 := fun W h1 h2 h3 => HVP.out x1 x2 xc1 xc2 W h1 h2 h3
          clear hv hks hkd hka HRT HVP
          refine K7.mono ?_
          rintro e w7 ⟨rfl, b7⟩
          have B7 := B6.trans (b7.mono B6.size)
          have p0 := (b7.cell (p := ⟨w2.heap.size + 1, 0, none⟩) (by simp; omega)).trans l0
          have p1 := (b7.cell (p := ⟨w2.heap.size + 1, 1, none⟩) (by simp; omega)).trans l1
          have p2 := (b7.cell (p := ⟨w2.heap.size + 1, 2, none⟩) (by simp; omega)).trans l2'
          have p3 := (b7.cell (p := ⟨w2.heap.size + 1, 3, none⟩) (by simp; omega)).trans l3
          have J1 : Hid (IsStrs w7 x1 os) := I16.out.later b7
          have J2 : Hid (IsStrs w7 x2 ps) := I26.out.later b7
          clear K7 b7
          go_wp2_with fail
          with_reducible refine (K8 w7 J1.out J2.out (HT.out.later B7)).mono ?_
          rintro e w8 ⟨rfl, b8⟩
          have B8 := B7.trans (b8.mono B7.size)
          clear K8 b8
          go_wp2
          go_ret
          exact ⟨rfl, B8⟩
  · have HB := bigYes len0 cap0 a0 w hb
    clear w0 hT
    go_enter Tryd.func7, Tryd.ntmps7
    go_wp2_with fail
    refine HB.mono ?_
    rintro e w1 ⟨rfl, rfl⟩
    clear HB
    go_wp2
    go_ret
    exact ⟨rfl, Below.refl _ _⟩

set_option maxRecDepth 100000 in
theorem lifted (os : Os) (started : os.Started) (H : Type) (enc : TypeId × Value → H) :
    ReturnsInHanded {} Tryd.checked os 7 .any (fun w args => (Rows.fnVotesSpec.pre enc Tryd.prog Tryd.f7 [] false w args ∧ laidMetH Tryd.prog Rows.fnVotesRow.laid w) ∧ sizedMet enc Tryd.prog Tryd.f7 (OpenSpec.ofChange Rows.fnVotesSpec) false w args)
      (Rows.fnVotesSpec.post enc Tryd.prog Tryd.f7 false true false false) := by
  refine returnsInHanded_of_change_and (C := Tryd.checked) (X := fun w _ => laidMetH Tryd.prog Rows.fnVotesRow.laid w) (fun _ _ _ hh h => h.of_heap hh) own started (by kernel_rfl) Tryd.func7
    (ChangeSpec.witness_shaped (enc := enc) (C := Tryd.checked) (os := os) (X := fun w _ => laidMetH Tryd.prog Rows.fnVotesRow.laid w) false (World.doorLaid Tryd.prog 400 os) #[.slice none 0 0] 8 rfl (World.shaped_of_RefB (by kernel_rfl) (by kernel_rfl)) (by kernel_rfl) (by kernel_rfl) (by kernel_rfl) (door_met os _)) ?_
  intro W base args ds gs before hval0 hW _ _ hL _
  have hval : ∀ (j : Nat) t v, Tryd.f7.params[j]? = some t → args[j]? = some v → Value.okWide Tryd.prog W .any base t v := hval0
  have hW' := hW
  obtain ⟨p, q, hA0, hV0, rfl, hfz, hnd⟩ := hW
  have hA : DataW.TrodAll enc Tryd.prog W 0 (fun _ => true) true Tryd.f7.params.toList args.toList ds p := hA0
  have hV : DataW.TrodVars enc Tryd.prog W (fun _ => true) ["loop.example/g00226/impl.roundWords"] gs q := hV0
  rw [Tryd.params7] at hA hval
  obtain ⟨v0, vs0, d0, ds0, p0, q0, hargs, rfl, rfl, h0, r0⟩ := trodAll_cons hA
  obtain ⟨rfl, rfl, rfl⟩ := trodAll_nil r0
  obtain rfl : args = #[v0] := by cases args; simp_all
  obtain ⟨a0, len0, cap0, rfl⟩ := okWide_slice Tryd.underlying62 (hval 0 62 v0 rfl rfl)
  have k0 := h0
  have lt0 : ∀ x ∈ p0, x.block < W.heap.size := by obtain ⟨m, hm⟩ := k0; exact DataW.trod_lt m _ _ _ hm
  have w0 : Code W a0 len0 := by
    obtain ⟨fuel, hf⟩ := h0
    rcases open_ints Tryd.underlying62 Tryd.underlying5 (by kernel_rfl) hf with ⟨hcs, _⟩ | ⟨x, l, c, zs, hcs, _, hl, hm, hz, _, hcell, hwz⟩
    · simp [Value.cells] at hcs
      obtain ⟨rfl, rfl, rfl⟩ := hcs
      exact .inl rfl
    · simp [Value.cells] at hcs
      obtain ⟨rfl, rfl, rfl⟩ := hcs
      exact codeOf W x _ _ zs hl (by simpa using hz) hcell hwz
  obtain ⟨g, t, cs, fuel, d, p', rfl, hg, ht, hvar, hd, rfl⟩ := trodVars_one hV
  obtain rfl := Option.some.inj (gTab.symm.trans hg)
  obtain rfl := Option.some.inj (tTab.symm.trans ht)
  have hT := tab_of hL
  have hltv : ∀ x ∈ p', x.block < W.heap.size := fun x hx => hW'.lt x (List.mem_append_right _ (List.mem_append_right _ hx))
  clear hA0 hV0 hval0 hA hV
  refine (walk a0 len0 cap0 W w0 hT).mono fun e W' ⟨he, hB⟩ => ?_
  subst he
  obtain ⟨fuel', hd'⟩ := Below.trod laidOut0 (by kernel_rfl) (of_decide_eq_true (by kernel_rfl)) (v := .agg cs) (⟨fuel, by simpa [Value.cells] using hd⟩ : DataW.Trod enc Tryd.prog W 0 (fun _ => true) true 191 (.agg cs) d p') hB hltv
  have hv' := trodVars_mk1 (enc := enc) (spare := fun b => decide (b < W.heap.size)) hg ht (var?_below hB hg hT.1 hvar) (by simpa [Value.cells] using hd')
  exact ⟨_, rfl, _, _, _, [], _, _, hW', trodAll_mk1 (shut_bool Tryd.underlying4 _), (trodAll_cons_mk (Below.trod laidOut0 (by kernel_rfl) (of_decide_eq_true (by kernel_rfl)) k0 hB lt0) trodAll_mk0), hv', hB.frame _, fun h => by cases h⟩

theorem named0 : Tryd.prog.funcNamed "loop.example/g00226/laws.FnVotes" = some 7 := by kernel_rfl
theorem closed0 : joinedFacts Tryd.prog 7 Tryd.f7 Rows.fnVotesSpec Rows.fnVotesRow = true := by
  unfold joinedFacts
  rw [seat_may, seat_lifts, seat_make]
  kernel_rfl
theorem inst0 : Tryd.f7.isInstance Tryd.prog Rows.fnVotesRow.origin Rows.fnVotesRow.targs := of_decide_eq_true (by kernel_rfl)
theorem wrap0 : Tryd.f7.isWrapper Tryd.prog Rows.fnVotesRow.wrapper Rows.fnVotesRow.mainSum := by unfold Func.isWrapper; first | (rw [if_pos (by decide +kernel)]; kernel_rfl) | (rw [if_neg (by decide +kernel)]; exact ⟨rfl, rfl⟩)

theorem over : Rows.fnVotesRow.holds Tryd.pinned (OpenSpec.ofChange Rows.fnVotesSpec) :=
  OpenClaim.holds_of_wide 7 Tryd.f7 rfl rfl rfl rfl rfl rfl rfl ⟨rfl, rfl, rfl, rfl, rfl⟩ rfl rfl rfl rfl rfl named0 Tryd.func7 closed0 inst0 wrap0
    (fun os started H enc _ => lifted os started H enc)

theorem text0 : Rows.fnVotesRow.wfByText (OpenSpec.ofChange Rows.fnVotesSpec) = true := by kernel_rfl
theorem looks0 : false = Tryd.prog.looks [] := by kernel_rfl
theorem goes0 : false = Rows.fnVotesRow.goesBy Tryd.prog := by kernel_rfl
theorem wants0 : ([62].all fun u => !Tryd.prog.wantsStandIn u) = true := by kernel_rfl

theorem card : Claim7.holds Tryd.pinned (.plain (OpenSpec.ofChange Rows.fnVotesSpec)) Rows.fnVotesCard :=
  Claim7.holds_tied_plain_at .later [] [.data] true (true, Rows.fnVotesCard.stood.harness.2) false
    over (fun _ h => by cases h) text0 (fun _ h => by cases h) fnVotes_row_tie rfl ⟨rfl, rfl⟩ seat_main rfl
    (fun f fn hf hfn => by
      obtain rfl : f = 7 := Option.some.inj (named0.symm.trans hf) |>.symm
      obtain rfl : fn = Tryd.f7 := (Option.some.inj (Tryd.func7.symm.trans hfn)).symm
      exact ⟨looks0, fun j t ht => by
        rw [Tryd.params7] at ht
        have hm : t ∈ [62] := by simpa using Array.mem_of_getElem? ht
        exact (show Tryd.prog.wantsStandIn t = false by simpa using List.all_eq_true.1 wants0 t hm)⟩)
    goes0

end Go.Proofs.YtajckopldkmcnaaDoor.fnVotes
namespace Go.Proofs.YtajckopldkmcnaaDoor
theorem fnVotes_holds : Rows.FnVotesCardSaid := fnVotes.card
end Go.Proofs.YtajckopldkmcnaaDoor
