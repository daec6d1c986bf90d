/-
  At every code right pairs have one root, in whatever order they were put in: FnRoots answers true. No condition; the round words are laid as the program's text lays them.
-/
import Derived.Test.YtldkilpndcafjaaGreatDoorDrawPs
import Derived.Test.YtldkilpndcafjaaGreatDoorMathRts
import Derived.Test.YtldkilpndcafjaaGreatDoorSeatAll
import Derived.Test.YtldkilpndcafjaaGreatDoorTie
import Derived.Test.YtldkilpndcafjaaGreatDoorCards
import Derived.ProofKit
import Derived.LaidMore
import Derived.OpenShut
import Derived.ShutString
import Derived.ChangeOld
import Derived.Below
import Derived.Stop.Joined
import Derived.Lib.LaidTab
import Derived.SevenTiedAt
import Derived.SliceStrings
namespace Go.Proofs.YtldkilpndcafjaaGreatDoor.fnRoots
open Go.ChangeShapes Go.WideShapes Go.ChangeAt Go.RowKit
open Go.ChangeMaps (open_string shut_string)
set_option linter.unusedVariables false

theorem own : ownKnob Tryz.prog.godebug = none := by kernel_rfl
theorem laidOut0 : laidOutB Tryz.prog = true := by kernel_rfl
theorem gTab : Tryz.prog.globalNamed "loop.example/g00226/impl.roundWords" = some 1 := by kernel_rfl
theorem tTab : (Tryz.prog.globals[1]?).map (·.type) = some 147 := by kernel_rfl

/-- The door's own heap meets the condition. -/
theorem door_met (os : Os) (args : Array Value) : laidMetH Tryz.prog Rows.fnRootsRow.laid ((World.doorLaid Tryz.prog 400 os).forCall (fun _ _ => 0) ⟨#[], args, []⟩).memory :=
  laidMetH_of_parts3 (fuel := 8) (laidMet_of_run' 8 (by kernel_rfl) (by kernel_rfl)) (by kernel_rfl) (by kernel_rfl)

/-- What the condition gives the walks: the round words' cells. -/
theorem tab_of {W : World} (h : laidMetH Tryz.prog Rows.fnRootsRow.laid W) : Tab W := by
  rw [MakeChecks.laidMetH_plain _ _ _ (by kernel_rfl)] at h
  have hT : Lib.TabIs Tryz.prog W "loop.example/g00226/impl.roundWords" .u32 (kL.map fun x => num x) := Lib.tabIs_of_head (rest := []) gTab tTab Tryz.underlying147 Tryz.underlying106 (by kernel_rfl) (by kernel_rfl) h
  have hc : ∀ i, i < 64 → W.cell? ⟨1, i, none⟩ = some (.int .u32 (num (kL.getD i 0))) := fun i hi => by
    have hl : i < kL.length := hi
    have := hT.cell gTab i (by rw [List.length_map]; exact hl)
    rw [this]
    simp [List.getD, hl]
  exact ⟨block_lt_of_cell (hc 0 (by omega)), hc⟩

theorem small_le {ps : List PairL} (h : smallP ps) : ∀ p ∈ ps, p.1.length ≤ 1048576 ∧ p.2.length ≤ 1048576 := fun p hp => by
  have := h p hp
  exact ⟨by omega, by omega⟩

set_option maxRecDepth 100000 in
set_option maxHeartbeats 1000000 in
theorem drawRootOf (n cap : Nat) (a : Option Addr) (w : World) (hn : n ≤ 1048576) (h : Code w a n) :
    Calls Tryz.prog 9 #[.slice a n cap] w fun e w' => ∃ (ps : List PairL) (g c : Nat), ps.length ≤ 9 ∧ smallP ps ∧ e = .returned (.slice (some ⟨g, 0, none⟩) ps.length c) ∧ w'.ownsRow w.heap.size 31 2 (.slice (some ⟨g, 0, none⟩) ps.length c) ps.length (pcells ps) ∧ Below w.heap.size w w' := by
  have H1 := open_any n cap a w h
  clear h
  go_enter Tryz.func9, Tryz.ntmps9
  go_wp2_with fail
  refine H1.mono ?_
  rintro e w1 ⟨rfl, hR1, b1⟩
  have HR1 : Hid (Rd w.heap.size a n cap w1) := hR1
  have hlt1 := hR1.lt
  clear hR1 H1
  go_wp2_with fail
  refine (pairs_any w.heap.size n cap 8 8 a w1 rfl (by omega) (by omega) hn HR1.out).mono ?_
  rintro e w2 ⟨ps, g, c, hpl, hsm, rfl, o2, hR2, hG2⟩
  have B2 := below_rd b1 hG2
  have HO2 := hidOwn (o2.mono (Nat.le_of_lt hlt1))
  have HSM : Hid (smallP ps) := hsm
  clear hR2 hG2 HR1 o2 hsm b1
  go_wp2
  go_ret
  exact ⟨ps, g, c, hpl, HSM.out, rfl, HO2.out, B2⟩

theorem some_row {w : World} {B e m c n : Nat} {a : Option Addr} {xs : List Value} (h : w.ownsRow B e 2 (.slice a m c) n xs) (hn : 0 < n) : ∃ g, a = some ⟨g, 0, none⟩ ∧ m = n ∧ n ≤ c := by
  rcases h.2 with ⟨h1, h2⟩ | ⟨g, c', cur, h1, _, _, h3, _⟩
  · omega
  · simp only [Value.slice.injEq] at h1
    obtain ⟨rfl, rfl, rfl⟩ := h1
    exact ⟨g, rfl, rfl, h3⟩

theorem row_cap {w : World} {B e g m c n : Nat} {xs : List Value} (h : w.ownsRow B e 2 (.slice (some ⟨g, 0, none⟩) m c) n xs) : n ≤ c := by
  rcases h.2 with ⟨h1, _⟩ | ⟨g', c', cur, h1, _, _, h3, _⟩
  · cases h1
  · cases h1; exact h3

set_option maxRecDepth 100000 in
set_option maxHeartbeats 4000000 in
theorem walk (a0 : Option Addr) (len0 cap0 : Nat) (w : World) (w0 : Code w a0 len0) (hT : Tab w) :
    Calls Tryz.prog 3 #[.slice a0 len0 cap0] w fun e w' => e = .returned (.bool true) ∧ Below w.heap.size w w' := by
  by_cases hb : len0 ≤ 1048576
  · have HB := bigNo len0 cap0 a0 w hb
    have HC : Hid (Code w a0 len0) := w0
    have HT : Hid (Tab w) := hT
    clear w0 hT
    go_enter Tryz.func3, Tryz.ntmps3
    go_wp2_with fail
    refine HB.mono ?_
    rintro e w ⟨rfl, rfl⟩
    clear HB
    have HD := drawRootOf len0 cap0 a0 w hb HC.out
    go_wp2_with fail
    refine HD.mono ?_
    rintro e w1 ⟨ps, g, c, hpl, hsm, rfl, o1, B1⟩
    have hmm := small_le hsm
    have HMM : Hid (∀ p ∈ ps, p.1.length ≤ 1048576 ∧ p.2.length ≤ 1048576) := hmm
    have I1 := (isPairs_own o1).2.2
    have hgl : g < w1.heap.size := by
      rcases own_cases2 o1 with ⟨h1, _⟩ | ⟨g', c', h1, _, h2, _⟩
      · cases h1
      · cases h1; exact h2
    have HCELL : Hid (∀ W, Below w1.heap.size w1 W → ∀ j (h : j < ps.length), W.cell? ⟨g, j * 2, none⟩ = some (.string ⟨ps[j].1.toArray⟩) ∧ W.cell? ⟨g, j * 2 + 1, none⟩ = some (.string ⟨ps[j].2.toArray⟩)) := fun W hW j hj => by
      have := own_cellP o1 j hj
      rw [keyAt_get ps j hj, valAt_get ps j hj] at this
      exact ⟨(hW.cell (p := ⟨g, j * 2, none⟩) hgl).trans this.1, (hW.cell (p := ⟨g, j * 2 + 1, none⟩) hgl).trans this.2⟩
    have HI1 : Hid (∀ W, Below w1.heap.size w1 W → IsPairs W (some ⟨g, 0, none⟩) ps) := fun W hW => I1.later hW
    have HK3 : Hid (∀ a c W, IsPairs W a ps → Tab W → _) := fun a c W h hT => impl_rootOf a c ps W (by omega) hmm h hT
    have HK4 : Hid (∀ a c W, IsPairs W a ps → _) := fun a c W h => spec_rootOf a c ps W (by omega) hmm h
    have HOK : Hid (rootOk ps = true → pairsOkL ps = true ∧ ((rootR ps ≠ emptyL) ↔ 0 < ps.length)) := by
      intro h
      have hp : pairsOkL ps = true := by simp only [rootOk, Bool.and_eq_true] at h; exact h.1
      refine ⟨hp, ?_⟩
      by_cases h0 : ps = []
      · subst h0
        have ea : allL [] = [] := build_nil 60
        have : rootR [] = emptyL := by rw [rootR, if_pos h, ea, rootOr, if_pos rfl]
        rw [this]
        simp
      · exact ⟨fun _ => List.length_pos_iff.2 h0, fun _ => (root_ne_empty h h0).2⟩
    obtain ⟨r1, hr1⟩ : ∃ r1, r1 = rootR ps := ⟨_, rfl⟩
    obtain ⟨ok, hok⟩ : ∃ ok, ok = rootOk ps := ⟨_, rfl⟩
    rw [← hr1, ← hok] at HK3 HK4 HOK
    have K2 := HK3.out (some ⟨g, 0, none⟩) c w1 I1 (HT.out.later B1)
    clear HD hsm hmm o1 I1 hr1 hok
    go_wp2_with fail
    refine K2.mono ?_
    rintro e w2 ⟨rfl, b2⟩
    have B2 := B1.trans (b2.mono B1.size)
    have K3 := HK4.out (some ⟨g, 0, none⟩) c w2 (HI1.out w2 b2)
    clear K2
    go_wp2_with fail
    refine K3.mono ?_
    rintro e w3 ⟨rfl, b3'⟩
    have B3 := B2.trans (b3'.mono B2.size)
    have b3 : Below w1.heap.size w1 w3 := b2.trans (b3'.mono b2.size)
    clear K3 HK4 b2 b3'
    cases ok with
    | false =>
      go_wp2
      go_ret
      exact ⟨rfl, B3⟩
    | true =>
      obtain ⟨hpo, hne⟩ := HOK.out rfl
      have HNE : Hid ((r1 ≠ emptyL) ↔ 0 < ps.length) := hne
      have HPO : Hid (pairsOkL ps = true) := hpo
      clear HOK hne hpo
      obtain ⟨n, hn⟩ : ∃ n, n = ps.length := ⟨_, rfl⟩
      have HN : Hid (n = ps.length) := hn
      rw [← hn] at hpl ⊢
      have hs3 := b3.size
      have la := World.ownsRow_lit (e := 31) (size := 2) (base := w1.heap.size) w3 #[] 0 hs3 (Nat.zero_le _) rfl
      have XA : Below w3.heap.size w3 (w3.alloc (.cells #[] 31)) := (Below.refl _ _).alloc (Nat.le_refl _) _
      have lb := World.ownsRow_lit (e := 31) (size := 2) (base := w1.heap.size) (w3.alloc (.cells #[] 31)) #[] 0 (by simp; omega) (Nat.zero_le _) rfl
      have XB : Below w3.heap.size w3 ((w3.alloc (.cells #[] 31)).alloc (.cells #[] 31)) := XA.alloc (by simp) _
      have la' := kept2 la ((Below.refl (w3.alloc (.cells #[] 31)).heap.size (w3.alloc (.cells #[] 31))).alloc (Nat.le_refl _) (.cells #[] 31))
      have LA := hidOwn la'
      have LB := hidOwn lb
      have B5 := B3.trans (XB.mono B3.size)
      have b5 := b3.trans (XB.mono hs3)
      clear la lb la' XA XB hn
      go_wp2
      go_loopw [8, 9, 10, 11, 12, 13, 14] (fun va vb i _ _ _ _ wr => ∃ j ga ca gb cb : Nat, j ≤ n ∧ i = .int .i64 (j : Int) ∧ va = .slice (some ⟨ga, 0, none⟩) j ca ∧ vb = .slice (some ⟨gb, 0, none⟩) j cb ∧ Hid (wr.ownsRow w1.heap.size 31 2 (.slice (some ⟨ga, 0, none⟩) j ca) j (pcells (ps.take j))) ∧ Hid (wr.ownsRow w1.heap.size 31 2 (.slice (some ⟨gb, 0, none⟩) j cb) j (pcells (ps.drop (n - j)))) ∧ Below w.heap.size w wr ∧ Below w1.heap.size w1 wr) (fun _ _ i _ _ _ _ _ => n - (intOf i).toNat)
      case atStart =>
        refine ⟨0, w3.heap.size, 0, w3.heap.size + 1, 0, Nat.zero_le _, rfl, rfl, by simp, LA.out, ?_, B5, b5⟩
        have e : ps.drop (n - 0) = [] := by rw [HN.out]; simp
        have h9 := LB.out
        rw [Hid, e]
        simpa [pcells] using h9
      case round =>
        obtain ⟨j, ga, ca, gb, cb, hj, rfl, rfl, rfl, HOA, HOB, hbel, hbel1⟩ := hrel
        clear LA LB B5 b5
        by_cases hlt : j < n
        · have hjl : j < ps.length := by have := HN.out; omega
          obtain ⟨p, hp⟩ : ∃ p, p = n - 1 - j := ⟨_, rfl⟩
          have hpl2 : p < ps.length := by have := HN.out; omega
          have HP : Hid (p + 1 = n - j ∧ n - (j + 1) = p ∧ p = n - 1 - j) := ⟨by omega, by omega, hp⟩
          obtain ⟨c1, c2⟩ := HCELL.out wr hbel1 j hjl
          have hps9 : ps.length ≤ 9 := by have := HN.out; omega
          have f1 := front_ok ps HPO.out j hjl
          have f2 := back_ok ps HPO.out p hpl2
          have KA := impl_setPair ga 0 ca (ps.take j) ps[j].1 ps[j].2 wr.drew (by simp; omega) (by have := row_cap HOA.out; simp; omega) (fun q hq => HMM.out q (List.mem_of_mem_take hq)) (HMM.out _ (List.getElem_mem _)).1 (HMM.out _ (List.getElem_mem _)).2 ((isPairs_own HOA.out).2.2.later ⟨rfl, rfl, rfl, Nat.le_refl _, fun _ _ => rfl⟩)
          have HKB : Hid (∀ W, IsPairs W (some ⟨gb, 0, none⟩) (ps.drop (p + 1)) → _) := fun W h => impl_setPair gb 0 cb (ps.drop (p + 1)) ps[p].1 ps[p].2 W (by simp; omega) (by have := row_cap HOB.out; simp; have := HN.out; omega) (fun q hq => HMM.out q (List.mem_of_mem_drop hq)) (HMM.out _ (List.getElem_mem _)).1 (HMM.out _ (List.getElem_mem _)).2 h
          rw [f1.1, f1.2] at KA
          rw [f2.1, f2.2] at HKB
          have e1 : (ps.take j).length = j := by simp; omega
          have e2 : (ps.drop (p + 1)).length = j := by simp; have := HN.out; omega
          rw [e1] at KA
          rw [e2] at HKB
          have HIB : Hid (∀ W, Below wr.heap.size wr W → IsPairs W (some ⟨gb, 0, none⟩) (ps.drop (p + 1))) := fun W hW => by
            have := (isPairs_own HOB.out).2.2.later hW
            rwa [← HP.out.1] at this
          have HC2 : Hid (∀ W, Below w1.heap.size w1 W → W.cell? ⟨g, p * 2, none⟩ = some (.string ⟨ps[p].1.toArray⟩) ∧ W.cell? ⟨g, p * 2 + 1, none⟩ = some (.string ⟨ps[p].2.toArray⟩)) := fun W hW => HCELL.out W hW p hpl2
          obtain ⟨x, hx⟩ : ∃ x, x = ps[j].1 := ⟨_, rfl⟩
          obtain ⟨y, hy⟩ : ∃ y, y = ps[j].2 := ⟨_, rfl⟩
          obtain ⟨x', hx'⟩ : ∃ x', x' = ps[p].1 := ⟨_, rfl⟩
          obtain ⟨y', hy'⟩ : ∃ y', y' = ps[p].2 := ⟨_, rfl⟩
          rw [← hx] at c1 KA
          rw [← hy] at c2 KA
          rw [← hx'] at HKB HC2
          rw [← hy'] at HKB HC2
          have hj0 : (0 : Int) ≤ (j : Int) := by omega
          have hj1 : (j : Int) < (n : Int) := by omega
          have s1 := hbel1.size
          have c1d : wr.drew.cell? ⟨g, j * 2, none⟩ = some (.string ⟨x.toArray⟩) := c1
          have c2d : wr.drew.cell? ⟨g, j * 2 + 1, none⟩ = some (.string ⟨y.toArray⟩) := c2
          have hS : wr.drew.cell? ⟨g, j * 2, none⟩ = some (.string ⟨x.toArray⟩) ∧ wr.drew.cell? ⟨g, j * 2 + 1, none⟩ = some (.string ⟨y.toArray⟩) := ⟨c1, c2⟩
          clear f1 f2 e1 e2 hx hy hx' hy' c1d c2d
          go_wp2
          go_region_held3 (fun w' => w'.cell? ⟨g, j * 2, none⟩ = some (.string ⟨x.toArray⟩) ∧ w'.cell? ⟨g, j * 2 + 1, none⟩ = some (.string ⟨y.toArray⟩)) (first | with_reducible exact hS | with_reducible exact hS2)
            (first
              | (go_at_call 12
                 with_reducible refine KA.mono ?_
                 rintro e w6 ⟨xa, xm, xc, rfl, ox, b6'⟩
                 have b6 : Below wr.heap.size wr w6 := ⟨b6'.os, b6'.tape, b6'.output, b6'.size, b6'.block⟩
                 have hS2 : w6.cell? ⟨g, j * 2, none⟩ = some (.string ⟨x.toArray⟩) ∧ w6.cell? ⟨g, j * 2 + 1, none⟩ = some (.string ⟨y.toArray⟩) := ⟨(b6.cell (p := ⟨g, j * 2, none⟩) (show g < wr.heap.size by omega)).trans hS.1, (b6.cell (p := ⟨g, j * 2 + 1, none⟩) (show g < wr.heap.size by omega)).trans hS.2⟩
                 have HB6 : Hid (Below wr.heap.size wr w6) := b6
                 have OX := hidOwn ox
                 clear ox b6 b6'))
          all_goals
            have hlj : (ps.take (j + 1)).length = j + 1 := by simp; omega
            have ox := OX.out
            rw [hlj] at ox
            obtain ⟨gx, rfl, rfl, hxc⟩ := some_row ox (by omega)
            have b6 := HB6.out
            have BB6 := hbel.trans (b6.mono hbel.size)
            have bb6 := hbel1.trans (b6.mono s1)
            have s6 := bb6.size
            have OX6 := hidOwn (ox.mono s1)
            obtain ⟨d1, d2⟩ := HC2.out w6 bb6
            have d1d : w6.drew.cell? ⟨g, p * 2, none⟩ = some (.string ⟨x'.toArray⟩) := d1
            have d2d : w6.drew.cell? ⟨g, p * 2 + 1, none⟩ = some (.string ⟨y'.toArray⟩) := d2
            have hT2 : w6.drew.cell? ⟨g, p * 2, none⟩ = some (.string ⟨x'.toArray⟩) ∧ w6.drew.cell? ⟨g, p * 2 + 1, none⟩ = some (.string ⟨y'.toArray⟩) := ⟨d1, d2⟩
            have KB := HKB.out w6.drew (HIB.out w6.drew ⟨b6.os, b6.tape, b6.output, b6.size, b6.block⟩)
            have g1 : IntKind.i64.wrap ((n : Int) - 1) = (n : Int) - 1 := i64_wrap_small _ (by omega) (by omega)
            have g2 : IntKind.i64.wrap ((n : Int) - 1 - (j : Int)) = (p : Int) := by rw [i64_wrap_small _ (by omega) (by omega)]; omega
            have g3 : (0 : Int) ≤ (p : Int) := by omega
            have g4 : (p : Int) < (n : Int) := by have := HN.out; omega
            clear hS hS2 KA OX ox b6 d1d d2d c1 c2 HKB HIB hp
            go_wp2
            go_region_held3 (fun w' => w'.cell? ⟨g, p * 2, none⟩ = some (.string ⟨x'.toArray⟩) ∧ w'.cell? ⟨g, p * 2 + 1, none⟩ = some (.string ⟨y'.toArray⟩)) (first | with_reducible exact hT2 | with_reducible exact hT3)
              (first
                | (go_at_call 12
                   with_reducible refine KB.mono ?_
                   rintro e w7 ⟨ya, ym, yc, rfl, oy, b7'⟩
                   have b7 : Below w6.heap.size w6 w7 := ⟨b7'.os, b7'.tape, b7'.output, b7'.size, b7'.block⟩
                   have hT3 : w7.cell? ⟨g, p * 2, none⟩ = some (.string ⟨x'.toArray⟩) ∧ w7.cell? ⟨g, p * 2 + 1, none⟩ = some (.string ⟨y'.toArray⟩) := ⟨(b7.cell (p := ⟨g, p * 2, none⟩) (show g < w6.heap.size by omega)).trans hT2.1, (b7.cell (p := ⟨g, p * 2 + 1, none⟩) (show g < w6.heap.size by omega)).trans hT2.2⟩
                   have HB7 : Hid (Below w6.heap.size w6 w7) := b7
                   have OY := hidOwn oy
                   clear oy b7 b7'))
            all_goals
              have hlp : (ps.drop p).length = j + 1 := by simp; have := HN.out; have := HP.out; omega
              have oy := OY.out
              rw [hlp] at oy
              obtain ⟨gy, rfl, rfl, hyc⟩ := some_row oy (by omega)
              have b7 := HB7.out
              have BB7 := BB6.trans (b7.mono BB6.size)
              have bb7 := bb6.trans (b7.mono s6)
              have OX7 := hidOwn (kept2 OX6.out b7)
              have OY7 := hidOwn (oy.mono s6)
              rw [← HP.out.2.1] at OY7
              clear hT2 hT3 KB OY oy b7 OX6 HOA HOB
              go_wp2
              go_roundw
              case rel => exact ⟨j + 1, gx, xc, gy, yc, by omega, by go_num, rfl, rfl, OX7, OY7, BB7, bb7⟩
              case measure => simp [intOf]; omega
        · obtain rfl : j = n := by omega
          have IA := (isPairs_own HOA.out).2.2
          rw [List.take_of_length_le (by have := HN.out; omega)] at IA
          have IB := (isPairs_own HOB.out).2.2
          rw [Nat.sub_self, List.drop_zero] at IB
          have HIA : Hid (IsPairs wr (some ⟨ga, 0, none⟩) ps) := IA
          have HIB : Hid (IsPairs wr (some ⟨gb, 0, none⟩) ps) := IB
          have K7 := HK3.out _ ca wr IA (HT.out.later hbel)
          rw [← HN.out] at K7
          clear IA IB HOA HOB HCELL hlt
          go_wp2_with fail
          refine K7.mono ?_
          rintro e w7 ⟨rfl, b7⟩
          have B7 := hbel.trans (b7.mono hbel.size)
          have bb7 := hbel1.trans (b7.mono hbel1.size)
          have HIA7 : Hid (IsPairs w7 (some ⟨ga, 0, none⟩) ps) := HIA.out.later b7
          have HIB7 : Hid (IsPairs w7 (some ⟨gb, 0, none⟩) ps) := HIB.out.later b7
          have K8 := HK3.out _ cb w7 HIB7.out (HT.out.later B7)
          rw [← HN.out] at K8
          clear K7 b7 HIA HIB HK3
          go_wp2_with fail
          refine K8.mono ?_
          rintro e w8 ⟨rfl, b8⟩
          have B8 := B7.trans (b8.mono B7.size)
          have bb8 := bb7.trans (b8.mono bb7.size)
          have K9 := samePairs_same ps (some ⟨ga, 0, none⟩) (some ⟨g, 0, none⟩) ca c w8 (by have := HN.out; omega) (HIA7.out.later b8) (HI1.out w8 bb8)
          have HIB8 : Hid (IsPairs w8 (some ⟨gb, 0, none⟩) ps) := HIB7.out.later b8
          rw [← HN.out] at K9
          clear K8 b8 HIA7 HIB7
          go_wp2_with fail
          refine K9.mono ?_
          rintro e w9 ⟨rfl, b9⟩
          have B9 := B8.trans (b9.mono B8.size)
          have bb9 := bb8.trans (b9.mono bb8.size)
          have K10 := samePairs_same ps (some ⟨gb, 0, none⟩) (some ⟨g, 0, none⟩) cb c w9 (by have := HN.out; omega) (HIB8.out.later b9) (HI1.out w9 bb9)
          rw [← HN.out] at K10
          clear K9 b9 HIB8
          go_wp2_with fail
          refine K10.mono ?_
          rintro e w10 ⟨rfl, b10⟩
          have B10 := B9.trans (b10.mono B9.size)
          have K11 := impl_empty w10 (HT.out.later B10)
          clear K10 b10
          go_wp2_with fail
          refine K11.mono ?_
          rintro e w11 ⟨rfl, b11⟩
          have B11 := B10.trans (b11.mono B10.size)
          clear K11 b11
          obtain ⟨er, her⟩ : ∃ er, er = emptyL := ⟨_, rfl⟩
          rw [← her] at HNE ⊢
          clear her
          by_cases hz : 0 < j
          · have hne : r1 ≠ er := HNE.out.2 (by rw [← HN.out]; exact hz)
            have h1 : (r1 != er) = true := by rw [bne_iff_ne]; exact hne
            have h2 : (r1 == er) = false := by rw [beq_eq_false_iff_ne]; exact hne
            have h3 : decide (0 < (j : Int)) = true := by simp; omega
            have h4 : decide (0 < j) = true := by simp; omega
            clear hne HNE
            go_wp2
            go_ret
            exact ⟨rfl, B11⟩
          · have heq : r1 = er := Classical.byContradiction fun h => hz (by rw [HN.out]; exact HNE.out.1 h)
            subst heq
            obtain rfl : j = 0 := by omega
            clear HNE
            go_wp2
            go_ret
            exact ⟨rfl, B11⟩
  · have HB := bigYes len0 cap0 a0 w hb
    clear w0
    go_enter Tryz.func3, Tryz.ntmps3
    go_wp2_with fail
    refine HB.mono ?_
    rintro e w1 ⟨rfl, rfl⟩
    go_wp2
    go_ret
    exact ⟨rfl, Below.refl _ _⟩

set_option maxRecDepth 100000 in
theorem lifted (os : Os) (started : os.Started) (H : Type) (enc : TypeId × Value → H) :
    ReturnsInHanded {} Tryz.checked os 3 .any (fun w args => (Rows.fnRootsSpec.pre enc Tryz.prog Tryz.f3 [] false w args ∧ laidMetH Tryz.prog Rows.fnRootsRow.laid w) ∧ sizedMet enc Tryz.prog Tryz.f3 (OpenSpec.ofChange Rows.fnRootsSpec) false w args)
      (Rows.fnRootsSpec.post enc Tryz.prog Tryz.f3 false true false false) := by
  refine returnsInHanded_of_change_and (C := Tryz.checked) (X := fun w _ => laidMetH Tryz.prog Rows.fnRootsRow.laid w) (fun _ _ _ hh h => h.of_heap hh) own started (by kernel_rfl) Tryz.func3
    (ChangeSpec.witness_shaped (enc := enc) (C := Tryz.checked) (os := os) (X := fun w _ => laidMetH Tryz.prog Rows.fnRootsRow.laid w) false (World.doorLaid Tryz.prog 400 os) #[.slice none 0 0] 8 rfl (World.shaped_of_RefB (by kernel_rfl) (by kernel_rfl)) (by kernel_rfl) (by kernel_rfl) (by kernel_rfl) (door_met os _)) ?_
  intro W base args ds gs before hval0 hW _ _ hL _
  have hval : ∀ (j : Nat) t v, Tryz.f3.params[j]? = some t → args[j]? = some v → Value.okWide Tryz.prog W .any base t v := hval0
  have hW' := hW
  obtain ⟨p, q, hA0, hV0, rfl, hfz, hnd⟩ := hW
  have hA : DataW.TrodAll enc Tryz.prog W 0 (fun _ => true) true Tryz.f3.params.toList args.toList ds p := hA0
  have hV : DataW.TrodVars enc Tryz.prog W (fun _ => true) ["loop.example/g00226/impl.roundWords"] gs q := hV0
  rw [Tryz.params3] at hA hval
  obtain ⟨v0, vs0, d0, ds0, p0, q0, hargs, rfl, rfl, h0, r0⟩ := trodAll_cons hA
  obtain ⟨rfl, rfl, rfl⟩ := trodAll_nil r0
  obtain rfl : args = #[v0] := by cases args; simp_all
  obtain ⟨a0, len0, cap0, rfl⟩ := okWide_slice Tryz.underlying22 (hval 0 22 v0 rfl rfl)
  have k0 := h0
  have lt0 : ∀ x ∈ p0, x.block < W.heap.size := by obtain ⟨m, hm⟩ := k0; exact DataW.trod_lt m _ _ _ hm
  have w0 : Code W a0 len0 := by
    obtain ⟨fuel, hf⟩ := h0
    rcases open_ints Tryz.underlying22 Tryz.underlying5 (by kernel_rfl) hf with ⟨hcs, _⟩ | ⟨x, l, c, zs, hcs, _, hl, hm, hz, _, hcell, hwz⟩
    · simp [Value.cells] at hcs
      obtain ⟨rfl, rfl, rfl⟩ := hcs
      exact .inl rfl
    · simp [Value.cells] at hcs
      obtain ⟨rfl, rfl, rfl⟩ := hcs
      exact codeOf W x _ _ zs hl (by simpa using hz) hcell hwz
  obtain ⟨g, t, cs, fuel, d, p', rfl, hg, ht, hvar, hd, rfl⟩ := trodVars_one hV
  obtain rfl := Option.some.inj (gTab.symm.trans hg)
  obtain rfl := Option.some.inj (tTab.symm.trans ht)
  have hT := tab_of hL
  have hltv : ∀ x ∈ p', x.block < W.heap.size := fun x hx => hW'.lt x (List.mem_append_right _ (List.mem_append_right _ hx))
  clear hA0 hV0 hval0 hA hV
  refine (walk a0 len0 cap0 W w0 hT).mono fun e W' ⟨he, hB⟩ => ?_
  subst he
  obtain ⟨fuel', hd'⟩ := Below.trod laidOut0 (by kernel_rfl) (of_decide_eq_true (by kernel_rfl)) (v := .agg cs) (⟨fuel, by simpa [Value.cells] using hd⟩ : DataW.Trod enc Tryz.prog W 0 (fun _ => true) true 147 (.agg cs) d p') hB hltv
  have hv' := trodVars_mk1 (enc := enc) (spare := fun b => decide (b < W.heap.size)) hg ht (var?_below hB hg hT.1 hvar) (by simpa [Value.cells] using hd')
  exact ⟨_, rfl, _, _, _, [], _, _, hW', trodAll_mk1 (shut_bool Tryz.underlying4 _), (trodAll_cons_mk (Below.trod laidOut0 (by kernel_rfl) (of_decide_eq_true (by kernel_rfl)) k0 hB lt0) trodAll_mk0), hv', hB.frame _, fun h => by cases h⟩

theorem named0 : Tryz.prog.funcNamed "loop.example/g00226/laws.FnRoots" = some 3 := by kernel_rfl
theorem closed0 : joinedFacts Tryz.prog 3 Tryz.f3 Rows.fnRootsSpec Rows.fnRootsRow = true := by
  unfold joinedFacts
  rw [seat_may, seat_lifts, seat_make]
  kernel_rfl
theorem inst0 : Tryz.f3.isInstance Tryz.prog Rows.fnRootsRow.origin Rows.fnRootsRow.targs := of_decide_eq_true (by kernel_rfl)
theorem wrap0 : Tryz.f3.isWrapper Tryz.prog Rows.fnRootsRow.wrapper Rows.fnRootsRow.mainSum := by unfold Func.isWrapper; first | (rw [if_pos (by decide +kernel)]; kernel_rfl) | (rw [if_neg (by decide +kernel)]; exact ⟨rfl, rfl⟩)

theorem over : Rows.fnRootsRow.holds Tryz.pinned (OpenSpec.ofChange Rows.fnRootsSpec) :=
  OpenClaim.holds_of_wide 3 Tryz.f3 rfl rfl rfl rfl rfl rfl rfl ⟨rfl, rfl, rfl, rfl, rfl⟩ rfl rfl rfl rfl rfl named0 Tryz.func3 closed0 inst0 wrap0
    (fun os started H enc _ => lifted os started H enc)

theorem text0 : Rows.fnRootsRow.wfByText (OpenSpec.ofChange Rows.fnRootsSpec) = true := by kernel_rfl
theorem looks0 : false = Tryz.prog.looks [] := by kernel_rfl
theorem goes0 : false = Rows.fnRootsRow.goesBy Tryz.prog := by kernel_rfl
theorem wants0 : ([22].all fun u => !Tryz.prog.wantsStandIn u) = true := by kernel_rfl

theorem card : Claim7.holds Tryz.pinned (.plain (OpenSpec.ofChange Rows.fnRootsSpec)) Rows.fnRootsCard :=
  Claim7.holds_tied_plain_at .later [] [.data] true (true, Rows.fnRootsCard.stood.harness.2) false
    over (fun _ h => by cases h) text0 (fun _ h => by cases h) fnRoots_row_tie rfl ⟨rfl, rfl⟩ seat_main rfl
    (fun f fn hf hfn => by
      obtain rfl : f = 3 := Option.some.inj (named0.symm.trans hf) |>.symm
      obtain rfl : fn = Tryz.f3 := (Option.some.inj (Tryz.func3.symm.trans hfn)).symm
      exact ⟨looks0, fun j t ht => by
        rw [Tryz.params3] at ht
        have hm : t ∈ [22] := by simpa using Array.mem_of_getElem? ht
        exact (show Tryz.prog.wantsStandIn t = false by simpa using List.all_eq_true.1 wants0 t hm)⟩)
    goes0

end Go.Proofs.YtldkilpndcafjaaGreatDoor.fnRoots
namespace Go.Proofs.YtldkilpndcafjaaGreatDoor
theorem fnRoots_holds : Rows.FnRootsCardSaid := fnRoots.card
end Go.Proofs.YtldkilpndcafjaaGreatDoor
