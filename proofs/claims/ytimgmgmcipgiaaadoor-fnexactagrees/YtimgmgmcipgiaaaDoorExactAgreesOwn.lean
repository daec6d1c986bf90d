/-
  At every list of nodes and proof Agrees answers as its model; it writes into no argument. No condition; the round words are laid as the program's text lays them.
-/
import Derived.Test.YtimgmgmcipgiaaaDoorStAll
import Derived.Test.YtimgmgmcipgiaaaDoorAgr
import Derived.Test.YtimgmgmcipgiaaaDoorSzGen
import Derived.Test.YtimgmgmcipgiaaaDoorOpen4
import Derived.Test.YtimgmgmcipgiaaaDoorSeatAll
import Derived.Test.YtimgmgmcipgiaaaDoorTie
import Derived.Test.YtimgmgmcipgiaaaDoorCards
import Derived.ProofKit
import Derived.LaidMore
import Derived.OpenShut
import Derived.ShutString
import Derived.ChangeOld
import Derived.Below
import Derived.Stop.Joined
import Derived.Lib.LaidTab
import Derived.SevenTiedAt
import Derived.SliceStrings
namespace Go.Proofs.YtimgmgmcipgiaaaDoor.fnExactAgrees
open Go.ChangeShapes Go.WideShapes Go.ChangeAt Go.RowKit
open Go.ChangeMaps (open_string shut_string)
set_option linter.unusedVariables false

theorem own : ownKnob Tryd.prog.godebug = none := by kernel_rfl
theorem laidOut0 : laidOutB Tryd.prog = true := by kernel_rfl
theorem gTab : Tryd.prog.globalNamed "loop.example/g00226/impl.roundWords" = some 0 := by kernel_rfl
theorem tTab : (Tryd.prog.globals[0]?).map (·.type) = some 88 := by kernel_rfl

/-- The door's own heap meets the condition. -/
theorem door_met (os : Os) (args : Array Value) : laidMetH Tryd.prog Rows.fnExactAgreesRow.laid ((World.doorLaid Tryd.prog 400 os).forCall (fun _ _ => 0) ⟨#[], args, []⟩).memory :=
  laidMetH_of_parts3 (fuel := 8) (laidMet_of_run' 8 (by kernel_rfl) (by kernel_rfl)) (by kernel_rfl) (by kernel_rfl)

/-- What the condition gives the walks: the round words' cells. -/
theorem tab_of {W : World} (h : laidMetH Tryd.prog Rows.fnExactAgreesRow.laid W) : Tab W := by
  rw [MakeChecks.laidMetH_plain _ _ _ (by kernel_rfl)] at h
  have hT : Lib.TabIs Tryd.prog W "loop.example/g00226/impl.roundWords" .u32 (kL.map fun x => num x) := Lib.tabIs_of_head (rest := []) gTab tTab Tryd.underlying88 Tryd.underlying61 (by kernel_rfl) (by kernel_rfl) h
  have hc : ∀ i, i < 64 → W.cell? ⟨0, i, none⟩ = some (.int .u32 (num (kL.getD i 0))) := fun i hi => by
    have hl : i < kL.length := hi
    have := hT.cell gTab i (by rw [List.length_map]; exact hl)
    rw [this]
    simp [List.getD, hl]
  exact ⟨block_lt_of_cell (hc 0 (by omega)), hc⟩

theorem sizes_leS (ps : List PairL) (h : ps.length + sizeP ps ≤ 1048576) : ∀ p ∈ ps, p.1.length ≤ 1048576 ∧ p.2.length ≤ 1048576 := by
  intro p hp
  obtain ⟨j, hj, rfl⟩ := List.getElem_of_mem hp
  have := sizeP_le ps j hj
  exact ⟨by omega, by omega⟩

theorem keptS {w w' : World} {b e n : Nat} {v : Value} {xs : List Value} (h : w.ownsRow b e 1 v n xs) (hb : Below w.heap.size w w') : w'.ownsRow b e 1 v n xs :=
  h.kept (row := none) ⟨hb.os, hb.tape, hb.output, hb.size, fun k hk _ => hb.block k hk⟩ (by cases v.ownBlock with | none => exact .inl rfl | some k => exact .inr (by simp))

set_option maxRecDepth 100000 in
set_option maxHeartbeats 4000000 in
theorem walk (a : Option Addr) (cap : Nat) (ps : List PairL) (b : Option Addr) (cb : Nat) (ts : List (List UInt8)) (w : World) (hl : ps.length ≤ 9223372036854775807) (hm : ∀ p ∈ ps, p.1.length ≤ 9223372036854775807 ∧ p.2.length ≤ 9223372036854775807) (hs : IsPairs w a ps) (htl : ts.length ≤ 9223372036854775807) (htm : ∀ l ∈ ts, l.length ≤ 9223372036854775807) (hts : IsStrs w b ts) (hT : Tab w) :
    Calls Tryd.prog 3 #[.slice a ps.length cap, .slice b ts.length cb] w fun e w' => e = .returned (.bool true) ∧ Below w.heap.size w w' := by
  have HT : Hid (Tab w) := hT
  have HK := szStoredS_le a cap ps w hl hm hs
  have HS : Hid (∀ W, Below w.heap.size w W → IsPairs W a ps ∧ IsStrs W b ts) := fun W hW => ⟨hs.later hW, strs_later hts hW⟩
  have HZ : Hid (∀ (L : Nat) W, L ≤ 1048576 → Below w.heap.size w W → Calls Tryd.prog 5 #[.slice b ts.length cb, .int .i64 (L : Int)] W fun e w' => (e = .returned (.int .i64 (-1)) ∨ (ts.length + ts.flatten.length ≤ L ∧ ∃ n : Nat, n ≤ L ∧ n + (ts.length + ts.flatten.length) = L ∧ e = .returned (.int .i64 (n : Int)))) ∧ w' = W) := fun L W hL hW => szS_gen b cb ts L W hL htl htm (strs_later hts hW)
  clear hs hm hT hts htm
  go_enter Tryd.func3, Tryd.ntmps3
  go_wp2_with fail
  refine HK.mono ?_
  rintro e w0 ⟨he, b0⟩
  rcases he with rfl | ⟨hb, n, hnle, rfl⟩
  · go_wp2
    go_ret
    exact ⟨rfl, b0⟩
  · have hln : ps.length ≤ 1048576 := by omega
    have HM : Hid (∀ p ∈ ps, p.1.length ≤ 1048576 ∧ p.2.length ≤ 1048576) := sizes_leS ps hb
    have KZ := HZ.out n w0 hnle b0
    clear HK hb HZ
    go_wp2_with fail
    refine KZ.mono ?_
    rintro e w0 ⟨he, rfl⟩
    clear KZ
    rcases he with rfl | ⟨hbt, n2, hn2, hnn, rfl⟩
    · go_wp2
      go_ret
      exact ⟨rfl, b0⟩
    · have htl' : ts.length ≤ 1048576 := by omega
      have HTM : Hid (∀ l ∈ ts, l.length ≤ 1048576) := fun l hl => by obtain ⟨j, hj, rfl⟩ := List.getElem_of_mem hl; have := each_le ts j hj; omega
      obtain ⟨rn, hrn⟩ : ∃ rn : Int, rn = (agN ps ts : Int) := ⟨_, rfl⟩
      obtain ⟨rb, hrb⟩ : ∃ rb, rb = agB ps ts := ⟨_, rfl⟩
      have HH1 : Hid (∀ a c b d W, IsPairs W a ps → IsStrs W b ts → Calls Tryd.prog 6 #[.slice a ps.length c, .slice b ts.length d] W fun e w' => e = .returned (.tuple #[.int .i64 rn, .bool rb]) ∧ Below W.heap.size W w') := fun a c b d W hp hq => by rw [hrn, hrb]; exact spec_agrees a c ps b d ts W hln HM.out hp htl' HTM.out hq
      have HH2 : Hid (∀ a c b d W, Tab W → IsPairs W a ps → IsStrs W b ts → Calls Tryd.prog 9 #[.slice a ps.length c, .slice b ts.length d] W fun e w' => e = .returned (.tuple #[.int .i64 rn, .bool rb]) ∧ Below W.heap.size W w') := fun a c b d W hT hp hq => by rw [hrn, hrb]; exact impl_agrees a c ps b d ts W hT hln HM.out hp htl' HTM.out hq
      clear hrn hrb hbt hnn
      go_wp2_with fail
      refine (toStoredS_any a cap ps _ hln (HS.out _ b0).1).mono ?_
      rintro e w1 ⟨rfl, o1, b1⟩
      have B1 := b0.trans (b1.mono b0.size)
      have HI1 : Hid (IsPairs w1 (some ⟨w0.heap.size, 0, none⟩) ps) := (isPairs_own o1).2.2
      clear o1 b1
      go_wp2_with fail
      refine (toS_any b cb ts _ htl' (HS.out _ B1).2).mono ?_
      rintro e w2 ⟨rfl, o2, b2⟩
      have B2 := B1.trans (b2.mono B1.size)
      have HI2 : Hid (IsPairs w2 (some ⟨w0.heap.size, 0, none⟩) ps ∧ IsStrs w2 (some ⟨w1.heap.size, 0, none⟩) ts) := ⟨HI1.out.later b2, (strs_own o2).2.2⟩
      clear o2 b2 HI1
      go_wp2_with fail
      refine (HH1.out _ _ _ _ _ HI2.out.1 HI2.out.2).mono ?_
      rintro e w3 ⟨rfl, b3⟩
      have B3 := B2.trans (b3.mono B2.size)
      clear b3 HI2
      go_wp2_with fail
      refine (toStoredS_any a cap ps _ hln (HS.out _ B3).1).mono ?_
      rintro e w4 ⟨rfl, o4, b4⟩
      have B4 := B3.trans (b4.mono B3.size)
      have HI4 : Hid (IsPairs w4 (some ⟨w3.heap.size, 0, none⟩) ps) := (isPairs_own o4).2.2
      clear o4 b4
      go_wp2_with fail
      refine (toS_any b cb ts _ htl' (HS.out _ B4).2).mono ?_
      rintro e w5 ⟨rfl, o5, b5⟩
      have B5 := B4.trans (b5.mono B4.size)
      have HI5 : Hid (IsPairs w5 (some ⟨w3.heap.size, 0, none⟩) ps ∧ IsStrs w5 (some ⟨w4.heap.size, 0, none⟩) ts) := ⟨HI4.out.later b5, (strs_own o5).2.2⟩
      have O5 := hidOwn o5
      clear o5 b5 HI4
      go_wp2_with fail
      refine (HH2.out _ _ _ _ _ (HT.out.later B5) HI5.out.1 HI5.out.2).mono ?_
      rintro e w6 ⟨rfl, b6⟩
      have B6 := B5.trans (b6.mono B5.size)
      have HI6 : Hid (IsPairs w6 (some ⟨w3.heap.size, 0, none⟩) ps) := HI5.out.1.later b6
      have O6 := hidOwn (keptS O5.out b6)
      clear b6 HI5 O5
      go_wp2_with fail
      refine (toStoredS_any a cap ps _ hln (HS.out _ B6).1).mono ?_
      rintro e w7 ⟨rfl, o7, b7⟩
      have B7 := B6.trans (b7.mono B6.size)
      have HI7 : Hid (IsPairs w7 (some ⟨w6.heap.size, 0, none⟩) ps) := (isPairs_own o7).2.2
      have HJ7 : Hid (IsPairs w7 (some ⟨w3.heap.size, 0, none⟩) ps) := HI6.out.later b7
      have O7 := hidOwn (keptS O6.out b7)
      clear o7 b7 HI6 O6
      go_wp2_with fail
      refine (eqStoredS_same ps _ _ _ _ _ (by omega) HJ7.out HI7.out).mono ?_
      rintro e w8 ⟨rfl, b8⟩
      have B8 := B7.trans (b8.mono B7.size)
      have O8 := hidOwn (keptS O7.out b8)
      clear b8 HI7 HJ7 O7
      go_wp2_with fail
      refine (toS_any b cb ts _ htl' (HS.out _ B8).2).mono ?_
      rintro e w9 ⟨rfl, o9, b9⟩
      have B9 := B8.trans (b9.mono B8.size)
      have O9 := hidOwn (keptS O8.out b9)
      have P9 := hidOwn o9
      clear o9 b9 O8
      go_wp2_with fail
      refine (eqS_same ts _ _ _ _ w9 (by omega) O9.out P9.out).mono ?_
      rintro e w10 ⟨rfl, q, rfl⟩
      have B10 : Below w.heap.size w (w9.drewN q) := ⟨B9.os, B9.tape, B9.output, B9.size, B9.block⟩
      go_wp2
      go_ret
      exact ⟨rfl, B10⟩

set_option maxRecDepth 100000 in
theorem lifted (os : Os) (started : os.Started) (H : Type) (enc : TypeId × Value → H) :
    ReturnsInHanded {} Tryd.checked os 3 .any (fun w args => (Rows.fnExactAgreesSpec.pre enc Tryd.prog Tryd.f3 [] false w args ∧ laidMetH Tryd.prog Rows.fnExactAgreesRow.laid w) ∧ sizedMet enc Tryd.prog Tryd.f3 (OpenSpec.ofChange Rows.fnExactAgreesSpec) false w args)
      (Rows.fnExactAgreesSpec.post enc Tryd.prog Tryd.f3 false true false false) := by
  refine returnsInHanded_of_change_and (C := Tryd.checked) (X := fun w _ => laidMetH Tryd.prog Rows.fnExactAgreesRow.laid w) (fun _ _ _ hh h => h.of_heap hh) own started (by kernel_rfl) Tryd.func3
    (ChangeSpec.witness_shaped (enc := enc) (C := Tryd.checked) (os := os) (X := fun w _ => laidMetH Tryd.prog Rows.fnExactAgreesRow.laid w) false (World.doorLaid Tryd.prog 400 os) #[.slice none 0 0, .slice none 0 0] 8 rfl (World.shaped_of_RefB (by kernel_rfl) (by kernel_rfl)) (by kernel_rfl) (by kernel_rfl) (by kernel_rfl) (door_met os _)) ?_
  intro W base args ds gs before hval0 hW _ _ hL _
  have hval : ∀ (j : Nat) t v, Tryd.f3.params[j]? = some t → args[j]? = some v → Value.okWide Tryd.prog W .any base t v := hval0
  have hW' := hW
  obtain ⟨p, q, hA0, hV0, rfl, hfz, hnd⟩ := hW
  have hA : DataW.TrodAll enc Tryd.prog W 0 (fun _ => true) true Tryd.f3.params.toList args.toList ds p := hA0
  have hV : DataW.TrodVars enc Tryd.prog W (fun _ => true) ["loop.example/g00226/impl.roundWords"] gs q := hV0
  rw [Tryd.params3] at hA hval
  obtain ⟨v0, vs0, d0, ds0, p0, q0, hargs0, rfl, rfl, h0, r0⟩ := trodAll_cons hA
  obtain ⟨v1, vs1, d1, ds1, p1, q1, hargs1, rfl, rfl, h1, r1⟩ := trodAll_cons r0
  obtain ⟨rfl, rfl, rfl⟩ := trodAll_nil r1
  obtain rfl : args = #[v0, v1] := by cases args; simp_all
  have k1 := h1
  have lt1 : ∀ x ∈ p1, x.block < W.heap.size := by obtain ⟨m, hm⟩ := k1; exact DataW.trod_lt m _ _ _ hm
  obtain ⟨b1, ts, cb1, hv1, htm, hts, htl⟩ : ∃ (a : Option Addr) (ls : List (List UInt8)) (cap : Nat), v1 = .slice a ls.length cap ∧ (∀ l ∈ ls, l.length ≤ 9223372036854775807) ∧ IsStrs W a ls ∧ ls.length ≤ 9223372036854775807 := by
    obtain ⟨a0, len0, cap0, rfl⟩ := okWide_slice Tryd.underlying23 (hval 1 23 v1 rfl rfl)
    obtain ⟨fuel, hf⟩ := h1
    exact strs_of (by simpa [Value.cells] using hf)
  subst hv1
  have k0 := h0
  have lt0 : ∀ x ∈ p0, x.block < W.heap.size := by obtain ⟨m, hm⟩ := k0; exact DataW.trod_lt m _ _ _ hm
  obtain ⟨a0, ps, cap0, hv0, hm, hs, hbig⟩ : ∃ (a : Option Addr) (ps : List PairL) (cap : Nat), v0 = .slice a ps.length cap ∧ (∀ p ∈ ps, p.1.length ≤ 9223372036854775807 ∧ p.2.length ≤ 9223372036854775807) ∧ IsPairs W a ps ∧ ps.length ≤ 9223372036854775807 := by
    obtain ⟨a1, len1, cap1, rfl⟩ := okWide_slice Tryd.underlying22 (hval 0 22 v0 rfl rfl)
    obtain ⟨fuel, hf⟩ := h0
    exact stored_of (by simpa [Value.cells] using hf)
  subst hv0
  obtain ⟨g, t, cs, fuel, d, p', rfl, hg, ht, hvar, hd, rfl⟩ := trodVars_one hV
  obtain rfl := Option.some.inj (gTab.symm.trans hg)
  obtain rfl := Option.some.inj (tTab.symm.trans ht)
  have hT := tab_of hL
  have hltv : ∀ x ∈ p', x.block < W.heap.size := fun x hx => hW'.lt x (List.mem_append_right _ (List.mem_append_right _ hx))
  clear hA0 hV0 hval0 hA hV
  refine (walk a0 cap0 ps b1 cb1 ts W hbig hm hs htl htm hts hT).mono fun e W' ⟨he, hB⟩ => ?_
  subst he
  obtain ⟨fuel', hd'⟩ := Below.trod laidOut0 (by kernel_rfl) (of_decide_eq_true (by kernel_rfl)) (v := .agg cs) (⟨fuel, by simpa [Value.cells] using hd⟩ : DataW.Trod enc Tryd.prog W 0 (fun _ => true) true 88 (.agg cs) d p') hB hltv
  have hv' := trodVars_mk1 (enc := enc) (spare := fun b => decide (b < W.heap.size)) hg ht (var?_below hB hg hT.1 hvar) (by simpa [Value.cells] using hd')
  exact ⟨_, rfl, _, _, _, [], _, _, hW', trodAll_mk1 (shut_bool Tryd.underlying4 _), (trodAll_cons_mk (Below.trod laidOut0 (by kernel_rfl) (of_decide_eq_true (by kernel_rfl)) k0 hB lt0) (trodAll_cons_mk (Below.trod laidOut0 (by kernel_rfl) (of_decide_eq_true (by kernel_rfl)) k1 hB lt1) trodAll_mk0)), hv', hB.frame _, fun h => by cases h⟩

theorem named0 : Tryd.prog.funcNamed "loop.example/g00226/laws.FnExactAgrees" = some 3 := by kernel_rfl
theorem closed0 : joinedFacts Tryd.prog 3 Tryd.f3 Rows.fnExactAgreesSpec Rows.fnExactAgreesRow = true := by
  unfold joinedFacts
  rw [seat_may, seat_lifts, seat_make]
  kernel_rfl
theorem inst0 : Tryd.f3.isInstance Tryd.prog Rows.fnExactAgreesRow.origin Rows.fnExactAgreesRow.targs := of_decide_eq_true (by kernel_rfl)
theorem wrap0 : Tryd.f3.isWrapper Tryd.prog Rows.fnExactAgreesRow.wrapper Rows.fnExactAgreesRow.mainSum := by unfold Func.isWrapper; first | (rw [if_pos (by decide +kernel)]; kernel_rfl) | (rw [if_neg (by decide +kernel)]; exact ⟨rfl, rfl⟩)

theorem over : Rows.fnExactAgreesRow.holds Tryd.pinned (OpenSpec.ofChange Rows.fnExactAgreesSpec) :=
  OpenClaim.holds_of_wide 3 Tryd.f3 rfl rfl rfl rfl rfl rfl rfl ⟨rfl, rfl, rfl, rfl, rfl⟩ rfl rfl rfl rfl rfl named0 Tryd.func3 closed0 inst0 wrap0
    (fun os started H enc _ => lifted os started H enc)

theorem text0 : Rows.fnExactAgreesRow.wfByText (OpenSpec.ofChange Rows.fnExactAgreesSpec) = true := by kernel_rfl
theorem looks0 : false = Tryd.prog.looks [] := by kernel_rfl
theorem goes0 : false = Rows.fnExactAgreesRow.goesBy Tryd.prog := by kernel_rfl
theorem wants0 : ([22, 23].all fun u => !Tryd.prog.wantsStandIn u) = true := by kernel_rfl

theorem card : Claim7.holds Tryd.pinned (.plain (OpenSpec.ofChange Rows.fnExactAgreesSpec)) Rows.fnExactAgreesCard :=
  Claim7.holds_tied_plain_at .later [] [.data] true (true, Rows.fnExactAgreesCard.stood.harness.2) false
    over (fun _ h => by cases h) text0 (fun _ h => by cases h) fnExactAgrees_row_tie rfl ⟨rfl, rfl⟩ seat_main rfl
    (fun f fn hf hfn => by
      obtain rfl : f = 3 := Option.some.inj (named0.symm.trans hf) |>.symm
      obtain rfl : fn = Tryd.f3 := (Option.some.inj (Tryd.func3.symm.trans hfn)).symm
      exact ⟨looks0, fun j t ht => by
        rw [Tryd.params3] at ht
        have hm : t ∈ [22, 23] := by simpa using Array.mem_of_getElem? ht
        exact (show Tryd.prog.wantsStandIn t = false by simpa using List.all_eq_true.1 wants0 t hm)⟩)
    goes0

end Go.Proofs.YtimgmgmcipgiaaaDoor.fnExactAgrees
namespace Go.Proofs.YtimgmgmcipgiaaaDoor
theorem fnExactAgrees_holds : Rows.FnExactAgreesCardSaid := fnExactAgrees.card
end Go.Proofs.YtimgmgmcipgiaaaDoor
