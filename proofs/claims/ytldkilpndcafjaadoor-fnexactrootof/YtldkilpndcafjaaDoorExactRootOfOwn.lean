/-
  At every list of pairs RootOf answers as its model: their root, or false where they are not right or clash; it writes into no argument. No condition; the round words are laid as the program's text lays them.
-/
import Derived.Test.YtldkilpndcafjaaDoorPairs
import Derived.Test.YtldkilpndcafjaaDoorLaidAll
import Derived.Test.YtldkilpndcafjaaDoorOpen5
import Derived.Test.YtldkilpndcafjaaDoorSeatAll
import Derived.Test.YtldkilpndcafjaaDoorTie
import Derived.Test.YtldkilpndcafjaaDoorCards
import Derived.ProofKit
import Derived.LaidMore
import Derived.OpenShut
import Derived.ShutString
import Derived.ChangeOld
import Derived.Below
import Derived.Stop.Joined
import Derived.Lib.LaidTab
import Derived.SevenTiedAt
import Derived.SliceStrings
namespace Go.Proofs.YtldkilpndcafjaaDoor.fnExactRootOf
open Go.ChangeShapes Go.WideShapes Go.ChangeAt Go.RowKit
open Go.ChangeMaps (open_string shut_string)
set_option linter.unusedVariables false

theorem own : ownKnob Tryd.prog.godebug = none := by kernel_rfl
theorem laidOut0 : laidOutB Tryd.prog = true := by kernel_rfl
theorem gTab : Tryd.prog.globalNamed "loop.example/g00226/impl.roundWords" = some 1 := by kernel_rfl
theorem tTab : (Tryd.prog.globals[1]?).map (·.type) = some 127 := by kernel_rfl

/-- The door's own heap meets the condition. -/
theorem door_met (os : Os) (args : Array Value) : laidMetH Tryd.prog Rows.fnExactRootOfRow.laid ((World.doorLaid Tryd.prog 400 os).forCall (fun _ _ => 0) ⟨#[], args, []⟩).memory :=
  laidMetH_of_parts3 (fuel := 8) (laidMet_of_run' 8 (by kernel_rfl) (by kernel_rfl)) (by kernel_rfl) (by kernel_rfl)

/-- What the condition gives the walks: the round words' cells. -/
theorem tab_of {W : World} (h : laidMetH Tryd.prog Rows.fnExactRootOfRow.laid W) : Tab W := by
  rw [MakeChecks.laidMetH_plain _ _ _ (by kernel_rfl)] at h
  have hT : Lib.TabIs Tryd.prog W "loop.example/g00226/impl.roundWords" .u32 (kL.map fun x => num x) := Lib.tabIs_of_head (rest := []) gTab tTab Tryd.underlying127 Tryd.underlying92 (by kernel_rfl) (by kernel_rfl) h
  have hc : ∀ i, i < 64 → W.cell? ⟨1, i, none⟩ = some (.int .u32 (num (kL.getD i 0))) := fun i hi => by
    have hl : i < kL.length := hi
    have := hT.cell gTab i (by rw [List.length_map]; exact hl)
    rw [this]
    simp [List.getD, hl]
  exact ⟨block_lt_of_cell (hc 0 (by omega)), hc⟩

theorem sizes_le (ps : List PairL) (h : ps.length + sizeP ps ≤ 1048576) : ∀ p ∈ ps, p.1.length ≤ 1048576 ∧ p.2.length ≤ 1048576 := by
  intro p hp
  obtain ⟨j, hj, rfl⟩ := List.getElem_of_mem hp
  have := sizeP_le ps j hj
  exact ⟨by omega, by omega⟩

set_option maxRecDepth 100000 in
set_option maxHeartbeats 400000 in
theorem walk (a : Option Addr) (cap : Nat) (ps : List PairL) (w : World) (hl : ps.length ≤ 9223372036854775807) (hm : ∀ p ∈ ps, p.1.length ≤ 9223372036854775807 ∧ p.2.length ≤ 9223372036854775807) (hs : IsPairs w a ps) (hT : Tab w) :
    Calls Tryd.prog 4 #[.slice a ps.length cap] w fun e w' => e = .returned (.bool true) ∧ Below w.heap.size w w' := by
  have HT : Hid (Tab w) := hT
  clear hT
  have HK := szPairS_any a cap ps w hl hm hs
  have HS : Hid (∀ W, Below w.heap.size w W → IsPairs W a ps) := fun W hW => hs.later hW
  clear hs hm
  go_enter Tryd.func4, Tryd.ntmps4
  go_wp2_with fail
  refine HK.mono ?_
  rintro e w0 ⟨he, b0⟩
  rcases he with rfl | ⟨hb, n, rfl⟩
  · go_wp2
    go_ret
    exact ⟨rfl, b0⟩
  · have hln : ps.length ≤ 1048576 := by omega
    have HM : Hid (∀ p ∈ ps, p.1.length ≤ 1048576 ∧ p.2.length ≤ 1048576) := sizes_le ps hb
    obtain ⟨r, hr⟩ : ∃ r, r = rootR ps := ⟨_, rfl⟩
    obtain ⟨ok, hok⟩ : ∃ ok, ok = rootOk ps := ⟨_, rfl⟩
    have H1 := fun a c W h => spec_rootOf a c ps W hln HM.out h
    have H2 := fun a c W h hT => impl_rootOf a c ps W hln HM.out h hT
    rw [← hr, ← hok] at H1 H2
    have HH1 : Hid (∀ a c W, IsPairs W a ps → Calls Tryd.prog 14 #[.slice a ps.length c] W fun e w' => e = .returned (.tuple #[.string ⟨r.toArray⟩, .bool ok]) ∧ Below W.heap.size W w') := H1
    have HH2 : Hid (∀ a c W, IsPairs W a ps → Tab W → Calls Tryd.prog 11 #[.slice a ps.length c] W fun e w' => e = .returned (.tuple #[.string ⟨r.toArray⟩, .bool ok]) ∧ Below W.heap.size W w') := H2
    clear hok
    clear HK hb H1 H2 hr
    go_wp2_with fail
    refine (toPairS_any a cap ps _ hln (HS.out _ b0)).mono ?_
    rintro e w1 ⟨rfl, o1, b1⟩
    have B1 := b0.trans (b1.mono b0.size)
    have I1 := (isPairs_own o1).2.2
    have HI1 : Hid (IsPairs w1 (some ⟨w0.heap.size, 0, none⟩) ps) := I1
    clear o1 b1 I1
    go_wp2_with fail
    refine (HH1.out _ _ _ HI1.out).mono ?_
    rintro e w2 ⟨rfl, b2⟩
    have B2 := B1.trans (b2.mono B1.size)
    clear b2 HI1
    go_wp2_with fail
    refine (toPairS_any a cap ps _ hln (HS.out _ B2)).mono ?_
    rintro e w3 ⟨rfl, o3, b3⟩
    have B3 := B2.trans (b3.mono B2.size)
    have HI3 : Hid (IsPairs w3 (some ⟨w2.heap.size, 0, none⟩) ps) := (isPairs_own o3).2.2
    clear o3 b3
    go_wp2_with fail
    refine (HH2.out _ _ _ HI3.out (HT.out.later B3)).mono ?_
    rintro e w4 ⟨rfl, b4⟩
    have B4 := B3.trans (b4.mono B3.size)
    have HI4 : Hid (IsPairs w4 (some ⟨w2.heap.size, 0, none⟩) ps) := HI3.out.later b4
    clear b4 HI3
    go_wp2_with fail
    refine (toPairS_any a cap ps _ hln (HS.out _ B4)).mono ?_
    rintro e w5 ⟨rfl, o5, b5⟩
    have B5 := B4.trans (b5.mono B4.size)
    have HI5 : Hid (IsPairs w5 (some ⟨w4.heap.size, 0, none⟩) ps) := (isPairs_own o5).2.2
    have HJ5 : Hid (IsPairs w5 (some ⟨w2.heap.size, 0, none⟩) ps) := HI4.out.later b5
    clear o5 b5 HI4
    go_wp2_with fail
    refine (eqPairS_same ps _ _ _ _ _ (by omega) HJ5.out HI5.out).mono ?_
    rintro e w6 ⟨rfl, b6⟩
    have B6 := B5.trans (b6.mono B5.size)
    go_wp2
    go_ret
    exact ⟨rfl, B6⟩

set_option maxRecDepth 100000 in
theorem lifted (os : Os) (started : os.Started) (H : Type) (enc : TypeId × Value → H) :
    ReturnsInHanded {} Tryd.checked os 4 .any (fun w args => (Rows.fnExactRootOfSpec.pre enc Tryd.prog Tryd.f4 [] false w args ∧ laidMetH Tryd.prog Rows.fnExactRootOfRow.laid w) ∧ sizedMet enc Tryd.prog Tryd.f4 (OpenSpec.ofChange Rows.fnExactRootOfSpec) false w args)
      (Rows.fnExactRootOfSpec.post enc Tryd.prog Tryd.f4 false true false false) := by
  refine returnsInHanded_of_change_and (C := Tryd.checked) (X := fun w _ => laidMetH Tryd.prog Rows.fnExactRootOfRow.laid w) (fun _ _ _ hh h => h.of_heap hh) own started (by kernel_rfl) Tryd.func4
    (ChangeSpec.witness_shaped (enc := enc) (C := Tryd.checked) (os := os) (X := fun w _ => laidMetH Tryd.prog Rows.fnExactRootOfRow.laid w) false (World.doorLaid Tryd.prog 400 os) #[.slice none 0 0] 8 rfl (World.shaped_of_RefB (by kernel_rfl) (by kernel_rfl)) (by kernel_rfl) (by kernel_rfl) (by kernel_rfl) (door_met os _)) ?_
  intro W base args ds gs before hval0 hW _ _ hL _
  have hval : ∀ (j : Nat) t v, Tryd.f4.params[j]? = some t → args[j]? = some v → Value.okWide Tryd.prog W .any base t v := hval0
  have hW' := hW
  obtain ⟨p, q, hA0, hV0, rfl, hfz, hnd⟩ := hW
  have hA : DataW.TrodAll enc Tryd.prog W 0 (fun _ => true) true Tryd.f4.params.toList args.toList ds p := hA0
  have hV : DataW.TrodVars enc Tryd.prog W (fun _ => true) ["loop.example/g00226/impl.roundWords"] gs q := hV0
  rw [Tryd.params4] at hA hval
  obtain ⟨v0, vs0, d0, ds0, p0, q0, hargs, rfl, rfl, h0, r0⟩ := trodAll_cons hA
  obtain ⟨rfl, rfl, rfl⟩ := trodAll_nil r0
  obtain rfl : args = #[v0] := by cases args; simp_all
  have k0 := h0
  have lt0 : ∀ x ∈ p0, x.block < W.heap.size := by obtain ⟨m, hm⟩ := k0; exact DataW.trod_lt m _ _ _ hm
  obtain ⟨a0, ps, cap0, hv0, hm, hs, hbig⟩ : ∃ (a : Option Addr) (ps : List PairL) (cap : Nat), v0 = .slice a ps.length cap ∧ (∀ p ∈ ps, p.1.length ≤ 9223372036854775807 ∧ p.2.length ≤ 9223372036854775807) ∧ IsPairs W a ps ∧ ps.length ≤ 9223372036854775807 := by
    obtain ⟨a1, len1, cap1, rfl⟩ := okWide_slice Tryd.underlying38 (hval 0 38 v0 rfl rfl)
    obtain ⟨fuel, hf⟩ := h0
    exact pairs_of (by simpa [Value.cells] using hf)
  subst hv0
  obtain ⟨g, t, cs, fuel, d, p', rfl, hg, ht, hvar, hd, rfl⟩ := trodVars_one hV
  obtain rfl := Option.some.inj (gTab.symm.trans hg)
  obtain rfl := Option.some.inj (tTab.symm.trans ht)
  have hT := tab_of hL
  have hltv : ∀ x ∈ p', x.block < W.heap.size := fun x hx => hW'.lt x (List.mem_append_right _ (List.mem_append_right _ hx))
  clear hA0 hV0 hval0 hA hV
  refine (walk a0 cap0 ps W hbig hm hs hT).mono fun e W' ⟨he, hB⟩ => ?_
  subst he
  obtain ⟨fuel', hd'⟩ := Below.trod laidOut0 (by kernel_rfl) (of_decide_eq_true (by kernel_rfl)) (v := .agg cs) (⟨fuel, by simpa [Value.cells] using hd⟩ : DataW.Trod enc Tryd.prog W 0 (fun _ => true) true 127 (.agg cs) d p') hB hltv
  have hv' := trodVars_mk1 (enc := enc) (spare := fun b => decide (b < W.heap.size)) hg ht (var?_below hB hg hT.1 hvar) (by simpa [Value.cells] using hd')
  exact ⟨_, rfl, _, _, _, [], _, _, hW', trodAll_mk1 (shut_bool Tryd.underlying4 _), (trodAll_cons_mk (Below.trod laidOut0 (by kernel_rfl) (of_decide_eq_true (by kernel_rfl)) k0 hB lt0) trodAll_mk0), hv', hB.frame _, fun h => by cases h⟩

theorem named0 : Tryd.prog.funcNamed "loop.example/g00226/laws.FnExactRootOf" = some 4 := by kernel_rfl
theorem closed0 : joinedFacts Tryd.prog 4 Tryd.f4 Rows.fnExactRootOfSpec Rows.fnExactRootOfRow = true := by
  unfold joinedFacts
  rw [seat_may, seat_lifts, seat_make]
  kernel_rfl
theorem inst0 : Tryd.f4.isInstance Tryd.prog Rows.fnExactRootOfRow.origin Rows.fnExactRootOfRow.targs := of_decide_eq_true (by kernel_rfl)
theorem wrap0 : Tryd.f4.isWrapper Tryd.prog Rows.fnExactRootOfRow.wrapper Rows.fnExactRootOfRow.mainSum := by unfold Func.isWrapper; first | (rw [if_pos (by decide +kernel)]; kernel_rfl) | (rw [if_neg (by decide +kernel)]; exact ⟨rfl, rfl⟩)

theorem over : Rows.fnExactRootOfRow.holds Tryd.pinned (OpenSpec.ofChange Rows.fnExactRootOfSpec) :=
  OpenClaim.holds_of_wide 4 Tryd.f4 rfl rfl rfl rfl rfl rfl rfl ⟨rfl, rfl, rfl, rfl, rfl⟩ rfl rfl rfl rfl rfl named0 Tryd.func4 closed0 inst0 wrap0
    (fun os started H enc _ => lifted os started H enc)

theorem text0 : Rows.fnExactRootOfRow.wfByText (OpenSpec.ofChange Rows.fnExactRootOfSpec) = true := by kernel_rfl
theorem looks0 : false = Tryd.prog.looks [] := by kernel_rfl
theorem goes0 : false = Rows.fnExactRootOfRow.goesBy Tryd.prog := by kernel_rfl
theorem wants0 : ([38].all fun u => !Tryd.prog.wantsStandIn u) = true := by kernel_rfl

theorem card : Claim7.holds Tryd.pinned (.plain (OpenSpec.ofChange Rows.fnExactRootOfSpec)) Rows.fnExactRootOfCard :=
  Claim7.holds_tied_plain_at .later [] [.data] true (true, Rows.fnExactRootOfCard.stood.harness.2) false
    over (fun _ h => by cases h) text0 (fun _ h => by cases h) fnExactRootOf_row_tie rfl ⟨rfl, rfl⟩ seat_main rfl
    (fun f fn hf hfn => by
      obtain rfl : f = 4 := Option.some.inj (named0.symm.trans hf) |>.symm
      obtain rfl : fn = Tryd.f4 := (Option.some.inj (Tryd.func4.symm.trans hfn)).symm
      exact ⟨looks0, fun j t ht => by
        rw [Tryd.params4] at ht
        have hm : t ∈ [38] := by simpa using Array.mem_of_getElem? ht
        exact (show Tryd.prog.wantsStandIn t = false by simpa using List.all_eq_true.1 wants0 t hm)⟩)
    goes0

end Go.Proofs.YtldkilpndcafjaaDoor.fnExactRootOf
namespace Go.Proofs.YtldkilpndcafjaaDoor
theorem fnExactRootOf_holds : Rows.FnExactRootOfCardSaid := fnExactRootOf.card
end Go.Proofs.YtldkilpndcafjaaDoor
