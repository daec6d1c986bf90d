/-
  At every list of pairs NodesOf answers as its model: their nodes by rising hash, each once, or false where they are not right or clash; it writes into no argument, and its answer owns its memory. No condition; the round words are laid as the program's text lays them.
-/
import Derived.Test.YtldkilpndcafjaaGreatDoorPairM
import Derived.Test.YtldkilpndcafjaaGreatDoorStoredM
import Derived.Test.YtldkilpndcafjaaGreatDoorLaidAll
import Derived.Test.YtldkilpndcafjaaGreatDoorOpen5
import Derived.Test.YtldkilpndcafjaaGreatDoorSeatAll
import Derived.Test.YtldkilpndcafjaaGreatDoorTie
import Derived.Test.YtldkilpndcafjaaGreatDoorCards
import Derived.ProofKit
import Derived.LaidMore
import Derived.OpenShut
import Derived.ShutString
import Derived.ChangeOld
import Derived.Below
import Derived.Stop.Joined
import Derived.Lib.LaidTab
import Derived.SevenTiedAt
import Derived.SliceStrings
namespace Go.Proofs.YtldkilpndcafjaaGreatDoor.fnExactNodesOf
open Go.ChangeShapes Go.WideShapes Go.ChangeAt Go.RowKit
open Go.ChangeMaps (open_string shut_string)
set_option linter.unusedVariables false

theorem own : ownKnob Tryz.prog.godebug = none := by kernel_rfl
theorem laidOut0 : laidOutB Tryz.prog = true := by kernel_rfl
theorem gTab : Tryz.prog.globalNamed "loop.example/g00226/impl.roundWords" = some 1 := by kernel_rfl
theorem tTab : (Tryz.prog.globals[1]?).map (·.type) = some 147 := by kernel_rfl

/-- The door's own heap meets the condition. -/
theorem door_met (os : Os) (args : Array Value) : laidMetH Tryz.prog Rows.fnExactNodesOfRow.laid ((World.doorLaid Tryz.prog 400 os).forCall (fun _ _ => 0) ⟨#[], args, []⟩).memory :=
  laidMetH_of_parts3 (fuel := 8) (laidMet_of_run' 8 (by kernel_rfl) (by kernel_rfl)) (by kernel_rfl) (by kernel_rfl)

/-- What the condition gives the walks: the round words' cells. -/
theorem tab_of {W : World} (h : laidMetH Tryz.prog Rows.fnExactNodesOfRow.laid W) : Tab W := by
  rw [MakeChecks.laidMetH_plain _ _ _ (by kernel_rfl)] at h
  have hT : Lib.TabIs Tryz.prog W "loop.example/g00226/impl.roundWords" .u32 (kL.map fun x => num x) := Lib.tabIs_of_head (rest := []) gTab tTab Tryz.underlying147 Tryz.underlying106 (by kernel_rfl) (by kernel_rfl) h
  have hc : ∀ i, i < 64 → W.cell? ⟨1, i, none⟩ = some (.int .u32 (num (kL.getD i 0))) := fun i hi => by
    have hl : i < kL.length := hi
    have := hT.cell gTab i (by rw [List.length_map]; exact hl)
    rw [this]
    simp [List.getD, hl]
  exact ⟨block_lt_of_cell (hc 0 (by omega)), hc⟩

theorem sizes_le (ps : List PairL) (h : ps.length + sizeP ps ≤ 1048576) : ∀ p ∈ ps, p.1.length ≤ 1048576 ∧ p.2.length ≤ 1048576 := by
  intro p hp
  obtain ⟨j, hj, rfl⟩ := List.getElem_of_mem hp
  have := sizeP_le ps j hj
  exact ⟨by omega, by omega⟩

set_option maxRecDepth 100000 in
set_option maxHeartbeats 2000000 in
theorem walk (a : Option Addr) (cap : Nat) (ps : List PairL) (w : World) (hl : ps.length ≤ 9223372036854775807) (hm : ∀ p ∈ ps, p.1.length ≤ 9223372036854775807 ∧ p.2.length ≤ 9223372036854775807) (hs : IsPairs w a ps) (hT : Tab w) :
    Calls Tryz.prog 4 #[.slice a ps.length cap] w fun e w' => e = .returned (.bool true) ∧ Below w.heap.size w w' := by
  have HT : Hid (Tab w) := hT
  clear hT
  have HK := szPairS_any a cap ps w hl hm hs
  have HS : Hid (∀ W, Below w.heap.size w W → IsPairs W a ps) := fun W hW => hs.later hW
  clear hs hm
  go_enter Tryz.func4, Tryz.ntmps4
  go_wp2_with fail
  refine HK.mono ?_
  rintro e w0 ⟨he, b0⟩
  rcases he with rfl | ⟨hb, n, rfl⟩
  · go_wp2
    go_ret
    exact ⟨rfl, b0⟩
  · have hln : ps.length ≤ 1048576 := by omega
    have hmm := sizes_le ps hb
    have H1 := fun a c W h => spec_nodesOf a c ps W hln hmm h
    have H2 := fun a c W h hT => impl_nodesOf a c ps W hln hmm h hT
    have hrl := nodesR_len ps
    obtain ⟨r, hr⟩ : ∃ r, r = nodesR ps := ⟨_, rfl⟩
    obtain ⟨ok, hok⟩ : ∃ ok, ok = rootOk ps := ⟨_, rfl⟩
    rw [← hr] at H1 H2 hrl
    rw [← hok] at H1 H2
    have HH1 : Hid (∀ a c W, IsPairs W a ps → Calls Tryz.prog 16 #[.slice a ps.length c] W fun e w' => ∃ (a' : Option Addr) (m c : Nat), e = .returned (.tuple #[.slice a' m c, .bool ok]) ∧ w'.ownsRow W.heap.size 85 2 (.slice a' m c) r.length (pcells r) ∧ Below W.heap.size W w') := H1
    have HH2 : Hid (∀ a c W, IsPairs W a ps → Tab W → Calls Tryz.prog 18 #[.slice a ps.length c] W fun e w' => ∃ (a' : Option Addr) (m c : Nat), e = .returned (.tuple #[.slice a' m c, .bool ok]) ∧ w'.ownsRow W.heap.size 85 2 (.slice a' m c) r.length (pcells r) ∧ Below W.heap.size W w') := H2
    clear H1 H2
    clear HK hb hmm hr hok
    go_wp2_with fail
    refine (toPairS_any a cap ps _ hln (HS.out _ b0)).mono ?_
    rintro e w3 ⟨rfl, o3, b3⟩
    have B3 := b0.trans (b3.mono b0.size)
    have I3 : Hid (IsPairs w3 (some ⟨w0.heap.size, 0, none⟩) ps) := (isPairs_own o3).2.2
    clear o3 b3
    go_wp2_with fail
    refine (HH1.out _ _ _ I3.out).mono ?_
    rintro e w4 ⟨x1, xm, xc, rfl, ox, b4⟩
    have B4 := B3.trans (b4.mono B3.size)
    have OX := hidOwn ox
    have xlt : ∀ q, (Value.slice x1 xm xc).ownBlock = some q → q < w4.heap.size := fun q hq => (ox.lt q hq).2
    clear ox b4 I3 HH1
    go_wp2_with fail
    refine (toPairS_any a cap ps _ hln (HS.out _ B4)).mono ?_
    rintro e w5 ⟨rfl, o5, b5⟩
    have B5 := B4.trans (b5.mono B4.size)
    have s5 := own_lt o5
    have OX5 := hidOwn (kept2 OX.out b5)
    have O5 := hidOwn o5
    clear o5 b5 OX
    go_wp2_with fail
    refine (HH2.out _ _ _ (isPairs_own O5.out).2.2 (HT.out.later B5)).mono ?_
    rintro e w6 ⟨y1, ym, yc, rfl, oy, b6⟩
    have B6 := B5.trans (b6.mono B5.size)
    have s6 := b6.size
    have OX6 := hidOwn (kept2 OX5.out b6)
    have O6 := hidOwn (kept2 O5.out b6)
    have ylt : ∀ q, (Value.slice y1 ym yc).ownBlock = some q → w5.heap.size ≤ q ∧ q < w6.heap.size := fun q hq => oy.lt q hq
    have OY := hidOwn oy
    obtain ⟨ey, _, _⟩ := isPairs_own oy
    obtain ⟨ex, _, _⟩ := isPairs_own OX6.out
    subst ey ex
    clear oy b6 OX5 O5
    go_wp2_with fail
    refine (eqStoredS_same r _ _ _ _ _ (by omega) (isPairs_own OY.out).2.2 (isPairs_own OX6.out).2.2).mono ?_
    rintro e w7 ⟨rfl, b7⟩
    have B7 := B6.trans (b7.mono B6.size)
    have s7 := b7.size
    have OX7 := hidOwn (kept2 OX6.out b7)
    have O7 := hidOwn (kept2 O6.out b7)
    have OY7 := hidOwn (kept2 OY.out b7)
    clear b7 OX6 O6 OY
    go_wp2_with fail
    refine (toPairS_any a cap ps _ hln (HS.out _ B7)).mono ?_
    rintro e w8 ⟨rfl, o8, b8⟩
    have B8 := B7.trans (b8.mono B7.size)
    have s8 := b8.size
    have OX8 := hidOwn (kept2 OX7.out b8)
    have O8 := hidOwn (kept2 O7.out b8)
    have OY8 := hidOwn (kept2 OY7.out b8)
    have I8 : Hid (IsPairs w8 (some ⟨w7.heap.size, 0, none⟩) ps) := (isPairs_own o8).2.2
    clear o8 b8 OX7 O7 OY7
    go_wp2_with fail
    refine (eqPairS_same ps _ _ _ _ _ (by omega) (isPairs_own O8.out).2.2 I8.out).mono ?_
    rintro e w9 ⟨rfl, b9⟩
    have B9 := B8.trans (b9.mono B8.size)
    have s9 := b9.size
    have OX9 := hidOwn (kept2 OX8.out b9)
    have O9 := hidOwn (kept2 O8.out b9)
    have OY9 := hidOwn (kept2 OY8.out b9)
    clear b9 OX8 O8 OY8 I8
    go_wp2_with fail
    refine (markPairS_any ps _ _ _ _ 1 w9 (by omega) (by omega) (by omega) O9.out).mono ?_
    rintro e w10 ⟨rfl, _, G10⟩
    have s10 := G10.size
    have B10 : Below w.heap.size w w10 := B9.grown G10 B9.size (fun q hq => by simp [Value.ownBlock] at hq; have := B4.size; omega)
    have OX10 := hidOwn (OX9.out.kept G10 (by
      cases hv : (Value.slice x1 r.length xc).ownBlock with
      | none => exact .inl rfl
      | some q => exact .inr (fun e => by have := xlt q hv; simp [Value.ownBlock] at e; omega)))
    have OY10 := hidOwn (OY9.out.kept G10 (by
      cases hv : (Value.slice y1 r.length yc).ownBlock with
      | none => exact .inl rfl
      | some q => exact .inr (fun e => by have := ylt q hv; simp [Value.ownBlock] at e; omega)))
    have hk0 : ¬ (1 : Int) + 2 * (ps.length : Int) < 0 := by omega
    have hkb : decide ((1 : Int) + 2 * (ps.length : Int) < 0) = false := decide_eq_false hk0
    clear G10 OX9 O9 OY9
    go_wp2_with fail
    refine (eqStoredS_same r _ _ _ _ _ (by omega) (isPairs_own OY10.out).2.2 (isPairs_own OX10.out).2.2).mono ?_
    rintro e w11 ⟨rfl, b11⟩
    have B11 := B10.trans (b11.mono B10.size)
    have s11 := b11.size
    have OX11 := hidOwn (kept2 OX10.out b11)
    have OY11 := hidOwn (kept2 OY10.out b11)
    clear b11 OX10 OY10
    go_wp2_with fail
    refine (markStoredS_any r _ _ _ _ 1 w11 (by omega) (by omega) (by omega) OY11.out).mono ?_
    rintro e w12 ⟨rfl, o12, G12⟩
    have s12 := G12.size
    have B12 : Below w.heap.size w w12 := B11.grown G12 B11.size (fun q hq => by have := ylt q hq; have := B5.size; omega)
    have OX12 := hidOwn (OX11.out.kept G12 (by
      cases hv : (Value.slice x1 r.length xc).ownBlock with
      | none => exact .inl rfl
      | some q => exact .inr (fun e => by have h1 := xlt q hv; have h2 := ylt q e.symm; omega)))
    have M12 := hidOwn o12
    have hq0 : ¬ (1 : Int) + 2 * (r.length : Int) < 0 := by omega
    clear G12 o12 OX11 OY11
    go_wp2_with fail
    refine (heldStoredS_any r.length _ _ _ _ 1 w12 (by omega) (by omega) (by omega) M12.out).mono ?_
    rintro e w13 ⟨rfl, G13⟩
    have b13 := below_of_grown G13
    have B13 := B12.trans (b13.mono B12.size)
    have OX13 := hidOwn (kept2 OX12.out b13)
    have M13 := hidOwn (kept2 M12.out b13)
    clear G13 b13 OX12 M12
    go_wp2_with fail
    refine (toPairS_any a cap ps _ hln (HS.out _ B13)).mono ?_
    rintro e w14 ⟨rfl, o14, b14⟩
    have B14 := B13.trans (b14.mono B13.size)
    have OX14 := hidOwn (kept2 OX13.out b14)
    have M14 := hidOwn (kept2 M13.out b14)
    have I14 : Hid (IsPairs w14 (some ⟨w13.heap.size, 0, none⟩) ps) := (isPairs_own o14).2.2
    clear o14 b14 OX13 M13
    go_wp2_with fail
    refine (HH2.out _ _ _ I14.out (HT.out.later B14)).mono ?_
    rintro e w15 ⟨z1, zm, zc, rfl, oz, b15⟩
    have B15 := B14.trans (b15.mono B14.size)
    have OX15 := hidOwn (kept2 OX14.out b15)
    have M15 := hidOwn (kept2 M14.out b15)
    have OZ := hidOwn oz
    obtain ⟨ez, _, _⟩ := isPairs_own oz
    subst ez
    clear oz b15 OX14 M14 I14 HH2
    go_wp2_with fail
    refine (eqStoredS_same r _ _ _ _ _ (by omega) (isPairs_own OZ.out).2.2 (isPairs_own OX15.out).2.2).mono ?_
    rintro e w16 ⟨rfl, b16⟩
    have B16 := B15.trans (b16.mono B15.size)
    have M16 := hidOwn (kept2 M15.out b16)
    clear b16 OX15 M15 OZ
    go_wp2_with fail
    refine (heldStoredS_any r.length _ _ _ _ 1 w16 (by omega) (by omega) (by omega) M16.out).mono ?_
    rintro e w17 ⟨rfl, G17⟩
    have B17 := B16.trans ((below_of_grown G17).mono B16.size)
    clear G17
    go_wp2
    go_ret
    exact ⟨rfl, B17⟩

set_option maxRecDepth 100000 in
theorem lifted (os : Os) (started : os.Started) (H : Type) (enc : TypeId × Value → H) :
    ReturnsInHanded {} Tryz.checked os 4 .any (fun w args => (Rows.fnExactNodesOfSpec.pre enc Tryz.prog Tryz.f4 [] false w args ∧ laidMetH Tryz.prog Rows.fnExactNodesOfRow.laid w) ∧ sizedMet enc Tryz.prog Tryz.f4 (OpenSpec.ofChange Rows.fnExactNodesOfSpec) false w args)
      (Rows.fnExactNodesOfSpec.post enc Tryz.prog Tryz.f4 false true false false) := by
  refine returnsInHanded_of_change_and (C := Tryz.checked) (X := fun w _ => laidMetH Tryz.prog Rows.fnExactNodesOfRow.laid w) (fun _ _ _ hh h => h.of_heap hh) own started (by kernel_rfl) Tryz.func4
    (ChangeSpec.witness_shaped (enc := enc) (C := Tryz.checked) (os := os) (X := fun w _ => laidMetH Tryz.prog Rows.fnExactNodesOfRow.laid w) false (World.doorLaid Tryz.prog 400 os) #[.slice none 0 0] 8 rfl (World.shaped_of_RefB (by kernel_rfl) (by kernel_rfl)) (by kernel_rfl) (by kernel_rfl) (by kernel_rfl) (door_met os _)) ?_
  intro W base args ds gs before hval0 hW _ _ hL _
  have hval : ∀ (j : Nat) t v, Tryz.f4.params[j]? = some t → args[j]? = some v → Value.okWide Tryz.prog W .any base t v := hval0
  have hW' := hW
  obtain ⟨p, q, hA0, hV0, rfl, hfz, hnd⟩ := hW
  have hA : DataW.TrodAll enc Tryz.prog W 0 (fun _ => true) true Tryz.f4.params.toList args.toList ds p := hA0
  have hV : DataW.TrodVars enc Tryz.prog W (fun _ => true) ["loop.example/g00226/impl.roundWords"] gs q := hV0
  rw [Tryz.params4] at hA hval
  obtain ⟨v0, vs0, d0, ds0, p0, q0, hargs, rfl, rfl, h0, r0⟩ := trodAll_cons hA
  obtain ⟨rfl, rfl, rfl⟩ := trodAll_nil r0
  obtain rfl : args = #[v0] := by cases args; simp_all
  have k0 := h0
  have lt0 : ∀ x ∈ p0, x.block < W.heap.size := by obtain ⟨m, hm⟩ := k0; exact DataW.trod_lt m _ _ _ hm
  obtain ⟨a0, ps, cap0, hv0, hm, hs, hbig⟩ : ∃ (a : Option Addr) (ps : List PairL) (cap : Nat), v0 = .slice a ps.length cap ∧ (∀ p ∈ ps, p.1.length ≤ 9223372036854775807 ∧ p.2.length ≤ 9223372036854775807) ∧ IsPairs W a ps ∧ ps.length ≤ 9223372036854775807 := by
    obtain ⟨a1, len1, cap1, rfl⟩ := okWide_slice Tryz.underlying34 (hval 0 34 v0 rfl rfl)
    obtain ⟨fuel, hf⟩ := h0
    exact pairs_of (by simpa [Value.cells] using hf)
  subst hv0
  obtain ⟨g, t, cs, fuel, d, p', rfl, hg, ht, hvar, hd, rfl⟩ := trodVars_one hV
  obtain rfl := Option.some.inj (gTab.symm.trans hg)
  obtain rfl := Option.some.inj (tTab.symm.trans ht)
  have hT := tab_of hL
  have hltv : ∀ x ∈ p', x.block < W.heap.size := fun x hx => hW'.lt x (List.mem_append_right _ (List.mem_append_right _ hx))
  clear hA0 hV0 hval0 hA hV
  refine (walk a0 cap0 ps W hbig hm hs hT).mono fun e W' ⟨he, hB⟩ => ?_
  subst he
  obtain ⟨fuel', hd'⟩ := Below.trod laidOut0 (by kernel_rfl) (of_decide_eq_true (by kernel_rfl)) (v := .agg cs) (⟨fuel, by simpa [Value.cells] using hd⟩ : DataW.Trod enc Tryz.prog W 0 (fun _ => true) true 147 (.agg cs) d p') hB hltv
  have hv' := trodVars_mk1 (enc := enc) (spare := fun b => decide (b < W.heap.size)) hg ht (var?_below hB hg hT.1 hvar) (by simpa [Value.cells] using hd')
  exact ⟨_, rfl, _, _, _, [], _, _, hW', trodAll_mk1 (shut_bool Tryz.underlying4 _), (trodAll_cons_mk (Below.trod laidOut0 (by kernel_rfl) (of_decide_eq_true (by kernel_rfl)) k0 hB lt0) trodAll_mk0), hv', hB.frame _, fun h => by cases h⟩

theorem named0 : Tryz.prog.funcNamed "loop.example/g00226/laws.FnExactNodesOf" = some 4 := by kernel_rfl
theorem closed0 : joinedFacts Tryz.prog 4 Tryz.f4 Rows.fnExactNodesOfSpec Rows.fnExactNodesOfRow = true := by
  unfold joinedFacts
  rw [seat_may, seat_lifts, seat_make]
  kernel_rfl
theorem inst0 : Tryz.f4.isInstance Tryz.prog Rows.fnExactNodesOfRow.origin Rows.fnExactNodesOfRow.targs := of_decide_eq_true (by kernel_rfl)
theorem wrap0 : Tryz.f4.isWrapper Tryz.prog Rows.fnExactNodesOfRow.wrapper Rows.fnExactNodesOfRow.mainSum := by unfold Func.isWrapper; first | (rw [if_pos (by decide +kernel)]; kernel_rfl) | (rw [if_neg (by decide +kernel)]; exact ⟨rfl, rfl⟩)

theorem over : Rows.fnExactNodesOfRow.holds Tryz.pinned (OpenSpec.ofChange Rows.fnExactNodesOfSpec) :=
  OpenClaim.holds_of_wide 4 Tryz.f4 rfl rfl rfl rfl rfl rfl rfl ⟨rfl, rfl, rfl, rfl, rfl⟩ rfl rfl rfl rfl rfl named0 Tryz.func4 closed0 inst0 wrap0
    (fun os started H enc _ => lifted os started H enc)

theorem text0 : Rows.fnExactNodesOfRow.wfByText (OpenSpec.ofChange Rows.fnExactNodesOfSpec) = true := by kernel_rfl
theorem looks0 : false = Tryz.prog.looks [] := by kernel_rfl
theorem goes0 : false = Rows.fnExactNodesOfRow.goesBy Tryz.prog := by kernel_rfl
theorem wants0 : ([34].all fun u => !Tryz.prog.wantsStandIn u) = true := by kernel_rfl

theorem card : Claim7.holds Tryz.pinned (.plain (OpenSpec.ofChange Rows.fnExactNodesOfSpec)) Rows.fnExactNodesOfCard :=
  Claim7.holds_tied_plain_at .later [] [.data] true (true, Rows.fnExactNodesOfCard.stood.harness.2) false
    over (fun _ h => by cases h) text0 (fun _ h => by cases h) fnExactNodesOf_row_tie rfl ⟨rfl, rfl⟩ seat_main rfl
    (fun f fn hf hfn => by
      obtain rfl : f = 4 := Option.some.inj (named0.symm.trans hf) |>.symm
      obtain rfl : fn = Tryz.f4 := (Option.some.inj (Tryz.func4.symm.trans hfn)).symm
      exact ⟨looks0, fun j t ht => by
        rw [Tryz.params4] at ht
        have hm : t ∈ [34] := by simpa using Array.mem_of_getElem? ht
        exact (show Tryz.prog.wantsStandIn t = false by simpa using List.all_eq_true.1 wants0 t hm)⟩)
    goes0

end Go.Proofs.YtldkilpndcafjaaGreatDoor.fnExactNodesOf
namespace Go.Proofs.YtldkilpndcafjaaGreatDoor
theorem fnExactNodesOf_holds : Rows.FnExactNodesOfCardSaid := fnExactNodesOf.card
end Go.Proofs.YtldkilpndcafjaaGreatDoor
