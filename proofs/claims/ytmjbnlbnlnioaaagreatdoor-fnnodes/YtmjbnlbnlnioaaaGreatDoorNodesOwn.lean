/-
 At every code the nodes of right pairs are a right store, with no more than three times as many nodes as pairs, and the pairs come back from their root: FnNodes answers true. No condition; the round words are laid as the program's text lays them.
-/
import Derived.Test.YtmjbnlbnlnioaaaGreatDoorPairsAt
import Derived.Test.YtmjbnlbnlnioaaaGreatDoorLaidAll
import Derived.Test.YtmjbnlbnlnioaaaGreatDoorBackM
import Derived.Test.YtmjbnlbnlnioaaaGreatDoorDrawPs
import Derived.Test.YtmjbnlbnlnioaaaGreatDoorSeatAll
import Derived.Test.YtmjbnlbnlnioaaaGreatDoorTie
import Derived.Test.YtmjbnlbnlnioaaaGreatDoorCards
import Derived.ProofKit
import Derived.LaidMore
import Derived.OpenShut
import Derived.ShutString
import Derived.ChangeOld
import Derived.Below
import Derived.Stop.Joined
import Derived.Lib.LaidTab
import Derived.SevenTiedAt
import Derived.SliceStrings
namespace Go.Proofs.YtmjbnlbnlnioaaaGreatDoor.fnNodes
open Go.ChangeShapes Go.WideShapes Go.ChangeAt Go.RowKit
open Go.ChangeMaps (open_string shut_string)
set_option linter.unusedVariables false
theorem own : ownKnob Tryz.prog.godebug = none := by kernel_rfl
theorem laidOut0 : laidOutB Tryz.prog = true := by kernel_rfl
theorem gTab : Tryz.prog.globalNamed "loop.example/g00226/impl.roundWords" = some 1 := by kernel_rfl
theorem tTab : (Tryz.prog.globals[1]?).map (·.type) = some 148 := by kernel_rfl
theorem door_met (os : Os) (args : Array Value) : laidMetH Tryz.prog Rows.fnNodesRow.laid ((World.doorLaid Tryz.prog 400 os).forCall (fun _ _ => 0) ⟨#[], args, []⟩).memory :=
 laidMetH_of_parts3 (fuel := 8) (laidMet_of_run' 8 (by kernel_rfl) (by kernel_rfl)) (by kernel_rfl) (by kernel_rfl)
theorem tab_of {W : World} (h : laidMetH Tryz.prog Rows.fnNodesRow.laid W) : Tab W := by
 rw [MakeChecks.laidMetH_plain _ _ _ (by kernel_rfl)] at h
 have hT : Lib.TabIs Tryz.prog W "loop.example/g00226/impl.roundWords" .u32 (kL.map fun x => num x) := Lib.tabIs_of_head (rest := []) gTab tTab Tryz.underlying148 Tryz.underlying99 (by kernel_rfl) (by kernel_rfl) h
 have hc : ∀ i, i < 64 → W.cell? ⟨1, i, none⟩ = some (.int .u32 (num (kL.getD i 0))) := fun i hi => by
  have hl : i < kL.length := hi
  have := hT.cell gTab i (by rw [List.length_map]; exact hl)
  rw [this]
  simp [List.getD, hl]
 exact ⟨block_lt_of_cell (hc 0 (by omega)), hc⟩
theorem small_le {ps : List PairL} (h : smallP ps) : ∀ p ∈ ps, p.1.length ≤ 1048576 ∧ p.2.length ≤ 1048576 := fun p hp => by
 have := h p hp
 exact ⟨by omega, by omega⟩
set_option maxRecDepth 100000 in
set_option maxHeartbeats 1000000 in
theorem drawNodesOf (n cap : Nat) (a : Option Addr) (w : World) (hn : n ≤ 1048576) (h : Code w a n) :
 Calls Tryz.prog 5 #[.slice a n cap] w fun e w' => ∃ (ps : List PairL) (g c : Nat), ps.length ≤ 9 ∧ smallP ps ∧ e = .returned (.slice (some ⟨g, 0, none⟩) ps.length c) ∧ w'.ownsRow w.heap.size 53 2 (.slice (some ⟨g, 0, none⟩) ps.length c) ps.length (pcells ps) ∧ Below w.heap.size w w' := by
 have H1 := open_any n cap a w h
 clear h
 go_enter Tryz.func5, Tryz.ntmps5
 go_wp2_with fail
 refine H1.mono ?_
 rintro e w1 ⟨rfl, hR1, b1⟩
 have HR1 : Hid (Rd w.heap.size a n cap w1) := hR1
 have hlt1 := hR1.lt
 clear hR1 H1
 go_wp2_with fail
 refine (pairs_any w.heap.size n cap 8 8 a w1 rfl (by omega) (by omega) hn HR1.out).mono ?_
 rintro e w2 ⟨ps, g, c, hpl, hsm, rfl, o2, hR2, hG2⟩
 have B2 := below_rd b1 hG2
 have HO2 := hidOwn (o2.mono (Nat.le_of_lt hlt1))
 have HSM : Hid (smallP ps) := hsm
 clear hR2 hG2 HR1 o2 hsm b1
 go_wp2
 go_ret
 exact ⟨ps, g, c, hpl, HSM.out, rfl, HO2.out, B2⟩
set_option maxRecDepth 100000 in
theorem impl_storeOkV (a : Option Addr) (cap : Nat) (ps : List PairL) (w : World) (hT : Tab w) (hl : ps.length ≤ 1048576) (hm : ∀ p ∈ ps, p.1.length ≤ 1048576 ∧ p.2.length ≤ 1048576) (hs : IsPairs w a ps) (hok : storeOkL ps = true) :
 Calls Tryz.prog 11 #[.slice a ps.length cap] w fun e w' => e = .returned (.bool true) ∧ Below w.heap.size w w' := by
 have K := impl_heldNodesV a cap ps w hT hl hm hs
 rw [hok] at K
 clear hs hm hT hok
 go_enter Tryz.func11, Tryz.ntmps11
 go_wp2_with fail
 refine K.mono ?_
 rintro e w1 ⟨mb, rfl, _, _, b1⟩
 go_wp2
 go_ret
 exact ⟨rfl, b1⟩
set_option maxRecDepth 100000 in
set_option maxHeartbeats 4000000 in
theorem walk (a0 : Option Addr) (len0 cap0 : Nat) (w : World) (w0 : Code w a0 len0) (hT : Tab w) :
 Calls Tryz.prog 3 #[.slice a0 len0 cap0] w fun e w' => e = .returned (.bool true) ∧ Below w.heap.size w w' := by
 by_cases hb : len0 ≤ 1048576
 · have HB := bigNo len0 cap0 a0 w hb
   have HC : Hid (Code w a0 len0) := w0
   have HT : Hid (Tab w) := hT
   clear w0 hT
   go_enter Tryz.func3, Tryz.ntmps3
   go_wp2_with fail
   refine HB.mono ?_
   rintro e w ⟨rfl, rfl⟩
   clear HB
   have HD := drawNodesOf len0 cap0 a0 w hb HC.out
   go_wp2_with fail
   refine HD.mono ?_
   rintro e w1 ⟨ps, g, c, hpl, hsm, rfl, o1, B1⟩
   have hmm := small_le hsm
   have I1 := (isPairs_own o1).2.2
   have HI1 : Hid (∀ W, Below w1.heap.size w1 W → IsPairs W (some ⟨g, 0, none⟩) ps) := fun W hW => I1.later hW
   have K2 := impl_nodesOf (some ⟨g, 0, none⟩) c ps w1 (by omega) hmm I1 (HT.out.later B1)
   have HK3 : Hid (∀ W, Below w1.heap.size w1 W → _) := fun W hW => spec_nodesOf (some ⟨g, 0, none⟩) c ps W (by omega) hmm (I1.later hW)
   have HK4 : Hid (∀ W, Below w1.heap.size w1 W → Tab W → _) := fun W hW hT => impl_rootOf (some ⟨g, 0, none⟩) c ps W (by omega) hmm (I1.later hW) hT
   have hnl := nodesR_len ps
   have HNS : Hid (∀ p ∈ nodesR ps, p.1.length ≤ 1048576 ∧ p.2.length ≤ 1048576) := nodes_small ps
   have HRT : Hid ((rootR ps).length ≤ 1048576) := by rw [Hid]; exact root_le ps
   have HOK : Hid (rootOk ps = true → storeOkL (nodesR ps) = true ∧ pairsAtR (nodesR ps) (rootR ps) = some ps ∧ (nodesR ps).length ≤ 3 * ps.length) := fun h => ⟨nodes_store h, pairs_back h, (nodes_facts h).2.2.1⟩
   obtain ⟨ns, hns⟩ : ∃ ns, ns = nodesR ps := ⟨_, rfl⟩
   obtain ⟨rt, hrt⟩ : ∃ rt, rt = rootR ps := ⟨_, rfl⟩
   obtain ⟨ok, hok⟩ : ∃ ok, ok = rootOk ps := ⟨_, rfl⟩
   rw [← hns] at K2 HK3 hnl HNS HOK
   rw [← hok] at K2 HK3 HK4 HOK
   rw [← hrt] at HK4 HRT HOK
   clear HD hsm hmm o1 I1 hns hrt hok
   go_wp2_with fail
   refine K2.mono ?_
   rintro e w2 ⟨a2, m2, c2, rfl, o2, b2⟩
   obtain ⟨rfl, _, i2⟩ := isPairs_own o2
   have B2 := B1.trans (b2.mono B1.size)
   have HI2 : Hid (∀ W, Below w2.heap.size w2 W → IsPairs W a2 ns) := fun W hW => i2.later hW
   have K3 := HK3.out w2 b2
   have Hb2 : Hid (Below w1.heap.size w1 w2) := b2
   clear K2 o2 i2 HK3 b2
   go_wp2_with fail
   refine K3.mono ?_
   rintro e w3 ⟨a3, m3, c3, rfl, o3, b3⟩
   obtain ⟨rfl, _, i3⟩ := isPairs_own o3
   have B3 := B2.trans (b3.mono B2.size)
   have Hb3 : Hid (Below w2.heap.size w2 w3) := b3
   have K4 := sameStores_same ns a2 a3 c2 c3 w3 (by omega) (HI2.out w3 b3) i3
   clear K3 o3 b3
   cases ok with
   | false =>
     have I3 : Hid (IsPairs w3 a3 ns) := i3
     clear i3 HOK HK4
     go_wp2_with fail
     refine K4.mono ?_
     rintro e w4 ⟨rfl, b4⟩
     have B4 := B3.trans (b4.mono B3.size)
     have K5 := sameStores_same ns a2 a3 c2 c3 w4 (by omega) (HI2.out w4 (Hb3.out.trans (b4.mono Hb3.out.size))) (I3.out.later b4)
     clear K4 b4
     go_wp2_with fail
     refine K5.mono ?_
     rintro e w5 ⟨rfl, b5⟩
     have B5 := B4.trans (b5.mono B4.size)
     go_wp2
     go_ret
     exact ⟨rfl, B5⟩
   | true =>
     obtain ⟨hso, hpa, h3⟩ := HOK.out rfl
     have HSO : Hid (storeOkL ns = true) := hso
     have HPA : Hid (pairsAtR ns rt = some ps) := hpa
     clear i3 HOK hso hpa
     go_wp2_with fail
     refine K4.mono ?_
     rintro e w4 ⟨rfl, b4⟩
     have B4 := B3.trans (b4.mono B3.size)
     have c4 : Below w2.heap.size w2 w4 := Hb3.out.trans (b4.mono Hb3.out.size)
     have d4 : Below w1.heap.size w1 w4 := Hb2.out.trans (c4.mono Hb2.out.size)
     have K5 := HK4.out w4 d4 (HT.out.later B4)
     clear K4 b4 HK4
     go_wp2_with fail
     refine K5.mono ?_
     rintro e w5 ⟨rfl, b5⟩
     have B5 := B4.trans (b5.mono B4.size)
     have c5 : Below w2.heap.size w2 w5 := c4.trans (b5.mono c4.size)
     have d5 : Below w1.heap.size w1 w5 := d4.trans (b5.mono d4.size)
     have K6 := impl_pairsAt a2 c2 ns rt w5 (HT.out.later B5) (by omega) HNS.out (HI2.out w5 c5) HRT.out
     rw [HPA.out] at K6
     unfold PAPost at K6
     simp only [Option.getD_some, Option.isSome_some] at K6
     clear K5 b5 c4 d4
     go_wp2_with fail
     refine K6.mono ?_
     rintro e w6 ⟨a6, m6, c6, rfl, o6, b6⟩
     obtain ⟨rfl, _, i6⟩ := isPairs_own o6
     have B6 := B5.trans (b6.mono B5.size)
     have e6 : Below w2.heap.size w2 w6 := c5.trans (b6.mono c5.size)
     have d6 : Below w1.heap.size w1 w6 := d5.trans (b6.mono d5.size)
     have I6 : Hid (IsPairs w6 a6 ps) := i6
     have K7 := impl_storeOkV a2 c2 ns w6 (HT.out.later B6) (by omega) HNS.out (HI2.out w6 e6) HSO.out
     clear K6 b6 o6 i6 c5 d5
     go_wp2_with fail
     refine K7.mono ?_
     rintro e w7 ⟨rfl, b7⟩
     have B7 := B6.trans (b7.mono B6.size)
     have d7 : Below w1.heap.size w1 w7 := d6.trans (b7.mono d6.size)
     have K8 := samePairs_same ps a6 (some ⟨g, 0, none⟩) c6 c w7 (by omega) (I6.out.later b7) (HI1.out w7 d7)
     have h3' : (ns.length : Int) ≤ 3 * (ps.length : Int) := by omega
     have h3b : decide ((ns.length : Int) ≤ 3 * (ps.length : Int)) = true := decide_eq_true h3'
     clear K7 b7
     go_wp2_with fail
     refine K8.mono ?_
     rintro e w8 ⟨rfl, b8⟩
     have B8 := B7.trans (b8.mono B7.size)
     clear K8 b8
     go_wp2
     go_ret
     exact ⟨rfl, B8⟩
 · have HB := bigYes len0 cap0 a0 w hb
   clear w0
   go_enter Tryz.func3, Tryz.ntmps3
   go_wp2_with fail
   refine HB.mono ?_
   rintro e w1 ⟨rfl, rfl⟩
   go_wp2
   go_ret
   exact ⟨rfl, Below.refl _ _⟩
set_option maxRecDepth 100000 in
theorem lifted (os : Os) (started : os.Started) (H : Type) (enc : TypeId × Value → H) :
 ReturnsInHanded {} Tryz.checked os 3 .any (fun w args => (Rows.fnNodesSpec.pre enc Tryz.prog Tryz.f3 [] false w args ∧ laidMetH Tryz.prog Rows.fnNodesRow.laid w) ∧ sizedMet enc Tryz.prog Tryz.f3 (OpenSpec.ofChange Rows.fnNodesSpec) false w args)
  (Rows.fnNodesSpec.post enc Tryz.prog Tryz.f3 false true false false) := by
 refine returnsInHanded_of_change_and (C := Tryz.checked) (X := fun w _ => laidMetH Tryz.prog Rows.fnNodesRow.laid w) (fun _ _ _ hh h => h.of_heap hh) own started (by kernel_rfl) Tryz.func3
  (ChangeSpec.witness_shaped (enc := enc) (C := Tryz.checked) (os := os) (X := fun w _ => laidMetH Tryz.prog Rows.fnNodesRow.laid w) false (World.doorLaid Tryz.prog 400 os) #[.slice none 0 0] 8 rfl (World.shaped_of_RefB (by kernel_rfl) (by kernel_rfl)) (by kernel_rfl) (by kernel_rfl) (by kernel_rfl) (door_met os _)) ?_
 intro W base args ds gs before hval0 hW _ _ hL _
 have hval : ∀ (j : Nat) t v, Tryz.f3.params[j]? = some t → args[j]? = some v → Value.okWide Tryz.prog W .any base t v := hval0
 have hW' := hW
 obtain ⟨p, q, hA0, hV0, rfl, hfz, hnd⟩ := hW
 have hA : DataW.TrodAll enc Tryz.prog W 0 (fun _ => true) true Tryz.f3.params.toList args.toList ds p := hA0
 have hV : DataW.TrodVars enc Tryz.prog W (fun _ => true) ["loop.example/g00226/impl.roundWords"] gs q := hV0
 rw [Tryz.params3] at hA hval
 obtain ⟨v0, vs0, d0, ds0, p0, q0, hargs, rfl, rfl, h0, r0⟩ := trodAll_cons hA
 obtain ⟨rfl, rfl, rfl⟩ := trodAll_nil r0
 obtain rfl : args = #[v0] := by cases args; simp_all
 obtain ⟨a0, len0, cap0, rfl⟩ := okWide_slice Tryz.underlying22 (hval 0 22 v0 rfl rfl)
 have k0 := h0
 have lt0 : ∀ x ∈ p0, x.block < W.heap.size := by obtain ⟨m, hm⟩ := k0; exact DataW.trod_lt m _ _ _ hm
 have w0 : Code W a0 len0 := by
  obtain ⟨fuel, hf⟩ := h0
  rcases open_ints Tryz.underlying22 Tryz.underlying5 (by kernel_rfl) hf with ⟨hcs, _⟩ | ⟨x, l, c, zs, hcs, _, hl, hm, hz, _, hcell, hwz⟩
  · simp [Value.cells] at hcs
    obtain ⟨rfl, rfl, rfl⟩ := hcs
    exact .inl rfl
  · simp [Value.cells] at hcs
    obtain ⟨rfl, rfl, rfl⟩ := hcs
    exact codeOf W x _ _ zs hl (by simpa using hz) hcell hwz
 obtain ⟨g, t, cs, fuel, d, p', rfl, hg, ht, hvar, hd, rfl⟩ := trodVars_one hV
 obtain rfl := Option.some.inj (gTab.symm.trans hg)
 obtain rfl := Option.some.inj (tTab.symm.trans ht)
 have hT := tab_of hL
 have hltv : ∀ x ∈ p', x.block < W.heap.size := fun x hx => hW'.lt x (List.mem_append_right _ (List.mem_append_right _ hx))
 clear hA0 hV0 hval0 hA hV
 refine (walk a0 len0 cap0 W w0 hT).mono fun e W' ⟨he, hB⟩ => ?_
 subst he
 obtain ⟨fuel', hd'⟩ := Below.trod laidOut0 (by kernel_rfl) (of_decide_eq_true (by kernel_rfl)) (v := .agg cs) (⟨fuel, by simpa [Value.cells] using hd⟩ : DataW.Trod enc Tryz.prog W 0 (fun _ => true) true 148 (.agg cs) d p') hB hltv
 have hv' := trodVars_mk1 (enc := enc) (spare := fun b => decide (b < W.heap.size)) hg ht (var?_below hB hg hT.1 hvar) (by simpa [Value.cells] using hd')
 exact ⟨_, rfl, _, _, _, [], _, _, hW', trodAll_mk1 (shut_bool Tryz.underlying4 _), (trodAll_cons_mk (Below.trod laidOut0 (by kernel_rfl) (of_decide_eq_true (by kernel_rfl)) k0 hB lt0) trodAll_mk0), hv', hB.frame _, fun h => by cases h⟩
theorem named0 : Tryz.prog.funcNamed "loop.example/g00226/laws.FnNodes" = some 3 := by kernel_rfl
theorem closed0 : joinedFacts Tryz.prog 3 Tryz.f3 Rows.fnNodesSpec Rows.fnNodesRow = true := by
 unfold joinedFacts
 rw [seat_may, seat_lifts, seat_make]
 kernel_rfl
theorem inst0 : Tryz.f3.isInstance Tryz.prog Rows.fnNodesRow.origin Rows.fnNodesRow.targs := of_decide_eq_true (by kernel_rfl)
theorem wrap0 : Tryz.f3.isWrapper Tryz.prog Rows.fnNodesRow.wrapper Rows.fnNodesRow.mainSum := by unfold Func.isWrapper; first | (rw [if_pos (by decide +kernel)]; kernel_rfl) | (rw [if_neg (by decide +kernel)]; exact ⟨rfl, rfl⟩)
theorem over : Rows.fnNodesRow.holds Tryz.pinned (OpenSpec.ofChange Rows.fnNodesSpec) :=
 OpenClaim.holds_of_wide 3 Tryz.f3 rfl rfl rfl rfl rfl rfl rfl ⟨rfl, rfl, rfl, rfl, rfl⟩ rfl rfl rfl rfl rfl named0 Tryz.func3 closed0 inst0 wrap0
  (fun os started H enc _ => lifted os started H enc)
theorem text0 : Rows.fnNodesRow.wfByText (OpenSpec.ofChange Rows.fnNodesSpec) = true := by kernel_rfl
theorem looks0 : false = Tryz.prog.looks [] := by kernel_rfl
theorem goes0 : false = Rows.fnNodesRow.goesBy Tryz.prog := by kernel_rfl
theorem wants0 : ([22].all fun u => !Tryz.prog.wantsStandIn u) = true := by kernel_rfl
theorem card : Claim7.holds Tryz.pinned (.plain (OpenSpec.ofChange Rows.fnNodesSpec)) Rows.fnNodesCard :=
 Claim7.holds_tied_plain_at .later [] [.data] true (true, Rows.fnNodesCard.stood.harness.2) false
  over (fun _ h => by cases h) text0 (fun _ h => by cases h) fnNodes_row_tie rfl ⟨rfl, rfl⟩ seat_main rfl
  (fun f fn hf hfn => by
   obtain rfl : f = 3 := Option.some.inj (named0.symm.trans hf) |>.symm
   obtain rfl : fn = Tryz.f3 := (Option.some.inj (Tryz.func3.symm.trans hfn)).symm
   exact ⟨looks0, fun j t ht => by
    rw [Tryz.params3] at ht
    have hm : t ∈ [22] := by simpa using Array.mem_of_getElem? ht
    exact (show Tryz.prog.wantsStandIn t = false by simpa using List.all_eq_true.1 wants0 t hm)⟩)
  goes0
end Go.Proofs.YtmjbnlbnlnioaaaGreatDoor.fnNodes
namespace Go.Proofs.YtmjbnlbnlnioaaaGreatDoor
theorem fnNodes_holds : Rows.FnNodesCardSaid := fnNodes.card
end Go.Proofs.YtmjbnlbnlnioaaaGreatDoor
