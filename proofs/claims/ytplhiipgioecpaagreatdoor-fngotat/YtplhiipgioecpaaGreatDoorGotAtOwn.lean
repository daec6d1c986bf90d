/-
 At every code what Get finds in a drawn store from a root is what stands in the pairs of that root: FnGotAt answers true. No condition; the round words are laid as the program's text lays them.
-/
import Derived.Test.YtplhiipgioecpaaGreatDoorDrawG
import Derived.Test.YtplhiipgioecpaaGreatDoorMathGw
import Derived.Test.YtplhiipgioecpaaGreatDoorWayGet
import Derived.Test.YtplhiipgioecpaaGreatDoorPairsAt
import Derived.Test.YtplhiipgioecpaaGreatDoorDrawPs
import Derived.Test.YtplhiipgioecpaaGreatDoorTellC
import Derived.Test.YtplhiipgioecpaaGreatDoorSeatAll
import Derived.Test.YtplhiipgioecpaaGreatDoorTie
import Derived.Test.YtplhiipgioecpaaGreatDoorCards
import Derived.ProofKit
import Derived.LaidMore
import Derived.OpenShut
import Derived.ShutString
import Derived.ChangeOld
import Derived.Below
import Derived.Stop.Joined
import Derived.Lib.LaidTab
import Derived.SevenTiedAt
import Derived.SliceStrings
namespace Go.Proofs.YtplhiipgioecpaaGreatDoor.fnGotAt
open Go.ChangeShapes Go.WideShapes Go.ChangeAt Go.RowKit
open Go.ChangeMaps (open_string shut_string)
set_option linter.unusedVariables false
theorem own : ownKnob Tryz.prog.godebug = none := by kernel_rfl
theorem laidOut0 : laidOutB Tryz.prog = true := by kernel_rfl
theorem gTab : Tryz.prog.globalNamed "loop.example/g00226/impl.roundWords" = some 1 := by kernel_rfl
theorem tTab : (Tryz.prog.globals[1]?).map (·.type) = some 161 := by kernel_rfl
theorem door_met (os : Os) (args : Array Value) : laidMetH Tryz.prog Rows.fnGotAtRow.laid ((World.doorLaid Tryz.prog 400 os).forCall (fun _ _ => 0) ⟨#[], args, []⟩).memory :=
 laidMetH_of_parts3 (fuel := 8) (laidMet_of_run' 8 (by kernel_rfl) (by kernel_rfl)) (by kernel_rfl) (by kernel_rfl)
theorem tab_of {W : World} (h : laidMetH Tryz.prog Rows.fnGotAtRow.laid W) : Tab W := by
 rw [MakeChecks.laidMetH_plain _ _ _ (by kernel_rfl)] at h
 have hT : Lib.TabIs Tryz.prog W "loop.example/g00226/impl.roundWords" .u32 (kL.map fun x => num x) := Lib.tabIs_of_head (rest := []) gTab tTab Tryz.underlying161 Tryz.underlying104 (by kernel_rfl) (by kernel_rfl) h
 have hc : ∀ i, i < 64 → W.cell? ⟨1, i, none⟩ = some (.int .u32 (num (kL.getD i 0))) := fun i hi => by
  have hl : i < kL.length := hi
  have := hT.cell gTab i (by rw [List.length_map]; exact hl)
  rw [this]
  simp [List.getD, hl]
 exact ⟨block_lt_of_cell (hc 0 (by omega)), hc⟩
set_option maxRecDepth 100000 in
set_option maxHeartbeats 4000000 in
theorem walk (a0 : Option Addr) (len0 cap0 : Nat) (w : World) (w0 : Code w a0 len0) (hT : Tab w) :
 Calls Tryz.prog 4 #[.slice a0 len0 cap0] w fun e w' => e = .returned (.bool true) ∧ Below w.heap.size w w' := by
 by_cases hb : len0 ≤ 1048576
 · have HB := bigNo len0 cap0 a0 w hb
   have HC : Hid (Code w a0 len0) := w0
   have HT : Hid (Tab w) := hT
   clear w0 hT
   go_enter Tryz.func4, Tryz.ntmps4
   go_wp2_with fail
   refine HB.mono ?_
   rintro e w ⟨rfl, rfl⟩
   clear HB
   have HD := drawGet len0 cap0 a0 w hb HC.out
   go_wp2_with fail
   refine HD.mono ?_
   rintro e w1 ⟨ps, a1, c1, rt, key, rfl, hpl, hrt, hkl, hps, o1, B1⟩
   have I1 := (isPairs_own o1).2.2
   have K2 := impl_get a1 c1 ps rt key w1 (HT.out.later B1) (by omega) hps I1 hrt (by omega)
   have HK3 : Hid (∀ W, Below w1.heap.size w1 W → _) := fun W hW => spec_get a1 c1 ps rt key W (by omega) hps (I1.later hW) hrt (by omega)
   have HK4 : Hid (∀ W, Below w1.heap.size w1 W → Tab W → _) := fun W hW hT => impl_pairsAt a1 c1 ps rt W hT (by omega) hps (I1.later hW) hrt
   have HAT : Hid (∀ l, pairsAtR ps rt = some l → getV ps rt key = (findL l key).getD [] ∧ getC ps rt key = if (findL l key).getD [] = [] then 0 else 1) := fun l h => get_at (by omega) h
   have HFO : Hid (getC ps rt key = 1 → getV ps rt key ≠ []) := get_found ps rt key
   have hal := pairsAt_len (ps := ps) (root := rt)
   obtain ⟨gc, hgc⟩ : ∃ gc, gc = getC ps rt key := ⟨_, rfl⟩
   obtain ⟨gv, hgv⟩ : ∃ gv, gv = getV ps rt key := ⟨_, rfl⟩
   obtain ⟨R, hR⟩ : ∃ R, R = pairsAtR ps rt := ⟨_, rfl⟩
   rw [← hgc, ← hgv] at K2 HK3 HAT HFO
   rw [← hR] at HK4 HAT hal
   clear HD o1 I1 hgc hgv hR hps
   go_wp2_with fail
   refine K2.mono ?_
   rintro e w2 ⟨rfl, b2⟩
   have B2 := B1.trans (b2.mono B1.size)
   have K3 := HK3.out w2 b2
   have Hb2 : Hid (Below w1.heap.size w1 w2) := b2
   clear K2 HK3 b2
   go_wp2_with fail
   refine K3.mono ?_
   rintro e w3 ⟨rfl, b3⟩
   have B3 := B2.trans (b3.mono B2.size)
   have K4 := HK4.out w3 (Hb2.out.trans (b3.mono Hb2.out.size)) (HT.out.later B3)
   unfold PAPost at K4
   clear K3 HK4 b3
   cases R with
   | none =>
     simp only [Option.isSome_none] at K4
     by_cases h1 : gc = 1
     · have hne := HFO.out h1
       have hvb : gv.isEmpty = false := by cases gv with | nil => exact absurd rfl hne | cons _ _ => rfl
       have hv2 : (gv == []) = false := by rw [beq_eq_false_iff_ne]; exact hne
       subst h1
       clear HAT HFO
       go_wp2_with fail
       refine K4.mono ?_
       rintro e w4 ⟨a4, m4, c4, rfl, _, b4⟩
       have B4 := B3.trans (b4.mono B3.size)
       clear K4 b4
       go_wp2
       go_ret
       exact ⟨rfl, B4⟩
     · have hcb : (gc == 1) = false := by rw [beq_eq_false_iff_ne]; exact h1
       have hcb2 : (gc != 1) = true := by rw [bne_iff_ne]; exact h1
       clear HAT HFO
       go_wp2_with fail
       refine K4.mono ?_
       rintro e w4 ⟨a4, m4, c4, rfl, _, b4⟩
       have B4 := B3.trans (b4.mono B3.size)
       clear K4 b4
       go_wp2
       go_ret
       exact ⟨rfl, B4⟩
   | some l =>
     obtain ⟨ev, ec⟩ := HAT.out l rfl
     simp only [Option.isSome_some, Option.getD_some] at K4 hal
     have HK5 : Hid (∀ (a : Option Addr) (c : Nat) (W : World), IsPairs W a l → _) := fun a c W hI => lawValue_any a c l key W (by omega) hI
     obtain ⟨x, hx⟩ : ∃ x, x = (findL l key).getD [] := ⟨_, rfl⟩
     rw [← hx] at ev ec HK5
     subst ev
     have HEC : Hid (gc = if gv = [] then 0 else 1) := ec
     clear HAT HFO hx ec
     go_wp2_with fail
     refine K4.mono ?_
     rintro e w4 ⟨a4, m4, c4, rfl, o4, b4⟩
     have B4 := B3.trans (b4.mono B3.size)
     obtain ⟨rfl, _, i4⟩ := isPairs_own o4
     have K5 := HK5.out a4 c4 w4 i4
     clear K4 b4 o4 i4 HK5
     by_cases hxe : gv = []
     · have ec := HEC.out
       rw [if_pos hxe] at ec
       clear HEC
       subst ec
       subst hxe
       go_wp2_with fail
       refine K5.mono ?_
       rintro e w5 ⟨rfl, b5⟩
       have B5 := B4.trans (b5.mono B4.size)
       clear K5 b5
       go_wp2
       go_ret
       exact ⟨rfl, B5⟩
     · have ec := HEC.out
       rw [if_neg hxe] at ec
       clear HEC
       subst ec
       have hvb : gv.isEmpty = false := by cases gv with | nil => exact absurd rfl hxe | cons _ _ => rfl
       have hv2 : (gv == []) = false := by rw [beq_eq_false_iff_ne]; exact hxe
       go_wp2_with fail
       refine K5.mono ?_
       rintro e w5 ⟨rfl, b5⟩
       have B5 := B4.trans (b5.mono B4.size)
       clear K5 b5
       go_wp2
       go_ret
       exact ⟨rfl, B5⟩
 · have HB := bigYes len0 cap0 a0 w hb
   clear w0
   go_enter Tryz.func4, Tryz.ntmps4
   go_wp2_with fail
   refine HB.mono ?_
   rintro e w1 ⟨rfl, rfl⟩
   go_wp2
   go_ret
   exact ⟨rfl, Below.refl _ _⟩
set_option maxRecDepth 100000 in
theorem lifted (os : Os) (started : os.Started) (H : Type) (enc : TypeId × Value → H) :
 ReturnsInHanded {} Tryz.checked os 4 .any (fun w args => (Rows.fnGotAtSpec.pre enc Tryz.prog Tryz.f4 [] false w args ∧ laidMetH Tryz.prog Rows.fnGotAtRow.laid w) ∧ sizedMet enc Tryz.prog Tryz.f4 (OpenSpec.ofChange Rows.fnGotAtSpec) false w args)
  (Rows.fnGotAtSpec.post enc Tryz.prog Tryz.f4 false true false false) := by
 refine returnsInHanded_of_change_and (C := Tryz.checked) (X := fun w _ => laidMetH Tryz.prog Rows.fnGotAtRow.laid w) (fun _ _ _ hh h => h.of_heap hh) own started (by kernel_rfl) Tryz.func4
  (ChangeSpec.witness_shaped (enc := enc) (C := Tryz.checked) (os := os) (X := fun w _ => laidMetH Tryz.prog Rows.fnGotAtRow.laid w) false (World.doorLaid Tryz.prog 400 os) #[.slice none 0 0] 8 rfl (World.shaped_of_RefB (by kernel_rfl) (by kernel_rfl)) (by kernel_rfl) (by kernel_rfl) (by kernel_rfl) (door_met os _)) ?_
 intro W base args ds gs before hval0 hW _ _ hL _
 have hval : ∀ (j : Nat) t v, Tryz.f4.params[j]? = some t → args[j]? = some v → Value.okWide Tryz.prog W .any base t v := hval0
 have hW' := hW
 obtain ⟨p, q, hA0, hV0, rfl, hfz, hnd⟩ := hW
 have hA : DataW.TrodAll enc Tryz.prog W 0 (fun _ => true) true Tryz.f4.params.toList args.toList ds p := hA0
 have hV : DataW.TrodVars enc Tryz.prog W (fun _ => true) ["loop.example/g00226/impl.roundWords"] gs q := hV0
 rw [Tryz.params4] at hA hval
 obtain ⟨v0, vs0, d0, ds0, p0, q0, hargs, rfl, rfl, h0, r0⟩ := trodAll_cons hA
 obtain ⟨rfl, rfl, rfl⟩ := trodAll_nil r0
 obtain rfl : args = #[v0] := by cases args; simp_all
 obtain ⟨a0, len0, cap0, rfl⟩ := okWide_slice Tryz.underlying22 (hval 0 22 v0 rfl rfl)
 have k0 := h0
 have lt0 : ∀ x ∈ p0, x.block < W.heap.size := by obtain ⟨m, hm⟩ := k0; exact DataW.trod_lt m _ _ _ hm
 have w0 : Code W a0 len0 := by
  obtain ⟨fuel, hf⟩ := h0
  rcases open_ints Tryz.underlying22 Tryz.underlying5 (by kernel_rfl) hf with ⟨hcs, _⟩ | ⟨x, l, c, zs, hcs, _, hl, hm, hz, _, hcell, hwz⟩
  · simp [Value.cells] at hcs
    obtain ⟨rfl, rfl, rfl⟩ := hcs
    exact .inl rfl
  · simp [Value.cells] at hcs
    obtain ⟨rfl, rfl, rfl⟩ := hcs
    exact codeOf W x _ _ zs hl (by simpa using hz) hcell hwz
 obtain ⟨g, t, cs, fuel, d, p', rfl, hg, ht, hvar, hd, rfl⟩ := trodVars_one hV
 obtain rfl := Option.some.inj (gTab.symm.trans hg)
 obtain rfl := Option.some.inj (tTab.symm.trans ht)
 have hT := tab_of hL
 have hltv : ∀ x ∈ p', x.block < W.heap.size := fun x hx => hW'.lt x (List.mem_append_right _ (List.mem_append_right _ hx))
 clear hA0 hV0 hval0 hA hV
 refine (walk a0 len0 cap0 W w0 hT).mono fun e W' ⟨he, hB⟩ => ?_
 subst he
 obtain ⟨fuel', hd'⟩ := Below.trod laidOut0 (by kernel_rfl) (of_decide_eq_true (by kernel_rfl)) (v := .agg cs) (⟨fuel, by simpa [Value.cells] using hd⟩ : DataW.Trod enc Tryz.prog W 0 (fun _ => true) true 161 (.agg cs) d p') hB hltv
 have hv' := trodVars_mk1 (enc := enc) (spare := fun b => decide (b < W.heap.size)) hg ht (var?_below hB hg hT.1 hvar) (by simpa [Value.cells] using hd')
 exact ⟨_, rfl, _, _, _, [], _, _, hW', trodAll_mk1 (shut_bool Tryz.underlying4 _), (trodAll_cons_mk (Below.trod laidOut0 (by kernel_rfl) (of_decide_eq_true (by kernel_rfl)) k0 hB lt0) trodAll_mk0), hv', hB.frame _, fun h => by cases h⟩
theorem named0 : Tryz.prog.funcNamed "loop.example/g00226/laws.FnGotAt" = some 4 := by kernel_rfl
theorem closed0 : joinedFacts Tryz.prog 4 Tryz.f4 Rows.fnGotAtSpec Rows.fnGotAtRow = true := by
 unfold joinedFacts
 rw [seat_may, seat_lifts, seat_make]
 kernel_rfl
theorem inst0 : Tryz.f4.isInstance Tryz.prog Rows.fnGotAtRow.origin Rows.fnGotAtRow.targs := of_decide_eq_true (by kernel_rfl)
theorem wrap0 : Tryz.f4.isWrapper Tryz.prog Rows.fnGotAtRow.wrapper Rows.fnGotAtRow.mainSum := by unfold Func.isWrapper; first | (rw [if_pos (by decide +kernel)]; kernel_rfl) | (rw [if_neg (by decide +kernel)]; exact ⟨rfl, rfl⟩)
theorem over : Rows.fnGotAtRow.holds Tryz.pinned (OpenSpec.ofChange Rows.fnGotAtSpec) :=
 OpenClaim.holds_of_wide 4 Tryz.f4 rfl rfl rfl rfl rfl rfl rfl ⟨rfl, rfl, rfl, rfl, rfl⟩ rfl rfl rfl rfl rfl named0 Tryz.func4 closed0 inst0 wrap0
  (fun os started H enc _ => lifted os started H enc)
theorem text0 : Rows.fnGotAtRow.wfByText (OpenSpec.ofChange Rows.fnGotAtSpec) = true := by kernel_rfl
theorem looks0 : false = Tryz.prog.looks [] := by kernel_rfl
theorem goes0 : false = Rows.fnGotAtRow.goesBy Tryz.prog := by kernel_rfl
theorem wants0 : ([22].all fun u => !Tryz.prog.wantsStandIn u) = true := by kernel_rfl
theorem card : Claim7.holds Tryz.pinned (.plain (OpenSpec.ofChange Rows.fnGotAtSpec)) Rows.fnGotAtCard :=
 Claim7.holds_tied_plain_at .later [] [.data] true (true, Rows.fnGotAtCard.stood.harness.2) false
  over (fun _ h => by cases h) text0 (fun _ h => by cases h) fnGotAt_row_tie rfl ⟨rfl, rfl⟩ seat_main rfl
  (fun f fn hf hfn => by
   obtain rfl : f = 4 := Option.some.inj (named0.symm.trans hf) |>.symm
   obtain rfl : fn = Tryz.f4 := (Option.some.inj (Tryz.func4.symm.trans hfn)).symm
   exact ⟨looks0, fun j t ht => by
    rw [Tryz.params4] at ht
    have hm : t ∈ [22] := by simpa using Array.mem_of_getElem? ht
    exact (show Tryz.prog.wantsStandIn t = false by simpa using List.all_eq_true.1 wants0 t hm)⟩)
  goes0
end Go.Proofs.YtplhiipgioecpaaGreatDoor.fnGotAt
namespace Go.Proofs.YtplhiipgioecpaaGreatDoor
theorem fnGotAt_holds : Rows.FnGotAtCardSaid := fnGotAt.card
end Go.Proofs.YtplhiipgioecpaaGreatDoor
