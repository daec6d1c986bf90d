/-
  At every list of nodes, root and key Get answers as its model; it writes into no argument. No condition; the round words are laid as the program's text lays them.
-/
import Derived.Test.YtlbdfjcpbmkaeaaDoorStAll
import Derived.Test.YtlbdfjcpbmkaeaaDoorGet
import Derived.Test.YtlbdfjcpbmkaeaaDoorSeatAll
import Derived.Test.YtlbdfjcpbmkaeaaDoorTie
import Derived.Test.YtlbdfjcpbmkaeaaDoorCards
import Derived.ProofKit
import Derived.LaidMore
import Derived.OpenShut
import Derived.ShutString
import Derived.ChangeOld
import Derived.Below
import Derived.Stop.Joined
import Derived.Lib.LaidTab
import Derived.SevenTiedAt
import Derived.SliceStrings
namespace Go.Proofs.YtlbdfjcpbmkaeaaDoor.fnExactGet
open Go.ChangeShapes Go.WideShapes Go.ChangeAt Go.RowKit
open Go.ChangeMaps (open_string shut_string)
set_option linter.unusedVariables false

theorem own : ownKnob Tryd.prog.godebug = none := by kernel_rfl
theorem laidOut0 : laidOutB Tryd.prog = true := by kernel_rfl
theorem gTab : Tryd.prog.globalNamed "loop.example/g00226/impl.roundWords" = some 0 := by kernel_rfl
theorem tTab : (Tryd.prog.globals[0]?).map (·.type) = some 118 := by kernel_rfl

/-- The door's own heap meets the condition. -/
theorem door_met (os : Os) (args : Array Value) : laidMetH Tryd.prog Rows.fnExactGetRow.laid ((World.doorLaid Tryd.prog 400 os).forCall (fun _ _ => 0) ⟨#[], args, []⟩).memory :=
  laidMetH_of_parts3 (fuel := 8) (laidMet_of_run' 8 (by kernel_rfl) (by kernel_rfl)) (by kernel_rfl) (by kernel_rfl)

/-- What the condition gives the walks: the round words' cells. -/
theorem tab_of {W : World} (h : laidMetH Tryd.prog Rows.fnExactGetRow.laid W) : Tab W := by
  rw [MakeChecks.laidMetH_plain _ _ _ (by kernel_rfl)] at h
  have hT : Lib.TabIs Tryd.prog W "loop.example/g00226/impl.roundWords" .u32 (kL.map fun x => num x) := Lib.tabIs_of_head (rest := []) gTab tTab Tryd.underlying118 Tryd.underlying91 (by kernel_rfl) (by kernel_rfl) h
  have hc : ∀ i, i < 64 → W.cell? ⟨0, i, none⟩ = some (.int .u32 (num (kL.getD i 0))) := fun i hi => by
    have hl : i < kL.length := hi
    have := hT.cell gTab i (by rw [List.length_map]; exact hl)
    rw [this]
    simp [List.getD, hl]
  exact ⟨block_lt_of_cell (hc 0 (by omega)), hc⟩

theorem sizes_leS (ps : List PairL) (h : ps.length + sizeP ps ≤ 1048576) : ∀ p ∈ ps, p.1.length ≤ 1048576 ∧ p.2.length ≤ 1048576 := by
  intro p hp
  obtain ⟨j, hj, rfl⟩ := List.getElem_of_mem hp
  have := sizeP_le ps j hj
  exact ⟨by omega, by omega⟩

set_option maxRecDepth 100000 in
set_option maxHeartbeats 400000 in
theorem walk (a : Option Addr) (cap : Nat) (ps : List PairL) (a0 : ByteArray) (w0 : a0.size ≤ maxLen) (a1 : ByteArray) (w1 : a1.size ≤ maxLen) (w : World) (hl : ps.length ≤ 9223372036854775807) (hm : ∀ p ∈ ps, p.1.length ≤ 9223372036854775807 ∧ p.2.length ≤ 9223372036854775807) (hs : IsPairs w a ps) (hT : Tab w) :
    Calls Tryd.prog 3 #[.slice a ps.length cap, .string a0, .string a1] w fun e w' => e = .returned (.bool true) ∧ Below w.heap.size w w' := by
  unfold maxLen at w0 w1
  have HT : Hid (Tab w) := hT
  by_cases hb0 : a0.size ≤ 1048576
  · have e0 : a0 = ⟨a0.data.toList.toArray⟩ := ba_eq a0
    have hhl : a0.data.toList.length ≤ 1048576 := by rw [Array.length_toList]; exact hb0
    obtain ⟨h, hh⟩ : ∃ s, s = a0.data.toList := ⟨_, rfl⟩
    rw [← hh] at e0 hhl
    clear hh
    subst e0
    have hhl' : (h.length : Int) ≤ 1048576 := by omega
    by_cases hb1 : a1.size ≤ 1048576
    · have e1 : a1 = ⟨a1.data.toList.toArray⟩ := ba_eq a1
      have hgl : a1.data.toList.length ≤ 1048576 := by rw [Array.length_toList]; exact hb1
      obtain ⟨g, hg⟩ : ∃ s, s = a1.data.toList := ⟨_, rfl⟩
      rw [← hg] at e1 hgl
      clear hg
      subst e1
      have hgl' : (g.length : Int) ≤ 1048576 := by omega
      have HK := szStoredS_any a cap ps w hl hm hs
      have HS : Hid (∀ W, Below w.heap.size w W → IsPairs W a ps) := fun W hW => hs.later hW
      clear hs hm hT hb0 w0 hb1 w1
      go_enter Tryd.func3, Tryd.ntmps3
      go_wp2_with fail
      refine HK.mono ?_
      rintro e w0 ⟨he, b0⟩
      rcases he with rfl | ⟨hb, n, rfl⟩
      · go_wp2
        go_ret
        exact ⟨rfl, b0⟩
      · have hln : ps.length ≤ 1048576 := by omega
        have HM : Hid (∀ p ∈ ps, p.1.length ≤ 1048576 ∧ p.2.length ≤ 1048576) := sizes_leS ps hb
        obtain ⟨r, hr⟩ : ∃ r, r = getC ps h g := ⟨_, rfl⟩
        obtain ⟨t, ht⟩ : ∃ t, t = getV ps h g := ⟨_, rfl⟩
        have HH1 : Hid (∀ a c W, IsPairs W a ps → Calls Tryd.prog 7 #[.slice a ps.length c, .string ⟨h.toArray⟩, .string ⟨g.toArray⟩] W fun e w' => e = .returned (.tuple #[.int .i64 r, .string ⟨t.toArray⟩]) ∧ Below W.heap.size W w') := fun a c W hp => by rw [hr, ht]; exact spec_get a c ps h g W hln HM.out hp hhl hgl
        have HH2 : Hid (∀ a c W, Tab W → IsPairs W a ps → Calls Tryd.prog 9 #[.slice a ps.length c, .string ⟨h.toArray⟩, .string ⟨g.toArray⟩] W fun e w' => e = .returned (.tuple #[.int .i64 r, .string ⟨t.toArray⟩]) ∧ Below W.heap.size W w') := fun a c W hT hp => by rw [hr, ht]; exact impl_get a c ps h g W hT hln HM.out hp hhl hgl
        clear HK hb ht hr
        go_wp2_with fail
        refine (toStoredS_any a cap ps _ hln (HS.out _ b0)).mono ?_
        rintro e w1 ⟨rfl, o1, b1⟩
        have B1 := b0.trans (b1.mono b0.size)
        have HI1 : Hid (IsPairs w1 (some ⟨w0.heap.size, 0, none⟩) ps) := (isPairs_own o1).2.2
        clear o1 b1
        go_wp2_with fail
        refine (HH1.out _ _ _ HI1.out).mono ?_
        rintro e w2 ⟨rfl, b2⟩
        have B2 := B1.trans (b2.mono B1.size)
        clear b2 HI1
        go_wp2_with fail
        refine (toStoredS_any a cap ps _ hln (HS.out _ B2)).mono ?_
        rintro e w3 ⟨rfl, o3, b3⟩
        have B3 := B2.trans (b3.mono B2.size)
        have HI3 : Hid (IsPairs w3 (some ⟨w2.heap.size, 0, none⟩) ps) := (isPairs_own o3).2.2
        clear o3 b3
        go_wp2_with fail
        refine (HH2.out _ _ _ (HT.out.later B3) HI3.out).mono ?_
        rintro e w4 ⟨rfl, b4⟩
        have B4 := B3.trans (b4.mono B3.size)
        have HI4 : Hid (IsPairs w4 (some ⟨w2.heap.size, 0, none⟩) ps) := HI3.out.later b4
        clear b4 HI3
        go_wp2_with fail
        refine (toStoredS_any a cap ps _ hln (HS.out _ B4)).mono ?_
        rintro e w5 ⟨rfl, o5, b5⟩
        have B5 := B4.trans (b5.mono B4.size)
        have HI5 : Hid (IsPairs w5 (some ⟨w4.heap.size, 0, none⟩) ps) := (isPairs_own o5).2.2
        have HJ5 : Hid (IsPairs w5 (some ⟨w2.heap.size, 0, none⟩) ps) := HI4.out.later b5
        clear o5 b5 HI4
        go_wp2_with fail
        refine (eqStoredS_same ps _ _ _ _ _ (by omega) HJ5.out HI5.out).mono ?_
        rintro e w6 ⟨rfl, b6⟩
        have B6 := B5.trans (b6.mono B5.size)
        go_wp2
        go_ret
        exact ⟨rfl, B6⟩
    · have hb1' : ¬ (a1.size : Int) ≤ 1048576 := by omega
      clear hs hm hT
      go_enter Tryd.func3, Tryd.ntmps3
      go_wp2
      go_ret
      exact ⟨rfl, Below.refl _ _⟩
  · have hb0' : ¬ (a0.size : Int) ≤ 1048576 := by omega
    clear hs hm hT
    go_enter Tryd.func3, Tryd.ntmps3
    go_wp2
    go_ret
    exact ⟨rfl, Below.refl _ _⟩

set_option maxRecDepth 100000 in
theorem lifted (os : Os) (started : os.Started) (H : Type) (enc : TypeId × Value → H) :
    ReturnsInHanded {} Tryd.checked os 3 .any (fun w args => (Rows.fnExactGetSpec.pre enc Tryd.prog Tryd.f3 [] false w args ∧ laidMetH Tryd.prog Rows.fnExactGetRow.laid w) ∧ sizedMet enc Tryd.prog Tryd.f3 (OpenSpec.ofChange Rows.fnExactGetSpec) false w args)
      (Rows.fnExactGetSpec.post enc Tryd.prog Tryd.f3 false true false false) := by
  refine returnsInHanded_of_change_and (C := Tryd.checked) (X := fun w _ => laidMetH Tryd.prog Rows.fnExactGetRow.laid w) (fun _ _ _ hh h => h.of_heap hh) own started (by kernel_rfl) Tryd.func3
    (ChangeSpec.witness_shaped (enc := enc) (C := Tryd.checked) (os := os) (X := fun w _ => laidMetH Tryd.prog Rows.fnExactGetRow.laid w) false (World.doorLaid Tryd.prog 400 os) #[.slice none 0 0, .string ByteArray.empty, .string ByteArray.empty] 8 rfl (World.shaped_of_RefB (by kernel_rfl) (by kernel_rfl)) (by kernel_rfl) (by kernel_rfl) (by kernel_rfl) (door_met os _)) ?_
  intro W base args ds gs before hval0 hW _ _ hL _
  have hval : ∀ (j : Nat) t v, Tryd.f3.params[j]? = some t → args[j]? = some v → Value.okWide Tryd.prog W .any base t v := hval0
  have hW' := hW
  obtain ⟨p, q, hA0, hV0, rfl, hfz, hnd⟩ := hW
  have hA : DataW.TrodAll enc Tryd.prog W 0 (fun _ => true) true Tryd.f3.params.toList args.toList ds p := hA0
  have hV : DataW.TrodVars enc Tryd.prog W (fun _ => true) ["loop.example/g00226/impl.roundWords"] gs q := hV0
  rw [Tryd.params3] at hA hval
  obtain ⟨v0, vs0, d0, ds0, p0, q0, hargs0, rfl, rfl, h0, r0⟩ := trodAll_cons hA
  obtain ⟨v1, vs1, d1, ds1, p1, q1, hargs1, rfl, rfl, h1, r1⟩ := trodAll_cons r0
  obtain ⟨v2, vs2, d2, ds2, p2, q2, hargs2, rfl, rfl, h2, r2⟩ := trodAll_cons r1
  obtain ⟨rfl, rfl, rfl⟩ := trodAll_nil r2
  obtain rfl : args = #[v0, v1, v2] := by cases args; simp_all
  obtain ⟨a2, rfl, rfl, rfl, w2⟩ := open_string Tryd.underlying9 (hval 2 9 v2 rfl rfl) h2
  obtain ⟨a1, rfl, rfl, rfl, w1⟩ := open_string Tryd.underlying9 (hval 1 9 v1 rfl rfl) h1
  have k0 := h0
  have lt0 : ∀ x ∈ p0, x.block < W.heap.size := by obtain ⟨m, hm⟩ := k0; exact DataW.trod_lt m _ _ _ hm
  obtain ⟨a0, ps, cap0, hv0, hm, hs, hbig⟩ : ∃ (a : Option Addr) (ps : List PairL) (cap : Nat), v0 = .slice a ps.length cap ∧ (∀ p ∈ ps, p.1.length ≤ 9223372036854775807 ∧ p.2.length ≤ 9223372036854775807) ∧ IsPairs W a ps ∧ ps.length ≤ 9223372036854775807 := by
    obtain ⟨a1, len1, cap1, rfl⟩ := okWide_slice Tryd.underlying22 (hval 0 22 v0 rfl rfl)
    obtain ⟨fuel, hf⟩ := h0
    exact stored_of (by simpa [Value.cells] using hf)
  subst hv0
  obtain ⟨g, t, cs, fuel, d, p', rfl, hg, ht, hvar, hd, rfl⟩ := trodVars_one hV
  obtain rfl := Option.some.inj (gTab.symm.trans hg)
  obtain rfl := Option.some.inj (tTab.symm.trans ht)
  have hT := tab_of hL
  have hltv : ∀ x ∈ p', x.block < W.heap.size := fun x hx => hW'.lt x (List.mem_append_right _ (List.mem_append_right _ hx))
  clear hA0 hV0 hval0 hA hV
  refine (walk a0 cap0 ps a1 w1 a2 w2 W hbig hm hs hT).mono fun e W' ⟨he, hB⟩ => ?_
  subst he
  obtain ⟨fuel', hd'⟩ := Below.trod laidOut0 (by kernel_rfl) (of_decide_eq_true (by kernel_rfl)) (v := .agg cs) (⟨fuel, by simpa [Value.cells] using hd⟩ : DataW.Trod enc Tryd.prog W 0 (fun _ => true) true 118 (.agg cs) d p') hB hltv
  have hv' := trodVars_mk1 (enc := enc) (spare := fun b => decide (b < W.heap.size)) hg ht (var?_below hB hg hT.1 hvar) (by simpa [Value.cells] using hd')
  exact ⟨_, rfl, _, _, _, [], _, _, hW', trodAll_mk1 (shut_bool Tryd.underlying4 _), (trodAll_cons_mk (Below.trod laidOut0 (by kernel_rfl) (of_decide_eq_true (by kernel_rfl)) k0 hB lt0) (trodAll_cons_mk (shut_string Tryd.underlying9 w1) (trodAll_cons_mk (shut_string Tryd.underlying9 w2) trodAll_mk0))), hv', hB.frame _, fun h => by cases h⟩

theorem named0 : Tryd.prog.funcNamed "loop.example/g00226/laws.FnExactGet" = some 3 := by kernel_rfl
theorem closed0 : joinedFacts Tryd.prog 3 Tryd.f3 Rows.fnExactGetSpec Rows.fnExactGetRow = true := by
  unfold joinedFacts
  rw [seat_may, seat_lifts, seat_make]
  kernel_rfl
theorem inst0 : Tryd.f3.isInstance Tryd.prog Rows.fnExactGetRow.origin Rows.fnExactGetRow.targs := of_decide_eq_true (by kernel_rfl)
theorem wrap0 : Tryd.f3.isWrapper Tryd.prog Rows.fnExactGetRow.wrapper Rows.fnExactGetRow.mainSum := by unfold Func.isWrapper; first | (rw [if_pos (by decide +kernel)]; kernel_rfl) | (rw [if_neg (by decide +kernel)]; exact ⟨rfl, rfl⟩)

theorem over : Rows.fnExactGetRow.holds Tryd.pinned (OpenSpec.ofChange Rows.fnExactGetSpec) :=
  OpenClaim.holds_of_wide 3 Tryd.f3 rfl rfl rfl rfl rfl rfl rfl ⟨rfl, rfl, rfl, rfl, rfl⟩ rfl rfl rfl rfl rfl named0 Tryd.func3 closed0 inst0 wrap0
    (fun os started H enc _ => lifted os started H enc)

theorem text0 : Rows.fnExactGetRow.wfByText (OpenSpec.ofChange Rows.fnExactGetSpec) = true := by kernel_rfl
theorem looks0 : false = Tryd.prog.looks [] := by kernel_rfl
theorem goes0 : false = Rows.fnExactGetRow.goesBy Tryd.prog := by kernel_rfl
theorem wants0 : ([22, 9, 9].all fun u => !Tryd.prog.wantsStandIn u) = true := by kernel_rfl

theorem card : Claim7.holds Tryd.pinned (.plain (OpenSpec.ofChange Rows.fnExactGetSpec)) Rows.fnExactGetCard :=
  Claim7.holds_tied_plain_at .later [] [.data] true (true, Rows.fnExactGetCard.stood.harness.2) false
    over (fun _ h => by cases h) text0 (fun _ h => by cases h) fnExactGet_row_tie rfl ⟨rfl, rfl⟩ seat_main rfl
    (fun f fn hf hfn => by
      obtain rfl : f = 3 := Option.some.inj (named0.symm.trans hf) |>.symm
      obtain rfl : fn = Tryd.f3 := (Option.some.inj (Tryd.func3.symm.trans hfn)).symm
      exact ⟨looks0, fun j t ht => by
        rw [Tryd.params3] at ht
        have hm : t ∈ [22, 9, 9] := by simpa using Array.mem_of_getElem? ht
        exact (show Tryd.prog.wantsStandIn t = false by simpa using List.all_eq_true.1 wants0 t hm)⟩)
    goes0

end Go.Proofs.YtlbdfjcpbmkaeaaDoor.fnExactGet
namespace Go.Proofs.YtlbdfjcpbmkaeaaDoor
theorem fnExactGet_holds : Rows.FnExactGetCardSaid := fnExactGet.card
end Go.Proofs.YtlbdfjcpbmkaeaaDoor
