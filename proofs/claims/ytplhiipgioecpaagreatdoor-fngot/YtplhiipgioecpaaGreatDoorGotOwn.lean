/-
 At every code what Get finds in the nodes of drawn pairs is what stands in the pairs: FnGot answers true. No condition; the round words are laid as the program's text lays them.
-/
import Derived.Test.YtplhiipgioecpaaGreatDoorDrawG
import Derived.Test.YtplhiipgioecpaaGreatDoorMathGq
import Derived.Test.YtplhiipgioecpaaGreatDoorWayGet
import Derived.Test.YtplhiipgioecpaaGreatDoorLaidAll
import Derived.Test.YtplhiipgioecpaaGreatDoorDrawPs
import Derived.Test.YtplhiipgioecpaaGreatDoorTellC
import Derived.Test.YtplhiipgioecpaaGreatDoorSeatAll
import Derived.Test.YtplhiipgioecpaaGreatDoorTie
import Derived.Test.YtplhiipgioecpaaGreatDoorCards
import Derived.ProofKit
import Derived.LaidMore
import Derived.OpenShut
import Derived.ShutString
import Derived.ChangeOld
import Derived.Below
import Derived.Stop.Joined
import Derived.Lib.LaidTab
import Derived.SevenTiedAt
import Derived.SliceStrings
namespace Go.Proofs.YtplhiipgioecpaaGreatDoor.fnGot
open Go.ChangeShapes Go.WideShapes Go.ChangeAt Go.RowKit
open Go.ChangeMaps (open_string shut_string)
set_option linter.unusedVariables false
theorem own : ownKnob Tryz.prog.godebug = none := by kernel_rfl
theorem laidOut0 : laidOutB Tryz.prog = true := by kernel_rfl
theorem gTab : Tryz.prog.globalNamed "loop.example/g00226/impl.roundWords" = some 1 := by kernel_rfl
theorem tTab : (Tryz.prog.globals[1]?).map (·.type) = some 161 := by kernel_rfl
theorem door_met (os : Os) (args : Array Value) : laidMetH Tryz.prog Rows.fnGotRow.laid ((World.doorLaid Tryz.prog 400 os).forCall (fun _ _ => 0) ⟨#[], args, []⟩).memory :=
 laidMetH_of_parts3 (fuel := 8) (laidMet_of_run' 8 (by kernel_rfl) (by kernel_rfl)) (by kernel_rfl) (by kernel_rfl)
theorem tab_of {W : World} (h : laidMetH Tryz.prog Rows.fnGotRow.laid W) : Tab W := by
 rw [MakeChecks.laidMetH_plain _ _ _ (by kernel_rfl)] at h
 have hT : Lib.TabIs Tryz.prog W "loop.example/g00226/impl.roundWords" .u32 (kL.map fun x => num x) := Lib.tabIs_of_head (rest := []) gTab tTab Tryz.underlying161 Tryz.underlying104 (by kernel_rfl) (by kernel_rfl) h
 have hc : ∀ i, i < 64 → W.cell? ⟨1, i, none⟩ = some (.int .u32 (num (kL.getD i 0))) := fun i hi => by
  have hl : i < kL.length := hi
  have := hT.cell gTab i (by rw [List.length_map]; exact hl)
  rw [this]
  simp [List.getD, hl]
 exact ⟨block_lt_of_cell (hc 0 (by omega)), hc⟩
set_option maxRecDepth 100000 in
set_option maxHeartbeats 4000000 in
theorem walk (a0 : Option Addr) (len0 cap0 : Nat) (w : World) (w0 : Code w a0 len0) (hT : Tab w) :
 Calls Tryz.prog 3 #[.slice a0 len0 cap0] w fun e w' => e = .returned (.bool true) ∧ Below w.heap.size w w' := by
 by_cases hb : len0 ≤ 1048576
 · have HB := bigNo len0 cap0 a0 w hb
   have HC : Hid (Code w a0 len0) := w0
   have HT : Hid (Tab w) := hT
   clear w0 hT
   go_enter Tryz.func3, Tryz.ntmps3
   go_wp2_with fail
   refine HB.mono ?_
   rintro e w ⟨rfl, rfl⟩
   clear HB
   have HD := drawNodesOf len0 cap0 a0 w hb HC.out
   go_wp2_with fail
   refine HD.mono ?_
   rintro e w1 ⟨ps, g, c, hpl, hsm, rfl, o1, B1⟩
   have hmm := small_leS hsm
   have HO1 := hidOwn o1
   have HMM : Hid (∀ p ∈ ps, p.1.length ≤ 1048576 ∧ p.2.length ≤ 1048576) := hmm
   have HD2 := drawGet len0 cap0 a0 w1 hb (HC.out.later B1)
   clear HD o1 hsm hmm
   go_wp2_with fail
   refine HD2.mono ?_
   rintro e wd ⟨_, ad, cd, rd, key, rfl, _, _, hkl, _, _, bd⟩
   have Bd := B1.trans (bd.mono B1.size)
   have I1 := (isPairs_own (kept2 HO1.out bd)).2.2
   have K2 := impl_nodesOf (some ⟨g, 0, none⟩) c ps wd (by omega) HMM.out I1 (HT.out.later Bd)
   have HI1 : Hid (∀ W, Below wd.heap.size wd W → IsPairs W (some ⟨g, 0, none⟩) ps) := fun W hW => I1.later hW
   have HK3 : Hid (∀ W, Below wd.heap.size wd W → _) := fun W hW => spec_nodesOf (some ⟨g, 0, none⟩) c ps W (by omega) HMM.out (I1.later hW)
   have HK4 : Hid (∀ W, Below wd.heap.size wd W → Tab W → _) := fun W hW hT => impl_rootOf (some ⟨g, 0, none⟩) c ps W (by omega) HMM.out (I1.later hW) hT
   have hnl := nodesR_len ps
   have HNS : Hid (∀ p ∈ nodesR ps, p.1.length ≤ 1048576 ∧ p.2.length ≤ 1048576) := nodes_small ps
   have HRT : Hid ((rootR ps).length ≤ 1048576) := by rw [Hid]; exact root_le ps
   have HGK : Hid (rootOk ps = true → getV (nodesR ps) (rootR ps) key = (findL ps key).getD [] ∧ getC (nodesR ps) (rootR ps) key = if (findL ps key).getD [] = [] then 0 else 1) := fun h => got_key h key (by omega)
   have HGA : Hid (rootOk ps = true → ∀ j (hj : j < ps.length), ps[j].1.length ≤ 12 ∧ getV (nodesR ps) (rootR ps) ps[j].1 = ps[j].2 ∧ getC (nodesR ps) (rootR ps) ps[j].1 = 1) := fun h j hj => got_at h j hj
   obtain ⟨ns, hns⟩ : ∃ ns, ns = nodesR ps := ⟨_, rfl⟩
   obtain ⟨rt, hrt⟩ : ∃ rt, rt = rootR ps := ⟨_, rfl⟩
   obtain ⟨ok, hok⟩ : ∃ ok, ok = rootOk ps := ⟨_, rfl⟩
   rw [← hns] at K2 HK3 hnl HNS HGK HGA
   rw [← hok] at K2 HK3 HK4 HGK HGA
   rw [← hrt] at HK4 HRT HGK HGA
   clear HD2 I1 hns hrt hok bd HO1
   go_wp2_with fail
   refine K2.mono ?_
   rintro e w2 ⟨a2, m2, c2, rfl, o2, b2⟩
   obtain ⟨rfl, _, i2⟩ := isPairs_own o2
   have B2 := Bd.trans (b2.mono Bd.size)
   have HI2 : Hid (∀ W, Below w2.heap.size w2 W → IsPairs W a2 ns) := fun W hW => i2.later hW
   have K3 := HK3.out w2 b2
   have Hb2 : Hid (Below wd.heap.size wd w2) := b2
   clear K2 o2 i2 HK3 b2
   go_wp2_with fail
   refine K3.mono ?_
   rintro e w3 ⟨a3, m3, c3, rfl, _, b3⟩
   have B3 := B2.trans (b3.mono B2.size)
   have Hb3 : Hid (Below w2.heap.size w2 w3) := b3
   clear K3
   cases ok with
   | false =>
     clear HGK HGA HK4
     go_wp2
     go_ret
     exact ⟨rfl, B3⟩
   | true =>
     have hgk := HGK.out rfl
     have HA : Hid (∀ j (hj : j < ps.length), ps[j].1.length ≤ 12 ∧ getV ns rt ps[j].1 = ps[j].2 ∧ getC ns rt ps[j].1 = 1) := HGA.out rfl
     have hb23 : Below wd.heap.size wd w3 := Hb2.out.trans (b3.mono Hb2.out.size)
     have K4 := HK4.out w3 hb23 (HT.out.later B3)
     clear HGK HGA HK4 b3
     go_wp2_with fail
     refine K4.mono ?_
     rintro e w4 ⟨rfl, b4⟩
     have B4 := B3.trans (b4.mono B3.size)
     have r4 := Hb3.out.trans (b4.mono Hb3.out.size)
     have s4 := hb23.trans (b4.mono hb23.size)
     have K5 := impl_get a2 c2 ns rt key w4 (HT.out.later B4) (by omega) HNS.out (HI2.out w4 r4) HRT.out (by omega)
     rw [hgk.1, hgk.2] at K5
     have KV := fun W hW => lawValue_any (some ⟨g, 0, none⟩) c ps key W (by omega) (HI1.out W hW)
     obtain ⟨x, hx⟩ : ∃ x, x = (findL ps key).getD [] := ⟨_, rfl⟩
     rw [← hx] at K5
     obtain ⟨gc, hgc⟩ : ∃ gc : Int, gc = if x = [] then 0 else 1 := ⟨_, rfl⟩
     rw [← hgc] at K5
     have HGC : Hid (gc = if x = [] then 0 else 1) := hgc
     have HKV : Hid (∀ W, Below wd.heap.size wd W → _) := KV
     rw [← hx] at HKV
     clear K4 b4 hgk hx KV hb23 hgc
     go_wp2_with fail
     refine K5.mono ?_
     rintro e w5 ⟨rfl, b5⟩
     have B5 := B4.trans (b5.mono B4.size)
     have r5 := r4.trans (b5.mono r4.size)
     have s5 := s4.trans (b5.mono s4.size)
     have K6 := HKV.out w5 s5
     clear K5 b5 HKV r4 s4
     go_wp2_with fail
     refine K6.mono ?_
     rintro e w6 ⟨rfl, b6⟩
     have B6 := B5.trans (b6.mono B5.size)
     have R6 : Hid (Below w2.heap.size w2 w6) := r5.trans (b6.mono r5.size)
     have S6 : Hid (Below wd.heap.size wd w6) := s5.trans (b6.mono s5.size)
     clear K6 b6 r5 s5
     go_wp2
     go_loopw [16, 17, 18] (fun i _ _ wr => ∃ j : Nat, j ≤ ps.length ∧ i = .int .i64 (j : Int) ∧ Below w6.heap.size w6 wr) (fun i _ _ _ => ps.length - (intOf i).toNat)
     case atStart => exact ⟨0, Nat.zero_le _, rfl, Below.refl _ _⟩
     case round =>
      obtain ⟨j, hj, rfl, hbel⟩ := hrel
      have BR := B6.trans (hbel.mono B6.size)
      by_cases hlt : j < ps.length
      · obtain ⟨b, off, hga, d1, d2⟩ : ∃ b off, (some ⟨g, 0, none⟩ : Option Addr) = some ⟨b, off, none⟩ ∧ wr.cell? ⟨b, off + j * 2, none⟩ = some (.string ⟨ps[j].1.toArray⟩) ∧ wr.cell? ⟨b, off + j * 2 + 1, none⟩ = some (.string ⟨ps[j].2.toArray⟩) := by
         rcases HI1.out wr (S6.out.trans (hbel.mono S6.out.size)) with h | ⟨b, off, h, hc⟩
         · rw [h] at hlt; simp at hlt
         · exact ⟨b, off, h, hc j hlt⟩
        cases hga
        rw [Nat.zero_add] at d1 d2
        have hj0 : (0 : Int) ≤ (j : Int) := by omega
        have hj1 : (j : Int) < (ps.length : Int) := by omega
        obtain ⟨a12, av, ac⟩ := HA.out j hlt
        have KG := impl_get a2 c2 ns rt ps[j].1 wr (HT.out.later BR) (by omega) HNS.out (HI2.out wr (R6.out.trans (hbel.mono R6.out.size))) HRT.out (by omega)
        rw [av, ac] at KG
        obtain ⟨p, hp⟩ : ∃ p, p = ps[j].1 := ⟨_, rfl⟩
        obtain ⟨y, hy⟩ : ∃ y, y = ps[j].2 := ⟨_, rfl⟩
        rw [← hp] at d1 KG
        rw [← hy] at d2 KG
        have hbl := World.block_lt_of_cell? wr _ d2
        have HD2 : Hid (wr.cell? ⟨g, j * 2 + 1, none⟩ = some (.string ⟨y.toArray⟩)) := d2
        have HBE : Hid (Below w6.heap.size w6 wr) := hbel
        clear hp hy av ac a12 hbel
        go_wp2_with fail
        refine KG.mono ?_
        rintro e w9 ⟨rfl, b9⟩
        have e2 := (b9.cell (p := ⟨g, j * 2 + 1, none⟩) hbl).trans HD2.out
        have bel9 := HBE.out.trans (b9.mono HBE.out.size)
        clear KG b9 d1 d2
        go_wp2
        go_roundw
        case rel => exact ⟨j + 1, by omega, by go_num, bel9⟩
        case measure => simp [intOf]; omega
      · have hjl : j = ps.length := by omega
        subst hjl
        clear hbel hlt hj
        by_cases hxe : x = []
        · have ec := HGC.out
          rw [if_pos hxe] at ec
          clear HGC
          subst ec
          subst hxe
          go_wp2
          go_ret
          exact ⟨rfl, BR⟩
        · have ec := HGC.out
          rw [if_neg hxe] at ec
          clear HGC
          subst ec
          have hvb : x.isEmpty = false := by cases x with | nil => exact absurd rfl hxe | cons _ _ => rfl
          have hv2 : (x == []) = false := by rw [beq_eq_false_iff_ne]; exact hxe
          go_wp2
          go_ret
          exact ⟨rfl, BR⟩
 · have HB := bigYes len0 cap0 a0 w hb
   clear w0
   go_enter Tryz.func3, Tryz.ntmps3
   go_wp2_with fail
   refine HB.mono ?_
   rintro e w1 ⟨rfl, rfl⟩
   go_wp2
   go_ret
   exact ⟨rfl, Below.refl _ _⟩
set_option maxRecDepth 100000 in
theorem lifted (os : Os) (started : os.Started) (H : Type) (enc : TypeId × Value → H) :
 ReturnsInHanded {} Tryz.checked os 3 .any (fun w args => (Rows.fnGotSpec.pre enc Tryz.prog Tryz.f3 [] false w args ∧ laidMetH Tryz.prog Rows.fnGotRow.laid w) ∧ sizedMet enc Tryz.prog Tryz.f3 (OpenSpec.ofChange Rows.fnGotSpec) false w args)
  (Rows.fnGotSpec.post enc Tryz.prog Tryz.f3 false true false false) := by
 refine returnsInHanded_of_change_and (C := Tryz.checked) (X := fun w _ => laidMetH Tryz.prog Rows.fnGotRow.laid w) (fun _ _ _ hh h => h.of_heap hh) own started (by kernel_rfl) Tryz.func3
  (ChangeSpec.witness_shaped (enc := enc) (C := Tryz.checked) (os := os) (X := fun w _ => laidMetH Tryz.prog Rows.fnGotRow.laid w) false (World.doorLaid Tryz.prog 400 os) #[.slice none 0 0] 8 rfl (World.shaped_of_RefB (by kernel_rfl) (by kernel_rfl)) (by kernel_rfl) (by kernel_rfl) (by kernel_rfl) (door_met os _)) ?_
 intro W base args ds gs before hval0 hW _ _ hL _
 have hval : ∀ (j : Nat) t v, Tryz.f3.params[j]? = some t → args[j]? = some v → Value.okWide Tryz.prog W .any base t v := hval0
 have hW' := hW
 obtain ⟨p, q, hA0, hV0, rfl, hfz, hnd⟩ := hW
 have hA : DataW.TrodAll enc Tryz.prog W 0 (fun _ => true) true Tryz.f3.params.toList args.toList ds p := hA0
 have hV : DataW.TrodVars enc Tryz.prog W (fun _ => true) ["loop.example/g00226/impl.roundWords"] gs q := hV0
 rw [Tryz.params3] at hA hval
 obtain ⟨v0, vs0, d0, ds0, p0, q0, hargs, rfl, rfl, h0, r0⟩ := trodAll_cons hA
 obtain ⟨rfl, rfl, rfl⟩ := trodAll_nil r0
 obtain rfl : args = #[v0] := by cases args; simp_all
 obtain ⟨a0, len0, cap0, rfl⟩ := okWide_slice Tryz.underlying22 (hval 0 22 v0 rfl rfl)
 have k0 := h0
 have lt0 : ∀ x ∈ p0, x.block < W.heap.size := by obtain ⟨m, hm⟩ := k0; exact DataW.trod_lt m _ _ _ hm
 have w0 : Code W a0 len0 := by
  obtain ⟨fuel, hf⟩ := h0
  rcases open_ints Tryz.underlying22 Tryz.underlying5 (by kernel_rfl) hf with ⟨hcs, _⟩ | ⟨x, l, c, zs, hcs, _, hl, hm, hz, _, hcell, hwz⟩
  · simp [Value.cells] at hcs
    obtain ⟨rfl, rfl, rfl⟩ := hcs
    exact .inl rfl
  · simp [Value.cells] at hcs
    obtain ⟨rfl, rfl, rfl⟩ := hcs
    exact codeOf W x _ _ zs hl (by simpa using hz) hcell hwz
 obtain ⟨g, t, cs, fuel, d, p', rfl, hg, ht, hvar, hd, rfl⟩ := trodVars_one hV
 obtain rfl := Option.some.inj (gTab.symm.trans hg)
 obtain rfl := Option.some.inj (tTab.symm.trans ht)
 have hT := tab_of hL
 have hltv : ∀ x ∈ p', x.block < W.heap.size := fun x hx => hW'.lt x (List.mem_append_right _ (List.mem_append_right _ hx))
 clear hA0 hV0 hval0 hA hV
 refine (walk a0 len0 cap0 W w0 hT).mono fun e W' ⟨he, hB⟩ => ?_
 subst he
 obtain ⟨fuel', hd'⟩ := Below.trod laidOut0 (by kernel_rfl) (of_decide_eq_true (by kernel_rfl)) (v := .agg cs) (⟨fuel, by simpa [Value.cells] using hd⟩ : DataW.Trod enc Tryz.prog W 0 (fun _ => true) true 161 (.agg cs) d p') hB hltv
 have hv' := trodVars_mk1 (enc := enc) (spare := fun b => decide (b < W.heap.size)) hg ht (var?_below hB hg hT.1 hvar) (by simpa [Value.cells] using hd')
 exact ⟨_, rfl, _, _, _, [], _, _, hW', trodAll_mk1 (shut_bool Tryz.underlying4 _), (trodAll_cons_mk (Below.trod laidOut0 (by kernel_rfl) (of_decide_eq_true (by kernel_rfl)) k0 hB lt0) trodAll_mk0), hv', hB.frame _, fun h => by cases h⟩
theorem named0 : Tryz.prog.funcNamed "loop.example/g00226/laws.FnGot" = some 3 := by kernel_rfl
theorem closed0 : joinedFacts Tryz.prog 3 Tryz.f3 Rows.fnGotSpec Rows.fnGotRow = true := by
 unfold joinedFacts
 rw [seat_may, seat_lifts, seat_make]
 kernel_rfl
theorem inst0 : Tryz.f3.isInstance Tryz.prog Rows.fnGotRow.origin Rows.fnGotRow.targs := of_decide_eq_true (by kernel_rfl)
theorem wrap0 : Tryz.f3.isWrapper Tryz.prog Rows.fnGotRow.wrapper Rows.fnGotRow.mainSum := by unfold Func.isWrapper; first | (rw [if_pos (by decide +kernel)]; kernel_rfl) | (rw [if_neg (by decide +kernel)]; exact ⟨rfl, rfl⟩)
theorem over : Rows.fnGotRow.holds Tryz.pinned (OpenSpec.ofChange Rows.fnGotSpec) :=
 OpenClaim.holds_of_wide 3 Tryz.f3 rfl rfl rfl rfl rfl rfl rfl ⟨rfl, rfl, rfl, rfl, rfl⟩ rfl rfl rfl rfl rfl named0 Tryz.func3 closed0 inst0 wrap0
  (fun os started H enc _ => lifted os started H enc)
theorem text0 : Rows.fnGotRow.wfByText (OpenSpec.ofChange Rows.fnGotSpec) = true := by kernel_rfl
theorem looks0 : false = Tryz.prog.looks [] := by kernel_rfl
theorem goes0 : false = Rows.fnGotRow.goesBy Tryz.prog := by kernel_rfl
theorem wants0 : ([22].all fun u => !Tryz.prog.wantsStandIn u) = true := by kernel_rfl
theorem card : Claim7.holds Tryz.pinned (.plain (OpenSpec.ofChange Rows.fnGotSpec)) Rows.fnGotCard :=
 Claim7.holds_tied_plain_at .later [] [.data] true (true, Rows.fnGotCard.stood.harness.2) false
  over (fun _ h => by cases h) text0 (fun _ h => by cases h) fnGot_row_tie rfl ⟨rfl, rfl⟩ seat_main rfl
  (fun f fn hf hfn => by
   obtain rfl : f = 3 := Option.some.inj (named0.symm.trans hf) |>.symm
   obtain rfl : fn = Tryz.f3 := (Option.some.inj (Tryz.func3.symm.trans hfn)).symm
   exact ⟨looks0, fun j t ht => by
    rw [Tryz.params3] at ht
    have hm : t ∈ [22] := by simpa using Array.mem_of_getElem? ht
    exact (show Tryz.prog.wantsStandIn t = false by simpa using List.all_eq_true.1 wants0 t hm)⟩)
  goes0
end Go.Proofs.YtplhiipgioecpaaGreatDoor.fnGot
namespace Go.Proofs.YtplhiipgioecpaaGreatDoor
theorem fnGot_holds : Rows.FnGotCardSaid := fnGot.card
end Go.Proofs.YtplhiipgioecpaaGreatDoor
