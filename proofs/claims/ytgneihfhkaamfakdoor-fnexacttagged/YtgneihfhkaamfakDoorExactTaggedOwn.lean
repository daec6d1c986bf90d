/-
  At every tag and list of texts Tagged answers as its model: the digest of the list of these texts, or nothing beyond the limits; it writes into no argument. No condition; the round words are laid as the program's text lays them.
-/
import Derived.Test.YtgneihfhkaamfakDoorITag
import Derived.Test.YtgneihfhkaamfakDoorSTag
import Derived.Test.YtgneihfhkaamfakDoorSStr
import Derived.Test.YtgneihfhkaamfakDoorSEq
import Derived.Test.YtgneihfhkaamfakDoorTie
import Derived.Test.YtgneihfhkaamfakDoorCards
import Derived.ProofKit
import Derived.LaidMore
import Derived.OpenShut
import Derived.ShutString
import Derived.ChangeOld
import Derived.Below
import Derived.Stop.Joined
import Derived.Lib.LaidTab
import Derived.SevenTiedAt
import Derived.SliceStrings
namespace Go.Proofs.YtgneihfhkaamfakDoor.fnExactTagged
open Go.ChangeShapes Go.WideShapes Go.ChangeAt Go.RowKit
open Go.ChangeMaps (open_string shut_string)
set_option linter.unusedVariables false

theorem own : ownKnob Tryd.prog.godebug = none := by kernel_rfl
theorem laidOut0 : laidOutB Tryd.prog = true := by kernel_rfl
theorem gTab : Tryd.prog.globalNamed "loop.example/g00226/impl.roundWords" = some 0 := by kernel_rfl
theorem tTab : (Tryd.prog.globals[0]?).map (·.type) = some 50 := by kernel_rfl

/-- The door's own heap meets the condition. -/
theorem door_met (os : Os) (args : Array Value) : laidMetH Tryd.prog Rows.fnExactTaggedRow.laid ((World.doorLaid Tryd.prog 400 os).forCall (fun _ _ => 0) ⟨#[], args, []⟩).memory :=
  laidMetH_of_parts3 (fuel := 8) (laidMet_of_run' 8 (by kernel_rfl) (by kernel_rfl)) (by kernel_rfl) (by kernel_rfl)

/-- What the condition gives the walks: the round words' cells. -/
theorem tab_of {W : World} (h : laidMetH Tryd.prog Rows.fnExactTaggedRow.laid W) : Tab W := by
  rw [MakeChecks.laidMetH_plain _ _ _ (by kernel_rfl)] at h
  have hT : Lib.TabIs Tryd.prog W "loop.example/g00226/impl.roundWords" .u32 (kL.map fun x => num x) := Lib.tabIs_of_head (rest := []) gTab tTab Tryd.underlying50 Tryd.underlying35 (by kernel_rfl) (by kernel_rfl) h
  have hc : ∀ i, i < 64 → W.cell? ⟨0, i, none⟩ = some (.int .u32 (num (kL.getD i 0))) := fun i hi => by
    have hl : i < kL.length := hi
    have := hT.cell gTab i (by rw [List.length_map]; exact hl)
    rw [this]
    simp [List.getD, hl]
  exact ⟨block_lt_of_cell (hc 0 (by omega)), hc⟩

theorem below_drewN {B : Nat} {w w' : World} (h : Below B w w') (q : Nat) : Below B w (w'.drewN q) := ⟨h.os, h.tape, h.output, h.size, h.block⟩

set_option maxRecDepth 100000 in
set_option maxHeartbeats 1000000 in
theorem walk (a0 : ByteArray) (w0 : a0.size ≤ maxLen) (a : Option Addr) (cap : Nat) (ls : List (List UInt8)) (w : World) (hl : ls.length ≤ 9223372036854775807) (hm : ∀ l ∈ ls, l.length ≤ 9223372036854775807) (hs : IsStrs w a ls) (hT : Tab w) :
    Calls Tryd.prog 4 #[.string a0, .slice a ls.length cap] w fun e w' => e = .returned (.bool true) ∧ Below w.heap.size w w' := by
  unfold maxLen at w0
  have HT : Hid (Tab w) := hT
  clear hT
  by_cases hb0 : a0.size ≤ 1048576
  · have e0 : a0 = ⟨a0.data.toList.toArray⟩ := ba_eq a0
    have htl : a0.data.toList.length ≤ 1048576 := by rw [Array.length_toList]; exact hb0
    have H1 := fun g cap b0 W h1 h2 => spec_tagged a0.data.toList g cap ls b0 W htl h1 h2
    have H2 := fun g cap b0 W h1 h3 h2 => impl_tagged a0.data.toList g cap ls b0 W htl h1 h3 h2
    rw [← e0] at H1 H2
    obtain ⟨out, hout⟩ : ∃ out, out = tagL a0.data.toList ls := ⟨_, rfl⟩
    rw [← hout] at H1 H2
    have HK := szS_any a cap ls w hl hm hs
    have later : ∀ W, Below w.heap.size w W → IsStrs W a ls := fun W hb => by
      rcases hs with h | ⟨b, off, h1, h2⟩
      · exact .inl h
      · exact .inr ⟨b, off, h1, fun j h => (hb.cell (p := ⟨b, off + j, none⟩) (World.block_lt_of_cell? w _ (h2 j h))).trans (h2 j h)⟩
    have HS : Hid (∀ W, Below w.heap.size w W → IsStrs W a ls) := later
    clear hs hm later e0 hout htl
    go_enter Tryd.func4, Tryd.ntmps4
    go_wp2_with fail
    refine HK.mono ?_
    rintro e w0 ⟨he, rfl⟩
    rcases he with rfl | ⟨hb, n, rfl⟩
    · go_wp2
      go_ret
      exact ⟨rfl, Below.refl _ _⟩
    · have hln : ls.length ≤ 1048576 := by omega
      have HB : Hid (ls.length + ls.flatten.length ≤ 1048576) := hb
      clear HK hb
      go_wp2_with fail
      refine (toS_any a cap ls _ hln (HS.out _ (Below.refl _ _))).mono ?_
      rintro e w1 ⟨rfl, o1, b1⟩
      have O1 := hidOwn o1
      clear o1
      go_wp2_with fail
      refine (H1 _ _ _ _ HB.out O1.out).mono ?_
      rintro e w2 ⟨rfl, b2⟩
      have h2 := b1.trans (b2.mono b1.size)
      clear O1 b1 b2
      go_wp2_with fail
      refine (toS_any a cap ls _ hln (HS.out _ h2)).mono ?_
      rintro e w3 ⟨rfl, o3, b3⟩
      have h3 := h2.trans (b3.mono h2.size)
      have O3 := hidOwn o3
      clear o3 b3 h2
      go_wp2_with fail
      refine (H2 _ _ _ _ HB.out (HT.out.later h3) O3.out).mono ?_
      rintro e w4 ⟨rfl, b4⟩
      have h4 := h3.trans (b4.mono h3.size)
      have O4 := hidOwn (O3.out.kept (grown_of_below b4 none) (.inr (by simp [Value.ownBlock])))
      clear O3 b4 h3
      go_wp2_with fail
      refine (toS_any a cap ls _ hln (HS.out _ h4)).mono ?_
      rintro e w5 ⟨rfl, o5, b5⟩
      have h5 := h4.trans (b5.mono h4.size)
      have O5 := hidOwn o5
      have P5 := hidOwn (O4.out.kept (grown_of_below b5 none) (.inr (by simp [Value.ownBlock])))
      clear O4 o5 b5 h4
      go_wp2_with fail
      refine (eqS_same ls _ _ _ _ _ (by omega) P5.out O5.out).mono ?_
      rintro e w6 ⟨rfl, q, rfl⟩
      have h6 := below_drewN h5 q
      clear O5 P5 h5
      go_wp2
      go_ret
      exact ⟨rfl, h6⟩
  · clear hs hm
    go_enter Tryd.func4, Tryd.ntmps4
    go_wp2
    go_ret
    exact ⟨rfl, Below.refl _ _⟩

set_option maxRecDepth 100000 in
theorem lifted (os : Os) (started : os.Started) (H : Type) (enc : TypeId × Value → H) :
    ReturnsInHanded {} Tryd.checked os 4 .any (fun w args => (Rows.fnExactTaggedSpec.pre enc Tryd.prog Tryd.f4 [] false w args ∧ laidMetH Tryd.prog Rows.fnExactTaggedRow.laid w) ∧ sizedMet enc Tryd.prog Tryd.f4 (OpenSpec.ofChange Rows.fnExactTaggedSpec) false w args)
      (Rows.fnExactTaggedSpec.post enc Tryd.prog Tryd.f4 false true false false) := by
  refine returnsInHanded_of_change_and (C := Tryd.checked) (X := fun w _ => laidMetH Tryd.prog Rows.fnExactTaggedRow.laid w) (fun _ _ _ hh h => h.of_heap hh) own started (by kernel_rfl) Tryd.func4
    (ChangeSpec.witness_shaped (enc := enc) (C := Tryd.checked) (os := os) (X := fun w _ => laidMetH Tryd.prog Rows.fnExactTaggedRow.laid w) false (World.doorLaid Tryd.prog 400 os) #[.string ByteArray.empty, .slice none 0 0] 8 rfl (World.shaped_of_RefB (by kernel_rfl) (by kernel_rfl)) (by kernel_rfl) (by kernel_rfl) (by kernel_rfl) (door_met os _)) ?_
  intro W base args ds gs before hval0 hW _ _ hL _
  have hval : ∀ (j : Nat) t v, Tryd.f4.params[j]? = some t → args[j]? = some v → Value.okWide Tryd.prog W .any base t v := hval0
  have hW' := hW
  obtain ⟨p, q, hA0, hV0, rfl, hfz, hnd⟩ := hW
  have hA : DataW.TrodAll enc Tryd.prog W 0 (fun _ => true) true Tryd.f4.params.toList args.toList ds p := hA0
  have hV : DataW.TrodVars enc Tryd.prog W (fun _ => true) ["loop.example/g00226/impl.roundWords"] gs q := hV0
  rw [Tryd.params4] at hA hval
  obtain ⟨v0, vs0, d0, ds0, p0, q0, hargs, rfl, rfl, h0, r0⟩ := trodAll_cons hA
  obtain ⟨v1, vs1, d1, ds1, p1, q1, hargs1, rfl, rfl, h1, r1⟩ := trodAll_cons r0
  obtain ⟨rfl, rfl, rfl⟩ := trodAll_nil r1
  obtain rfl : args = #[v0, v1] := by cases args; simp_all
  obtain ⟨a0, rfl, rfl, rfl, w0⟩ := open_string Tryd.underlying9 (hval 0 9 v0 rfl rfl) h0
  obtain ⟨a1, len1, cap1, rfl⟩ := okWide_slice Tryd.underlying24 (hval 1 24 v1 rfl rfl)
  have k1 := h1
  have lt1 : ∀ x ∈ p1, x.block < W.heap.size := by obtain ⟨m, hm⟩ := k1; exact DataW.trod_lt m _ _ _ hm
  obtain ⟨ls, hls, hm, hs, hbig⟩ : ∃ ls : List (List UInt8), len1 = ls.length ∧ (∀ l ∈ ls, l.length ≤ 9223372036854775807) ∧ IsStrs W a1 ls ∧ ls.length ≤ 9223372036854775807 := by
    obtain ⟨fuel, hf⟩ := h1
    rcases open_strings Tryd.underlying24 Tryd.underlying9 (by kernel_rfl) hf with ⟨hcs, _⟩ | ⟨x, l, c, ss, hcs, _, hl, hm, hz, _, hcell, hwz⟩
    · simp [Value.cells] at hcs
      obtain ⟨rfl, rfl, rfl⟩ := hcs
      exact ⟨[], rfl, by simp, .inl rfl, by simp⟩
    · simp [Value.cells] at hcs
      obtain ⟨rfl, rfl, rfl⟩ := hcs
      unfold maxLen at hm
      have hz' : ss.length = cap1 := by simpa using hz
      refine ⟨(ss.take len1).map (·.data.toList), by simp; omega, ?_, ?_, by simp; omega⟩
      · intro l hlm
        simp only [List.mem_map] at hlm
        obtain ⟨s, hs1, rfl⟩ := hlm
        have := hwz s (List.mem_of_mem_take hs1)
        unfold maxLen at this
        rw [Array.length_toList]; exact this
      · by_cases h0 : len1 = 0
        · exact .inl (by simp [h0])
        · obtain ⟨b, off, spot⟩ := x
          have hc := hcell 0 (by omega)
          have hspot : spot = none := by simpa [Addr.add] using World.cell?_spot hc
          subst hspot
          refine .inr ⟨b, off, rfl, fun j hj => ?_⟩
          simp at hj
          have hjs : j < ss.length := by omega
          have hcj := hcell j hjs
          have e1 : (⟨b, off, none⟩ : Addr).add j = ⟨b, off + j, none⟩ := by simp [Addr.add]
          rw [e1, List.getD_eq_getElem?_getD, List.getElem?_eq_getElem hjs, Option.getD_some] at hcj
          rw [hcj]
          simp only [List.getElem_map, List.getElem_take]
  subst hls
  obtain ⟨g, t, cs, fuel, d, p', rfl, hg, ht, hvar, hd, rfl⟩ := trodVars_one hV
  obtain rfl := Option.some.inj (gTab.symm.trans hg)
  obtain rfl := Option.some.inj (tTab.symm.trans ht)
  have hT := tab_of hL
  have hltv : ∀ x ∈ p', x.block < W.heap.size := fun x hx => hW'.lt x (List.mem_append_right _ (List.mem_append_right _ hx))
  clear hA0 hV0 hval0 hA hV
  refine (walk a0 w0 a1 cap1 ls W hbig hm hs hT).mono fun e W' ⟨he, hB⟩ => ?_
  subst he
  obtain ⟨fuel', hd'⟩ := Below.trod laidOut0 (by kernel_rfl) (of_decide_eq_true (by kernel_rfl)) (v := .agg cs) (⟨fuel, by simpa [Value.cells] using hd⟩ : DataW.Trod enc Tryd.prog W 0 (fun _ => true) true 50 (.agg cs) d p') hB hltv
  have hv' := trodVars_mk1 (enc := enc) (spare := fun b => decide (b < W.heap.size)) hg ht (var?_below hB hg hT.1 hvar) (by simpa [Value.cells] using hd')
  exact ⟨_, rfl, _, _, _, [], _, _, hW', trodAll_mk1 (shut_bool Tryd.underlying4 _), (trodAll_cons_mk (shut_string Tryd.underlying9 w0) (trodAll_cons_mk (Below.trod laidOut0 (by kernel_rfl) (of_decide_eq_true (by kernel_rfl)) k1 hB lt1) trodAll_mk0)), hv', hB.frame _, fun h => by cases h⟩

theorem over : Rows.fnExactTaggedRow.holds Tryd.pinned (OpenSpec.ofChange Rows.fnExactTaggedSpec) :=
  OpenClaim.holds_of_wide 4 Tryd.f4 rfl rfl rfl rfl rfl rfl rfl ⟨rfl, rfl, rfl, rfl, rfl⟩ rfl rfl rfl rfl rfl (by kernel_rfl) Tryd.func4 (by kernel_rfl)
    (of_decide_eq_true (by kernel_rfl)) (by unfold Func.isWrapper; first | (rw [if_pos (by decide +kernel)]; kernel_rfl) | (rw [if_neg (by decide +kernel)]; exact ⟨rfl, rfl⟩))
    (fun os started H enc _ => lifted os started H enc)

theorem card : Claim7.holds Tryd.pinned (.plain (OpenSpec.ofChange Rows.fnExactTaggedSpec)) Rows.fnExactTaggedCard :=
  Claim7.holds_tied_plain_at .later [] [.data] true (true, Rows.fnExactTaggedCard.stood.harness.2) false
    over (fun _ h => by cases h) (by kernel_rfl) (fun _ h => by cases h) fnExactTagged_row_tie rfl ⟨rfl, rfl⟩ (by kernel_rfl) rfl
    (fun f fn hf hfn => by
      obtain rfl : f = 4 := Option.some.inj ((show Tryd.prog.funcNamed "loop.example/g00226/laws.FnExactTagged" = some 4 by kernel_rfl).symm.trans hf) |>.symm
      obtain rfl : fn = Tryd.f4 := (Option.some.inj (Tryd.func4.symm.trans hfn)).symm
      exact ⟨by kernel_rfl, fun j t ht => by
        rw [Tryd.params4] at ht
        have hm : t ∈ [9, 24] := by simpa using Array.mem_of_getElem? ht
        have hall : ([9, 24].all fun u => !Tryd.prog.wantsStandIn u) = true := by kernel_rfl
        exact (show Tryd.prog.wantsStandIn t = false by simpa using List.all_eq_true.1 hall t hm)⟩)
    (by kernel_rfl)

end Go.Proofs.YtgneihfhkaamfakDoor.fnExactTagged
namespace Go.Proofs.YtgneihfhkaamfakDoor
theorem fnExactTagged_holds : Rows.FnExactTaggedCardSaid := fnExactTagged.card
end Go.Proofs.YtgneihfhkaamfakDoor
