/-
  At every text TakeFrames answers as its model: the data of the frames with which it begins, and where they end; the answer owns its memory. No condition; the round words are laid as the program's text lays them.
-/
import Derived.Test.YtgoohohkgmiemaaDoorSFrames
import Derived.Test.YtgoohohkgmiemaaDoorStrsAll
import Derived.Test.YtgoohohkgmiemaaDoorSeatAll
import Derived.Test.YtgoohohkgmiemaaDoorTie
import Derived.Test.YtgoohohkgmiemaaDoorCards
import Derived.ProofKit
import Derived.LaidMore
import Derived.OpenShut
import Derived.ShutString
import Derived.ChangeOld
import Derived.Below
import Derived.Stop.Joined
import Derived.Lib.LaidTab
import Derived.SevenTiedAt
import Derived.SliceStrings
namespace Go.Proofs.YtgoohohkgmiemaaDoor.fnExactTakeFrames
open Go.ChangeShapes Go.WideShapes Go.ChangeAt Go.RowKit
open Go.ChangeMaps (open_string shut_string)
set_option linter.unusedVariables false

theorem own : ownKnob Tryd.prog.godebug = none := by kernel_rfl
theorem laidOut0 : laidOutB Tryd.prog = true := by kernel_rfl
theorem gTab : Tryd.prog.globalNamed "loop.example/g00226/impl.roundWords" = some 0 := by kernel_rfl
theorem tTab : (Tryd.prog.globals[0]?).map (·.type) = some 58 := by kernel_rfl

/-- The door's own heap meets the condition. -/
theorem door_met (os : Os) (args : Array Value) : laidMetH Tryd.prog Rows.fnExactTakeFramesRow.laid ((World.doorLaid Tryd.prog 400 os).forCall (fun _ _ => 0) ⟨#[], args, []⟩).memory :=
  laidMetH_of_parts3 (fuel := 8) (laidMet_of_run' 8 (by kernel_rfl) (by kernel_rfl)) (by kernel_rfl) (by kernel_rfl)

/-- What the condition gives the walks: the round words' cells. -/
theorem tab_of {W : World} (h : laidMetH Tryd.prog Rows.fnExactTakeFramesRow.laid W) : Tab W := by
  rw [MakeChecks.laidMetH_plain _ _ _ (by kernel_rfl)] at h
  have hT : Lib.TabIs Tryd.prog W "loop.example/g00226/impl.roundWords" .u32 (kL.map fun x => num x) := Lib.tabIs_of_head (rest := []) gTab tTab Tryd.underlying58 Tryd.underlying48 (by kernel_rfl) (by kernel_rfl) h
  have hc : ∀ i, i < 64 → W.cell? ⟨0, i, none⟩ = some (.int .u32 (num (kL.getD i 0))) := fun i hi => by
    have hl : i < kL.length := hi
    have := hT.cell gTab i (by rw [List.length_map]; exact hl)
    rw [this]
    simp [List.getD, hl]
  exact ⟨block_lt_of_cell (hc 0 (by omega)), hc⟩

theorem fr_below {B : Nat} {w w' : World} (h : Below B w w') (q : Nat) : Below B w (w'.drewN q) := ⟨h.os, h.tape, h.output, h.size, h.block⟩

set_option maxRecDepth 100000 in
set_option maxHeartbeats 400000 in
theorem walk (a0 : ByteArray) (w0 : a0.size ≤ maxLen) (w : World) (hT : Tab w) :
    Calls Tryd.prog 5 #[.string a0] w fun e w' => e = .returned (.bool true) ∧ Below w.heap.size w w' := by
  unfold maxLen at w0
  have HT : Hid (Tab w) := hT
  clear hT
  obtain ⟨l, rfl⟩ : ∃ l : List UInt8, a0 = ⟨l.toArray⟩ := ⟨a0.data.toList, ba_eq a0⟩
  have hz : (ByteArray.mk l.toArray).size = l.length := by simp [ByteArray.size]
  rw [hz] at w0
  clear hz
  by_cases hb : l.length ≤ 1048576
  · have hb' : (l.length : Int) ≤ 1048576 := by omega
    obtain ⟨ls, hls⟩ : ∃ ls, ls = framesL l := ⟨_, rfl⟩
    obtain ⟨fl, hfl⟩ : ∃ fl, fl = endsF ls := ⟨_, rfl⟩
    have H1 : ∀ W : World, Calls Tryd.prog 9 #[.string ⟨l.toArray⟩] W fun e w' => ∃ v, e = .returned (.tuple #[v, .int .i64 (fl : Int)]) ∧ w'.ownsRow W.heap.size 9 1 v ls.length (scells ls) ∧ Below W.heap.size W w' ∧ ls.length ≤ 1048576 :=
      fun W => (spec_takeFrames l W hb).mono fun e w' ⟨v, h1, h2, h3, h4, h5⟩ => by rw [hfl, hls]; exact ⟨v, h1, h2, h3, h4⟩
    have H2 : ∀ W : World, Tab W → Calls Tryd.prog 8 #[.string ⟨l.toArray⟩] W fun e w' => ∃ v, e = .returned (.tuple #[v, .int .i64 (fl : Int)]) ∧ w'.ownsRow W.heap.size 9 1 v ls.length (scells ls) ∧ Below W.heap.size W w' ∧ ls.length ≤ 1048576 :=
      fun W hW => (impl_takeFrames l W hb hW).mono fun e w' ⟨v, h1, h2, h3, h4, h5⟩ => by rw [hfl, hls]; exact ⟨v, h1, h2, h3, h4⟩
    clear hls hfl
    go_enter Tryd.func5, Tryd.ntmps5
    go_wp2_with fail
    refine (H1 _).mono ?_
    rintro e w1 ⟨v0, rfl, o0, b1, hn⟩
    go_wp2_with fail
    refine (H2 _ (HT.out.later b1)).mono ?_
    rintro e w2 ⟨v1, rfl, o1, b2, _⟩
    have o0' := o0.kept (grown_of_below b2 none) (by cases h : v0.ownBlock with
      | none => exact .inl rfl
      | some k => exact .inr (by simp))
    have s1 := b1.size
    have s2 := b2.size
    have hw2 := b1.trans (b2.mono s1)
    have n01 : ∀ k, v0.ownBlock = some k → v1.ownBlock ≠ some k := fun k h h' => by have := (o0.lt k h).2; have := (o1.lt k h').1; omega
    have lt1 := o1.lt
    have O0 := hidOwn o0'
    have O1 := hidOwn o1
    clear o0 o0' o1 b1 b2
    go_wp2_with fail
    refine (eqS_same ls v1 v0 _ _ _ (by omega) O1.out O0.out).mono ?_
    rintro e w3 ⟨rfl, q, rfl⟩
    go_wp2_with fail
    refine (markS_one ls v1 w1.heap.size _ (by omega) (own_drewN' O1.out q)).mono ?_
    rintro e w4 ⟨rfl, o4, g4⟩
    have e4 : w4.ownsRow w.heap.size 9 1 v0 ls.length (scells ls) := (own_drewN' O0.out q).kept g4 (by cases h : v0.ownBlock with
      | none => exact .inl rfl
      | some k => exact .inr (Ne.symm (n01 k h)))
    have hw4 : Below w.heap.size w w4 := (fr_below hw2 q).grown g4 (by simp; omega) (fun k h => by have := (lt1 k h).1; omega)
    have O4 := hidOwn o4
    have E4 := hidOwn e4
    clear O0 O1 o4 e4 g4 hw2
    go_wp2_with fail
    refine (heldS_one ls.length v1 w1.heap.size _ (by omega) O4.out).mono ?_
    rintro e w5 ⟨rfl, g5⟩
    have o5 := O4.out.kept g5 (by cases h : v1.ownBlock with
      | none => exact .inl rfl
      | some k => exact .inr (by simp))
    have e5 := E4.out.kept g5 (by cases h : v0.ownBlock with
      | none => exact .inl rfl
      | some k => exact .inr (by simp))
    have hw5 : Below w.heap.size w w5 := hw4.grown g5 hw4.size (by simp)
    have O5 := hidOwn o5
    have E5 := hidOwn e5
    clear O4 E4 o5 e5 g5 hw4
    go_wp2_with fail
    refine (H2 _ (HT.out.later hw5)).mono ?_
    rintro e w6 ⟨v2, rfl, o6, b6, _⟩
    have e6 := E5.out.kept (grown_of_below b6 none) (by cases h : v0.ownBlock with
      | none => exact .inl rfl
      | some k => exact .inr (by simp))
    have f6 := O5.out.kept (grown_of_below b6 none) (by cases h : v1.ownBlock with
      | none => exact .inl rfl
      | some k => exact .inr (by simp))
    have hw6 := hw5.trans (b6.mono hw5.size)
    have O6 := hidOwn o6
    have E6 := hidOwn e6
    have F6 := hidOwn f6
    clear O5 E5 o6 e6 f6 b6 hw5
    go_wp2_with fail
    refine (eqS_same ls v2 v0 _ _ _ (by omega) O6.out E6.out).mono ?_
    rintro e w7 ⟨rfl, q7, rfl⟩
    go_wp2_with fail
    refine (heldS_one ls.length v1 w1.heap.size _ (by omega) (own_drewN' F6.out q7)).mono ?_
    rintro e w8 ⟨rfl, g8⟩
    have hw8 : Below w.heap.size w w8 := (fr_below hw6 q7).grown g8 (by have := hw6.size; simp; omega) (by simp)
    clear g8 hw6
    go_wp2
    go_ret
    exact ⟨rfl, hw8⟩
  · have hb' : ¬ (l.length : Int) ≤ 1048576 := by omega
    go_enter Tryd.func5, Tryd.ntmps5
    go_wp2
    go_ret
    exact ⟨rfl, Below.refl _ _⟩

set_option maxRecDepth 100000 in
theorem lifted (os : Os) (started : os.Started) (H : Type) (enc : TypeId × Value → H) :
    ReturnsInHanded {} Tryd.checked os 5 .any (fun w args => (Rows.fnExactTakeFramesSpec.pre enc Tryd.prog Tryd.f5 [] false w args ∧ laidMetH Tryd.prog Rows.fnExactTakeFramesRow.laid w) ∧ sizedMet enc Tryd.prog Tryd.f5 (OpenSpec.ofChange Rows.fnExactTakeFramesSpec) false w args)
      (Rows.fnExactTakeFramesSpec.post enc Tryd.prog Tryd.f5 false true false false) := by
  refine returnsInHanded_of_change_and (C := Tryd.checked) (X := fun w _ => laidMetH Tryd.prog Rows.fnExactTakeFramesRow.laid w) (fun _ _ _ hh h => h.of_heap hh) own started (by kernel_rfl) Tryd.func5
    (ChangeSpec.witness_shaped (enc := enc) (C := Tryd.checked) (os := os) (X := fun w _ => laidMetH Tryd.prog Rows.fnExactTakeFramesRow.laid w) false (World.doorLaid Tryd.prog 400 os) #[.string ByteArray.empty] 8 rfl (World.shaped_of_RefB (by kernel_rfl) (by kernel_rfl)) (by kernel_rfl) (by kernel_rfl) (by kernel_rfl) (door_met os _)) ?_
  intro W base args ds gs before hval0 hW _ _ hL _
  have hval : ∀ (j : Nat) t v, Tryd.f5.params[j]? = some t → args[j]? = some v → Value.okWide Tryd.prog W .any base t v := hval0
  have hW' := hW
  obtain ⟨p, q, hA0, hV0, rfl, hfz, hnd⟩ := hW
  have hA : DataW.TrodAll enc Tryd.prog W 0 (fun _ => true) true Tryd.f5.params.toList args.toList ds p := hA0
  have hV : DataW.TrodVars enc Tryd.prog W (fun _ => true) ["loop.example/g00226/impl.roundWords"] gs q := hV0
  rw [Tryd.params5] at hA hval
  obtain ⟨v0, vs0, d0, ds0, p0, q0, hargs, rfl, rfl, h0, r0⟩ := trodAll_cons hA
  obtain ⟨rfl, rfl, rfl⟩ := trodAll_nil r0
  obtain rfl : args = #[v0] := by cases args; simp_all
  obtain ⟨a0, rfl, rfl, rfl, w0⟩ := open_string Tryd.underlying9 (hval 0 9 v0 rfl rfl) h0
  obtain ⟨g, t, cs, fuel, d, p', rfl, hg, ht, hvar, hd, rfl⟩ := trodVars_one hV
  obtain rfl := Option.some.inj (gTab.symm.trans hg)
  obtain rfl := Option.some.inj (tTab.symm.trans ht)
  have hT := tab_of hL
  have hltv : ∀ x ∈ p', x.block < W.heap.size := fun x hx => hW'.lt x (List.mem_append_right _ (List.mem_append_right _ hx))
  clear hA0 hV0 hval0 hA hV
  refine (walk a0 w0 W hT).mono fun e W' ⟨he, hB⟩ => ?_
  subst he
  obtain ⟨fuel', hd'⟩ := Below.trod laidOut0 (by kernel_rfl) (of_decide_eq_true (by kernel_rfl)) (v := .agg cs) (⟨fuel, by simpa [Value.cells] using hd⟩ : DataW.Trod enc Tryd.prog W 0 (fun _ => true) true 58 (.agg cs) d p') hB hltv
  have hv' := trodVars_mk1 (enc := enc) (spare := fun b => decide (b < W.heap.size)) hg ht (var?_below hB hg hT.1 hvar) (by simpa [Value.cells] using hd')
  exact ⟨_, rfl, _, _, _, [], _, _, hW', trodAll_mk1 (shut_bool Tryd.underlying4 _), (trodAll_cons_mk (shut_string Tryd.underlying9 w0) trodAll_mk0), hv', hB.frame _, fun h => by cases h⟩

theorem named0 : Tryd.prog.funcNamed "loop.example/g00226/laws.FnExactTakeFrames" = some 5 := by kernel_rfl
theorem closed0 : joinedFacts Tryd.prog 5 Tryd.f5 Rows.fnExactTakeFramesSpec Rows.fnExactTakeFramesRow = true := by
  unfold joinedFacts
  rw [seat_may, seat_lifts, seat_make]
  kernel_rfl
theorem inst0 : Tryd.f5.isInstance Tryd.prog Rows.fnExactTakeFramesRow.origin Rows.fnExactTakeFramesRow.targs := of_decide_eq_true (by kernel_rfl)
theorem wrap0 : Tryd.f5.isWrapper Tryd.prog Rows.fnExactTakeFramesRow.wrapper Rows.fnExactTakeFramesRow.mainSum := by unfold Func.isWrapper; first | (rw [if_pos (by decide +kernel)]; kernel_rfl) | (rw [if_neg (by decide +kernel)]; exact ⟨rfl, rfl⟩)

theorem over : Rows.fnExactTakeFramesRow.holds Tryd.pinned (OpenSpec.ofChange Rows.fnExactTakeFramesSpec) :=
  OpenClaim.holds_of_wide 5 Tryd.f5 rfl rfl rfl rfl rfl rfl rfl ⟨rfl, rfl, rfl, rfl, rfl⟩ rfl rfl rfl rfl rfl named0 Tryd.func5 closed0 inst0 wrap0
    (fun os started H enc _ => lifted os started H enc)

theorem text0 : Rows.fnExactTakeFramesRow.wfByText (OpenSpec.ofChange Rows.fnExactTakeFramesSpec) = true := by kernel_rfl
theorem looks0 : false = Tryd.prog.looks [] := by kernel_rfl
theorem goes0 : false = Rows.fnExactTakeFramesRow.goesBy Tryd.prog := by kernel_rfl
theorem wants0 : ([9].all fun u => !Tryd.prog.wantsStandIn u) = true := by kernel_rfl

theorem card : Claim7.holds Tryd.pinned (.plain (OpenSpec.ofChange Rows.fnExactTakeFramesSpec)) Rows.fnExactTakeFramesCard :=
  Claim7.holds_tied_plain_at .later [] [.data] true (true, Rows.fnExactTakeFramesCard.stood.harness.2) false
    over (fun _ h => by cases h) text0 (fun _ h => by cases h) fnExactTakeFrames_row_tie rfl ⟨rfl, rfl⟩ seat_main rfl
    (fun f fn hf hfn => by
      obtain rfl : f = 5 := Option.some.inj (named0.symm.trans hf) |>.symm
      obtain rfl : fn = Tryd.f5 := (Option.some.inj (Tryd.func5.symm.trans hfn)).symm
      exact ⟨looks0, fun j t ht => by
        rw [Tryd.params5] at ht
        have hm : t ∈ [9] := by simpa using Array.mem_of_getElem? ht
        exact (show Tryd.prog.wantsStandIn t = false by simpa using List.all_eq_true.1 wants0 t hm)⟩)
    goes0

end Go.Proofs.YtgoohohkgmiemaaDoor.fnExactTakeFrames
namespace Go.Proofs.YtgoohohkgmiemaaDoor
theorem fnExactTakeFrames_holds : Rows.FnExactTakeFramesCardSaid := fnExactTakeFrames.card
end Go.Proofs.YtgoohohkgmiemaaDoor
