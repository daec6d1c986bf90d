/-
  At every text Digits answers as its model, and its answer owns its memory. No condition; the round words are laid as the program's text lays them.
-/
import Derived.Test.YtnhdkhngpnialaaDoorIDig2
import Derived.Test.YtnhdkhngpnialaaDoorSDig
import Derived.Test.YtnhdkhngpnialaaDoorSInts
import Derived.Test.YtnhdkhngpnialaaDoorSeatA
import Derived.Test.YtnhdkhngpnialaaDoorSeatB
import Derived.Test.YtnhdkhngpnialaaDoorTie
import Derived.Test.YtnhdkhngpnialaaDoorCards
import Derived.ProofKit
import Derived.LaidMore
import Derived.OpenShut
import Derived.ShutString
import Derived.ChangeOld
import Derived.Below
import Derived.Stop.Joined
import Derived.Lib.LaidTab
import Derived.SevenTiedAt
import Derived.SliceStrings
namespace Go.Proofs.YtnhdkhngpnialaaDoor.fnExactDigits
open Go.ChangeShapes Go.WideShapes Go.ChangeAt Go.RowKit
open Go.ChangeMaps (open_string shut_string)
set_option linter.unusedVariables false

theorem own : ownKnob Tryd.prog.godebug = none := by kernel_rfl
theorem laidOut0 : laidOutB Tryd.prog = true := by kernel_rfl
theorem gTab : Tryd.prog.globalNamed "loop.example/g00226/impl.roundWords" = some 0 := by kernel_rfl
theorem tTab : (Tryd.prog.globals[0]?).map (·.type) = some 134 := by kernel_rfl

/-- The door's own heap meets the condition. -/
theorem door_met (os : Os) (args : Array Value) : laidMetH Tryd.prog Rows.fnExactDigitsRow.laid ((World.doorLaid Tryd.prog 400 os).forCall (fun _ _ => 0) ⟨#[], args, []⟩).memory :=
  laidMetH_of_parts3 (fuel := 8) (laidMet_of_run' 8 (by kernel_rfl) (by kernel_rfl)) (by kernel_rfl) (by kernel_rfl)

/-- What the condition gives the walks: the round words' cells. -/
theorem tab_of {W : World} (h : laidMetH Tryd.prog Rows.fnExactDigitsRow.laid W) : Tab W := by
  rw [MakeChecks.laidMetH_plain _ _ _ (by kernel_rfl)] at h
  have hT : Lib.TabIs Tryd.prog W "loop.example/g00226/impl.roundWords" .u32 (kL.map fun x => num x) := Lib.tabIs_of_head (rest := []) gTab tTab Tryd.underlying134 Tryd.underlying104 (by kernel_rfl) (by kernel_rfl) h
  have hc : ∀ i, i < 64 → W.cell? ⟨0, i, none⟩ = some (.int .u32 (num (kL.getD i 0))) := fun i hi => by
    have hl : i < kL.length := hi
    have := hT.cell gTab i (by rw [List.length_map]; exact hl)
    rw [this]
    simp [List.getD, hl]
  exact ⟨block_lt_of_cell (hc 0 (by omega)), hc⟩

theorem below_g {g : Nat} {w w1 w2 : World} (h : Below w.heap.size w w1) (hg : w1.grownBy w2 (some g)) (hB : w.heap.size ≤ g) : Below w.heap.size w w2 := h.grown hg h.size (fun k hk => by simp at hk; omega)
theorem below_drewN {B : Nat} {w w' : World} (h : Below B w w') (q : Nat) : Below B w (w'.drewN q) := ⟨h.os, h.tape, h.output, h.size, h.block⟩

set_option maxRecDepth 100000 in
set_option maxHeartbeats 1000000 in
theorem walk (a0 : ByteArray) (w0 : a0.size ≤ maxLen) (w : World) (hT : Tab w) :
    Calls Tryd.prog 9 #[.string a0] w fun e w' => e = .returned (.bool true) ∧ Below w.heap.size w w' := by
  unfold maxLen at w0
  have HT : Hid (Tab w) := hT
  clear hT
  by_cases hb : a0.size ≤ 1048576
  · have e0 : a0 = ⟨a0.data.toList.toArray⟩ := ba_eq a0
    have hl : a0.data.toList.length ≤ 1048576 := by rw [Array.length_toList]; exact hb
    obtain ⟨s, hs⟩ : ∃ s, s = a0.data.toList := ⟨_, rfl⟩
    rw [← hs] at e0 hl
    clear hs
    subst e0
    have H1 := fun W => spec_digits s W hl
    have H2 := fun W hW => impl_digits s W hl hW
    have hdl := digitsL_len s
    obtain ⟨out, hout⟩ : ∃ out, out = digitsL s := ⟨_, rfl⟩
    rw [← hout] at H1 H2 hdl
    clear hout
    go_enter Tryd.func9, Tryd.ntmps9
    go_wp2_with fail
    refine (H1 _).mono ?_
    rintro e w1 ⟨g1, c1, rfl, o1, b1⟩
    have O1 := hidOwn o1
    clear o1 H1
    go_wp2_with fail
    refine (H2 _ (HT.out.later b1)).mono ?_
    rintro e w2 ⟨g2, c2, rfl, o2, b2⟩
    have B2 := b1.trans (b2.mono b1.size)
    have n21 : w1.heap.size ≤ g2 := own_base o2
    have n1 : g1 < w1.heap.size := own_lt O1.out
    have n2 : w.heap.size ≤ g2 := Nat.le_trans b1.size n21
    have O2 := hidOwn o2
    have P1 := hidOwn (O1.out.kept (grown_of_belowI b2 none) (.inr (by simp [Value.ownBlock])))
    clear o2 b2 O1
    go_wp2_with fail
    refine (eqI_same out 19 g2 c2 g1 c1 _ _ _ (by omega) hdl O2.out P1.out).mono ?_
    rintro e w3 ⟨rfl, q3, rfl⟩
    have B3 := below_drewN B2 q3
    go_wp2_with fail
    refine (markI_any out 19 g2 c2 w1.heap.size 1 1 (w2.drewN q3) rfl (by omega) hdl (by omega) O2.out).mono ?_
    rintro e w4 ⟨rfl, o4, G4⟩
    have B4 := below_g B3 G4 n2
    have P4 := hidOwn (P1.out.kept (w := w2) (w' := w4) (row := some g2) ⟨G4.os, G4.tape, G4.output, G4.size, G4.block⟩ (.inr (by simp [Value.ownBlock]; omega)))
    have O4 := hidOwn o4
    clear o4 G4 O2 P1 B3 B2
    go_wp2_with fail
    refine (heldI_any 19 g2 c2 _ 1 1 _ rfl (by omega) (by omega) O4.out).mono ?_
    rintro e w5 ⟨rfl, rfl⟩
    go_wp2_with fail
    refine (H2 _ (HT.out.later B4)).mono ?_
    rintro e w6 ⟨g6, c6, rfl, o6, b6⟩
    have B6 := B4.trans (b6.mono B4.size)
    have O6 := hidOwn o6
    have P6 := hidOwn (P4.out.kept (grown_of_belowI b6 none) (.inr (by simp [Value.ownBlock])))
    have M6 := hidOwn (O4.out.kept (grown_of_belowI b6 none) (.inr (by simp [Value.ownBlock])))
    clear o6 b6 P4 O4 B4
    go_wp2_with fail
    refine (eqI_same out 19 g6 c6 g1 c1 _ _ _ (by omega) hdl O6.out P6.out).mono ?_
    rintro e w7 ⟨rfl, q7, rfl⟩
    have B7 := below_drewN B6 q7
    go_wp2_with fail
    refine (heldI_any 19 g2 c2 w1.heap.size 1 1 (w6.drewN q7) rfl (by omega) (by omega) M6.out).mono ?_
    rintro e w8 ⟨rfl, rfl⟩
    go_wp2
    go_ret
    exact ⟨rfl, B7⟩
  · go_enter Tryd.func9, Tryd.ntmps9
    go_wp2
    go_ret
    exact ⟨rfl, Below.refl _ _⟩

set_option maxRecDepth 100000 in
theorem lifted (os : Os) (started : os.Started) (H : Type) (enc : TypeId × Value → H) :
    ReturnsInHanded {} Tryd.checked os 9 .any (fun w args => (Rows.fnExactDigitsSpec.pre enc Tryd.prog Tryd.f9 [] false w args ∧ laidMetH Tryd.prog Rows.fnExactDigitsRow.laid w) ∧ sizedMet enc Tryd.prog Tryd.f9 (OpenSpec.ofChange Rows.fnExactDigitsSpec) false w args)
      (Rows.fnExactDigitsSpec.post enc Tryd.prog Tryd.f9 false true false false) := by
  refine returnsInHanded_of_change_and (C := Tryd.checked) (X := fun w _ => laidMetH Tryd.prog Rows.fnExactDigitsRow.laid w) (fun _ _ _ hh h => h.of_heap hh) own started (by kernel_rfl) Tryd.func9
    (ChangeSpec.witness_shaped (enc := enc) (C := Tryd.checked) (os := os) (X := fun w _ => laidMetH Tryd.prog Rows.fnExactDigitsRow.laid w) false (World.doorLaid Tryd.prog 400 os) #[.string ByteArray.empty] 8 rfl (World.shaped_of_RefB (by kernel_rfl) (by kernel_rfl)) (by kernel_rfl) (by kernel_rfl) (by kernel_rfl) (door_met os _)) ?_
  intro W base args ds gs before hval0 hW _ _ hL _
  have hval : ∀ (j : Nat) t v, Tryd.f9.params[j]? = some t → args[j]? = some v → Value.okWide Tryd.prog W .any base t v := hval0
  have hW' := hW
  obtain ⟨p, q, hA0, hV0, rfl, hfz, hnd⟩ := hW
  have hA : DataW.TrodAll enc Tryd.prog W 0 (fun _ => true) true Tryd.f9.params.toList args.toList ds p := hA0
  have hV : DataW.TrodVars enc Tryd.prog W (fun _ => true) ["loop.example/g00226/impl.roundWords"] gs q := hV0
  rw [Tryd.params9] at hA hval
  obtain ⟨v0, vs0, d0, ds0, p0, q0, hargs, rfl, rfl, h0, r0⟩ := trodAll_cons hA
  obtain ⟨rfl, rfl, rfl⟩ := trodAll_nil r0
  obtain rfl : args = #[v0] := by cases args; simp_all
  obtain ⟨a0, rfl, rfl, rfl, w0⟩ := open_string Tryd.underlying9 (hval 0 9 v0 rfl rfl) h0
  obtain ⟨g, t, cs, fuel, d, p', rfl, hg, ht, hvar, hd, rfl⟩ := trodVars_one hV
  obtain rfl := Option.some.inj (gTab.symm.trans hg)
  obtain rfl := Option.some.inj (tTab.symm.trans ht)
  have hT := tab_of hL
  have hltv : ∀ x ∈ p', x.block < W.heap.size := fun x hx => hW'.lt x (List.mem_append_right _ (List.mem_append_right _ hx))
  clear hA0 hV0 hval0 hA hV
  refine (walk a0 w0 W hT).mono fun e W' ⟨he, hB⟩ => ?_
  subst he
  obtain ⟨fuel', hd'⟩ := Below.trod laidOut0 (by kernel_rfl) (of_decide_eq_true (by kernel_rfl)) (v := .agg cs) (⟨fuel, by simpa [Value.cells] using hd⟩ : DataW.Trod enc Tryd.prog W 0 (fun _ => true) true 134 (.agg cs) d p') hB hltv
  have hv' := trodVars_mk1 (enc := enc) (spare := fun b => decide (b < W.heap.size)) hg ht (var?_below hB hg hT.1 hvar) (by simpa [Value.cells] using hd')
  exact ⟨_, rfl, _, _, _, [], _, _, hW', trodAll_mk1 (shut_bool Tryd.underlying4 _), (trodAll_cons_mk (shut_string Tryd.underlying9 w0) trodAll_mk0), hv', hB.frame _, fun h => by cases h⟩

theorem named0 : Tryd.prog.funcNamed "loop.example/g00226/laws.FnExactDigits" = some 9 := by kernel_rfl
theorem closed0 : joinedFacts Tryd.prog 9 Tryd.f9 Rows.fnExactDigitsSpec Rows.fnExactDigitsRow = true := by
  unfold joinedFacts
  rw [seat_may, seat_lifts, seat_make]
  kernel_rfl
theorem inst0 : Tryd.f9.isInstance Tryd.prog Rows.fnExactDigitsRow.origin Rows.fnExactDigitsRow.targs := of_decide_eq_true (by kernel_rfl)
theorem wrap0 : Tryd.f9.isWrapper Tryd.prog Rows.fnExactDigitsRow.wrapper Rows.fnExactDigitsRow.mainSum := by unfold Func.isWrapper; first | (rw [if_pos (by decide +kernel)]; kernel_rfl) | (rw [if_neg (by decide +kernel)]; exact ⟨rfl, rfl⟩)

theorem over : Rows.fnExactDigitsRow.holds Tryd.pinned (OpenSpec.ofChange Rows.fnExactDigitsSpec) :=
  OpenClaim.holds_of_wide 9 Tryd.f9 rfl rfl rfl rfl rfl rfl rfl ⟨rfl, rfl, rfl, rfl, rfl⟩ rfl rfl rfl rfl rfl named0 Tryd.func9 closed0 inst0 wrap0
    (fun os started H enc _ => lifted os started H enc)

theorem text0 : Rows.fnExactDigitsRow.wfByText (OpenSpec.ofChange Rows.fnExactDigitsSpec) = true := by kernel_rfl
theorem looks0 : false = Tryd.prog.looks [] := by kernel_rfl
theorem goes0 : false = Rows.fnExactDigitsRow.goesBy Tryd.prog := by kernel_rfl
theorem wants0 : ([9].all fun u => !Tryd.prog.wantsStandIn u) = true := by kernel_rfl

theorem card : Claim7.holds Tryd.pinned (.plain (OpenSpec.ofChange Rows.fnExactDigitsSpec)) Rows.fnExactDigitsCard :=
  Claim7.holds_tied_plain_at .later [] [.data] true (true, Rows.fnExactDigitsCard.stood.harness.2) false
    over (fun _ h => by cases h) text0 (fun _ h => by cases h) fnExactDigits_row_tie rfl ⟨rfl, rfl⟩ seat_main rfl
    (fun f fn hf hfn => by
      obtain rfl : f = 9 := Option.some.inj (named0.symm.trans hf) |>.symm
      obtain rfl : fn = Tryd.f9 := (Option.some.inj (Tryd.func9.symm.trans hfn)).symm
      exact ⟨looks0, fun j t ht => by
        rw [Tryd.params9] at ht
        have hm : t ∈ [9] := by simpa using Array.mem_of_getElem? ht
        exact (show Tryd.prog.wantsStandIn t = false by simpa using List.all_eq_true.1 wants0 t hm)⟩)
    goes0

end Go.Proofs.YtnhdkhngpnialaaDoor.fnExactDigits
namespace Go.Proofs.YtnhdkhngpnialaaDoor
theorem fnExactDigits_holds : Rows.FnExactDigitsCardSaid := fnExactDigits.card
end Go.Proofs.YtnhdkhngpnialaaDoor
