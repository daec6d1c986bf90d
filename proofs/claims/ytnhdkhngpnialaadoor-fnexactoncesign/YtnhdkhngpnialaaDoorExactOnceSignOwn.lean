/-
  At every seed and text OnceSign answers as its model, and its answer owns its memory. No condition; the round words are laid as the program's text lays them.
-/
import Derived.Test.YtnhdkhngpnialaaDoorIOnce
import Derived.Test.YtnhdkhngpnialaaDoorSSign2
import Derived.Test.YtnhdkhngpnialaaDoorStrs
import Derived.Test.YtnhdkhngpnialaaDoorSeatA
import Derived.Test.YtnhdkhngpnialaaDoorSeatB
import Derived.Test.YtnhdkhngpnialaaDoorTie
import Derived.Test.YtnhdkhngpnialaaDoorCards
import Derived.ProofKit
import Derived.LaidMore
import Derived.OpenShut
import Derived.ShutString
import Derived.ChangeOld
import Derived.Below
import Derived.Stop.Joined
import Derived.Lib.LaidTab
import Derived.SevenTiedAt
import Derived.SliceStrings
namespace Go.Proofs.YtnhdkhngpnialaaDoor.fnExactOnceSign
open Go.ChangeShapes Go.WideShapes Go.ChangeAt Go.RowKit
open Go.ChangeMaps (open_string shut_string)
set_option linter.unusedVariables false

theorem own : ownKnob Tryd.prog.godebug = none := by kernel_rfl
theorem laidOut0 : laidOutB Tryd.prog = true := by kernel_rfl
theorem gTab : Tryd.prog.globalNamed "loop.example/g00226/impl.roundWords" = some 0 := by kernel_rfl
theorem tTab : (Tryd.prog.globals[0]?).map (·.type) = some 134 := by kernel_rfl

/-- The door's own heap meets the condition. -/
theorem door_met (os : Os) (args : Array Value) : laidMetH Tryd.prog Rows.fnExactOnceSignRow.laid ((World.doorLaid Tryd.prog 400 os).forCall (fun _ _ => 0) ⟨#[], args, []⟩).memory :=
  laidMetH_of_parts3 (fuel := 8) (laidMet_of_run' 8 (by kernel_rfl) (by kernel_rfl)) (by kernel_rfl) (by kernel_rfl)

/-- What the condition gives the walks: the round words' cells. -/
theorem tab_of {W : World} (h : laidMetH Tryd.prog Rows.fnExactOnceSignRow.laid W) : Tab W := by
  rw [MakeChecks.laidMetH_plain _ _ _ (by kernel_rfl)] at h
  have hT : Lib.TabIs Tryd.prog W "loop.example/g00226/impl.roundWords" .u32 (kL.map fun x => num x) := Lib.tabIs_of_head (rest := []) gTab tTab Tryd.underlying134 Tryd.underlying104 (by kernel_rfl) (by kernel_rfl) h
  have hc : ∀ i, i < 64 → W.cell? ⟨0, i, none⟩ = some (.int .u32 (num (kL.getD i 0))) := fun i hi => by
    have hl : i < kL.length := hi
    have := hT.cell gTab i (by rw [List.length_map]; exact hl)
    rw [this]
    simp [List.getD, hl]
  exact ⟨block_lt_of_cell (hc 0 (by omega)), hc⟩

theorem below_drewN {B : Nat} {w w' : World} (h : Below B w w') (q : Nat) : Below B w (w'.drewN q) := ⟨h.os, h.tape, h.output, h.size, h.block⟩
theorem below_low {w w1 w2 : World} {v : Value} (h : Below w.heap.size w w1) (hg : w1.grownBy w2 v.ownBlock) (hl : ∀ k, v.ownBlock = some k → w.heap.size ≤ k) : Below w.heap.size w w2 := h.grown hg h.size hl

theorem sign_far {w w' : World} {b e n k : Nat} {v : Value} {xs : List Value} (h : w.ownsRow b e 1 v n xs) (hg : w.grownBy w' (some k)) (hk : v.ownBlock ≠ some k) : w'.ownsRow b e 1 v n xs :=
  h.kept hg (by cases hv : v.ownBlock with | none => exact .inl rfl | some j => exact .inr (fun e => hk (by rw [hv]; exact e)))

theorem ispec (s msg : List UInt8) (w : World) (hl : s.length ≤ 1048576) (hm : msg.length ≤ 1048576) (ls : List (List UInt8)) (hls : ls = if s.length = 32 then sigL s msg 19 else []) :
    Calls Tryd.prog 29 #[.string ⟨s.toArray⟩, .string ⟨msg.toArray⟩] w fun e w' => ∃ a m c, e = .returned (.tuple #[.slice a m c, .bool (decide (s.length = 32))]) ∧ w'.ownsRow w.heap.size 9 1 (.slice a m c) ls.length (scells ls) ∧ Below w.heap.size w w' := by
  subst hls
  by_cases hok : s.length = 32
  · rw [if_pos hok, decide_eq_true hok]
    refine (spec_sign s msg w hok hm).mono ?_
    rintro e w1 ⟨g, cap, rfl, o1, b1⟩
    exact ⟨_, _, _, rfl, by rw [sigL_length]; exact o1, b1⟩
  · rw [if_neg hok, decide_eq_false hok]
    refine (spec_sign_no s msg w hl hok).mono ?_
    rintro e w1 ⟨rfl, rfl⟩
    exact ⟨none, 0, 0, rfl, own_nil _ _ _, Below.refl _ _⟩

theorem iimpl (s msg : List UInt8) (w : World) (hl : s.length ≤ 1048576) (hm : msg.length ≤ 1048576) (ls : List (List UInt8)) (hls : ls = if s.length = 32 then sigL s msg 19 else []) (hT : Tab w) :
    Calls Tryd.prog 28 #[.string ⟨s.toArray⟩, .string ⟨msg.toArray⟩] w fun e w' => ∃ a m c, e = .returned (.tuple #[.slice a m c, .bool (decide (s.length = 32))]) ∧ w'.ownsRow w.heap.size 9 1 (.slice a m c) ls.length (scells ls) ∧ Below w.heap.size w w' := by
  subst hls
  by_cases hok : s.length = 32
  · rw [if_pos hok, decide_eq_true hok]
    refine (impl_sign s msg w hok hm hT).mono ?_
    rintro e w1 ⟨g, cap, rfl, o1, b1⟩
    exact ⟨_, _, _, rfl, by rw [sigL_length]; exact o1, b1⟩
  · rw [if_neg hok, decide_eq_false hok]
    refine (impl_sign_no s msg w hl hok).mono ?_
    rintro e w1 ⟨rfl, rfl⟩
    exact ⟨none, 0, 0, rfl, own_nil _ _ _, Below.refl _ _⟩

set_option maxRecDepth 100000 in
set_option maxHeartbeats 1000000 in
theorem walk (a0 : ByteArray) (w0 : a0.size ≤ maxLen) (a1 : ByteArray) (w1 : a1.size ≤ maxLen) (w : World) (hT : Tab w) :
    Calls Tryd.prog 12 #[.string a0, .string a1] w fun e w' => e = .returned (.bool true) ∧ Below w.heap.size w w' := by
  unfold maxLen at w0 w1
  have HT : Hid (Tab w) := hT
  clear hT
  by_cases hb : a0.size ≤ 1048576
  · by_cases hb1 : a1.size ≤ 1048576
    · have e0 : a0 = ⟨a0.data.toList.toArray⟩ := ba_eq a0
      have hl : a0.data.toList.length ≤ 1048576 := by rw [Array.length_toList]; exact hb
      have e1 : a1 = ⟨a1.data.toList.toArray⟩ := ba_eq a1
      have hm : a1.data.toList.length ≤ 1048576 := by rw [Array.length_toList]; exact hb1
      obtain ⟨s, hs⟩ : ∃ s, s = a0.data.toList := ⟨_, rfl⟩
      obtain ⟨msg, hmsg⟩ : ∃ s, s = a1.data.toList := ⟨_, rfl⟩
      rw [← hs] at e0 hl
      rw [← hmsg] at e1 hm
      clear hs hmsg
      subst e0
      subst e1
      obtain ⟨ls, hls⟩ : ∃ ls, ls = if s.length = 32 then sigL s msg 19 else [] := ⟨_, rfl⟩
      have hll : ls.length ≤ 19 := by rw [hls]; split <;> simp [sigL_length]
      have H1 := ispec s msg w hl hm ls hls
      have H2 := fun W hW => iimpl s msg W hl hm ls hls hW
      obtain ⟨ok, hok⟩ : ∃ ok, ok = decide (s.length = 32) := ⟨_, rfl⟩
      rw [← hok] at H1 H2
      clear hls hok
      go_enter Tryd.func12, Tryd.ntmps12
      go_wp2_with fail
      refine H1.mono ?_
      rintro e w1 ⟨x1, m1, c1, rfl, o1, b1⟩
      have O1 := hidOwn o1
      clear o1 H1
      go_wp2_with fail
      refine (H2 _ (HT.out.later b1)).mono ?_
      rintro e w2 ⟨x2, m2, c2, rfl, o2, b2⟩
      have B2 := b1.trans (b2.mono b1.size)
      have low2 := own_low o2
      have P1 := hidOwn (keptO O1.out b2)
      have lt1 : ∀ k, (Value.slice x1 m1 c1).ownBlock = some k → k < w1.heap.size := by
        rcases own_cases O1.out with ⟨h, _, _⟩ | ⟨g, cap, h, _, hg, _, _⟩
        · rw [h]; simp [Value.ownBlock]
        · rw [h]; intro k hk; simp [Value.ownBlock] at hk; omega
      have O2 := hidOwn o2
      clear o2 b2 O1
      go_wp2_with fail
      refine (eqS_same ls _ _ _ _ _ (by omega) O2.out P1.out).mono ?_
      rintro e w3 ⟨rfl, q3, rfl⟩
      have B3 := below_drewN B2 q3
      go_wp2_with fail
      refine (markS_one ls _ w1.heap.size (w2.drewN q3) (by omega) O2.out).mono ?_
      rintro e w4 ⟨rfl, o4, G4⟩
      have B4 := below_low B3 G4 (fun k hk => Nat.le_trans b1.size (low2 k hk))
      have P4 := hidOwn (show w4.ownsRow w.heap.size 9 1 (.slice x1 m1 c1) ls.length (scells ls) from P1.out.kept (w := w2) (w' := w4) (row := (Value.slice x2 m2 c2).ownBlock) ⟨G4.os, G4.tape, G4.output, G4.size, G4.block⟩ (by
        cases hv : (Value.slice x1 m1 c1).ownBlock with
        | none => exact .inl rfl
        | some k =>
          refine .inr (fun e => ?_)
          have h1 := lt1 k hv
          have h2 := low2 k e.symm
          omega))
      have O4 := hidOwn o4
      clear o4 G4 O2 P1 B3 B2
      go_wp2_with fail
      refine (heldS_one ls.length _ w1.heap.size w4 (by omega) O4.out).mono ?_
      rintro e w5 ⟨rfl, G5⟩
      have b5 := below_of_grown G5
      have B5 := B4.trans (b5.mono B4.size)
      have P5 := hidOwn (keptO P4.out b5)
      have O5 := hidOwn (keptO O4.out b5)
      clear G5 b5 B4 P4 O4
      go_wp2_with fail
      refine (H2 _ (HT.out.later B5)).mono ?_
      rintro e w6 ⟨x6, m6, c6, rfl, o6, b6⟩
      have B6 := B5.trans (b6.mono B5.size)
      have O6 := hidOwn o6
      have P6 := hidOwn (keptO P5.out b6)
      have M6 := hidOwn (keptO O5.out b6)
      clear o6 b6 P5 O5 B5
      go_wp2_with fail
      refine (eqS_same ls _ _ _ _ _ (by omega) O6.out P6.out).mono ?_
      rintro e w7 ⟨rfl, q7, rfl⟩
      have B7 := below_drewN B6 q7
      go_wp2_with fail
      refine (heldS_one ls.length _ w1.heap.size (w6.drewN q7) (by omega) M6.out).mono ?_
      rintro e w8 ⟨rfl, G8⟩
      have B8 := B7.trans ((below_of_grown G8).mono B7.size)
      clear G8
      go_wp2
      go_ret
      exact ⟨rfl, B8⟩
    · go_enter Tryd.func12, Tryd.ntmps12
      go_wp2
      go_ret
      exact ⟨rfl, Below.refl _ _⟩
  · go_enter Tryd.func12, Tryd.ntmps12
    go_wp2
    go_ret
    exact ⟨rfl, Below.refl _ _⟩

set_option maxRecDepth 100000 in
theorem lifted (os : Os) (started : os.Started) (H : Type) (enc : TypeId × Value → H) :
    ReturnsInHanded {} Tryd.checked os 12 .any (fun w args => (Rows.fnExactOnceSignSpec.pre enc Tryd.prog Tryd.f12 [] false w args ∧ laidMetH Tryd.prog Rows.fnExactOnceSignRow.laid w) ∧ sizedMet enc Tryd.prog Tryd.f12 (OpenSpec.ofChange Rows.fnExactOnceSignSpec) false w args)
      (Rows.fnExactOnceSignSpec.post enc Tryd.prog Tryd.f12 false true false false) := by
  refine returnsInHanded_of_change_and (C := Tryd.checked) (X := fun w _ => laidMetH Tryd.prog Rows.fnExactOnceSignRow.laid w) (fun _ _ _ hh h => h.of_heap hh) own started (by kernel_rfl) Tryd.func12
    (ChangeSpec.witness_shaped (enc := enc) (C := Tryd.checked) (os := os) (X := fun w _ => laidMetH Tryd.prog Rows.fnExactOnceSignRow.laid w) false (World.doorLaid Tryd.prog 400 os) #[.string ByteArray.empty, .string ByteArray.empty] 8 rfl (World.shaped_of_RefB (by kernel_rfl) (by kernel_rfl)) (by kernel_rfl) (by kernel_rfl) (by kernel_rfl) (door_met os _)) ?_
  intro W base args ds gs before hval0 hW _ _ hL _
  have hval : ∀ (j : Nat) t v, Tryd.f12.params[j]? = some t → args[j]? = some v → Value.okWide Tryd.prog W .any base t v := hval0
  have hW' := hW
  obtain ⟨p, q, hA0, hV0, rfl, hfz, hnd⟩ := hW
  have hA : DataW.TrodAll enc Tryd.prog W 0 (fun _ => true) true Tryd.f12.params.toList args.toList ds p := hA0
  have hV : DataW.TrodVars enc Tryd.prog W (fun _ => true) ["loop.example/g00226/impl.roundWords"] gs q := hV0
  rw [Tryd.params12] at hA hval
  obtain ⟨v0, vs0, d0, ds0, p0, q0, hargs0, rfl, rfl, h0, r0⟩ := trodAll_cons hA
  obtain ⟨v1, vs1, d1, ds1, p1, q1, hargs1, rfl, rfl, h1, r1⟩ := trodAll_cons r0
  obtain ⟨rfl, rfl, rfl⟩ := trodAll_nil r1
  obtain rfl : args = #[v0, v1] := by cases args; simp_all
  obtain ⟨a0, rfl, rfl, rfl, w0⟩ := open_string Tryd.underlying9 (hval 0 9 v0 rfl rfl) h0
  obtain ⟨a1, rfl, rfl, rfl, w1⟩ := open_string Tryd.underlying9 (hval 1 9 v1 rfl rfl) h1
  obtain ⟨g, t, cs, fuel, d, p', rfl, hg, ht, hvar, hd, rfl⟩ := trodVars_one hV
  obtain rfl := Option.some.inj (gTab.symm.trans hg)
  obtain rfl := Option.some.inj (tTab.symm.trans ht)
  have hT := tab_of hL
  have hltv : ∀ x ∈ p', x.block < W.heap.size := fun x hx => hW'.lt x (List.mem_append_right _ (List.mem_append_right _ hx))
  clear hA0 hV0 hval0 hA hV
  refine (walk a0 w0 a1 w1 W hT).mono fun e W' ⟨he, hB⟩ => ?_
  subst he
  obtain ⟨fuel', hd'⟩ := Below.trod laidOut0 (by kernel_rfl) (of_decide_eq_true (by kernel_rfl)) (v := .agg cs) (⟨fuel, by simpa [Value.cells] using hd⟩ : DataW.Trod enc Tryd.prog W 0 (fun _ => true) true 134 (.agg cs) d p') hB hltv
  have hv' := trodVars_mk1 (enc := enc) (spare := fun b => decide (b < W.heap.size)) hg ht (var?_below hB hg hT.1 hvar) (by simpa [Value.cells] using hd')
  exact ⟨_, rfl, _, _, _, [], _, _, hW', trodAll_mk1 (shut_bool Tryd.underlying4 _), (trodAll_cons_mk (shut_string Tryd.underlying9 w0) (trodAll_cons_mk (shut_string Tryd.underlying9 w1) trodAll_mk0)), hv', hB.frame _, fun h => by cases h⟩

theorem named0 : Tryd.prog.funcNamed "loop.example/g00226/laws.FnExactOnceSign" = some 12 := by kernel_rfl
theorem closed0 : joinedFacts Tryd.prog 12 Tryd.f12 Rows.fnExactOnceSignSpec Rows.fnExactOnceSignRow = true := by
  unfold joinedFacts
  rw [seat_may, seat_lifts, seat_make]
  kernel_rfl
theorem inst0 : Tryd.f12.isInstance Tryd.prog Rows.fnExactOnceSignRow.origin Rows.fnExactOnceSignRow.targs := of_decide_eq_true (by kernel_rfl)
theorem wrap0 : Tryd.f12.isWrapper Tryd.prog Rows.fnExactOnceSignRow.wrapper Rows.fnExactOnceSignRow.mainSum := by unfold Func.isWrapper; first | (rw [if_pos (by decide +kernel)]; kernel_rfl) | (rw [if_neg (by decide +kernel)]; exact ⟨rfl, rfl⟩)

theorem over : Rows.fnExactOnceSignRow.holds Tryd.pinned (OpenSpec.ofChange Rows.fnExactOnceSignSpec) :=
  OpenClaim.holds_of_wide 12 Tryd.f12 rfl rfl rfl rfl rfl rfl rfl ⟨rfl, rfl, rfl, rfl, rfl⟩ rfl rfl rfl rfl rfl named0 Tryd.func12 closed0 inst0 wrap0
    (fun os started H enc _ => lifted os started H enc)

theorem text0 : Rows.fnExactOnceSignRow.wfByText (OpenSpec.ofChange Rows.fnExactOnceSignSpec) = true := by kernel_rfl
theorem looks0 : false = Tryd.prog.looks [] := by kernel_rfl
theorem goes0 : false = Rows.fnExactOnceSignRow.goesBy Tryd.prog := by kernel_rfl
theorem wants0 : ([9, 9].all fun u => !Tryd.prog.wantsStandIn u) = true := by kernel_rfl

theorem card : Claim7.holds Tryd.pinned (.plain (OpenSpec.ofChange Rows.fnExactOnceSignSpec)) Rows.fnExactOnceSignCard :=
  Claim7.holds_tied_plain_at .later [] [.data] true (true, Rows.fnExactOnceSignCard.stood.harness.2) false
    over (fun _ h => by cases h) text0 (fun _ h => by cases h) fnExactOnceSign_row_tie rfl ⟨rfl, rfl⟩ seat_main rfl
    (fun f fn hf hfn => by
      obtain rfl : f = 12 := Option.some.inj (named0.symm.trans hf) |>.symm
      obtain rfl : fn = Tryd.f12 := (Option.some.inj (Tryd.func12.symm.trans hfn)).symm
      exact ⟨looks0, fun j t ht => by
        rw [Tryd.params12] at ht
        have hm : t ∈ [9, 9] := by simpa using Array.mem_of_getElem? ht
        exact (show Tryd.prog.wantsStandIn t = false by simpa using List.all_eq_true.1 wants0 t hm)⟩)
    goes0

end Go.Proofs.YtnhdkhngpnialaaDoor.fnExactOnceSign
namespace Go.Proofs.YtnhdkhngpnialaaDoor
theorem fnExactOnceSign_holds : Rows.FnExactOnceSignCardSaid := fnExactOnceSign.card
end Go.Proofs.YtnhdkhngpnialaaDoor
