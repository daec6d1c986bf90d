/-
  At every code a text has 19 digits below 4, as the model has them, and of two texts whose digits are unlike each has a digit that is greater: FnDigits answers true. No condition; the round words are laid as the program's text lays them.
-/
import Derived.Test.YtnhdkhngpnialaaDoorIDig2
import Derived.Test.YtnhdkhngpnialaaDoorSDig
import Derived.Test.YtnhdkhngpnialaaDoorDrawK
import Derived.Test.YtnhdkhngpnialaaDoorSame
import Derived.Test.YtnhdkhngpnialaaDoorMathDig
import Derived.Test.YtnhdkhngpnialaaDoorSeatA
import Derived.Test.YtnhdkhngpnialaaDoorSeatB
import Derived.Test.YtnhdkhngpnialaaDoorTie
import Derived.Test.YtnhdkhngpnialaaDoorCards
import Derived.ProofKit
import Derived.LaidMore
import Derived.OpenShut
import Derived.ShutString
import Derived.ChangeOld
import Derived.Below
import Derived.Stop.Joined
import Derived.Lib.LaidTab
import Derived.SevenTiedAt
import Derived.SliceStrings
namespace Go.Proofs.YtnhdkhngpnialaaDoor.fnDigits
open Go.ChangeShapes Go.WideShapes Go.ChangeAt Go.RowKit
open Go.ChangeMaps (open_string shut_string)
set_option linter.unusedVariables false

theorem own : ownKnob Tryd.prog.godebug = none := by kernel_rfl
theorem laidOut0 : laidOutB Tryd.prog = true := by kernel_rfl
theorem gTab : Tryd.prog.globalNamed "loop.example/g00226/impl.roundWords" = some 0 := by kernel_rfl
theorem tTab : (Tryd.prog.globals[0]?).map (·.type) = some 134 := by kernel_rfl

/-- The door's own heap meets the condition. -/
theorem door_met (os : Os) (args : Array Value) : laidMetH Tryd.prog Rows.fnDigitsRow.laid ((World.doorLaid Tryd.prog 400 os).forCall (fun _ _ => 0) ⟨#[], args, []⟩).memory :=
  laidMetH_of_parts3 (fuel := 8) (laidMet_of_run' 8 (by kernel_rfl) (by kernel_rfl)) (by kernel_rfl) (by kernel_rfl)

/-- What the condition gives the walks: the round words' cells. -/
theorem tab_of {W : World} (h : laidMetH Tryd.prog Rows.fnDigitsRow.laid W) : Tab W := by
  rw [MakeChecks.laidMetH_plain _ _ _ (by kernel_rfl)] at h
  have hT : Lib.TabIs Tryd.prog W "loop.example/g00226/impl.roundWords" .u32 (kL.map fun x => num x) := Lib.tabIs_of_head (rest := []) gTab tTab Tryd.underlying134 Tryd.underlying104 (by kernel_rfl) (by kernel_rfl) h
  have hc : ∀ i, i < 64 → W.cell? ⟨0, i, none⟩ = some (.int .u32 (num (kL.getD i 0))) := fun i hi => by
    have hl : i < kL.length := hi
    have := hT.cell gTab i (by rw [List.length_map]; exact hl)
    rw [this]
    simp [List.getD, hl]
  exact ⟨block_lt_of_cell (hc 0 (by omega)), hc⟩

theorem keptD {w w' : World} {b e n : Nat} {v : Value} {xs : List Value} (h : w.ownsRow b e 1 v n xs) (hb : Below w.heap.size w w') : w'.ownsRow b e 1 v n xs :=
  h.kept (row := none) ⟨hb.os, hb.tape, hb.output, hb.size, fun k hk _ => hb.block k hk⟩ (by cases v.ownBlock with | none => exact .inl rfl | some k => exact .inr (by simp))

set_option maxRecDepth 100000 in
set_option maxHeartbeats 4000000 in
theorem walk (a0 : Option Addr) (len0 cap0 : Nat) (w : World) (w0 : Code w a0 len0) (hT : Tab w) :
    Calls Tryd.prog 3 #[.slice a0 len0 cap0] w fun e w' => e = .returned (.bool true) ∧ Below w.heap.size w w' := by
  by_cases hb : len0 ≤ 1048576
  · have HB := bigNo len0 cap0 a0 w hb
    have HC : Hid (Code w a0 len0) := w0
    have HT : Hid (Tab w) := hT
    clear w0 hT
    go_enter Tryd.func3, Tryd.ntmps3
    go_wp2_with fail
    refine HB.mono ?_
    rintro e w ⟨rfl, rfl⟩
    clear HB
    have HD := drawDigits len0 cap0 a0 w hb HC.out
    go_wp2_with fail
    refine HD.mono ?_
    rintro e w1 ⟨m, hml, rfl, b1⟩
    clear HD
    have HD := drawOnceSign len0 cap0 a0 w1 hb (HC.out.later b1)
    go_wp2_with fail
    refine HD.mono ?_
    rintro e w2 ⟨s, msg, hsl, hgl, rfl, b2⟩
    have B2 := b1.trans (b2.mono b1.size)
    clear HD HC b1 b2
    have H1 := fun W hW => impl_digits m W (by omega) hW
    have H2 := fun W hW => impl_digits msg W (by omega) hW
    have H3 := fun W => spec_digits m W (by omega)
    have hd1 := digitsL_len m
    have hd2 := digitsL_len msg
    have HG : Hid (gtB (digitsL m) (digitsL msg) 19 = gtB (digitsL msg) (digitsL m) 19) := gtB_both m msg
    have HL : Hid (∀ i, (digitsL m).getD i 0 ≤ 3) := digitsL_getD m
    obtain ⟨ds, hds⟩ : ∃ ds, ds = digitsL m := ⟨_, rfl⟩
    obtain ⟨es, hes⟩ : ∃ es, es = digitsL msg := ⟨_, rfl⟩
    rw [← hds] at H1 H3 hd1 HG HL
    rw [← hes] at H2 hd2 HG
    clear hds hes
    go_wp2_with fail
    refine (H1 _ (HT.out.later B2)).mono ?_
    rintro e w3 ⟨g3, c3, rfl, o3, b3⟩
    have B3 := B2.trans (b3.mono B2.size)
    have O3 := hidOwn o3
    clear o3 b3 B2 H1
    go_wp2_with fail
    refine (H2 _ (HT.out.later B3)).mono ?_
    rintro e w4 ⟨g4, c4, rfl, o4, b4⟩
    have B4 := B3.trans (b4.mono B3.size)
    have O4 := hidOwn o4
    have P4 := hidOwn (keptD O3.out b4)
    clear o4 b4 B3 H2 O3
    go_wp2_with fail
    refine (H3 _).mono ?_
    rintro e w5 ⟨g5, c5, rfl, o5, b5⟩
    have B5 := B4.trans (b5.mono B4.size)
    have O5 := hidOwn o5
    have P5 := hidOwn (keptD P4.out b5)
    have Q5 := hidOwn (keptD O4.out b5)
    clear o5 b5 B4 H3 O4 P4
    go_wp2_with fail
    refine (sameI_same ds 19 g3 c3 g5 c5 _ _ _ (by omega) hd1 P5.out O5.out).mono ?_
    rintro e w6 ⟨rfl, q6, rfl⟩
    have hc : ∀ j, j < 19 → w5.cell? ⟨g3, j, none⟩ = some (.int .i64 ((ds.getD j 0 : Nat) : Int)) := fun j h => by rw [P5.out.cellAt j (by omega), icells_at ds j (by omega), List.getD_eq_getElem?_getD, List.getElem?_eq_getElem (by omega)]; rfl
    have hc' : ∀ j, j < 19 → w5.cell? ⟨g4, j, none⟩ = some (.int .i64 ((es.getD j 0 : Nat) : Int)) := fun j h => by rw [Q5.out.cellAt j (by omega), icells_at es j (by omega), List.getD_eq_getElem?_getD, List.getElem?_eq_getElem (by omega)]; rfl
    clear O5 P5 Q5
    go_wp2
    go_loopw [8, 9, 10] (fun p l i wr => ∃ j q : Nat, ∃ pb lb : Bool, j ≤ 19 ∧ i = .int .i64 (j : Int) ∧ p = .bool pb ∧ l = .bool lb ∧ Hid (pb = gtB ds es j) ∧ Hid (lb = gtB es ds j) ∧ wr = w5.drewN q) (fun _ _ i _ => 19 - (intOf i).toNat)
    case atStart => exact ⟨0, q6, false, false, Nat.zero_le _, rfl, rfl, rfl, rfl, rfl, rfl⟩
    case round =>
      obtain ⟨j, q, pb, lb, hj, rfl, rfl, rfl, HP, HQ, rfl⟩ := hrel
      by_cases hlt : j < 19
      · have c1 := hc j hlt
        have c2 := hc' j hlt
        have h3 := HL.out j
        have HP' : Hid (gtB ds es (j + 1) = (pb || decide (es.getD j 0 < ds.getD j 0))) := by rw [Hid, gtB_succ, HP.out]
        have HQ' : Hid (gtB es ds (j + 1) = (lb || decide (ds.getD j 0 < es.getD j 0))) := by rw [Hid, gtB_succ, HQ.out]
        obtain ⟨x, hx⟩ : ∃ x, x = ds.getD j 0 := ⟨_, rfl⟩
        obtain ⟨y, hy⟩ : ∃ y, y = es.getD j 0 := ⟨_, rfl⟩
        rw [← hx] at c1 h3 HP' HQ'
        rw [← hy] at c2 HP' HQ'
        have hj0 : (0 : Int) ≤ (j : Int) := by omega
        have hj1 : (j : Int) < 19 := by omega
        have hx3 : (x : Int) ≤ 3 := by omega
        clear hc hc' hx hy HP HQ
        have hlow : ¬ (x : Int) < 0 := by omega
        cases pb <;> cases lb
        all_goals
          go_wp2
          go_quiet (fail)
          go_wp2
          go_quiet (fail)
          go_wp2
          go_roundw
          case rel => exact ⟨j + 1, _, _, _, by omega, by go_num, rfl, rfl, by rw [Hid, HP'.out]; simp, by rw [Hid, HQ'.out]; simp, rfl⟩
          case measure => simp [intOf]; omega
      · have hj19 : j = 19 := by omega
        subst hj19
        have HE : Hid (pb = lb) := by rw [Hid, HP.out, HQ.out]; exact HG.out
        have he := HE.out
        subst he
        clear hc hc' HP HQ HG HE
        go_wp2
        go_ret
        exact ⟨by simp, B5.os, B5.tape, B5.output, B5.size, B5.block⟩
  · have HB := bigYes len0 cap0 a0 w hb
    clear w0 hT
    go_enter Tryd.func3, Tryd.ntmps3
    go_wp2_with fail
    refine HB.mono ?_
    rintro e w1 ⟨rfl, rfl⟩
    clear HB
    go_wp2
    go_ret
    exact ⟨rfl, Below.refl _ _⟩

set_option maxRecDepth 100000 in
theorem lifted (os : Os) (started : os.Started) (H : Type) (enc : TypeId × Value → H) :
    ReturnsInHanded {} Tryd.checked os 3 .any (fun w args => (Rows.fnDigitsSpec.pre enc Tryd.prog Tryd.f3 [] false w args ∧ laidMetH Tryd.prog Rows.fnDigitsRow.laid w) ∧ sizedMet enc Tryd.prog Tryd.f3 (OpenSpec.ofChange Rows.fnDigitsSpec) false w args)
      (Rows.fnDigitsSpec.post enc Tryd.prog Tryd.f3 false true false false) := by
  refine returnsInHanded_of_change_and (C := Tryd.checked) (X := fun w _ => laidMetH Tryd.prog Rows.fnDigitsRow.laid w) (fun _ _ _ hh h => h.of_heap hh) own started (by kernel_rfl) Tryd.func3
    (ChangeSpec.witness_shaped (enc := enc) (C := Tryd.checked) (os := os) (X := fun w _ => laidMetH Tryd.prog Rows.fnDigitsRow.laid w) false (World.doorLaid Tryd.prog 400 os) #[.slice none 0 0] 8 rfl (World.shaped_of_RefB (by kernel_rfl) (by kernel_rfl)) (by kernel_rfl) (by kernel_rfl) (by kernel_rfl) (door_met os _)) ?_
  intro W base args ds gs before hval0 hW _ _ hL _
  have hval : ∀ (j : Nat) t v, Tryd.f3.params[j]? = some t → args[j]? = some v → Value.okWide Tryd.prog W .any base t v := hval0
  have hW' := hW
  obtain ⟨p, q, hA0, hV0, rfl, hfz, hnd⟩ := hW
  have hA : DataW.TrodAll enc Tryd.prog W 0 (fun _ => true) true Tryd.f3.params.toList args.toList ds p := hA0
  have hV : DataW.TrodVars enc Tryd.prog W (fun _ => true) ["loop.example/g00226/impl.roundWords"] gs q := hV0
  rw [Tryd.params3] at hA hval
  obtain ⟨v0, vs0, d0, ds0, p0, q0, hargs, rfl, rfl, h0, r0⟩ := trodAll_cons hA
  obtain ⟨rfl, rfl, rfl⟩ := trodAll_nil r0
  obtain rfl : args = #[v0] := by cases args; simp_all
  obtain ⟨a0, len0, cap0, rfl⟩ := okWide_slice Tryd.underlying22 (hval 0 22 v0 rfl rfl)
  have k0 := h0
  have lt0 : ∀ x ∈ p0, x.block < W.heap.size := by obtain ⟨m, hm⟩ := k0; exact DataW.trod_lt m _ _ _ hm
  have w0 : Code W a0 len0 := by
    obtain ⟨fuel, hf⟩ := h0
    rcases open_ints Tryd.underlying22 Tryd.underlying5 (by kernel_rfl) hf with ⟨hcs, _⟩ | ⟨x, l, c, zs, hcs, _, hl, hm, hz, _, hcell, hwz⟩
    · simp [Value.cells] at hcs
      obtain ⟨rfl, rfl, rfl⟩ := hcs
      exact .inl rfl
    · simp [Value.cells] at hcs
      obtain ⟨rfl, rfl, rfl⟩ := hcs
      exact codeOf W x _ _ zs hl (by simpa using hz) hcell hwz
  obtain ⟨g, t, cs, fuel, d, p', rfl, hg, ht, hvar, hd, rfl⟩ := trodVars_one hV
  obtain rfl := Option.some.inj (gTab.symm.trans hg)
  obtain rfl := Option.some.inj (tTab.symm.trans ht)
  have hT := tab_of hL
  have hltv : ∀ x ∈ p', x.block < W.heap.size := fun x hx => hW'.lt x (List.mem_append_right _ (List.mem_append_right _ hx))
  clear hA0 hV0 hval0 hA hV
  refine (walk a0 len0 cap0 W w0 hT).mono fun e W' ⟨he, hB⟩ => ?_
  subst he
  obtain ⟨fuel', hd'⟩ := Below.trod laidOut0 (by kernel_rfl) (of_decide_eq_true (by kernel_rfl)) (v := .agg cs) (⟨fuel, by simpa [Value.cells] using hd⟩ : DataW.Trod enc Tryd.prog W 0 (fun _ => true) true 134 (.agg cs) d p') hB hltv
  have hv' := trodVars_mk1 (enc := enc) (spare := fun b => decide (b < W.heap.size)) hg ht (var?_below hB hg hT.1 hvar) (by simpa [Value.cells] using hd')
  exact ⟨_, rfl, _, _, _, [], _, _, hW', trodAll_mk1 (shut_bool Tryd.underlying4 _), (trodAll_cons_mk (Below.trod laidOut0 (by kernel_rfl) (of_decide_eq_true (by kernel_rfl)) k0 hB lt0) trodAll_mk0), hv', hB.frame _, fun h => by cases h⟩

theorem named0 : Tryd.prog.funcNamed "loop.example/g00226/laws.FnDigits" = some 3 := by kernel_rfl
theorem closed0 : joinedFacts Tryd.prog 3 Tryd.f3 Rows.fnDigitsSpec Rows.fnDigitsRow = true := by
  unfold joinedFacts
  rw [seat_may, seat_lifts, seat_make]
  kernel_rfl
theorem inst0 : Tryd.f3.isInstance Tryd.prog Rows.fnDigitsRow.origin Rows.fnDigitsRow.targs := of_decide_eq_true (by kernel_rfl)
theorem wrap0 : Tryd.f3.isWrapper Tryd.prog Rows.fnDigitsRow.wrapper Rows.fnDigitsRow.mainSum := by unfold Func.isWrapper; first | (rw [if_pos (by decide +kernel)]; kernel_rfl) | (rw [if_neg (by decide +kernel)]; exact ⟨rfl, rfl⟩)

theorem over : Rows.fnDigitsRow.holds Tryd.pinned (OpenSpec.ofChange Rows.fnDigitsSpec) :=
  OpenClaim.holds_of_wide 3 Tryd.f3 rfl rfl rfl rfl rfl rfl rfl ⟨rfl, rfl, rfl, rfl, rfl⟩ rfl rfl rfl rfl rfl named0 Tryd.func3 closed0 inst0 wrap0
    (fun os started H enc _ => lifted os started H enc)

theorem text0 : Rows.fnDigitsRow.wfByText (OpenSpec.ofChange Rows.fnDigitsSpec) = true := by kernel_rfl
theorem looks0 : false = Tryd.prog.looks [] := by kernel_rfl
theorem goes0 : false = Rows.fnDigitsRow.goesBy Tryd.prog := by kernel_rfl
theorem wants0 : ([22].all fun u => !Tryd.prog.wantsStandIn u) = true := by kernel_rfl

theorem card : Claim7.holds Tryd.pinned (.plain (OpenSpec.ofChange Rows.fnDigitsSpec)) Rows.fnDigitsCard :=
  Claim7.holds_tied_plain_at .later [] [.data] true (true, Rows.fnDigitsCard.stood.harness.2) false
    over (fun _ h => by cases h) text0 (fun _ h => by cases h) fnDigits_row_tie rfl ⟨rfl, rfl⟩ seat_main rfl
    (fun f fn hf hfn => by
      obtain rfl : f = 3 := Option.some.inj (named0.symm.trans hf) |>.symm
      obtain rfl : fn = Tryd.f3 := (Option.some.inj (Tryd.func3.symm.trans hfn)).symm
      exact ⟨looks0, fun j t ht => by
        rw [Tryd.params3] at ht
        have hm : t ∈ [22] := by simpa using Array.mem_of_getElem? ht
        exact (show Tryd.prog.wantsStandIn t = false by simpa using List.all_eq_true.1 wants0 t hm)⟩)
    goes0

end Go.Proofs.YtnhdkhngpnialaaDoor.fnDigits
namespace Go.Proofs.YtnhdkhngpnialaaDoor
theorem fnDigits_holds : Rows.FnDigitsCardSaid := fnDigits.card
end Go.Proofs.YtnhdkhngpnialaaDoor
