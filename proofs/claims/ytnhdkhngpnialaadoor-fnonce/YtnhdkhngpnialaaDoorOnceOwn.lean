/-
  At every code a signature that is used once leads to its key's public text, and OnceSign answers as its model: FnOnce answers true. No condition; the round words are laid as the program's text lays them.
-/
import Derived.Test.YtnhdkhngpnialaaDoorIOnce2
import Derived.Test.YtnhdkhngpnialaaDoorSSign2
import Derived.Test.YtnhdkhngpnialaaDoorDrawK
import Derived.Test.YtnhdkhngpnialaaDoorSame
import Derived.Test.YtnhdkhngpnialaaDoorSeatA
import Derived.Test.YtnhdkhngpnialaaDoorSeatB
import Derived.Test.YtnhdkhngpnialaaDoorTie
import Derived.Test.YtnhdkhngpnialaaDoorCards
import Derived.ProofKit
import Derived.LaidMore
import Derived.OpenShut
import Derived.ShutString
import Derived.ChangeOld
import Derived.Below
import Derived.Stop.Joined
import Derived.Lib.LaidTab
import Derived.SevenTiedAt
import Derived.SliceStrings
namespace Go.Proofs.YtnhdkhngpnialaaDoor.fnOnce
open Go.ChangeShapes Go.WideShapes Go.ChangeAt Go.RowKit
open Go.ChangeMaps (open_string shut_string)
set_option linter.unusedVariables false

theorem own : ownKnob Tryd.prog.godebug = none := by kernel_rfl
theorem laidOut0 : laidOutB Tryd.prog = true := by kernel_rfl
theorem gTab : Tryd.prog.globalNamed "loop.example/g00226/impl.roundWords" = some 0 := by kernel_rfl
theorem tTab : (Tryd.prog.globals[0]?).map (·.type) = some 134 := by kernel_rfl

/-- The door's own heap meets the condition. -/
theorem door_met (os : Os) (args : Array Value) : laidMetH Tryd.prog Rows.fnOnceRow.laid ((World.doorLaid Tryd.prog 400 os).forCall (fun _ _ => 0) ⟨#[], args, []⟩).memory :=
  laidMetH_of_parts3 (fuel := 8) (laidMet_of_run' 8 (by kernel_rfl) (by kernel_rfl)) (by kernel_rfl) (by kernel_rfl)

/-- What the condition gives the walks: the round words' cells. -/
theorem tab_of {W : World} (h : laidMetH Tryd.prog Rows.fnOnceRow.laid W) : Tab W := by
  rw [MakeChecks.laidMetH_plain _ _ _ (by kernel_rfl)] at h
  have hT : Lib.TabIs Tryd.prog W "loop.example/g00226/impl.roundWords" .u32 (kL.map fun x => num x) := Lib.tabIs_of_head (rest := []) gTab tTab Tryd.underlying134 Tryd.underlying104 (by kernel_rfl) (by kernel_rfl) h
  have hc : ∀ i, i < 64 → W.cell? ⟨0, i, none⟩ = some (.int .u32 (num (kL.getD i 0))) := fun i hi => by
    have hl : i < kL.length := hi
    have := hT.cell gTab i (by rw [List.length_map]; exact hl)
    rw [this]
    simp [List.getD, hl]
  exact ⟨block_lt_of_cell (hc 0 (by omega)), hc⟩

set_option maxRecDepth 100000 in
set_option maxHeartbeats 4000000 in
theorem walk (a0 : Option Addr) (len0 cap0 : Nat) (w : World) (w0 : Code w a0 len0) (hT : Tab w) :
    Calls Tryd.prog 5 #[.slice a0 len0 cap0] w fun e w' => e = .returned (.bool true) ∧ Below w.heap.size w w' := by
  by_cases hb : len0 ≤ 1048576
  · have HB := bigNo len0 cap0 a0 w hb
    have HC : Hid (Code w a0 len0) := w0
    have HT : Hid (Tab w) := hT
    clear w0 hT
    go_enter Tryd.func5, Tryd.ntmps5
    go_wp2_with fail
    refine HB.mono ?_
    rintro e w ⟨rfl, rfl⟩
    clear HB
    have HD := drawOnceSign len0 cap0 a0 w hb HC.out
    go_wp2_with fail
    refine HD.mono ?_
    rintro e w1 ⟨s, msg, hsl, hml, rfl, b1⟩
    clear HD HC
    by_cases hok : s.length = 32
    · have H1 := fun W hW => impl_sign s msg W hok (by omega) hW
      have H2 := fun W => spec_sign s msg W hok (by omega)
      have H3 := fun W hW => impl_public s W hok hW
      have hgl : (sigL s msg 19).length = 19 := sigL_length s msg 19
      have h32 := sigL_32 s msg hok 19
      have H4 := fun a cap W h1 h2 => impl_publicOf msg a cap (sigL s msg 19) W (by omega) hgl h32 h1 h2
      rw [once_back] at H4
      have hpl := publicL_len s hok
      obtain ⟨p, hp⟩ : ∃ p, p = publicL s := ⟨_, rfl⟩
      rw [← hp] at H3 H4 hpl
      obtain ⟨sg, hsg⟩ : ∃ sg, sg = sigL s msg 19 := ⟨_, rfl⟩
      rw [← hsg] at H1 H2 H4 hgl
      rw [hgl] at H4
      clear hp hsg h32
      go_wp2_with fail
      refine (H1 _ (HT.out.later b1)).mono ?_
      rintro e w2 ⟨g2, c2, rfl, o2, b2⟩
      have B2 := b1.trans (b2.mono b1.size)
      have O2 := hidOwn o2
      clear b2 b1 H1 o2
      go_wp2_with fail
      refine (H2 _).mono ?_
      rintro e w3 ⟨g3, c3, rfl, o3, b3⟩
      have B3 := B2.trans (b3.mono B2.size)
      have O3 := hidOwn o3
      have P3 := hidOwn (keptO O2.out b3)
      clear b3 B2 H2 o3 O2
      go_wp2_with fail
      refine (H3 _ (HT.out.later B3)).mono ?_
      rintro e w4 ⟨rfl, b4⟩
      have B4 := B3.trans (b4.mono B3.size)
      have O4 := hidOwn (keptO O3.out b4)
      have P4 := hidOwn (keptO P3.out b4)
      clear b4 B3 H3 O3 P3
      have KS := sameT_same sg (.slice (some ⟨g2, 0, none⟩) 19 c2) (.slice (some ⟨g3, 0, none⟩) 19 c3) _ _ w4 (by omega) (by rw [hgl]; exact P4.out) (by rw [hgl]; exact O4.out)
      go_wp2_with fail
      refine KS.mono ?_
      rintro e w5 ⟨rfl, q, rfl⟩
      have B5 : Below w.heap.size w (w4.drewN q) := ⟨B4.os, B4.tape, B4.output, B4.size, B4.block⟩
      have I5 : Hid (IsStrs (w4.drewN q) (some ⟨g2, 0, none⟩) sg) := (isStrs_own (w := w4.drewN q) (show (w4.drewN q).ownsRow w1.heap.size 9 1 (.slice (some ⟨g2, 0, none⟩) 19 c2) 19 (scells sg) from P4.out)).2.2
      clear KS B4 O4 P4
      go_wp2_with fail
      refine (H4 (some ⟨g2, 0, none⟩) c2 _ I5.out (HT.out.later B5)).mono ?_
      rintro e w6 ⟨rfl, b6⟩
      have B6 := B5.trans (b6.mono B5.size)
      have hpl' : (p.length : Int) = 32 := by omega
      clear b6 B5 H4 I5
      go_wp2
      go_ret
      exact ⟨rfl, B6⟩
    · have H1 := impl_sign_no s msg w1 (by omega) hok
      have H2 := spec_sign_no s msg w1 (by omega) hok
      have H3 := impl_public_no s w1 (by omega) hok
      have KS := fun W : World => sameT_same [] (.slice none 0 0) (.slice none 0 0) 0 0 W (by simp) (own_nil _ _ _) (own_nil _ _ _)
      clear hok
      go_wp2_with fail
      refine H1.mono ?_
      rintro e w2 ⟨rfl, rfl⟩
      go_wp2_with fail
      refine H2.mono ?_
      rintro e w3 ⟨rfl, rfl⟩
      go_wp2_with fail
      refine H3.mono ?_
      rintro e w4 ⟨rfl, rfl⟩
      go_wp2_with fail
      refine (KS _).mono ?_
      rintro e w5 ⟨rfl, q, rfl⟩
      go_wp2_with fail
      refine (KS _).mono ?_
      rintro e w6 ⟨rfl, q6, rfl⟩
      go_wp2
      go_ret
      exact ⟨rfl, b1.os, b1.tape, b1.output, b1.size, b1.block⟩
  · have HB := bigYes len0 cap0 a0 w hb
    clear w0 hT
    go_enter Tryd.func5, Tryd.ntmps5
    go_wp2_with fail
    refine HB.mono ?_
    rintro e w1 ⟨rfl, rfl⟩
    clear HB
    go_wp2
    go_ret
    exact ⟨rfl, Below.refl _ _⟩

set_option maxRecDepth 100000 in
theorem lifted (os : Os) (started : os.Started) (H : Type) (enc : TypeId × Value → H) :
    ReturnsInHanded {} Tryd.checked os 5 .any (fun w args => (Rows.fnOnceSpec.pre enc Tryd.prog Tryd.f5 [] false w args ∧ laidMetH Tryd.prog Rows.fnOnceRow.laid w) ∧ sizedMet enc Tryd.prog Tryd.f5 (OpenSpec.ofChange Rows.fnOnceSpec) false w args)
      (Rows.fnOnceSpec.post enc Tryd.prog Tryd.f5 false true false false) := by
  refine returnsInHanded_of_change_and (C := Tryd.checked) (X := fun w _ => laidMetH Tryd.prog Rows.fnOnceRow.laid w) (fun _ _ _ hh h => h.of_heap hh) own started (by kernel_rfl) Tryd.func5
    (ChangeSpec.witness_shaped (enc := enc) (C := Tryd.checked) (os := os) (X := fun w _ => laidMetH Tryd.prog Rows.fnOnceRow.laid w) false (World.doorLaid Tryd.prog 400 os) #[.slice none 0 0] 8 rfl (World.shaped_of_RefB (by kernel_rfl) (by kernel_rfl)) (by kernel_rfl) (by kernel_rfl) (by kernel_rfl) (door_met os _)) ?_
  intro W base args ds gs before hval0 hW _ _ hL _
  have hval : ∀ (j : Nat) t v, Tryd.f5.params[j]? = some t → args[j]? = some v → Value.okWide Tryd.prog W .any base t v := hval0
  have hW' := hW
  obtain ⟨p, q, hA0, hV0, rfl, hfz, hnd⟩ := hW
  have hA : DataW.TrodAll enc Tryd.prog W 0 (fun _ => true) true Tryd.f5.params.toList args.toList ds p := hA0
  have hV : DataW.TrodVars enc Tryd.prog W (fun _ => true) ["loop.example/g00226/impl.roundWords"] gs q := hV0
  rw [Tryd.params5] at hA hval
  obtain ⟨v0, vs0, d0, ds0, p0, q0, hargs, rfl, rfl, h0, r0⟩ := trodAll_cons hA
  obtain ⟨rfl, rfl, rfl⟩ := trodAll_nil r0
  obtain rfl : args = #[v0] := by cases args; simp_all
  obtain ⟨a0, len0, cap0, rfl⟩ := okWide_slice Tryd.underlying22 (hval 0 22 v0 rfl rfl)
  have k0 := h0
  have lt0 : ∀ x ∈ p0, x.block < W.heap.size := by obtain ⟨m, hm⟩ := k0; exact DataW.trod_lt m _ _ _ hm
  have w0 : Code W a0 len0 := by
    obtain ⟨fuel, hf⟩ := h0
    rcases open_ints Tryd.underlying22 Tryd.underlying5 (by kernel_rfl) hf with ⟨hcs, _⟩ | ⟨x, l, c, zs, hcs, _, hl, hm, hz, _, hcell, hwz⟩
    · simp [Value.cells] at hcs
      obtain ⟨rfl, rfl, rfl⟩ := hcs
      exact .inl rfl
    · simp [Value.cells] at hcs
      obtain ⟨rfl, rfl, rfl⟩ := hcs
      exact codeOf W x _ _ zs hl (by simpa using hz) hcell hwz
  obtain ⟨g, t, cs, fuel, d, p', rfl, hg, ht, hvar, hd, rfl⟩ := trodVars_one hV
  obtain rfl := Option.some.inj (gTab.symm.trans hg)
  obtain rfl := Option.some.inj (tTab.symm.trans ht)
  have hT := tab_of hL
  have hltv : ∀ x ∈ p', x.block < W.heap.size := fun x hx => hW'.lt x (List.mem_append_right _ (List.mem_append_right _ hx))
  clear hA0 hV0 hval0 hA hV
  refine (walk a0 len0 cap0 W w0 hT).mono fun e W' ⟨he, hB⟩ => ?_
  subst he
  obtain ⟨fuel', hd'⟩ := Below.trod laidOut0 (by kernel_rfl) (of_decide_eq_true (by kernel_rfl)) (v := .agg cs) (⟨fuel, by simpa [Value.cells] using hd⟩ : DataW.Trod enc Tryd.prog W 0 (fun _ => true) true 134 (.agg cs) d p') hB hltv
  have hv' := trodVars_mk1 (enc := enc) (spare := fun b => decide (b < W.heap.size)) hg ht (var?_below hB hg hT.1 hvar) (by simpa [Value.cells] using hd')
  exact ⟨_, rfl, _, _, _, [], _, _, hW', trodAll_mk1 (shut_bool Tryd.underlying4 _), (trodAll_cons_mk (Below.trod laidOut0 (by kernel_rfl) (of_decide_eq_true (by kernel_rfl)) k0 hB lt0) trodAll_mk0), hv', hB.frame _, fun h => by cases h⟩

theorem named0 : Tryd.prog.funcNamed "loop.example/g00226/laws.FnOnce" = some 5 := by kernel_rfl
theorem closed0 : joinedFacts Tryd.prog 5 Tryd.f5 Rows.fnOnceSpec Rows.fnOnceRow = true := by
  unfold joinedFacts
  rw [seat_may, seat_lifts, seat_make]
  kernel_rfl
theorem inst0 : Tryd.f5.isInstance Tryd.prog Rows.fnOnceRow.origin Rows.fnOnceRow.targs := of_decide_eq_true (by kernel_rfl)
theorem wrap0 : Tryd.f5.isWrapper Tryd.prog Rows.fnOnceRow.wrapper Rows.fnOnceRow.mainSum := by unfold Func.isWrapper; first | (rw [if_pos (by decide +kernel)]; kernel_rfl) | (rw [if_neg (by decide +kernel)]; exact ⟨rfl, rfl⟩)

theorem over : Rows.fnOnceRow.holds Tryd.pinned (OpenSpec.ofChange Rows.fnOnceSpec) :=
  OpenClaim.holds_of_wide 5 Tryd.f5 rfl rfl rfl rfl rfl rfl rfl ⟨rfl, rfl, rfl, rfl, rfl⟩ rfl rfl rfl rfl rfl named0 Tryd.func5 closed0 inst0 wrap0
    (fun os started H enc _ => lifted os started H enc)

theorem text0 : Rows.fnOnceRow.wfByText (OpenSpec.ofChange Rows.fnOnceSpec) = true := by kernel_rfl
theorem looks0 : false = Tryd.prog.looks [] := by kernel_rfl
theorem goes0 : false = Rows.fnOnceRow.goesBy Tryd.prog := by kernel_rfl
theorem wants0 : ([22].all fun u => !Tryd.prog.wantsStandIn u) = true := by kernel_rfl

theorem card : Claim7.holds Tryd.pinned (.plain (OpenSpec.ofChange Rows.fnOnceSpec)) Rows.fnOnceCard :=
  Claim7.holds_tied_plain_at .later [] [.data] true (true, Rows.fnOnceCard.stood.harness.2) false
    over (fun _ h => by cases h) text0 (fun _ h => by cases h) fnOnce_row_tie rfl ⟨rfl, rfl⟩ seat_main rfl
    (fun f fn hf hfn => by
      obtain rfl : f = 5 := Option.some.inj (named0.symm.trans hf) |>.symm
      obtain rfl : fn = Tryd.f5 := (Option.some.inj (Tryd.func5.symm.trans hfn)).symm
      exact ⟨looks0, fun j t ht => by
        rw [Tryd.params5] at ht
        have hm : t ∈ [22] := by simpa using Array.mem_of_getElem? ht
        exact (show Tryd.prog.wantsStandIn t = false by simpa using List.all_eq_true.1 wants0 t hm)⟩)
    goes0

end Go.Proofs.YtnhdkhngpnialaaDoor.fnOnce
namespace Go.Proofs.YtnhdkhngpnialaaDoor
theorem fnOnce_holds : Rows.FnOnceCardSaid := fnOnce.card
end Go.Proofs.YtnhdkhngpnialaaDoor
