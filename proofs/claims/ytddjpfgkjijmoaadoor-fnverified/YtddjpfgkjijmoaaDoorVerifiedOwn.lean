/-
  At every code a signature is verified by just the root that it leads to, and Verify answers as its model: FnVerified answers true. No condition; the round words are laid as the program's text lays them.
-/
import Derived.Test.YtddjpfgkjijmoaaDoorDrawW
import Derived.Test.YtddjpfgkjijmoaaDoorSeatA
import Derived.Test.YtddjpfgkjijmoaaDoorSeatB
import Derived.Test.YtddjpfgkjijmoaaDoorTie
import Derived.Test.YtddjpfgkjijmoaaDoorCards
import Derived.ProofKit
import Derived.LaidMore
import Derived.OpenShut
import Derived.ShutString
import Derived.ChangeOld
import Derived.Below
import Derived.Stop.Joined
import Derived.Lib.LaidTab
import Derived.SevenTiedAt
import Derived.SliceStrings
namespace Go.Proofs.YtddjpfgkjijmoaaDoor.fnVerified
open Go.ChangeShapes Go.WideShapes Go.ChangeAt Go.RowKit
open Go.ChangeMaps (open_string shut_string)
set_option linter.unusedVariables false

theorem own : ownKnob Tryd.prog.godebug = none := by kernel_rfl
theorem laidOut0 : laidOutB Tryd.prog = true := by kernel_rfl
theorem gTab : Tryd.prog.globalNamed "loop.example/g00226/impl.roundWords" = some 0 := by kernel_rfl
theorem tTab : (Tryd.prog.globals[0]?).map (·.type) = some 116 := by kernel_rfl

/-- The door's own heap meets the condition. -/
theorem door_met (os : Os) (args : Array Value) : laidMetH Tryd.prog Rows.fnVerifiedRow.laid ((World.doorLaid Tryd.prog 400 os).forCall (fun _ _ => 0) ⟨#[], args, []⟩).memory :=
  laidMetH_of_parts3 (fuel := 8) (laidMet_of_run' 8 (by kernel_rfl) (by kernel_rfl)) (by kernel_rfl) (by kernel_rfl)

/-- What the condition gives the walks: the round words' cells. -/
theorem tab_of {W : World} (h : laidMetH Tryd.prog Rows.fnVerifiedRow.laid W) : Tab W := by
  rw [MakeChecks.laidMetH_plain _ _ _ (by kernel_rfl)] at h
  have hT : Lib.TabIs Tryd.prog W "loop.example/g00226/impl.roundWords" .u32 (kL.map fun x => num x) := Lib.tabIs_of_head (rest := []) gTab tTab Tryd.underlying116 Tryd.underlying89 (by kernel_rfl) (by kernel_rfl) h
  have hc : ∀ i, i < 64 → W.cell? ⟨0, i, none⟩ = some (.int .u32 (num (kL.getD i 0))) := fun i hi => by
    have hl : i < kL.length := hi
    have := hT.cell gTab i (by rw [List.length_map]; exact hl)
    rw [this]
    simp [List.getD, hl]
  exact ⟨block_lt_of_cell (hc 0 (by omega)), hc⟩

set_option maxRecDepth 100000 in
set_option maxHeartbeats 4000000 in
theorem walk (a0 : Option Addr) (len0 cap0 : Nat) (w : World) (w0 : Code w a0 len0) (hT : Tab w) :
    Calls Tryd.prog 5 #[.slice a0 len0 cap0] w fun e w' => e = .returned (.bool true) ∧ Below w.heap.size w w' := by
  by_cases hb : len0 ≤ 1048576
  · have HB := bigNo len0 cap0 a0 w hb
    have HC : Hid (Code w a0 len0) := w0
    have HT : Hid (Tab w) := hT
    clear w0 hT
    go_enter Tryd.func5, Tryd.ntmps5
    go_wp2_with fail
    refine HB.mono ?_
    rintro e w ⟨rfl, rfl⟩
    clear HB
    have HD := drawVerify len0 cap0 a0 w hb HC.out
    go_wp2_with fail
    refine HD.mono ?_
    rintro e w1 ⟨root, msg, i, a1, c1, a2, c2, os, ps, rfl, hml, lo, lp, hso, hsp, i1, i2, b1⟩
    obtain ⟨r, ok, hr⟩ := rootIs_some msg i os ps
    have hrS : RootIsS msg i os ps r ok := hr
    have ba : Below w1.heap.size w1 (w1.alloc (.cells #[.int .i64 i, .slice a1 os.length c1, .slice a2 ps.length c2] 30)) := (Below.refl _ _).alloc (Nat.le_refl _) _
    have BA := b1.trans (ba.mono b1.size)
    have ya := heap_alloc_new w1 (.cells #[.int .i64 i, .slice a1 os.length c1, .slice a2 ps.length c2] 30)
    have H1 := impl_verify root msg i a1 a2 c1 c2 os ps (w1.alloc (.cells #[.int .i64 i, .slice a1 os.length c1, .slice a2 ps.length c2] 30)) (by omega) (by omega) (fun l hl => by have := hso l hl; omega) (by omega) (fun l hl => by have := hsp l hl; omega) (i1.later ba) (i2.later ba) (HT.out.later BA) r ok hr
    have H2 : Hid (∀ W, Below (w1.alloc (.cells #[.int .i64 i, .slice a1 os.length c1, .slice a2 ps.length c2] 30)).heap.size (w1.alloc (.cells #[.int .i64 i, .slice a1 os.length c1, .slice a2 ps.length c2] 30)) W → Calls Tryd.prog 19 #[.string ⟨msg.toArray⟩, .agg #[.int .i64 i, .slice a1 os.length c1, .slice a2 ps.length c2]] W fun e w' => e = .returned (.tuple #[.string ⟨r.toArray⟩, .bool ok]) ∧ Below W.heap.size W w') := fun W hW => impl_root_any msg i a1 a2 c1 c2 os ps W (by omega) (by omega) (fun l hl => by have := hso l hl; omega) (by omega) (fun l hl => by have := hsp l hl; omega) ((i1.later ba).later hW) ((i2.later ba).later hW) (HT.out.later (BA.trans (hW.mono BA.size))) r ok hr
    have H3 : Hid (∀ W, Below (w1.alloc (.cells #[.int .i64 i, .slice a1 os.length c1, .slice a2 ps.length c2] 30)).heap.size (w1.alloc (.cells #[.int .i64 i, .slice a1 os.length c1, .slice a2 ps.length c2] 30)) W → Calls Tryd.prog 20 #[.string ⟨root.toArray⟩, .string ⟨msg.toArray⟩, .agg #[.int .i64 i, .slice a1 os.length c1, .slice a2 ps.length c2]] W fun e w' => e = .returned (.bool (ok && decide (r = root))) ∧ Below W.heap.size W w') := fun W hW => spec_verify root msg i a1 a2 c1 c2 os ps W (by omega) (by omega) (fun l hl => by have := hso l hl; omega) (by omega) (fun l hl => by have := hsp l hl; omega) ((i1.later ba).later hW) ((i2.later ba).later hW) r ok hrS
    obtain ⟨t, ht⟩ : ∃ t, t = (ok && decide (r = root)) := ⟨_, rfl⟩
    have HT2 : Hid (t = (ok && decide (r = root))) := ht
    rw [← ht] at H1 H3
    clear HD HC hr hrS i1 i2 hso hsp ba b1 ht
    go_wp2_with fail
    refine H1.mono ?_
    rintro e w2 ⟨rfl, b2⟩
    have B2 := BA.trans (b2.mono BA.size)
    obtain ⟨f0, f1, f2, _⟩ := trio_cells ((b2.block w1.heap.size (by simp)).trans ya)
    clear H1
    go_wp2_with fail
    refine (H2.out w2 b2).mono ?_
    rintro e w3 ⟨rfl, b3⟩
    have B3 := B2.trans (b3.mono B2.size)
    have D3 := b2.trans (b3.mono b2.size)
    obtain ⟨g0, g1, g2, _⟩ := trio_cells ((D3.block w1.heap.size (by simp)).trans ya)
    clear H2 f0 f1 f2
    go_wp2_with fail
    refine (H3.out w3 D3).mono ?_
    rintro e w4 ⟨rfl, b4⟩
    have B4 := B3.trans (b4.mono B3.size)
    have ht := HT2.out
    clear H3 g0 g1 g2 b2 b3 b4 D3 HT2
    cases ok
    · simp at ht
      subst ht
      go_wp2
      go_ret
      exact ⟨rfl, B4⟩
    · by_cases hrr : r = root
      · subst hrr
        simp at ht
        subst ht
        go_wp2
        go_ret
        exact ⟨rfl, B4⟩
      · simp [hrr] at ht
        subst ht
        have hbf : (r == root) = false := by simp [hrr]
        go_wp2
        go_ret
        exact ⟨by first | rfl | (show Ending.returned (.bool !(r == root)) = _; rw [hbf]; rfl), B4⟩
  · have HB := bigYes len0 cap0 a0 w hb
    clear w0 hT
    go_enter Tryd.func5, Tryd.ntmps5
    go_wp2_with fail
    refine HB.mono ?_
    rintro e w1 ⟨rfl, rfl⟩
    clear HB
    go_wp2
    go_ret
    exact ⟨rfl, Below.refl _ _⟩

set_option maxRecDepth 100000 in
theorem lifted (os : Os) (started : os.Started) (H : Type) (enc : TypeId × Value → H) :
    ReturnsInHanded {} Tryd.checked os 5 .any (fun w args => (Rows.fnVerifiedSpec.pre enc Tryd.prog Tryd.f5 [] false w args ∧ laidMetH Tryd.prog Rows.fnVerifiedRow.laid w) ∧ sizedMet enc Tryd.prog Tryd.f5 (OpenSpec.ofChange Rows.fnVerifiedSpec) false w args)
      (Rows.fnVerifiedSpec.post enc Tryd.prog Tryd.f5 false true false false) := by
  refine returnsInHanded_of_change_and (C := Tryd.checked) (X := fun w _ => laidMetH Tryd.prog Rows.fnVerifiedRow.laid w) (fun _ _ _ hh h => h.of_heap hh) own started (by kernel_rfl) Tryd.func5
    (ChangeSpec.witness_shaped (enc := enc) (C := Tryd.checked) (os := os) (X := fun w _ => laidMetH Tryd.prog Rows.fnVerifiedRow.laid w) false (World.doorLaid Tryd.prog 400 os) #[.slice none 0 0] 8 rfl (World.shaped_of_RefB (by kernel_rfl) (by kernel_rfl)) (by kernel_rfl) (by kernel_rfl) (by kernel_rfl) (door_met os _)) ?_
  intro W base args ds gs before hval0 hW _ _ hL _
  have hval : ∀ (j : Nat) t v, Tryd.f5.params[j]? = some t → args[j]? = some v → Value.okWide Tryd.prog W .any base t v := hval0
  have hW' := hW
  obtain ⟨p, q, hA0, hV0, rfl, hfz, hnd⟩ := hW
  have hA : DataW.TrodAll enc Tryd.prog W 0 (fun _ => true) true Tryd.f5.params.toList args.toList ds p := hA0
  have hV : DataW.TrodVars enc Tryd.prog W (fun _ => true) ["loop.example/g00226/impl.roundWords"] gs q := hV0
  rw [Tryd.params5] at hA hval
  obtain ⟨v0, vs0, d0, ds0, p0, q0, hargs, rfl, rfl, h0, r0⟩ := trodAll_cons hA
  obtain ⟨rfl, rfl, rfl⟩ := trodAll_nil r0
  obtain rfl : args = #[v0] := by cases args; simp_all
  obtain ⟨a0, len0, cap0, rfl⟩ := okWide_slice Tryd.underlying22 (hval 0 22 v0 rfl rfl)
  have k0 := h0
  have lt0 : ∀ x ∈ p0, x.block < W.heap.size := by obtain ⟨m, hm⟩ := k0; exact DataW.trod_lt m _ _ _ hm
  have w0 : Code W a0 len0 := by
    obtain ⟨fuel, hf⟩ := h0
    rcases open_ints Tryd.underlying22 Tryd.underlying5 (by kernel_rfl) hf with ⟨hcs, _⟩ | ⟨x, l, c, zs, hcs, _, hl, hm, hz, _, hcell, hwz⟩
    · simp [Value.cells] at hcs
      obtain ⟨rfl, rfl, rfl⟩ := hcs
      exact .inl rfl
    · simp [Value.cells] at hcs
      obtain ⟨rfl, rfl, rfl⟩ := hcs
      exact codeOf W x _ _ zs hl (by simpa using hz) hcell hwz
  obtain ⟨g, t, cs, fuel, d, p', rfl, hg, ht, hvar, hd, rfl⟩ := trodVars_one hV
  obtain rfl := Option.some.inj (gTab.symm.trans hg)
  obtain rfl := Option.some.inj (tTab.symm.trans ht)
  have hT := tab_of hL
  have hltv : ∀ x ∈ p', x.block < W.heap.size := fun x hx => hW'.lt x (List.mem_append_right _ (List.mem_append_right _ hx))
  clear hA0 hV0 hval0 hA hV
  refine (walk a0 len0 cap0 W w0 hT).mono fun e W' ⟨he, hB⟩ => ?_
  subst he
  obtain ⟨fuel', hd'⟩ := Below.trod laidOut0 (by kernel_rfl) (of_decide_eq_true (by kernel_rfl)) (v := .agg cs) (⟨fuel, by simpa [Value.cells] using hd⟩ : DataW.Trod enc Tryd.prog W 0 (fun _ => true) true 116 (.agg cs) d p') hB hltv
  have hv' := trodVars_mk1 (enc := enc) (spare := fun b => decide (b < W.heap.size)) hg ht (var?_below hB hg hT.1 hvar) (by simpa [Value.cells] using hd')
  exact ⟨_, rfl, _, _, _, [], _, _, hW', trodAll_mk1 (shut_bool Tryd.underlying4 _), (trodAll_cons_mk (Below.trod laidOut0 (by kernel_rfl) (of_decide_eq_true (by kernel_rfl)) k0 hB lt0) trodAll_mk0), hv', hB.frame _, fun h => by cases h⟩

theorem named0 : Tryd.prog.funcNamed "loop.example/g00226/laws.FnVerified" = some 5 := by kernel_rfl
theorem closed0 : joinedFacts Tryd.prog 5 Tryd.f5 Rows.fnVerifiedSpec Rows.fnVerifiedRow = true := by
  unfold joinedFacts
  rw [seat_may, seat_lifts, seat_make]
  kernel_rfl
theorem inst0 : Tryd.f5.isInstance Tryd.prog Rows.fnVerifiedRow.origin Rows.fnVerifiedRow.targs := of_decide_eq_true (by kernel_rfl)
theorem wrap0 : Tryd.f5.isWrapper Tryd.prog Rows.fnVerifiedRow.wrapper Rows.fnVerifiedRow.mainSum := by unfold Func.isWrapper; first | (rw [if_pos (by decide +kernel)]; kernel_rfl) | (rw [if_neg (by decide +kernel)]; exact ⟨rfl, rfl⟩)

theorem over : Rows.fnVerifiedRow.holds Tryd.pinned (OpenSpec.ofChange Rows.fnVerifiedSpec) :=
  OpenClaim.holds_of_wide 5 Tryd.f5 rfl rfl rfl rfl rfl rfl rfl ⟨rfl, rfl, rfl, rfl, rfl⟩ rfl rfl rfl rfl rfl named0 Tryd.func5 closed0 inst0 wrap0
    (fun os started H enc _ => lifted os started H enc)

theorem text0 : Rows.fnVerifiedRow.wfByText (OpenSpec.ofChange Rows.fnVerifiedSpec) = true := by kernel_rfl
theorem looks0 : false = Tryd.prog.looks [] := by kernel_rfl
theorem goes0 : false = Rows.fnVerifiedRow.goesBy Tryd.prog := by kernel_rfl
theorem wants0 : ([22].all fun u => !Tryd.prog.wantsStandIn u) = true := by kernel_rfl

theorem card : Claim7.holds Tryd.pinned (.plain (OpenSpec.ofChange Rows.fnVerifiedSpec)) Rows.fnVerifiedCard :=
  Claim7.holds_tied_plain_at .later [] [.data] true (true, Rows.fnVerifiedCard.stood.harness.2) false
    over (fun _ h => by cases h) text0 (fun _ h => by cases h) fnVerified_row_tie rfl ⟨rfl, rfl⟩ seat_main rfl
    (fun f fn hf hfn => by
      obtain rfl : f = 5 := Option.some.inj (named0.symm.trans hf) |>.symm
      obtain rfl : fn = Tryd.f5 := (Option.some.inj (Tryd.func5.symm.trans hfn)).symm
      exact ⟨looks0, fun j t ht => by
        rw [Tryd.params5] at ht
        have hm : t ∈ [22] := by simpa using Array.mem_of_getElem? ht
        exact (show Tryd.prog.wantsStandIn t = false by simpa using List.all_eq_true.1 wants0 t hm)⟩)
    goes0

end Go.Proofs.YtddjpfgkjijmoaaDoor.fnVerified
namespace Go.Proofs.YtddjpfgkjijmoaaDoor
theorem fnVerified_holds : Rows.FnVerifiedCardSaid := fnVerified.card
end Go.Proofs.YtddjpfgkjijmoaaDoor
