/-
  At every code the seed of a signature's key is the model's, what it signs is the signature's own list, there is none behind the last, and the path has its length: FnLeaves answers true. No condition; the round words are laid as the program's text lays them.
-/
import Derived.Test.YtddjpfgkjijmoaaDoorSgnM
import Derived.Test.YtddjpfgkjijmoaaDoorSame
import Derived.Test.YtddjpfgkjijmoaaDoorSeatA
import Derived.Test.YtddjpfgkjijmoaaDoorSeatB
import Derived.Test.YtddjpfgkjijmoaaDoorTie
import Derived.Test.YtddjpfgkjijmoaaDoorCards
import Derived.ProofKit
import Derived.LaidMore
import Derived.OpenShut
import Derived.ShutString
import Derived.ChangeOld
import Derived.Below
import Derived.Stop.Joined
import Derived.Lib.LaidTab
import Derived.SevenTiedAt
import Derived.SliceStrings
namespace Go.Proofs.YtddjpfgkjijmoaaDoor.fnLeaves
open Go.ChangeShapes Go.WideShapes Go.ChangeAt Go.RowKit
open Go.ChangeMaps (open_string shut_string)
set_option linter.unusedVariables false

theorem own : ownKnob Tryd.prog.godebug = none := by kernel_rfl
theorem laidOut0 : laidOutB Tryd.prog = true := by kernel_rfl
theorem gTab : Tryd.prog.globalNamed "loop.example/g00226/impl.roundWords" = some 0 := by kernel_rfl
theorem tTab : (Tryd.prog.globals[0]?).map (·.type) = some 116 := by kernel_rfl

/-- The door's own heap meets the condition. -/
theorem door_met (os : Os) (args : Array Value) : laidMetH Tryd.prog Rows.fnLeavesRow.laid ((World.doorLaid Tryd.prog 400 os).forCall (fun _ _ => 0) ⟨#[], args, []⟩).memory :=
  laidMetH_of_parts3 (fuel := 8) (laidMet_of_run' 8 (by kernel_rfl) (by kernel_rfl)) (by kernel_rfl) (by kernel_rfl)

/-- What the condition gives the walks: the round words' cells. -/
theorem tab_of {W : World} (h : laidMetH Tryd.prog Rows.fnLeavesRow.laid W) : Tab W := by
  rw [MakeChecks.laidMetH_plain _ _ _ (by kernel_rfl)] at h
  have hT : Lib.TabIs Tryd.prog W "loop.example/g00226/impl.roundWords" .u32 (kL.map fun x => num x) := Lib.tabIs_of_head (rest := []) gTab tTab Tryd.underlying116 Tryd.underlying89 (by kernel_rfl) (by kernel_rfl) h
  have hc : ∀ i, i < 64 → W.cell? ⟨0, i, none⟩ = some (.int .u32 (num (kL.getD i 0))) := fun i hi => by
    have hl : i < kL.length := hi
    have := hT.cell gTab i (by rw [List.length_map]; exact hl)
    rw [this]
    simp [List.getD, hl]
  exact ⟨block_lt_of_cell (hc 0 (by omega)), hc⟩

set_option maxRecDepth 100000 in
set_option maxHeartbeats 4000000 in
theorem walk (a0 : Option Addr) (len0 cap0 : Nat) (w : World) (w0 : Code w a0 len0) (hT : Tab w) :
    Calls Tryd.prog 4 #[.slice a0 len0 cap0] w fun e w' => e = .returned (.bool true) ∧ Below w.heap.size w w' := by
  by_cases hb : len0 ≤ 1048576
  · have HB := bigNo len0 cap0 a0 w hb
    have HC : Hid (Code w a0 len0) := w0
    have HT : Hid (Tab w) := hT
    clear w0 hT
    go_enter Tryd.func4, Tryd.ntmps4
    go_wp2_with fail
    refine HB.mono ?_
    rintro e w ⟨rfl, rfl⟩
    clear HB
    have HD := drawSignNext len0 cap0 a0 w hb HC.out
    go_wp2_with fail
    refine HD.mono ?_
    rintro e w1 ⟨s, u, msg, hsl, hml, rfl, b1⟩
    clear HD HC
    obtain ⟨wa, hwa⟩ : ∃ wa, wa = w1.alloc (.cells #[.string ⟨s.toArray⟩, .int .i64 u] 25) := ⟨_, rfl⟩
    have ba : Below w1.heap.size w1 wa := by rw [hwa]; exact (Below.refl _ _).alloc (Nat.le_refl _) _
    have sa : wa.heap.size = w1.heap.size + 1 := by rw [hwa]; simp
    have BA := b1.trans (ba.mono b1.size)
    have za : wa.heap[w1.heap.size]? = some (.cells #[.string ⟨s.toArray⟩, .int .i64 u] 25 (0, 0)) := by rw [hwa]; exact heap_alloc_new w1 _
    have n1 := b1.size
    by_cases hok : s.length = 32 ∧ 0 ≤ u ∧ u ≤ 3
    · obtain ⟨hs, hu0, hu3⟩ := hok
      obtain ⟨i, rfl⟩ := Int.eq_ofNat_of_zero_le hu0
      have hi : i < 4 := by omega
      have K1 := impl_next2 s msg i wa hs hi (by omega) (HT.out.later BA)
      rw [hwa] at K1
      go_wp2_with fail
      refine K1.mono ?_
      rintro e w2 ⟨pg, pc, pk, pd, rfl, _, o1, o2, b2⟩
      rw [← hwa] at b2
      have s2 := b2.size
      have B2 := BA.trans (b2.mono BA.size)
      have z2 := (b2.block _ (by omega)).trans za
      have Z2 : ((w2.alloc (.cells #[.string ⟨s.toArray⟩, .int .i64 ((i : Int) + 1)] 25)).alloc (.cells #[.int .i64 (i : Int), .slice (some ⟨pg, 0, none⟩) 19 pc, .slice (some ⟨pk, 0, none⟩) 2 pd] 30)).heap[w1.heap.size]? = _ := (two_alloc (by omega)).trans z2
      obtain ⟨f0, f1, _⟩ := duo_row Z2
      have S1 : Hid (IsStrs w2 (some ⟨pg, 0, none⟩) (sigL (leafL s i) msg 19)) := (isStrs_own o1).2.2
      have S2 : Hid (IsStrs w2 (some ⟨pk, 0, none⟩) (pathL s i)) := (isStrs_own o2).2.2
      have O1 := hidOwn o1
      have K2 := fun W => spec_next s msg i W hs hi (by omega)
      clear K1 hwa o1 o2
      go_wp2_with fail
      refine (K2 _).mono ?_
      rintro e w3 ⟨qg, qc, qk, qd, rfl, _, _, b3⟩
      have C3 : Below w2.heap.size w2 w3 := (two_below (w := w2)).trans (b3.mono (by rw [two_size]; omega))
      have B3' := B2.trans (C3.mono B2.size)
      have s3 : w2.heap.size + 2 ≤ w3.heap.size := by have := b3.size; rw [two_size] at this; exact this
      have z3 := (b3.block _ (by rw [two_size]; omega)).trans Z2
      have y3 := (b3.block w2.heap.size (by rw [two_size]; omega)).trans two_first
      have x3 := (b3.block (w2.heap.size + 1) (by rw [two_size]; omega)).trans two_second
      obtain ⟨wb, hwb⟩ : ∃ wb, wb = ((w3.alloc (.cells #[.string ⟨s.toArray⟩, .int .i64 ((i : Int) + 1)] 25)).alloc (.cells #[.int .i64 (i : Int), .slice (some ⟨qg, 0, none⟩) 19 qc, .slice (some ⟨qk, 0, none⟩) 2 qd] 30)) := ⟨_, rfl⟩
      have bb : Below w3.heap.size w3 wb := by rw [hwb]; exact two_below
      have sb : wb.heap.size = w3.heap.size + 2 := by rw [hwb]; exact two_size
      have BB := B3'.trans (bb.mono B3'.size)
      have HB3 : Hid (wb.heap[w1.heap.size]? = some (.cells #[.string ⟨s.toArray⟩, .int .i64 (i : Int)] 25 (0, 0)) ∧ wb.heap[w2.heap.size]? = some (.cells #[.string ⟨s.toArray⟩, .int .i64 ((i : Int) + 1)] 25 (0, 0)) ∧ wb.heap[w2.heap.size + 1]? = some (.cells #[.int .i64 (i : Int), .slice (some ⟨pg, 0, none⟩) 19 pc, .slice (some ⟨pk, 0, none⟩) 2 pd] 30 (0, 0))) := ⟨(bb.block _ (by omega)).trans z3, (bb.block _ (by omega)).trans y3, (bb.block _ (by omega)).trans x3⟩
      have S1b : Hid (IsStrs wb (some ⟨pg, 0, none⟩) (sigL (leafL s i) msg 19)) := (S1.out.later C3).later bb
      have S2b : Hid (IsStrs wb (some ⟨pk, 0, none⟩) (pathL s i)) := (S2.out.later C3).later bb
      have O1b := hidOwn (keptO (keptO O1.out C3) bb)
      obtain ⟨g0, g1, _⟩ := duo_row HB3.out.1
      rw [hwb] at g0 g1
      clear f0 f1 b2 b3 z2 z3 y3 x3 Z2 C3 K2 bb S1 S2 O1
      have K4 := impl_leaf s i wb hs (by omega) (HT.out.later BB)
      have HS4 : Hid (∀ W, Tab W → Calls Tryd.prog 15 #[.string ⟨(leafL s i).toArray⟩, .string ⟨msg.toArray⟩] W fun e w' => ∃ g cap : Nat, e = .returned (.tuple #[.slice (some ⟨g, 0, none⟩) 19 cap, .bool true]) ∧ w'.ownsRow W.heap.size 9 1 (.slice (some ⟨g, 0, none⟩) 19 cap) 19 (scells (sigL (leafL s i) msg 19)) ∧ Below W.heap.size W w') := fun W hW => impl_sign (leafL s i) msg W (leafL_len s i hs) (by omega) hW
      have KN := fun W => impl_leaf_no s 4 W (by omega) (by omega)
      have KW := fun W => spec_leaf s i W hs (by omega)
      have hll := sigL_length (leafL s i) msg 19
      have hlf := leafL_len s i hs
      obtain ⟨sg, hsg⟩ : ∃ sg, sg = sigL (leafL s i) msg 19 := ⟨_, rfl⟩
      obtain ⟨lf, hlf2⟩ : ∃ lf, lf = leafL s i := ⟨_, rfl⟩
      rw [← hsg] at HS4 O1b hll S1b
      rw [← hlf2] at K4 KW HS4
      obtain ⟨t0, t1, t2, _⟩ := tri_cells HB3.out.2.2
      rw [hwb] at K4 t0 t1 t2
      clear hsg hlf2 hlf S1b S2b
      go_wp2_with fail
      refine K4.mono ?_
      rintro e w4 ⟨rfl, b4⟩
      rw [← hwb] at b4
      have s4 := b4.size
      have B4 := BB.trans (b4.mono BB.size)
      have HB4 : Hid (w4.heap[w1.heap.size]? = some (.cells #[.string ⟨s.toArray⟩, .int .i64 (i : Int)] 25 (0, 0)) ∧ w4.heap[w2.heap.size + 1]? = some (.cells #[.int .i64 (i : Int), .slice (some ⟨pg, 0, none⟩) 19 pc, .slice (some ⟨pk, 0, none⟩) 2 pd] 30 (0, 0))) := ⟨(b4.block _ (by omega)).trans HB3.out.1, (b4.block _ (by omega)).trans HB3.out.2.2⟩
      have O14 := hidOwn (keptO O1b.out b4)
      clear K4 hwb g0 g1 t0 t1 t2 HB3 O1b b4
      go_wp2_with fail
      refine (HS4.out w4 (HT.out.later B4)).mono ?_
      rintro e w5 ⟨rg, rc, rfl, o5, b5⟩
      have s5 := b5.size
      have B5 := B4.trans (b5.mono B4.size)
      have e1 := (b5.block _ (by omega)).trans HB4.out.1
      have e3 := (b5.block _ (by omega)).trans HB4.out.2
      obtain ⟨g0, g1, _⟩ := duo_row e1
      obtain ⟨t0, t1, t2, _⟩ := tri_cells e3
      have O15 := hidOwn (keptO O14.out b5)
      have O5 := hidOwn o5
      have HB5 : Hid (w5.heap[w1.heap.size]? = some (.cells #[.string ⟨s.toArray⟩, .int .i64 (i : Int)] 25 (0, 0)) ∧ w5.heap[w2.heap.size + 1]? = some (.cells #[.int .i64 (i : Int), .slice (some ⟨pg, 0, none⟩) 19 pc, .slice (some ⟨pk, 0, none⟩) 2 pd] 30 (0, 0))) := ⟨e1, e3⟩
      clear HS4 HB4 O14 o5 b5 e1 e3
      go_wp2_with fail
      refine (KN w5).mono ?_
      rintro e w6 ⟨rfl, rfl⟩
      clear KN
      go_wp2_with fail
      refine (KW _).mono ?_
      rintro e w7 ⟨rfl, b7⟩
      have B7 := B5.trans (b7.mono B5.size)
      have e3 := (b7.block _ (by omega)).trans HB5.out.2
      obtain ⟨u0, u1, u2, _⟩ := tri_cells e3
      have O17 := keptO O15.out b7
      have O57 := keptO O5.out b7
      have K8 := sameT_same sg (.slice (some ⟨rg, 0, none⟩) 19 rc) (.slice (some ⟨pg, 0, none⟩) 19 pc) _ _ w7 (by omega) (by rw [hll]; exact O57) (by rw [hll]; exact O17)
      clear KW g0 g1 t0 t1 t2 HB5 O15 O5 O17 O57 b7 e3
      go_wp2_with fail
      refine K8.mono ?_
      rintro e w8 ⟨rfl, qq, rfl⟩
      clear K8
      go_wp2
      go_ret
      exact ⟨rfl, ⟨B7.os, B7.tape, B7.output, B7.size, B7.block⟩⟩
    · have K1 := impl_next_no s msg u wa (by omega) hok
      have K2 := fun W => spec_next_no s msg u W (by omega) hok
      rw [hwa] at K1
      clear hok
      go_wp2_with fail
      refine K1.mono ?_
      rintro e w2 ⟨rfl, b2⟩
      rw [← hwa] at b2
      have s2 := b2.size
      have B2 := BA.trans (b2.mono BA.size)
      have z2 := (b2.block _ (by omega)).trans za
      have Z2 : ((w2.alloc (.cells #[.string ⟨s.toArray⟩, .int .i64 u] 25)).alloc (.cells #[.int .i64 0, .slice none 0 0, .slice none 0 0] 30)).heap[w1.heap.size]? = _ := (two_alloc (by omega)).trans z2
      obtain ⟨f0, f1, _⟩ := duo_row Z2
      clear K1 hwa
      go_wp2_with fail
      refine (K2 _).mono ?_
      rintro e w3 ⟨rfl, b3⟩
      have B3 := B2.trans ((two_below (w := w2)).trans (b3.mono (by rw [two_size]; omega)) |>.mono B2.size)
      have s3 : w2.heap.size + 2 ≤ w3.heap.size := by have := b3.size; rw [two_size] at this; exact this
      have z3 := (b3.block _ (by rw [two_size]; omega)).trans Z2
      have y3 := (b3.block w2.heap.size (by rw [two_size]; omega)).trans two_first
      have Z3 : ((w3.alloc (.cells #[.string ⟨s.toArray⟩, .int .i64 u] 25)).alloc (.cells #[.int .i64 0, .slice none 0 0, .slice none 0 0] 30)).heap[w1.heap.size]? = _ := (two_alloc (by omega)).trans z3
      have Y3 : ((w3.alloc (.cells #[.string ⟨s.toArray⟩, .int .i64 u] 25)).alloc (.cells #[.int .i64 0, .slice none 0 0, .slice none 0 0] 30)).heap[w2.heap.size]? = _ := (two_alloc (by omega)).trans y3
      have BF := B3.trans ((two_below (w := w3) (o1 := .cells #[.string ⟨s.toArray⟩, .int .i64 u] 25) (o2 := .cells #[.int .i64 0, .slice none 0 0, .slice none 0 0] 30)).mono B3.size)
      obtain ⟨g0, g1, _⟩ := duo_row Z3
      obtain ⟨h0, h1, _⟩ := duo_row Y3
      clear f0 f1 b2 b3 z2 z3 y3 Z2 Z3 Y3
      go_wp2
      go_ret
      exact ⟨rfl, BF⟩
  · have HB := bigYes len0 cap0 a0 w hb
    clear w0 hT
    go_enter Tryd.func4, Tryd.ntmps4
    go_wp2_with fail
    refine HB.mono ?_
    rintro e w1 ⟨rfl, rfl⟩
    clear HB
    go_wp2
    go_ret
    exact ⟨rfl, Below.refl _ _⟩

set_option maxRecDepth 100000 in
theorem lifted (os : Os) (started : os.Started) (H : Type) (enc : TypeId × Value → H) :
    ReturnsInHanded {} Tryd.checked os 4 .any (fun w args => (Rows.fnLeavesSpec.pre enc Tryd.prog Tryd.f4 [] false w args ∧ laidMetH Tryd.prog Rows.fnLeavesRow.laid w) ∧ sizedMet enc Tryd.prog Tryd.f4 (OpenSpec.ofChange Rows.fnLeavesSpec) false w args)
      (Rows.fnLeavesSpec.post enc Tryd.prog Tryd.f4 false true false false) := by
  refine returnsInHanded_of_change_and (C := Tryd.checked) (X := fun w _ => laidMetH Tryd.prog Rows.fnLeavesRow.laid w) (fun _ _ _ hh h => h.of_heap hh) own started (by kernel_rfl) Tryd.func4
    (ChangeSpec.witness_shaped (enc := enc) (C := Tryd.checked) (os := os) (X := fun w _ => laidMetH Tryd.prog Rows.fnLeavesRow.laid w) false (World.doorLaid Tryd.prog 400 os) #[.slice none 0 0] 8 rfl (World.shaped_of_RefB (by kernel_rfl) (by kernel_rfl)) (by kernel_rfl) (by kernel_rfl) (by kernel_rfl) (door_met os _)) ?_
  intro W base args ds gs before hval0 hW _ _ hL _
  have hval : ∀ (j : Nat) t v, Tryd.f4.params[j]? = some t → args[j]? = some v → Value.okWide Tryd.prog W .any base t v := hval0
  have hW' := hW
  obtain ⟨p, q, hA0, hV0, rfl, hfz, hnd⟩ := hW
  have hA : DataW.TrodAll enc Tryd.prog W 0 (fun _ => true) true Tryd.f4.params.toList args.toList ds p := hA0
  have hV : DataW.TrodVars enc Tryd.prog W (fun _ => true) ["loop.example/g00226/impl.roundWords"] gs q := hV0
  rw [Tryd.params4] at hA hval
  obtain ⟨v0, vs0, d0, ds0, p0, q0, hargs, rfl, rfl, h0, r0⟩ := trodAll_cons hA
  obtain ⟨rfl, rfl, rfl⟩ := trodAll_nil r0
  obtain rfl : args = #[v0] := by cases args; simp_all
  obtain ⟨a0, len0, cap0, rfl⟩ := okWide_slice Tryd.underlying22 (hval 0 22 v0 rfl rfl)
  have k0 := h0
  have lt0 : ∀ x ∈ p0, x.block < W.heap.size := by obtain ⟨m, hm⟩ := k0; exact DataW.trod_lt m _ _ _ hm
  have w0 : Code W a0 len0 := by
    obtain ⟨fuel, hf⟩ := h0
    rcases open_ints Tryd.underlying22 Tryd.underlying5 (by kernel_rfl) hf with ⟨hcs, _⟩ | ⟨x, l, c, zs, hcs, _, hl, hm, hz, _, hcell, hwz⟩
    · simp [Value.cells] at hcs
      obtain ⟨rfl, rfl, rfl⟩ := hcs
      exact .inl rfl
    · simp [Value.cells] at hcs
      obtain ⟨rfl, rfl, rfl⟩ := hcs
      exact codeOf W x _ _ zs hl (by simpa using hz) hcell hwz
  obtain ⟨g, t, cs, fuel, d, p', rfl, hg, ht, hvar, hd, rfl⟩ := trodVars_one hV
  obtain rfl := Option.some.inj (gTab.symm.trans hg)
  obtain rfl := Option.some.inj (tTab.symm.trans ht)
  have hT := tab_of hL
  have hltv : ∀ x ∈ p', x.block < W.heap.size := fun x hx => hW'.lt x (List.mem_append_right _ (List.mem_append_right _ hx))
  clear hA0 hV0 hval0 hA hV
  refine (walk a0 len0 cap0 W w0 hT).mono fun e W' ⟨he, hB⟩ => ?_
  subst he
  obtain ⟨fuel', hd'⟩ := Below.trod laidOut0 (by kernel_rfl) (of_decide_eq_true (by kernel_rfl)) (v := .agg cs) (⟨fuel, by simpa [Value.cells] using hd⟩ : DataW.Trod enc Tryd.prog W 0 (fun _ => true) true 116 (.agg cs) d p') hB hltv
  have hv' := trodVars_mk1 (enc := enc) (spare := fun b => decide (b < W.heap.size)) hg ht (var?_below hB hg hT.1 hvar) (by simpa [Value.cells] using hd')
  exact ⟨_, rfl, _, _, _, [], _, _, hW', trodAll_mk1 (shut_bool Tryd.underlying4 _), (trodAll_cons_mk (Below.trod laidOut0 (by kernel_rfl) (of_decide_eq_true (by kernel_rfl)) k0 hB lt0) trodAll_mk0), hv', hB.frame _, fun h => by cases h⟩

theorem named0 : Tryd.prog.funcNamed "loop.example/g00226/laws.FnLeaves" = some 4 := by kernel_rfl
theorem closed0 : joinedFacts Tryd.prog 4 Tryd.f4 Rows.fnLeavesSpec Rows.fnLeavesRow = true := by
  unfold joinedFacts
  rw [seat_may, seat_lifts, seat_make]
  kernel_rfl
theorem inst0 : Tryd.f4.isInstance Tryd.prog Rows.fnLeavesRow.origin Rows.fnLeavesRow.targs := of_decide_eq_true (by kernel_rfl)
theorem wrap0 : Tryd.f4.isWrapper Tryd.prog Rows.fnLeavesRow.wrapper Rows.fnLeavesRow.mainSum := by unfold Func.isWrapper; first | (rw [if_pos (by decide +kernel)]; kernel_rfl) | (rw [if_neg (by decide +kernel)]; exact ⟨rfl, rfl⟩)

theorem over : Rows.fnLeavesRow.holds Tryd.pinned (OpenSpec.ofChange Rows.fnLeavesSpec) :=
  OpenClaim.holds_of_wide 4 Tryd.f4 rfl rfl rfl rfl rfl rfl rfl ⟨rfl, rfl, rfl, rfl, rfl⟩ rfl rfl rfl rfl rfl named0 Tryd.func4 closed0 inst0 wrap0
    (fun os started H enc _ => lifted os started H enc)

theorem text0 : Rows.fnLeavesRow.wfByText (OpenSpec.ofChange Rows.fnLeavesSpec) = true := by kernel_rfl
theorem looks0 : false = Tryd.prog.looks [] := by kernel_rfl
theorem goes0 : false = Rows.fnLeavesRow.goesBy Tryd.prog := by kernel_rfl
theorem wants0 : ([22].all fun u => !Tryd.prog.wantsStandIn u) = true := by kernel_rfl

theorem card : Claim7.holds Tryd.pinned (.plain (OpenSpec.ofChange Rows.fnLeavesSpec)) Rows.fnLeavesCard :=
  Claim7.holds_tied_plain_at .later [] [.data] true (true, Rows.fnLeavesCard.stood.harness.2) false
    over (fun _ h => by cases h) text0 (fun _ h => by cases h) fnLeaves_row_tie rfl ⟨rfl, rfl⟩ seat_main rfl
    (fun f fn hf hfn => by
      obtain rfl : f = 4 := Option.some.inj (named0.symm.trans hf) |>.symm
      obtain rfl : fn = Tryd.f4 := (Option.some.inj (Tryd.func4.symm.trans hfn)).symm
      exact ⟨looks0, fun j t ht => by
        rw [Tryd.params4] at ht
        have hm : t ∈ [22] := by simpa using Array.mem_of_getElem? ht
        exact (show Tryd.prog.wantsStandIn t = false by simpa using List.all_eq_true.1 wants0 t hm)⟩)
    goes0

end Go.Proofs.YtddjpfgkjijmoaaDoor.fnLeaves
namespace Go.Proofs.YtddjpfgkjijmoaaDoor
theorem fnLeaves_holds : Rows.FnLeavesCardSaid := fnLeaves.card
end Go.Proofs.YtddjpfgkjijmoaaDoor
