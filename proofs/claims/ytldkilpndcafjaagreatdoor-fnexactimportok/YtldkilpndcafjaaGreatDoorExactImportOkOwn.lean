/-
  At every import ImportOk answers as its model; it writes into no argument. No condition; the round words are laid as the program's text lays them.
-/
import Derived.Test.YtldkilpndcafjaaGreatDoorImpO
import Derived.Test.YtldkilpndcafjaaGreatDoorOpen5
import Derived.Test.YtldkilpndcafjaaGreatDoorSeatAll
import Derived.Test.YtldkilpndcafjaaGreatDoorTie
import Derived.Test.YtldkilpndcafjaaGreatDoorCards
import Derived.ProofKit
import Derived.LaidMore
import Derived.OpenShut
import Derived.ShutString
import Derived.ChangeOld
import Derived.Below
import Derived.Stop.Joined
import Derived.Lib.LaidTab
import Derived.SevenTiedAt
import Derived.SliceStrings
namespace Go.Proofs.YtldkilpndcafjaaGreatDoor.fnExactImportOk
open Go.ChangeShapes Go.WideShapes Go.ChangeAt Go.RowKit
open Go.ChangeMaps (open_string shut_string)
set_option linter.unusedVariables false

theorem own : ownKnob Tryz.prog.godebug = none := by kernel_rfl
theorem laidOut0 : laidOutB Tryz.prog = true := by kernel_rfl
theorem gTab : Tryz.prog.globalNamed "loop.example/g00226/impl.roundWords" = some 1 := by kernel_rfl
theorem tTab : (Tryz.prog.globals[1]?).map (·.type) = some 147 := by kernel_rfl

/-- The door's own heap meets the condition. -/
theorem door_met (os : Os) (args : Array Value) : laidMetH Tryz.prog Rows.fnExactImportOkRow.laid ((World.doorLaid Tryz.prog 400 os).forCall (fun _ _ => 0) ⟨#[], args, []⟩).memory :=
  laidMetH_of_parts3 (fuel := 8) (laidMet_of_run' 8 (by kernel_rfl) (by kernel_rfl)) (by kernel_rfl) (by kernel_rfl)

/-- What the condition gives the walks: the round words' cells. -/
theorem tab_of {W : World} (h : laidMetH Tryz.prog Rows.fnExactImportOkRow.laid W) : Tab W := by
  rw [MakeChecks.laidMetH_plain _ _ _ (by kernel_rfl)] at h
  have hT : Lib.TabIs Tryz.prog W "loop.example/g00226/impl.roundWords" .u32 (kL.map fun x => num x) := Lib.tabIs_of_head (rest := []) gTab tTab Tryz.underlying147 Tryz.underlying106 (by kernel_rfl) (by kernel_rfl) h
  have hc : ∀ i, i < 64 → W.cell? ⟨1, i, none⟩ = some (.int .u32 (num (kL.getD i 0))) := fun i hi => by
    have hl : i < kL.length := hi
    have := hT.cell gTab i (by rw [List.length_map]; exact hl)
    rw [this]
    simp [List.getD, hl]
  exact ⟨block_lt_of_cell (hc 0 (by omega)), hc⟩

theorem sizes_le (ps : List PairL) (L : Nat) (hL : L ≤ 1048576) (h : ps.length + sizeP ps ≤ L) : ∀ p ∈ ps, p.1.length ≤ 1048576 ∧ p.2.length ≤ 1048576 := by
  intro p hp
  obtain ⟨j, hj, rfl⟩ := List.getElem_of_mem hp
  have := sizeP_le ps j hj
  exact ⟨by omega, by omega⟩

set_option maxRecDepth 100000 in
set_option maxHeartbeats 4000000 in
theorem walk (r : List UInt8) (a : Option Addr) (cap : Nat) (ps : List PairL) (d : Bool) (w : World) (hr : r.length ≤ 9223372036854775807) (hl : ps.length ≤ 9223372036854775807) (hm : ∀ p ∈ ps, p.1.length ≤ 9223372036854775807 ∧ p.2.length ≤ 9223372036854775807) (hs : IsPairs w a ps) (hT : Tab w) :
    Calls Tryz.prog 5 #[.agg #[.string ⟨r.toArray⟩, .slice a ps.length cap, .bool d]] w fun e w' => e = .returned (.bool true) ∧ Below w.heap.size w w' := by
  have HT : Hid (Tab w) := hT
  have B0 : Below w.heap.size w (w.alloc (.cells #[.string ⟨r.toArray⟩, .slice a ps.length cap, .bool d] 45)) := (Below.refl _ _).alloc (Nat.le_refl _) _
  have H0 := heap_alloc_new w (.cells #[.string ⟨r.toArray⟩, .slice a ps.length cap, .bool d] 45)
  have HS : Hid (∀ W, Below w.heap.size w W → IsPairs W a ps) := fun W hW => hs.later hW
  have KZ := szImport_any 1048576 (Nat.le_refl _) r a cap ps d (w.alloc (.cells #[.string ⟨r.toArray⟩, .slice a ps.length cap, .bool d] 45)) hr hl hm (hs.later B0)
  obtain ⟨p0, p1, p2, _⟩ := im_cells H0
  have HH0 : Hid (_ = _) := H0
  clear hs hm hT H0
  go_enter Tryz.func5, Tryz.ntmps5
  go_wp2_with fail
  refine KZ.mono ?_
  rintro e w1 ⟨he, b1⟩
  have B1 := B0.trans (b1.mono B0.size)
  rcases he with rfl | ⟨hsz, n, hn, rfl⟩
  · go_wp2
    go_ret
    exact ⟨rfl, B1⟩
  · have hrl : r.length ≤ 1048576 := by omega
    have hln : ps.length ≤ 1048576 := by omega
    have hmm := sizes_le ps 1048576 (Nat.le_refl _) (by omega)
    obtain ⟨ok, hok⟩ : ∃ ok, ok = importB r ps d := ⟨_, rfl⟩
    have HK1 : Hid (∀ a c W, IsPairs W a ps → _) := fun a c W h => spec_importOk r a c ps d W hrl hln hmm h
    have HK2 : Hid (∀ a c W, IsPairs W a ps → Tab W → _) := fun a c W h hT => impl_importOk r a c ps d W hrl hln hmm h hT
    rw [← hok] at HK1 HK2
    have H1 := (b1.block w.heap.size (by simp)).trans HH0.out
    have HH1 : Hid (_ = _) := H1
    obtain ⟨q0, q1, q2, _⟩ := im_cells H1
    have l1 : w.heap.size < w1.heap.size := lt_of_block H1
    have KT := toImport_any r a cap ps d w1 hln (HS.out w1 B1)
    clear KZ b1 p0 p1 p2 hsz hmm hok H1 HH0 hn
    go_wp2_with fail
    refine KT.mono ?_
    rintro e w2 ⟨rfl, o2, b2⟩
    have B2 := B1.trans (b2.mono B1.size)
    have I2 := (isPairs_own o2).2.2
    have H2 := (b2.block w.heap.size l1).trans HH1.out
    have HH2 : Hid (_ = _) := H2
    have l2 : w.heap.size < w2.heap.size := lt_of_block H2
    have K2 := HK1.out _ ps.length w2 I2
    clear KT b2 q0 q1 q2 H2 HH1 o2 I2 HK1
    go_wp2_with fail
    refine K2.mono ?_
    rintro e w3 ⟨rfl, b3⟩
    have B3 := B2.trans (b3.mono B2.size)
    have H3 := (b3.block w.heap.size l2).trans HH2.out
    have HH3 : Hid (_ = _) := H3
    obtain ⟨q0, q1, q2, _⟩ := im_cells H3
    have l3 : w.heap.size < w3.heap.size := lt_of_block H3
    have KT := toImport_any r a cap ps d w3 hln (HS.out w3 B3)
    clear K2 b3 H3 HH2
    go_wp2_with fail
    refine KT.mono ?_
    rintro e w4 ⟨rfl, o4, b4⟩
    have B4 := B3.trans (b4.mono B3.size)
    have H4 := (b4.block w.heap.size l3).trans HH3.out
    have HH4 : Hid (_ = _) := H4
    have l4 : w.heap.size < w4.heap.size := lt_of_block H4
    have I4 := (isPairs_own o4).2.2
    have XB : Below w4.heap.size w4 (w4.alloc (.cells #[.string ⟨r.toArray⟩, .slice (some ⟨w3.heap.size + 3, 0, none⟩) ps.length ps.length, .bool d] 49)) := (Below.refl _ _).alloc (Nat.le_refl _) _
    have B5 : Below w.heap.size w (w4.alloc (.cells #[.string ⟨r.toArray⟩, .slice (some ⟨w3.heap.size + 3, 0, none⟩) ps.length ps.length, .bool d] 49)) := B4.trans (XB.mono B4.size)
    have HX := heap_alloc_new w4 (.cells #[.string ⟨r.toArray⟩, .slice (some ⟨w3.heap.size + 3, 0, none⟩) ps.length ps.length, .bool d] 49)
    have HHX : Hid (_ = _) := HX
    obtain ⟨x0, x1, x2, _⟩ := im_cells HX
    have HI5 : Hid (IsPairs (w4.alloc (.cells #[.string ⟨r.toArray⟩, .slice (some ⟨w3.heap.size + 3, 0, none⟩) ps.length ps.length, .bool d] 49)) (some ⟨w3.heap.size + 3, 0, none⟩) ps) := I4.later XB
    have K5 := HK2.out _ ps.length _ HI5.out (HT.out.later B5)
    have HH5 : Hid ((w4.alloc (.cells #[.string ⟨r.toArray⟩, .slice (some ⟨w3.heap.size + 3, 0, none⟩) ps.length ps.length, .bool d] 49)).heap[w.heap.size]? = _) := (XB.block w.heap.size l4).trans H4
    clear KT b4 H4 HH3 o4 I4 HK2 q0 q1 q2 XB HX HH4
    go_wp2_with fail
    refine K5.mono ?_
    rintro e w6 ⟨rfl, b6⟩
    have B6 := B5.trans (b6.mono B5.size)
    have HI6 : Hid (IsPairs w6 (some ⟨w3.heap.size + 3, 0, none⟩) ps) := HI5.out.later b6
    obtain ⟨y0, y1, y2, _⟩ := im_cells ((b6.block w.heap.size (by simp; omega)).trans HH5.out)
    obtain ⟨z0, z1, z2, _⟩ := im_cells ((b6.block w4.heap.size (by simp)).trans HHX.out)
    have l6 : w4.heap.size < w6.heap.size := by have := b6.size; simp at this; omega
    have hS : w6.cell? ⟨w.heap.size, 0, none⟩ = some (.string ⟨r.toArray⟩) ∧ w6.cell? ⟨w.heap.size, 1, none⟩ = some (.slice a ps.length cap) ∧ w6.cell? ⟨w.heap.size, 2, none⟩ = some (.bool d) ∧ w6.cell? ⟨w4.heap.size, 0, none⟩ = some (.string ⟨r.toArray⟩) ∧ w6.cell? ⟨w4.heap.size, 1, none⟩ = some (.slice (some ⟨w3.heap.size + 3, 0, none⟩) ps.length ps.length) ∧ w6.cell? ⟨w4.heap.size, 2, none⟩ = some (.bool d) := ⟨y0, y1, y2, z0, z1, z2⟩
    have hSD : w6.drew.cell? ⟨w.heap.size, 0, none⟩ = some (.string ⟨r.toArray⟩) ∧ w6.drew.cell? ⟨w.heap.size, 1, none⟩ = some (.slice a ps.length cap) ∧ w6.drew.cell? ⟨w.heap.size, 2, none⟩ = some (.bool d) ∧ w6.drew.cell? ⟨w4.heap.size, 0, none⟩ = some (.string ⟨r.toArray⟩) ∧ w6.drew.cell? ⟨w4.heap.size, 1, none⟩ = some (.slice (some ⟨w3.heap.size + 3, 0, none⟩) ps.length ps.length) ∧ w6.drew.cell? ⟨w4.heap.size, 2, none⟩ = some (.bool d) := hS
    have BD : Below w.heap.size w w6.drew := ⟨B6.os, B6.tape, B6.output, B6.size, B6.block⟩
    have KT := toImport_any r a cap ps d w6.drew hln (HS.out _ BD)
    have HID : Hid (IsPairs w6.drew (some ⟨w3.heap.size + 3, 0, none⟩) ps) := HI6.out.later ⟨rfl, rfl, rfl, Nat.le_refl _, fun _ _ => rfl⟩
    clear K5 b6 HI5 HH5 HHX x0 x1 x2 y0 y1 y2 z0 z1 z2 HI6
    go_wp2
    go_region_held3 (fun w' => w'.cell? ⟨w.heap.size, 0, none⟩ = some (.string ⟨r.toArray⟩) ∧ w'.cell? ⟨w.heap.size, 1, none⟩ = some (.slice a ps.length cap) ∧ w'.cell? ⟨w.heap.size, 2, none⟩ = some (.bool d) ∧ w'.cell? ⟨w4.heap.size, 0, none⟩ = some (.string ⟨r.toArray⟩) ∧ w'.cell? ⟨w4.heap.size, 1, none⟩ = some (.slice (some ⟨w3.heap.size + 3, 0, none⟩) ps.length ps.length) ∧ w'.cell? ⟨w4.heap.size, 2, none⟩ = some (.bool d)) (first | with_reducible exact hSD | with_reducible exact hS | with_reducible exact hS7 | with_reducible exact hS8)
      (first
        | (go_at_call 26
           with_reducible refine KT.mono ?_
           rintro e w7 ⟨rfl, o7, b7⟩
           have hS7 : w7.cell? ⟨w.heap.size, 0, none⟩ = some (.string ⟨r.toArray⟩) ∧ w7.cell? ⟨w.heap.size, 1, none⟩ = some (.slice a ps.length cap) ∧ w7.cell? ⟨w.heap.size, 2, none⟩ = some (.bool d) ∧ w7.cell? ⟨w4.heap.size, 0, none⟩ = some (.string ⟨r.toArray⟩) ∧ w7.cell? ⟨w4.heap.size, 1, none⟩ = some (.slice (some ⟨w3.heap.size + 3, 0, none⟩) ps.length ps.length) ∧ w7.cell? ⟨w4.heap.size, 2, none⟩ = some (.bool d) := ⟨(b7.cell (p := ⟨w.heap.size, 0, none⟩) (show w.heap.size < w6.heap.size by omega)).trans hS.1, (b7.cell (p := ⟨w.heap.size, 1, none⟩) (show w.heap.size < w6.heap.size by omega)).trans hS.2.1, (b7.cell (p := ⟨w.heap.size, 2, none⟩) (show w.heap.size < w6.heap.size by omega)).trans hS.2.2.1, (b7.cell (p := ⟨w4.heap.size, 0, none⟩) l6).trans hS.2.2.2.1, (b7.cell (p := ⟨w4.heap.size, 1, none⟩) l6).trans hS.2.2.2.2.1, (b7.cell (p := ⟨w4.heap.size, 2, none⟩) l6).trans hS.2.2.2.2.2⟩
           have I7 := HID.out.later b7
           have J7 := (isPairs_own o7).2.2
           have B7 := BD.trans (b7.mono BD.size)
           have KE := eqImport_same r d ps (some ⟨w3.heap.size + 3, 0, none⟩) (some ⟨w6.heap.size + 3, 0, none⟩) ps.length ps.length w7 (by omega) I7 J7
           have n7 := b7.size
           clear o7 b7 I7 J7)
        | (go_at_call 28
           with_reducible refine KE.mono ?_
           rintro e w8 ⟨rfl, b8⟩
           have n7' : w6.heap.size ≤ w7.heap.size := n7
           have hS8 : w8.cell? ⟨w.heap.size, 0, none⟩ = some (.string ⟨r.toArray⟩) ∧ w8.cell? ⟨w.heap.size, 1, none⟩ = some (.slice a ps.length cap) ∧ w8.cell? ⟨w.heap.size, 2, none⟩ = some (.bool d) ∧ w8.cell? ⟨w4.heap.size, 0, none⟩ = some (.string ⟨r.toArray⟩) ∧ w8.cell? ⟨w4.heap.size, 1, none⟩ = some (.slice (some ⟨w3.heap.size + 3, 0, none⟩) ps.length ps.length) ∧ w8.cell? ⟨w4.heap.size, 2, none⟩ = some (.bool d) := ⟨(b8.cell (p := ⟨w.heap.size, 0, none⟩) (show w.heap.size < w7.heap.size by omega)).trans hS7.1, (b8.cell (p := ⟨w.heap.size, 1, none⟩) (show w.heap.size < w7.heap.size by omega)).trans hS7.2.1, (b8.cell (p := ⟨w.heap.size, 2, none⟩) (show w.heap.size < w7.heap.size by omega)).trans hS7.2.2.1, (b8.cell (p := ⟨w4.heap.size, 0, none⟩) (show w4.heap.size < w7.heap.size by omega)).trans hS7.2.2.2.1, (b8.cell (p := ⟨w4.heap.size, 1, none⟩) (show w4.heap.size < w7.heap.size by omega)).trans hS7.2.2.2.2.1, (b8.cell (p := ⟨w4.heap.size, 2, none⟩) (show w4.heap.size < w7.heap.size by omega)).trans hS7.2.2.2.2.2⟩
           have B8 := B7.trans (b8.mono B7.size)
           clear b8))
    all_goals
      clear hS hSD hS7 hS8 KT KE
      go_wp2
      go_ret
      exact ⟨rfl, B8⟩

set_option maxRecDepth 100000 in
theorem lifted (os : Os) (started : os.Started) (H : Type) (enc : TypeId × Value → H) :
    ReturnsInHanded {} Tryz.checked os 5 .any (fun w args => (Rows.fnExactImportOkSpec.pre enc Tryz.prog Tryz.f5 [] false w args ∧ laidMetH Tryz.prog Rows.fnExactImportOkRow.laid w) ∧ sizedMet enc Tryz.prog Tryz.f5 (OpenSpec.ofChange Rows.fnExactImportOkSpec) false w args)
      (Rows.fnExactImportOkSpec.post enc Tryz.prog Tryz.f5 false true false false) := by
  refine returnsInHanded_of_change_and (C := Tryz.checked) (X := fun w _ => laidMetH Tryz.prog Rows.fnExactImportOkRow.laid w) (fun _ _ _ hh h => h.of_heap hh) own started (by kernel_rfl) Tryz.func5
    (ChangeSpec.witness_shaped (enc := enc) (C := Tryz.checked) (os := os) (X := fun w _ => laidMetH Tryz.prog Rows.fnExactImportOkRow.laid w) false (World.doorLaid Tryz.prog 400 os) #[.agg #[.string ByteArray.empty, .slice none 0 0, .bool false]] 8 rfl (World.shaped_of_RefB (by kernel_rfl) (by kernel_rfl)) (by kernel_rfl) (by kernel_rfl) (by kernel_rfl) (door_met os _)) ?_
  intro W base args ds gs before hval0 hW _ _ hL _
  have hval : ∀ (j : Nat) t v, Tryz.f5.params[j]? = some t → args[j]? = some v → Value.okWide Tryz.prog W .any base t v := hval0
  have hW' := hW
  obtain ⟨p, q, hA0, hV0, rfl, hfz, hnd⟩ := hW
  have hA : DataW.TrodAll enc Tryz.prog W 0 (fun _ => true) true Tryz.f5.params.toList args.toList ds p := hA0
  have hV : DataW.TrodVars enc Tryz.prog W (fun _ => true) ["loop.example/g00226/impl.roundWords"] gs q := hV0
  rw [Tryz.params5] at hA hval
  obtain ⟨v0, vs0, d0, ds0, p0, q0, hargs, rfl, rfl, h0, r0⟩ := trodAll_cons hA
  obtain ⟨rfl, rfl, rfl⟩ := trodAll_nil r0
  obtain rfl : args = #[v0] := by cases args; simp_all
  have k0 := h0
  have lt0 : ∀ x ∈ p0, x.block < W.heap.size := by obtain ⟨m, hm⟩ := k0; exact DataW.trod_lt m _ _ _ hm
  obtain ⟨rr, a0, cap0, ps, dd, hv0, hrl, hm, hs, hbig⟩ := import_of (hval 0 45 v0 rfl rfl) h0
  subst hv0
  obtain ⟨g, t, cs, fuel, d, p', rfl, hg, ht, hvar, hd, rfl⟩ := trodVars_one hV
  obtain rfl := Option.some.inj (gTab.symm.trans hg)
  obtain rfl := Option.some.inj (tTab.symm.trans ht)
  have hT := tab_of hL
  have hltv : ∀ x ∈ p', x.block < W.heap.size := fun x hx => hW'.lt x (List.mem_append_right _ (List.mem_append_right _ hx))
  clear hA0 hV0 hval0 hA hV
  refine (walk rr a0 cap0 ps dd W hrl hbig hm hs hT).mono fun e W' ⟨he, hB⟩ => ?_
  subst he
  obtain ⟨fuel', hd'⟩ := Below.trod laidOut0 (by kernel_rfl) (of_decide_eq_true (by kernel_rfl)) (v := .agg cs) (⟨fuel, by simpa [Value.cells] using hd⟩ : DataW.Trod enc Tryz.prog W 0 (fun _ => true) true 147 (.agg cs) d p') hB hltv
  have hv' := trodVars_mk1 (enc := enc) (spare := fun b => decide (b < W.heap.size)) hg ht (var?_below hB hg hT.1 hvar) (by simpa [Value.cells] using hd')
  exact ⟨_, rfl, _, _, _, [], _, _, hW', trodAll_mk1 (shut_bool Tryz.underlying4 _), (trodAll_cons_mk (Below.trod laidOut0 (by kernel_rfl) (of_decide_eq_true (by kernel_rfl)) k0 hB lt0) trodAll_mk0), hv', hB.frame _, fun h => by cases h⟩

theorem named0 : Tryz.prog.funcNamed "loop.example/g00226/laws.FnExactImportOk" = some 5 := by kernel_rfl
theorem closed0 : joinedFacts Tryz.prog 5 Tryz.f5 Rows.fnExactImportOkSpec Rows.fnExactImportOkRow = true := by
  unfold joinedFacts
  rw [seat_may, seat_lifts, seat_make]
  kernel_rfl
theorem inst0 : Tryz.f5.isInstance Tryz.prog Rows.fnExactImportOkRow.origin Rows.fnExactImportOkRow.targs := of_decide_eq_true (by kernel_rfl)
theorem wrap0 : Tryz.f5.isWrapper Tryz.prog Rows.fnExactImportOkRow.wrapper Rows.fnExactImportOkRow.mainSum := by unfold Func.isWrapper; first | (rw [if_pos (by decide +kernel)]; kernel_rfl) | (rw [if_neg (by decide +kernel)]; exact ⟨rfl, rfl⟩)

theorem over : Rows.fnExactImportOkRow.holds Tryz.pinned (OpenSpec.ofChange Rows.fnExactImportOkSpec) :=
  OpenClaim.holds_of_wide 5 Tryz.f5 rfl rfl rfl rfl rfl rfl rfl ⟨rfl, rfl, rfl, rfl, rfl⟩ rfl rfl rfl rfl rfl named0 Tryz.func5 closed0 inst0 wrap0
    (fun os started H enc _ => lifted os started H enc)

theorem text0 : Rows.fnExactImportOkRow.wfByText (OpenSpec.ofChange Rows.fnExactImportOkSpec) = true := by kernel_rfl
theorem looks0 : false = Tryz.prog.looks [] := by kernel_rfl
theorem goes0 : false = Rows.fnExactImportOkRow.goesBy Tryz.prog := by kernel_rfl
theorem wants0 : ([45].all fun u => !Tryz.prog.wantsStandIn u) = true := by kernel_rfl

theorem card : Claim7.holds Tryz.pinned (.plain (OpenSpec.ofChange Rows.fnExactImportOkSpec)) Rows.fnExactImportOkCard :=
  Claim7.holds_tied_plain_at .later [] [.data] true (true, Rows.fnExactImportOkCard.stood.harness.2) false
    over (fun _ h => by cases h) text0 (fun _ h => by cases h) fnExactImportOk_row_tie rfl ⟨rfl, rfl⟩ seat_main rfl
    (fun f fn hf hfn => by
      obtain rfl : f = 5 := Option.some.inj (named0.symm.trans hf) |>.symm
      obtain rfl : fn = Tryz.f5 := (Option.some.inj (Tryz.func5.symm.trans hfn)).symm
      exact ⟨looks0, fun j t ht => by
        rw [Tryz.params5] at ht
        have hm : t ∈ [45] := by simpa using Array.mem_of_getElem? ht
        exact (show Tryz.prog.wantsStandIn t = false by simpa using List.all_eq_true.1 wants0 t hm)⟩)
    goes0

end Go.Proofs.YtldkilpndcafjaaGreatDoor.fnExactImportOk
namespace Go.Proofs.YtldkilpndcafjaaGreatDoor
theorem fnExactImportOk_holds : Rows.FnExactImportOkCardSaid := fnExactImportOk.card
end Go.Proofs.YtldkilpndcafjaaGreatDoor
