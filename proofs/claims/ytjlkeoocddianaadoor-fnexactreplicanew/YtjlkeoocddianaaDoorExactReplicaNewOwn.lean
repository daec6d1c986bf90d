/-
  ReplicaNew answers as its model; its answer owns its memory. No condition; the round words are laid as the program's text lays them.
-/
import Derived.Test.YtjlkeoocddianaaDoorRepN
import Derived.Test.YtjlkeoocddianaaDoorSeatA
import Derived.Test.YtjlkeoocddianaaDoorSeatB
import Derived.Test.YtjlkeoocddianaaDoorTie
import Derived.Test.YtjlkeoocddianaaDoorCards
import Derived.ProofKit
import Derived.LaidMore
import Derived.OpenShut
import Derived.ShutString
import Derived.ChangeOld
import Derived.Below
import Derived.Stop.Joined
import Derived.Lib.LaidTab
import Derived.SevenTiedAt
import Derived.SliceStrings
namespace Go.Proofs.YtjlkeoocddianaaDoor.fnExactReplicaNew
open Go.ChangeShapes Go.WideShapes Go.ChangeAt Go.RowKit
open Go.ChangeMaps (open_string shut_string)
set_option linter.unusedVariables false

theorem own : ownKnob Tryd.prog.godebug = none := by kernel_rfl
theorem laidOut0 : laidOutB Tryd.prog = true := by kernel_rfl
theorem gTab : Tryd.prog.globalNamed "loop.example/g00226/impl.roundWords" = some 0 := by kernel_rfl
theorem tTab : (Tryd.prog.globals[0]?).map (·.type) = some 103 := by kernel_rfl

/-- The door's own heap meets the condition. -/
theorem door_met (os : Os) (args : Array Value) : laidMetH Tryd.prog Rows.fnExactReplicaNewRow.laid ((World.doorLaid Tryd.prog 400 os).forCall (fun _ _ => 0) ⟨#[], args, []⟩).memory :=
  laidMetH_of_parts3 (fuel := 8) (laidMet_of_run' 8 (by kernel_rfl) (by kernel_rfl)) (by kernel_rfl) (by kernel_rfl)

/-- What the condition gives the walks: the round words' cells. -/
theorem tab_of {W : World} (h : laidMetH Tryd.prog Rows.fnExactReplicaNewRow.laid W) : Tab W := by
  rw [MakeChecks.laidMetH_plain _ _ _ (by kernel_rfl)] at h
  have hT : Lib.TabIs Tryd.prog W "loop.example/g00226/impl.roundWords" .u32 (kL.map fun x => num x) := Lib.tabIs_of_head (rest := []) gTab tTab Tryd.underlying103 Tryd.underlying77 (by kernel_rfl) (by kernel_rfl) h
  have hc : ∀ i, i < 64 → W.cell? ⟨0, i, none⟩ = some (.int .u32 (num (kL.getD i 0))) := fun i hi => by
    have hl : i < kL.length := hi
    have := hT.cell gTab i (by rw [List.length_map]; exact hl)
    rw [this]
    simp [List.getD, hl]
  exact ⟨block_lt_of_cell (hc 0 (by omega)), hc⟩

set_option maxRecDepth 100000 in
set_option maxHeartbeats 1000000 in
theorem walk (w : World) (hT : Tab w) :
    Calls Tryd.prog 3 #[] w fun e w' => e = .returned (.bool true) ∧ Below w.heap.size w w' := by
  have HT : Hid (Tab w) := hT
  obtain ⟨r, hr⟩ : ∃ r, r = emptyL := ⟨_, rfl⟩
  have H1 := fun W => spec_new r hr W
  have H2 := fun W hW => impl_new r hr W hW
  clear hr hT
  go_enter Tryd.func3, Tryd.ntmps3
  go_wp2_with fail
  refine (H1 _).mono ?_
  rintro e w1 ⟨rfl, b1⟩
  have B1 : Hid (Below w.heap.size w (w1.alloc (.cells #[.int .i64 0, .string ⟨r.toArray⟩, .slice none 0 0, .slice none 0 0] 25))) := b1.trans (((Below.refl _ _).alloc (Nat.le_refl _) _).mono b1.size)
  have X1 : Hid ((w1.alloc (.cells #[.int .i64 0, .string ⟨r.toArray⟩, .slice none 0 0, .slice none 0 0] 25)).heap[w1.heap.size]? = some (.cells #[.int .i64 0, .string ⟨r.toArray⟩, .slice none 0 0, .slice none 0 0] 25 (0, 0))) := heap_alloc_new w1 _
  clear b1 H1
  go_wp2_with fail
  refine (H2 _ (HT.out.later B1.out)).mono ?_
  rintro e w2 ⟨rfl, b2⟩
  have B2 : Hid (Below w.heap.size w w2) := B1.out.trans (b2.mono B1.out.size)
  have X2 : Hid (w2.heap[w1.heap.size]? = some (.cells #[.int .i64 0, .string ⟨r.toArray⟩, .slice none 0 0, .slice none 0 0] 25 (0, 0))) := (b2.block w1.heap.size (by simp)).trans X1.out
  have P2 : Hid (Below w2.heap.size w2 (w2.alloc (.cells #[.int .i64 0, .string ⟨r.toArray⟩, .slice none 0 0, .slice none 0 0] 25))) := (Below.refl _ _).alloc (Nat.le_refl _) _
  have B2a : Hid (Below w.heap.size w (w2.alloc (.cells #[.int .i64 0, .string ⟨r.toArray⟩, .slice none 0 0, .slice none 0 0] 25))) := B2.out.trans (P2.out.mono B2.out.size)
  have X2a : Hid ((w2.alloc (.cells #[.int .i64 0, .string ⟨r.toArray⟩, .slice none 0 0, .slice none 0 0] 25)).heap[w1.heap.size]? = some (.cells #[.int .i64 0, .string ⟨r.toArray⟩, .slice none 0 0, .slice none 0 0] 25 (0, 0))) := (P2.out.block w1.heap.size (lt_of_block X2.out)).trans X2.out
  have Y2 : Hid ((w2.alloc (.cells #[.int .i64 0, .string ⟨r.toArray⟩, .slice none 0 0, .slice none 0 0] 25)).heap[w2.heap.size]? = some (.cells #[.int .i64 0, .string ⟨r.toArray⟩, .slice none 0 0, .slice none 0 0] 25 (0, 0))) := heap_alloc_new w2 _
  obtain ⟨x0, x1, x2, x3, xf⟩ := rep_cells X2a.out
  clear xf
  obtain ⟨y0, y1, y2, y3, yf⟩ := rep_cells Y2.out
  clear yf
  clear b2 X1 X2 B1 B2 P2
  go_wp2_with fail
  refine (eqReplica_same r _).mono ?_
  rintro e w3 ⟨rfl, b3⟩
  have B3 : Hid (Below w.heap.size w w3) := B2a.out.trans (b3.mono B2a.out.size)
  have X3 : Hid (w3.heap[w1.heap.size]? = some (.cells #[.int .i64 0, .string ⟨r.toArray⟩, .slice none 0 0, .slice none 0 0] 25 (0, 0))) := (b3.block w1.heap.size (lt_of_block X2a.out)).trans X2a.out
  have Y3 : Hid (w3.heap[w2.heap.size]? = some (.cells #[.int .i64 0, .string ⟨r.toArray⟩, .slice none 0 0, .slice none 0 0] 25 (0, 0))) := (b3.block w2.heap.size (lt_of_block Y2.out)).trans Y2.out
  clear b3 x0 x1 x2 x3 y0 y1 y2 y3 X2a Y2 B2a
  obtain ⟨y0, y1, y2, y3, yf⟩ := rep_cells Y3.out
  clear yf
  go_wp2_with fail
  refine (markReplica_new r _).mono ?_
  rintro e w4 ⟨rfl, b4⟩
  have B4 : Hid (Below w.heap.size w w4) := B3.out.trans (b4.mono B3.out.size)
  have X4 : Hid (w4.heap[w1.heap.size]? = some (.cells #[.int .i64 0, .string ⟨r.toArray⟩, .slice none 0 0, .slice none 0 0] 25 (0, 0))) := (b4.block w1.heap.size (lt_of_block X3.out)).trans X3.out
  have Y4 : Hid (w4.heap[w2.heap.size]? = some (.cells #[.int .i64 0, .string ⟨r.toArray⟩, .slice none 0 0, .slice none 0 0] 25 (0, 0))) := (b4.block w2.heap.size (lt_of_block Y3.out)).trans Y3.out
  clear b4 y0 y1 y2 y3 X3 Y3 B3
  obtain ⟨y0, y1, y2, y3, yf⟩ := rep_cells Y4.out
  clear yf
  go_wp2_with fail
  refine (heldReplica_new r _).mono ?_
  rintro e w5 ⟨rfl, b5⟩
  have B5 : Hid (Below w.heap.size w w5) := B4.out.trans (b5.mono B4.out.size)
  have X5 : Hid (w5.heap[w1.heap.size]? = some (.cells #[.int .i64 0, .string ⟨r.toArray⟩, .slice none 0 0, .slice none 0 0] 25 (0, 0))) := (b5.block w1.heap.size (lt_of_block X4.out)).trans X4.out
  have Y5 : Hid (w5.heap[w2.heap.size]? = some (.cells #[.int .i64 0, .string ⟨r.toArray⟩, .slice none 0 0, .slice none 0 0] 25 (0, 0))) := (b5.block w2.heap.size (lt_of_block Y4.out)).trans Y4.out
  clear b5 y0 y1 y2 y3 X4 Y4 B4
  go_wp2_with fail
  refine (H2 _ (HT.out.later B5.out)).mono ?_
  rintro e w6 ⟨rfl, b6⟩
  have B6 : Hid (Below w.heap.size w w6) := B5.out.trans (b6.mono B5.out.size)
  have P6 : Hid (Below w6.heap.size w6 (w6.alloc (.cells #[.int .i64 0, .string ⟨r.toArray⟩, .slice none 0 0, .slice none 0 0] 25))) := (Below.refl _ _).alloc (Nat.le_refl _) _
  have B6a : Hid (Below w.heap.size w (w6.alloc (.cells #[.int .i64 0, .string ⟨r.toArray⟩, .slice none 0 0, .slice none 0 0] 25))) := B6.out.trans (P6.out.mono B6.out.size)
  have X6 : Hid (w6.heap[w1.heap.size]? = some (.cells #[.int .i64 0, .string ⟨r.toArray⟩, .slice none 0 0, .slice none 0 0] 25 (0, 0))) := (b6.block w1.heap.size (lt_of_block X5.out)).trans X5.out
  have Y6 : Hid (w6.heap[w2.heap.size]? = some (.cells #[.int .i64 0, .string ⟨r.toArray⟩, .slice none 0 0, .slice none 0 0] 25 (0, 0))) := (b6.block w2.heap.size (lt_of_block Y5.out)).trans Y5.out
  have X6a : Hid ((w6.alloc (.cells #[.int .i64 0, .string ⟨r.toArray⟩, .slice none 0 0, .slice none 0 0] 25)).heap[w1.heap.size]? = some (.cells #[.int .i64 0, .string ⟨r.toArray⟩, .slice none 0 0, .slice none 0 0] 25 (0, 0))) := (P6.out.block w1.heap.size (lt_of_block X6.out)).trans X6.out
  have Y6a : Hid ((w6.alloc (.cells #[.int .i64 0, .string ⟨r.toArray⟩, .slice none 0 0, .slice none 0 0] 25)).heap[w2.heap.size]? = some (.cells #[.int .i64 0, .string ⟨r.toArray⟩, .slice none 0 0, .slice none 0 0] 25 (0, 0))) := (P6.out.block w2.heap.size (lt_of_block Y6.out)).trans Y6.out
  have Z6 : Hid ((w6.alloc (.cells #[.int .i64 0, .string ⟨r.toArray⟩, .slice none 0 0, .slice none 0 0] 25)).heap[w6.heap.size]? = some (.cells #[.int .i64 0, .string ⟨r.toArray⟩, .slice none 0 0, .slice none 0 0] 25 (0, 0))) := heap_alloc_new w6 _
  obtain ⟨x0, x1, x2, x3, xf⟩ := rep_cells X6a.out
  clear xf
  obtain ⟨z0, z1, z2, z3, zf⟩ := rep_cells Z6.out
  clear zf
  clear b6 X5 Y5 B5 X6 Y6 B6 P6
  go_wp2_with fail
  refine (eqReplica_same r _).mono ?_
  rintro e w7 ⟨rfl, b7⟩
  have B7 : Hid (Below w.heap.size w w7) := B6a.out.trans (b7.mono B6a.out.size)
  have Y7 : Hid (w7.heap[w2.heap.size]? = some (.cells #[.int .i64 0, .string ⟨r.toArray⟩, .slice none 0 0, .slice none 0 0] 25 (0, 0))) := (b7.block w2.heap.size (lt_of_block Y6a.out)).trans Y6a.out
  clear b7 x0 x1 x2 x3 z0 z1 z2 z3 X6a Y6a Z6 B6a
  obtain ⟨y0, y1, y2, y3, yf⟩ := rep_cells Y7.out
  clear yf
  go_wp2_with fail
  refine (heldReplica_new r _).mono ?_
  rintro e w8 ⟨rfl, b8⟩
  have B8 : Hid (Below w.heap.size w w8) := B7.out.trans (b8.mono B7.out.size)
  clear b8 y0 y1 y2 y3 Y7 B7
  go_wp2
  go_ret
  exact ⟨rfl, B8.out⟩

set_option maxRecDepth 100000 in
theorem lifted (os : Os) (started : os.Started) (H : Type) (enc : TypeId × Value → H) :
    ReturnsInHanded {} Tryd.checked os 3 .any (fun w args => (Rows.fnExactReplicaNewSpec.pre enc Tryd.prog Tryd.f3 [] false w args ∧ laidMetH Tryd.prog Rows.fnExactReplicaNewRow.laid w) ∧ sizedMet enc Tryd.prog Tryd.f3 (OpenSpec.ofChange Rows.fnExactReplicaNewSpec) false w args)
      (Rows.fnExactReplicaNewSpec.post enc Tryd.prog Tryd.f3 false true false false) := by
  refine returnsInHanded_of_change_and (C := Tryd.checked) (X := fun w _ => laidMetH Tryd.prog Rows.fnExactReplicaNewRow.laid w) (fun _ _ _ hh h => h.of_heap hh) own started (by kernel_rfl) Tryd.func3
    (ChangeSpec.witness_shaped (enc := enc) (C := Tryd.checked) (os := os) (X := fun w _ => laidMetH Tryd.prog Rows.fnExactReplicaNewRow.laid w) false (World.doorLaid Tryd.prog 400 os) #[] 8 rfl (World.shaped_of_RefB (by kernel_rfl) (by kernel_rfl)) (by kernel_rfl) (by kernel_rfl) (by kernel_rfl) (door_met os _)) ?_
  intro W base args ds gs before hval0 hW _ _ hL _
  have hval : ∀ (j : Nat) t v, Tryd.f3.params[j]? = some t → args[j]? = some v → Value.okWide Tryd.prog W .any base t v := hval0
  have hW' := hW
  obtain ⟨p, q, hA0, hV0, rfl, hfz, hnd⟩ := hW
  have hA : DataW.TrodAll enc Tryd.prog W 0 (fun _ => true) true Tryd.f3.params.toList args.toList ds p := hA0
  have hV : DataW.TrodVars enc Tryd.prog W (fun _ => true) ["loop.example/g00226/impl.roundWords"] gs q := hV0
  rw [Tryd.params3] at hA hval
  obtain ⟨hnil, rfl, rfl⟩ := trodAll_nil hA
  obtain rfl : args = #[] := by cases args; simp_all
  obtain ⟨g, t, cs, fuel, d, p', rfl, hg, ht, hvar, hd, rfl⟩ := trodVars_one hV
  obtain rfl := Option.some.inj (gTab.symm.trans hg)
  obtain rfl := Option.some.inj (tTab.symm.trans ht)
  have hT := tab_of hL
  have hltv : ∀ x ∈ p', x.block < W.heap.size := fun x hx => hW'.lt x (List.mem_append_right _ (List.mem_append_right _ hx))
  clear hA0 hV0 hval0 hA hV
  refine (walk W hT).mono fun e W' ⟨he, hB⟩ => ?_
  subst he
  obtain ⟨fuel', hd'⟩ := Below.trod laidOut0 (by kernel_rfl) (of_decide_eq_true (by kernel_rfl)) (v := .agg cs) (⟨fuel, by simpa [Value.cells] using hd⟩ : DataW.Trod enc Tryd.prog W 0 (fun _ => true) true 103 (.agg cs) d p') hB hltv
  have hv' := trodVars_mk1 (enc := enc) (spare := fun b => decide (b < W.heap.size)) hg ht (var?_below hB hg hT.1 hvar) (by simpa [Value.cells] using hd')
  exact ⟨_, rfl, _, _, _, [], _, _, hW', trodAll_mk1 (shut_bool Tryd.underlying4 _), trodAll_mk0, hv', hB.frame _, fun h => by cases h⟩

theorem named0 : Tryd.prog.funcNamed "loop.example/g00226/laws.FnExactReplicaNew" = some 3 := by kernel_rfl
theorem closed0 : joinedFacts Tryd.prog 3 Tryd.f3 Rows.fnExactReplicaNewSpec Rows.fnExactReplicaNewRow = true := by
  unfold joinedFacts
  rw [seat_may, seat_lifts, seat_make]
  kernel_rfl
theorem inst0 : Tryd.f3.isInstance Tryd.prog Rows.fnExactReplicaNewRow.origin Rows.fnExactReplicaNewRow.targs := of_decide_eq_true (by kernel_rfl)
theorem wrap0 : Tryd.f3.isWrapper Tryd.prog Rows.fnExactReplicaNewRow.wrapper Rows.fnExactReplicaNewRow.mainSum := by unfold Func.isWrapper; first | (rw [if_pos (by decide +kernel)]; kernel_rfl) | (rw [if_neg (by decide +kernel)]; exact ⟨rfl, rfl⟩)

theorem over : Rows.fnExactReplicaNewRow.holds Tryd.pinned (OpenSpec.ofChange Rows.fnExactReplicaNewSpec) :=
  OpenClaim.holds_of_wide 3 Tryd.f3 rfl rfl rfl rfl rfl rfl rfl ⟨rfl, rfl, rfl, rfl, rfl⟩ rfl rfl rfl rfl rfl named0 Tryd.func3 closed0 inst0 wrap0
    (fun os started H enc _ => lifted os started H enc)

theorem text0 : Rows.fnExactReplicaNewRow.wfByText (OpenSpec.ofChange Rows.fnExactReplicaNewSpec) = true := by kernel_rfl
theorem looks0 : false = Tryd.prog.looks [] := by kernel_rfl
theorem goes0 : false = Rows.fnExactReplicaNewRow.goesBy Tryd.prog := by kernel_rfl
theorem wants0 : (([] : List TypeId).all fun u => !Tryd.prog.wantsStandIn u) = true := by kernel_rfl

theorem card : Claim7.holds Tryd.pinned (.plain (OpenSpec.ofChange Rows.fnExactReplicaNewSpec)) Rows.fnExactReplicaNewCard :=
  Claim7.holds_tied_plain_at .later [] [.data] true (true, Rows.fnExactReplicaNewCard.stood.harness.2) false
    over (fun _ h => by cases h) text0 (fun _ h => by cases h) fnExactReplicaNew_row_tie rfl ⟨rfl, rfl⟩ seat_main rfl
    (fun f fn hf hfn => by
      obtain rfl : f = 3 := Option.some.inj (named0.symm.trans hf) |>.symm
      obtain rfl : fn = Tryd.f3 := (Option.some.inj (Tryd.func3.symm.trans hfn)).symm
      exact ⟨looks0, fun j t ht => by
        rw [Tryd.params3] at ht
        have hm : t ∈ ([] : List TypeId) := by simpa using Array.mem_of_getElem? ht
        exact (show Tryd.prog.wantsStandIn t = false by simpa using List.all_eq_true.1 wants0 t hm)⟩)
    goes0

end Go.Proofs.YtjlkeoocddianaaDoor.fnExactReplicaNew
namespace Go.Proofs.YtjlkeoocddianaaDoor
theorem fnExactReplicaNew_holds : Rows.FnExactReplicaNewCardSaid := fnExactReplicaNew.card
end Go.Proofs.YtjlkeoocddianaaDoor
