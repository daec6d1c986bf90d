/-
  At every text ImportNew answers as its model; its answer owns its memory. No condition.
-/
import Derived.Test.YtcgodnmbehjfaaaImp
import Derived.Test.YtcgodnmbehjfaaaRows
import Derived.ProofKit
import Derived.OpenShut
import Derived.ShutString
import Derived.ChangeOld
import Derived.Below
namespace Go.Proofs.Ytcgodnmbehjfaaa.fnExactImportNew
open Go.ChangeShapes Go.WideShapes Go.ChangeAt Go.RowKit
open Go.ChangeMaps (open_string shut_string)
set_option linter.unusedVariables false

theorem own : ownKnob Try.prog.godebug = none := by kernel_rfl

set_option maxRecDepth 100000 in
set_option maxHeartbeats 1000000 in
theorem walk (a0 : ByteArray) (w0 : a0.size ≤ maxLen) (w : World) :
    Calls Try.prog 3 #[.string a0] w fun e w' => e = .returned (.bool true) ∧ Below w.heap.size w w' := by
  unfold maxLen at w0
  by_cases hb : a0.size ≤ 1048576
  · have e1 : a0 = ⟨a0.data.toList.toArray⟩ := ba_eq a0
    have hkl : a0.data.toList.length ≤ 1048576 := by rw [Array.length_toList]; exact hb
    obtain ⟨k, hk⟩ : ∃ k, k = a0.data.toList := ⟨_, rfl⟩
    rw [← hk] at e1 hkl
    clear hk
    subst e1
    have K1 : Hid (∀ W, Calls Try.prog 6 #[.string ⟨k.toArray⟩] W _) := fun W => spec_importNew k W hkl
    have K2 : Hid (∀ W, Calls Try.prog 7 #[.string ⟨k.toArray⟩] W _) := fun W => impl_importNew k W hkl
    obtain ⟨r, hr⟩ : ∃ r, r = (if k.length = 32 then k else []) := ⟨_, rfl⟩
    obtain ⟨ok, hok⟩ : ∃ ok, ok = decide (k.length = 32) := ⟨_, rfl⟩
    rw [← hr, ← hok] at K1 K2
    clear hr hok
    have hn : ∀ (W : World) b, W.ownsRow b 53 2 (.slice none 0 0) ([] : List PairL).length (pcells []) := fun W b => World.ownsRow_nil _ _ _ _
    have hm : ∀ (W : World) b, W.ownsRow b 53 2 (.slice none 0 0) 0 (pcells (marksP 1 0)) := fun W b => World.ownsRow_nil _ _ _ _
    have HE : Hid (∀ W, Calls Try.prog 8 #[.agg #[.string ⟨r.toArray⟩, .slice none 0 0, .bool false], .agg #[.string ⟨r.toArray⟩, .slice none 0 0, .bool false]] W fun e w' => e = .returned (.bool true) ∧ Below W.heap.size W w') := fun W => eqImport_same r false [] none none 0 0 W (by simp) (.inl rfl) (.inl rfl)
    have HM : Hid (∀ W, Calls Try.prog 9 #[.agg #[.string ⟨r.toArray⟩, .slice none 0 0, .bool false], .int .i64 1] W fun e w' => e = .returned (.int .i64 1) ∧ Below W.heap.size W w') := fun W => (markImport_any r false [] none 0 0 0 1 W (by simp) (by omega) (by omega) (hn W 0)).mono (by
      rintro e w' ⟨rfl, _, g⟩
      exact ⟨rfl, below_of_grown g⟩)
    have HH : Hid (∀ W, Calls Try.prog 10 #[.agg #[.string ⟨r.toArray⟩, .slice none 0 0, .bool false], .int .i64 1] W fun e w' => e = .returned (.int .i64 1) ∧ Below W.heap.size W w') := fun W => (heldImport_any r false 0 none 0 0 0 1 W (by simp) (by omega) (by omega) (hm W 0)).mono (by
      rintro e w' ⟨rfl, b⟩
      exact ⟨rfl, b⟩)
    clear hn hm
    go_enter Try.func3, Try.ntmps3
    go_wp2_with fail
    refine (K1.out _).mono ?_
    rintro e w1 ⟨rfl, b1⟩
    have B1 := b1
    clear K1 b1
    have x1 := heap_alloc_new w1 (.cells #[.string ⟨r.toArray⟩, .slice none 0 0, .bool false] 24)
    have BX : Below w.heap.size w (w1.alloc (.cells #[.string ⟨r.toArray⟩, .slice none 0 0, .bool false] 24)) := B1.alloc B1.size _
    have KX := K2.out (w1.alloc (.cells #[.string ⟨r.toArray⟩, .slice none 0 0, .bool false] 24))
    go_wp2_with fail
    refine KX.mono ?_
    rintro e w2 ⟨rfl, b2⟩
    have B2 := BX.trans (b2.mono BX.size)
    have n1 : w1.heap.size < w2.heap.size := by have := b2.size; simp at this; omega
    have k1 := (b2.block w1.heap.size (by simp)).trans x1
    have y1 : (w2.alloc (.cells #[.string ⟨r.toArray⟩, .slice none 0 0, .bool false] 24)).heap[w1.heap.size]? = _ := (Below.heap_alloc w2 (.cells #[.string ⟨r.toArray⟩, .slice none 0 0, .bool false] 24) w1.heap.size (by omega)).trans k1
    have y2 := heap_alloc_new w2 (.cells #[.string ⟨r.toArray⟩, .slice none 0 0, .bool false] 24)
    have BY : Below w.heap.size w (w2.alloc (.cells #[.string ⟨r.toArray⟩, .slice none 0 0, .bool false] 24)) := B2.alloc B2.size _
    have KE := HE.out (w2.alloc (.cells #[.string ⟨r.toArray⟩, .slice none 0 0, .bool false] 24))
    obtain ⟨c0, c1, c2, _⟩ := im_cells y1
    obtain ⟨d0, d1, d2, _⟩ := im_cells y2
    clear KX x1 BX b2 B1 k1
    go_wp2_with fail
    refine KE.mono ?_
    rintro e w3 ⟨rfl, b3⟩
    have B3 := BY.trans (b3.mono BY.size)
    have m1 := (b3.block w1.heap.size (by simp; omega)).trans y1
    have m2 := (b3.block w2.heap.size (by simp)).trans y2
    have n2 : w2.heap.size < w3.heap.size := by have := b3.size; simp at this; omega
    obtain ⟨c0, c1, c2, _⟩ := im_cells m2
    clear KE y1 y2 BY b3 B2 d0 d1 d2
    go_wp2_with fail
    refine (HM.out _).mono ?_
    rintro e w4 ⟨rfl, b4⟩
    have B4 := B3.trans (b4.mono B3.size)
    have s4 := b4.size
    have m3 := (b4.block w1.heap.size (by omega)).trans m1
    have m4 := (b4.block w2.heap.size (by omega)).trans m2
    obtain ⟨d0, d1, d2, _⟩ := im_cells m4
    clear b4 B3 m1 m2 c0 c1 c2 HM
    go_wp2_with fail
    refine (HH.out _).mono ?_
    rintro e w5 ⟨rfl, b5⟩
    have B5 := B4.trans (b5.mono B4.size)
    have s5 := b5.size
    have m5 := (b5.block w1.heap.size (by omega)).trans m3
    have m6 := (b5.block w2.heap.size (by omega)).trans m4
    clear b5 B4 m3 m4 d0 d1 d2
    go_wp2_with fail
    refine (K2.out _).mono ?_
    rintro e w6 ⟨rfl, b6⟩
    have B6 := B5.trans (b6.mono B5.size)
    have s6 := b6.size
    have m7 := (b6.block w1.heap.size (by omega)).trans m5
    have m8 := (b6.block w2.heap.size (by omega)).trans m6
    have y1 : (w6.alloc (.cells #[.string ⟨r.toArray⟩, .slice none 0 0, .bool false] 24)).heap[w1.heap.size]? = _ := (Below.heap_alloc w6 (.cells #[.string ⟨r.toArray⟩, .slice none 0 0, .bool false] 24) w1.heap.size (by omega)).trans m7
    have y3 : (w6.alloc (.cells #[.string ⟨r.toArray⟩, .slice none 0 0, .bool false] 24)).heap[w2.heap.size]? = _ := (Below.heap_alloc w6 (.cells #[.string ⟨r.toArray⟩, .slice none 0 0, .bool false] 24) w2.heap.size (by omega)).trans m8
    have y2 := heap_alloc_new w6 (.cells #[.string ⟨r.toArray⟩, .slice none 0 0, .bool false] 24)
    have BY : Below w.heap.size w (w6.alloc (.cells #[.string ⟨r.toArray⟩, .slice none 0 0, .bool false] 24)) := B6.alloc B6.size _
    have KE := HE.out (w6.alloc (.cells #[.string ⟨r.toArray⟩, .slice none 0 0, .bool false] 24))
    obtain ⟨c0, c1, c2, _⟩ := im_cells y1
    obtain ⟨d0, d1, d2, _⟩ := im_cells y2
    clear b6 B5 m5 m6 m7 m8 K2 HE
    go_wp2_with fail
    refine KE.mono ?_
    rintro e w7 ⟨rfl, b7⟩
    have B7 := BY.trans (b7.mono BY.size)
    have m1 := (b7.block w2.heap.size (by simp; omega)).trans y3
    obtain ⟨e0, e1, e2, _⟩ := im_cells m1
    clear KE y1 y2 y3 BY b7 B6 d0 d1 d2 c0 c1 c2
    go_wp2_with fail
    refine (HH.out _).mono ?_
    rintro e w8 ⟨rfl, b8⟩
    have B8 := B7.trans (b8.mono B7.size)
    clear HH b8
    go_wp2
    go_ret
    exact ⟨rfl, B8⟩
  · go_enter Try.func3, Try.ntmps3
    go_wp2
    go_ret
    exact ⟨rfl, Below.refl _ _⟩

set_option maxRecDepth 100000 in
theorem lifted (os : Os) (started : os.Started) (H : Type) (enc : TypeId × Value → H) :
    ReturnsInHanded {} Try.checked os 3 .any (Rows.fnExactImportNewSpec.pre6 enc Try.prog Try.f3 Rows.fnExactImportNewRow.domain false) (Rows.fnExactImportNewSpec.post enc Try.prog Try.f3 false true false false) := by
  refine returnsInHanded_of_change (C := Try.checked) own started (by kernel_rfl) Try.func3
    (ChangeSpec.witness6 (enc := enc) (C := Try.checked) false ⟨#[], #[.string ByteArray.empty], []⟩ 8 (by kernel_rfl) (by kernel_rfl) (by kernel_rfl) (by kernel_rfl)) ?_
  intro W base args ds gs before hval0 hW hcnd _
  have hval : ∀ (j : Nat) t v, Try.f3.params[j]? = some t → args[j]? = some v → Value.okWide Try.prog W .any base t v := hval0
  have hW' := hW
  obtain ⟨p, q, hA0, hV, rfl, hfz, hnd⟩ := hW
  have hA : DataW.TrodAll enc Try.prog W 0 (fun _ => true) true Try.f3.params.toList args.toList ds p := hA0
  rw [Try.params3] at hA hval
  obtain ⟨v0, vs0, d0, ds0, p0, q0, hargs, rfl, rfl, h0, r0⟩ := trodAll_cons hA
  obtain ⟨rfl, rfl, rfl⟩ := trodAll_nil r0
  obtain rfl : args = #[v0] := by cases args; simp_all
  obtain ⟨rfl, rfl⟩ := trodVars_none hV
  obtain ⟨a0, rfl, rfl, rfl, w0⟩ := open_string Try.underlying9 (hval 0 9 v0 rfl rfl) h0
  clear hA0 hval0
  simp only [List.append_nil] at hW'
  refine (walk a0 w0 W).mono fun e W' ⟨he, bel⟩ => ?_
  subst he
  exact ⟨_, rfl, _, _, _, [], _, [], hW', trodAll_mk1 (shut_bool Try.underlying4 _), (trodAll_cons_mk (shut_string Try.underlying9 w0) trodAll_mk0), rfl, bel.frame _, fun h => by cases h⟩

theorem over : Rows.fnExactImportNewRow.holds Try.pinned (OpenSpec.ofChange Rows.fnExactImportNewSpec) :=
  OpenClaim.holds_of_wide 3 Try.f3 rfl rfl rfl rfl rfl rfl rfl ⟨rfl, rfl, rfl, rfl, rfl⟩ rfl rfl rfl rfl rfl (by kernel_rfl) Try.func3 (by kernel_rfl)
    (of_decide_eq_true (by kernel_rfl)) (by unfold Func.isWrapper; first | (rw [if_pos (by decide +kernel)]; kernel_rfl) | (rw [if_neg (by decide +kernel)]; exact ⟨rfl, rfl⟩))
    (fun os started H enc _ => lifted os started H enc)

end Go.Proofs.Ytcgodnmbehjfaaa.fnExactImportNew
namespace Go.Proofs.Ytcgodnmbehjfaaa
theorem fnExactImportNew_holds : Rows.FnExactImportNewSaid := fnExactImportNew.over
end Go.Proofs.Ytcgodnmbehjfaaa
