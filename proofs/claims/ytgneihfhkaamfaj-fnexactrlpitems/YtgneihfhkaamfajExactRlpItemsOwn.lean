/-
  At every text RlpItems answers as its model: the items of the list that it is, each as its bytes, or false; the answer owns its memory. No condition.
-/
import Derived.Test.YtgneihfhkaamfajSItems
import Derived.Test.YtgneihfhkaamfajIItems
import Derived.Test.YtgneihfhkaamfajStrs
import Derived.ProofKit
import Derived.OpenShut
import Derived.ShutString
import Derived.ChangeOld
import Derived.Below
namespace Go.Proofs.Ytgneihfhkaamfaj.fnExactRlpItems
open Go.ChangeShapes Go.WideShapes Go.ChangeAt Go.RowKit
open Go.ChangeMaps (open_string shut_string)
set_option linter.unusedVariables false

theorem own : ownKnob Try.prog.godebug = none := by kernel_rfl

set_option maxHeartbeats 400000 in
theorem walk (a0 : ByteArray) (w0 : a0.size ≤ maxLen) (w : World) :
    Calls Try.prog 5 #[.string a0] w fun e w' => e = .returned (.bool true) ∧ Below w.heap.size w w' := by
  unfold maxLen at w0
  obtain ⟨l, rfl⟩ : ∃ l : List UInt8, a0 = ⟨l.toArray⟩ := ⟨a0.data.toList, ba_eq a0⟩
  have hz : (ByteArray.mk l.toArray).size = l.length := by simp [ByteArray.size]
  rw [hz] at w0
  clear hz
  by_cases hb : l.length ≤ 1048576
  · have hb' : (l.length : Int) ≤ 1048576 := by omega
    obtain ⟨ls, hls⟩ : ∃ ls, ls = (itemsL l).getD [] := ⟨_, rfl⟩
    obtain ⟨fl, hfl⟩ : ∃ fl, fl = (itemsL l).isSome := ⟨_, rfl⟩
    have H1 : ∀ W : World, Calls Try.prog 16 #[.string ⟨l.toArray⟩] W fun e w' => ∃ v, e = .returned (.tuple #[v, .bool fl]) ∧ w'.ownsRow W.heap.size 9 1 v ls.length (scells ls) ∧ Below W.heap.size W w' ∧ ls.length ≤ 1048576 :=
      fun W => (spec_items l W hb).mono fun e w' h => by rw [hls, hfl]; exact items_uni h
    have H2 : ∀ W : World, Calls Try.prog 17 #[.string ⟨l.toArray⟩] W fun e w' => ∃ v, e = .returned (.tuple #[v, .bool fl]) ∧ w'.ownsRow W.heap.size 9 1 v ls.length (scells ls) ∧ Below W.heap.size W w' ∧ ls.length ≤ 1048576 :=
      fun W => (impl_items l W hb).mono fun e w' h => by rw [hls, hfl]; exact items_uni h
    clear hls hfl
    go_enter Try.func5, Try.ntmps5
    go_wp2_with fail
    refine (H1 _).mono ?_
    rintro e w1 ⟨v0, rfl, o0, b1, hn⟩
    go_wp2_with fail
    refine (H2 _).mono ?_
    rintro e w2 ⟨v1, rfl, o1, b2, _⟩
    have o0' := o0.kept (grown_of_below b2 none) (by cases h : v0.ownBlock with
      | none => exact .inl rfl
      | some k => exact .inr (by simp))
    have s1 := b1.size
    have s2 := b2.size
    have hw2 := b1.trans (b2.mono s1)
    have n01 : ∀ k, v0.ownBlock = some k → v1.ownBlock ≠ some k := fun k h h' => by have := (o0.lt k h).2; have := (o1.lt k h').1; omega
    have lt1 := o1.lt
    have O0 := hidOwn o0'
    have O1 := hidOwn o1
    clear o0 o0' o1 b1 b2
    go_wp2_with fail
    refine (eqS_same ls v1 v0 _ _ _ (by omega) O1.out O0.out).mono ?_
    rintro e w3 ⟨rfl, q, rfl⟩
    go_wp2_with fail
    refine (markS_one ls v1 w1.heap.size _ (by omega) (own_drewN' O1.out q)).mono ?_
    rintro e w4 ⟨rfl, o4, g4⟩
    have e4 : w4.ownsRow w.heap.size 9 1 v0 ls.length (scells ls) := (own_drewN' O0.out q).kept g4 (by cases h : v0.ownBlock with
      | none => exact .inl rfl
      | some k => exact .inr (Ne.symm (n01 k h)))
    have hw4 : Below w.heap.size w w4 := (below_drewN hw2 q).grown g4 (by simp; omega) (fun k h => by have := (lt1 k h).1; omega)
    have O4 := hidOwn o4
    have E4 := hidOwn e4
    clear O0 O1 o4 e4 g4 hw2
    go_wp2_with fail
    refine (heldS_one ls.length v1 w1.heap.size _ (by omega) O4.out).mono ?_
    rintro e w5 ⟨rfl, g5⟩
    have o5 := O4.out.kept g5 (by cases h : v1.ownBlock with
      | none => exact .inl rfl
      | some k => exact .inr (by simp))
    have e5 := E4.out.kept g5 (by cases h : v0.ownBlock with
      | none => exact .inl rfl
      | some k => exact .inr (by simp))
    have hw5 : Below w.heap.size w w5 := hw4.grown g5 hw4.size (by simp)
    have O5 := hidOwn o5
    have E5 := hidOwn e5
    clear O4 E4 o5 e5 g5 hw4
    go_wp2_with fail
    refine (H2 _).mono ?_
    rintro e w6 ⟨v2, rfl, o6, b6, _⟩
    have e6 := E5.out.kept (grown_of_below b6 none) (by cases h : v0.ownBlock with
      | none => exact .inl rfl
      | some k => exact .inr (by simp))
    have f6 := O5.out.kept (grown_of_below b6 none) (by cases h : v1.ownBlock with
      | none => exact .inl rfl
      | some k => exact .inr (by simp))
    have hw6 := hw5.trans (b6.mono hw5.size)
    have O6 := hidOwn o6
    have E6 := hidOwn e6
    have F6 := hidOwn f6
    clear O5 E5 o6 e6 f6 b6 hw5
    go_wp2_with fail
    refine (eqS_same ls v2 v0 _ _ _ (by omega) O6.out E6.out).mono ?_
    rintro e w7 ⟨rfl, q7, rfl⟩
    go_wp2_with fail
    refine (heldS_one ls.length v1 w1.heap.size _ (by omega) (own_drewN' F6.out q7)).mono ?_
    rintro e w8 ⟨rfl, g8⟩
    have hw8 : Below w.heap.size w w8 := (below_drewN hw6 q7).grown g8 (by have := hw6.size; simp; omega) (by simp)
    clear g8 hw6
    go_wp2
    go_ret
    exact ⟨rfl, hw8⟩
  · have hb' : ¬ (l.length : Int) ≤ 1048576 := by omega
    go_enter Try.func5, Try.ntmps5
    go_wp2
    go_ret
    exact ⟨rfl, Below.refl _ _⟩

set_option maxRecDepth 100000 in
theorem lifted (os : Os) (started : os.Started) (H : Type) (enc : TypeId × Value → H) :
    ReturnsInHanded {} Try.checked os 5 .any (Rows.fnExactRlpItemsSpec.pre6 enc Try.prog Try.f5 Rows.fnExactRlpItemsRow.domain false) (Rows.fnExactRlpItemsSpec.post enc Try.prog Try.f5 false true false false) := by
  refine returnsInHanded_of_change (C := Try.checked) own started (by kernel_rfl) Try.func5
    (ChangeSpec.witness6 (enc := enc) (C := Try.checked) false ⟨#[], #[.string ByteArray.empty], []⟩ 8 (by kernel_rfl) (by kernel_rfl) (by kernel_rfl) (by kernel_rfl)) ?_
  intro W base args ds gs before hval0 hW hcnd _
  have hval : ∀ (j : Nat) t v, Try.f5.params[j]? = some t → args[j]? = some v → Value.okWide Try.prog W .any base t v := hval0
  have hW' := hW
  obtain ⟨p, q, hA0, hV, rfl, hfz, hnd⟩ := hW
  have hA : DataW.TrodAll enc Try.prog W 0 (fun _ => true) true Try.f5.params.toList args.toList ds p := hA0
  rw [Try.params5] at hA hval
  obtain ⟨v0, vs0, d0, ds0, p0, q0, hargs, rfl, rfl, h0, r0⟩ := trodAll_cons hA
  obtain ⟨rfl, rfl, rfl⟩ := trodAll_nil r0
  obtain rfl : args = #[v0] := by cases args; simp_all
  obtain ⟨rfl, rfl⟩ := trodVars_none hV
  obtain ⟨a0, rfl, rfl, rfl, w0⟩ := open_string Try.underlying9 (hval 0 9 v0 rfl rfl) h0
  clear hA0 hval0
  simp only [List.append_nil] at hW'
  refine (walk a0 w0 W).mono fun e W' ⟨he, bel⟩ => ?_
  subst he
  exact ⟨_, rfl, _, _, _, [], _, [], hW', trodAll_mk1 (shut_bool Try.underlying4 _), (trodAll_cons_mk (shut_string Try.underlying9 w0) trodAll_mk0), rfl, bel.frame _, fun h => by cases h⟩

theorem over : Rows.fnExactRlpItemsRow.holds Try.pinned (OpenSpec.ofChange Rows.fnExactRlpItemsSpec) :=
  OpenClaim.holds_of_wide 5 Try.f5 rfl rfl rfl rfl rfl rfl rfl ⟨rfl, rfl, rfl, rfl, rfl⟩ rfl rfl rfl rfl rfl (by kernel_rfl) Try.func5 (by kernel_rfl)
    (of_decide_eq_true (by kernel_rfl)) (by unfold Func.isWrapper; first | (rw [if_pos (by decide +kernel)]; kernel_rfl) | (rw [if_neg (by decide +kernel)]; exact ⟨rfl, rfl⟩))
    (fun os started H enc _ => lifted os started H enc)

end Go.Proofs.Ytgneihfhkaamfaj.fnExactRlpItems
namespace Go.Proofs.Ytgneihfhkaamfaj
theorem fnExactRlpItems_holds : Rows.FnExactRlpItemsSaid := fnExactRlpItems.over
end Go.Proofs.Ytgneihfhkaamfaj
