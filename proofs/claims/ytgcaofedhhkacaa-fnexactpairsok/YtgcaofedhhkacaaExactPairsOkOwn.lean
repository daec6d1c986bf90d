/-
  At every list of pairs PairsOk answers as its model; it writes into no argument. No condition.
-/
import Derived.Test.YtgcaofedhhkacaaPairS
import Derived.Test.YtgcaofedhhkacaaPairOk
import Derived.Test.YtgcaofedhhkacaaOpen5
import Derived.ProofKit
import Derived.OpenShut
import Derived.ShutString
import Derived.ChangeOld
import Derived.Below
import Derived.SliceStrings
namespace Go.Proofs.Ytgcaofedhhkacaa.fnExactPairsOk
open Go.ChangeShapes Go.WideShapes Go.ChangeAt Go.RowKit
open Go.ChangeMaps (open_string shut_string)
set_option linter.unusedVariables false

theorem own : ownKnob Try.prog.godebug = none := by kernel_rfl
theorem laidOut : laidOutB Try.prog = true := by kernel_rfl

theorem sizes_le (ps : List PairL) (h : ps.length + sizeP ps ≤ 1048576) : ∀ p ∈ ps, p.1.length ≤ 1048576 ∧ p.2.length ≤ 1048576 := by
  intro p hp
  obtain ⟨j, hj, rfl⟩ := List.getElem_of_mem hp
  have := sizeP_le ps j hj
  exact ⟨by omega, by omega⟩

set_option maxRecDepth 100000 in
set_option maxHeartbeats 400000 in
theorem walk (a : Option Addr) (cap : Nat) (ps : List PairL) (w : World) (hl : ps.length ≤ 9223372036854775807) (hm : ∀ p ∈ ps, p.1.length ≤ 9223372036854775807 ∧ p.2.length ≤ 9223372036854775807) (hs : IsPairs w a ps) :
    Calls Try.prog 4 #[.slice a ps.length cap] w fun e w' => e = .returned (.bool true) ∧ Below w.heap.size w w' := by
  have HK := szPairS_any a cap ps w hl hm hs
  have HS : Hid (∀ W, Below w.heap.size w W → IsPairs W a ps) := fun W hW => hs.later hW
  clear hs hm
  go_enter Try.func4, Try.ntmps4
  go_wp2_with fail
  refine HK.mono ?_
  rintro e w0 ⟨he, b0⟩
  rcases he with rfl | ⟨hb, n, rfl⟩
  · go_wp2
    go_ret
    exact ⟨rfl, b0⟩
  · have hln : ps.length ≤ 1048576 := by omega
    have HM : Hid (∀ p ∈ ps, p.1.length ≤ 1048576 ∧ p.2.length ≤ 1048576) := sizes_le ps hb
    obtain ⟨r, hr⟩ : ∃ r, r = pairsOkL ps := ⟨_, rfl⟩
    have H1 := fun a c W h => spec_pairsOk a c ps W hln HM.out h
    have H2 := fun a c W h => impl_pairsOk a c ps W hln HM.out h
    rw [← hr] at H1 H2
    have HH1 : Hid (∀ a c W, IsPairs W a ps → Calls Try.prog 17 #[.slice a ps.length c] W fun e w' => e = .returned (.bool r) ∧ Below W.heap.size W w') := H1
    have HH2 : Hid (∀ a c W, IsPairs W a ps → Calls Try.prog 19 #[.slice a ps.length c] W fun e w' => e = .returned (.bool r) ∧ Below W.heap.size W w') := H2
    clear HK hb H1 H2 hr
    go_wp2_with fail
    refine (toPairS_any a cap ps _ hln (HS.out _ b0)).mono ?_
    rintro e w1 ⟨rfl, o1, b1⟩
    have B1 := b0.trans (b1.mono b0.size)
    have I1 := (isPairs_own o1).2.2
    have HI1 : Hid (IsPairs w1 (some ⟨w0.heap.size, 0, none⟩) ps) := I1
    clear o1 b1 I1
    go_wp2_with fail
    refine (HH1.out _ _ _ HI1.out).mono ?_
    rintro e w2 ⟨rfl, b2⟩
    have B2 := B1.trans (b2.mono B1.size)
    clear b2 HI1
    go_wp2_with fail
    refine (toPairS_any a cap ps _ hln (HS.out _ B2)).mono ?_
    rintro e w3 ⟨rfl, o3, b3⟩
    have B3 := B2.trans (b3.mono B2.size)
    have HI3 : Hid (IsPairs w3 (some ⟨w2.heap.size, 0, none⟩) ps) := (isPairs_own o3).2.2
    clear o3 b3
    go_wp2_with fail
    refine (HH2.out _ _ _ HI3.out).mono ?_
    rintro e w4 ⟨rfl, b4⟩
    have B4 := B3.trans (b4.mono B3.size)
    have HI4 : Hid (IsPairs w4 (some ⟨w2.heap.size, 0, none⟩) ps) := HI3.out.later b4
    clear b4 HI3
    go_wp2_with fail
    refine (toPairS_any a cap ps _ hln (HS.out _ B4)).mono ?_
    rintro e w5 ⟨rfl, o5, b5⟩
    have B5 := B4.trans (b5.mono B4.size)
    have HI5 : Hid (IsPairs w5 (some ⟨w4.heap.size, 0, none⟩) ps) := (isPairs_own o5).2.2
    have HJ5 : Hid (IsPairs w5 (some ⟨w2.heap.size, 0, none⟩) ps) := HI4.out.later b5
    clear o5 b5 HI4
    go_wp2_with fail
    refine (eqPairS_same ps _ _ _ _ _ (by omega) HJ5.out HI5.out).mono ?_
    rintro e w6 ⟨rfl, b6⟩
    have B6 := B5.trans (b6.mono B5.size)
    go_wp2
    go_ret
    exact ⟨rfl, B6⟩

set_option maxRecDepth 100000 in
theorem lifted (os : Os) (started : os.Started) (H : Type) (enc : TypeId × Value → H) :
    ReturnsInHanded {} Try.checked os 4 .any (Rows.fnExactPairsOkSpec.pre6 enc Try.prog Try.f4 Rows.fnExactPairsOkRow.domain false) (Rows.fnExactPairsOkSpec.post enc Try.prog Try.f4 false true false false) := by
  refine returnsInHanded_of_change (C := Try.checked) own started (by kernel_rfl) Try.func4
    (ChangeSpec.witness6 (enc := enc) (C := Try.checked) false ⟨#[], #[.slice none 0 0], []⟩ 8 (by kernel_rfl) (by kernel_rfl) (by kernel_rfl) (by kernel_rfl)) ?_
  intro W base args ds gs before hval0 hW hcnd _
  have hval : ∀ (j : Nat) t v, Try.f4.params[j]? = some t → args[j]? = some v → Value.okWide Try.prog W .any base t v := hval0
  have hW' := hW
  obtain ⟨p, q, hA0, hV, rfl, hfz, hnd⟩ := hW
  have hA : DataW.TrodAll enc Try.prog W 0 (fun _ => true) true Try.f4.params.toList args.toList ds p := hA0
  rw [Try.params4] at hA hval
  obtain ⟨v0, vs0, d0, ds0, p0, q0, hargs, rfl, rfl, h0, r0⟩ := trodAll_cons hA
  obtain ⟨rfl, rfl, rfl⟩ := trodAll_nil r0
  obtain rfl : args = #[v0] := by cases args; simp_all
  obtain ⟨rfl, rfl⟩ := trodVars_none hV
  have k0 := h0
  have lt0 : ∀ x ∈ p0, x.block < W.heap.size := by obtain ⟨m, hm⟩ := k0; exact DataW.trod_lt m _ _ _ hm
  obtain ⟨a0, ps, cap0, hv0, hm, hs, hbig⟩ : ∃ (a : Option Addr) (ps : List PairL) (cap : Nat), v0 = .slice a ps.length cap ∧ (∀ p ∈ ps, p.1.length ≤ 9223372036854775807 ∧ p.2.length ≤ 9223372036854775807) ∧ IsPairs W a ps ∧ ps.length ≤ 9223372036854775807 := by
    obtain ⟨a1, len1, cap1, rfl⟩ := okWide_slice Try.underlying34 (hval 0 34 v0 rfl rfl)
    obtain ⟨fuel, hf⟩ := h0
    exact pairs_of (by simpa [Value.cells] using hf)
  clear hA0 hval0
  subst hv0
  refine (walk a0 cap0 ps W hbig hm hs).mono fun e W' ⟨he, bel⟩ => ?_
  subst he
  exact ⟨_, rfl, _, _, _, [], _, [], hW', trodAll_mk1 (shut_bool Try.underlying4 _), (trodAll_cons_mk (Below.trod laidOut (by kernel_rfl) (of_decide_eq_true (by kernel_rfl)) k0 bel lt0) trodAll_mk0), rfl, bel.frame _, fun h => by cases h⟩

theorem over : Rows.fnExactPairsOkRow.holds Try.pinned (OpenSpec.ofChange Rows.fnExactPairsOkSpec) :=
  OpenClaim.holds_of_wide 4 Try.f4 rfl rfl rfl rfl rfl rfl rfl ⟨rfl, rfl, rfl, rfl, rfl⟩ rfl rfl rfl rfl rfl (by kernel_rfl) Try.func4 (by kernel_rfl)
    (of_decide_eq_true (by kernel_rfl)) (by unfold Func.isWrapper; first | (rw [if_pos (by decide +kernel)]; kernel_rfl) | (rw [if_neg (by decide +kernel)]; exact ⟨rfl, rfl⟩))
    (fun os started H enc _ => lifted os started H enc)

end Go.Proofs.Ytgcaofedhhkacaa.fnExactPairsOk
namespace Go.Proofs.Ytgcaofedhhkacaa
theorem fnExactPairsOk_holds : Rows.FnExactPairsOkSaid := fnExactPairsOk.over
end Go.Proofs.Ytgcaofedhhkacaa
