/-
  At every list of texts ProofBytes answers as its model: how many bytes the texts have; it writes into no argument. No condition.
-/
import Derived.Test.YtljalgjpedpnjaaStrsX
import Derived.ProofKit
import Derived.OpenShut
import Derived.ShutString
import Derived.ChangeOld
import Derived.Below
import Derived.SliceStrings
namespace Go.Proofs.Ytljalgjpedpnjaa.fnExactProofBytes
open Go.ChangeShapes Go.WideShapes Go.ChangeAt Go.RowKit
open Go.ChangeMaps (open_string shut_string)
set_option linter.unusedVariables false

theorem below_drewN {B : Nat} {w w' : World} (h : Below B w w') (q : Nat) : Below B w (w'.drewN q) := ⟨h.os, h.tape, h.output, h.size, h.block⟩
theorem own : ownKnob Try.prog.godebug = none := by kernel_rfl
theorem laidOut : laidOutB Try.prog = true := by kernel_rfl

set_option maxRecDepth 100000 in
set_option maxHeartbeats 400000 in
theorem walk (a : Option Addr) (cap : Nat) (ls : List (List UInt8)) (w : World) (hl : ls.length ≤ 9223372036854775807) (hm : ∀ l ∈ ls, l.length ≤ 9223372036854775807) (hs : IsStrs w a ls) :
    Calls Try.prog 6 #[.slice a ls.length cap] w fun e w' => e = .returned (.bool true) ∧ Below w.heap.size w w' := by
  have HK := szS_any a cap ls w hl hm hs
  have later : ∀ W, Below w.heap.size w W → IsStrs W a ls := fun W hb => by
    rcases hs with h | ⟨b, off, h1, h2⟩
    · exact .inl h
    · exact .inr ⟨b, off, h1, fun j h => (hb.cell (p := ⟨b, off + j, none⟩) (World.block_lt_of_cell? w _ (h2 j h))).trans (h2 j h)⟩
  have HS : Hid (∀ W, Below w.heap.size w W → IsStrs W a ls) := later
  clear hs hm later
  go_enter Try.func6, Try.ntmps6
  go_wp2_with fail
  refine HK.mono ?_
  rintro e w0 ⟨he, rfl⟩
  rcases he with rfl | ⟨hb, n, rfl⟩
  · go_wp2
    go_ret
    exact ⟨rfl, Below.refl _ _⟩
  · have hln : ls.length ≤ 1048576 := by omega
    have HB : Hid (ls.length + ls.flatten.length ≤ 1048576) := hb
    clear HK hb
    go_wp2_with fail
    refine (toS_any a cap ls _ hln (HS.out _ (Below.refl _ _))).mono ?_
    rintro e w1 ⟨rfl, o1, b1⟩
    have O1 := hidOwn o1
    clear o1
    go_wp2_with fail
    refine (spec_proofBytes _ _ ls _ HB.out (strs_own O1.out).2.2).mono ?_
    rintro e w2 ⟨rfl, rfl⟩
    have h2 := b1
    clear O1 b1
    go_wp2_with fail
    refine (toS_any a cap ls _ hln (HS.out _ h2)).mono ?_
    rintro e w3 ⟨rfl, o3, b3⟩
    have h3 := h2.trans (b3.mono h2.size)
    have O3 := hidOwn o3
    clear o3 b3 h2
    go_wp2_with fail
    refine (impl_proofBytes _ _ ls _ HB.out (strs_own O3.out).2.2).mono ?_
    rintro e w4 ⟨rfl, rfl⟩
    go_wp2_with fail
    refine (toS_any a cap ls _ hln (HS.out _ h3)).mono ?_
    rintro e w5 ⟨rfl, o5, b5⟩
    have h5 := h3.trans (b5.mono h3.size)
    have O5 := hidOwn o5
    have P5 := hidOwn (O3.out.kept (grown_of_below b5 none) (.inr (by simp [Value.ownBlock])))
    clear O3 o5 b5 h3
    go_wp2_with fail
    refine (eqS_same ls _ _ _ _ _ (by omega) P5.out O5.out).mono ?_
    rintro e w6 ⟨rfl, q, rfl⟩
    have h6 := below_drewN h5 q
    clear O5 P5 h5
    go_wp2
    go_ret
    exact ⟨rfl, h6⟩

set_option maxRecDepth 100000 in
theorem lifted (os : Os) (started : os.Started) (H : Type) (enc : TypeId × Value → H) :
    ReturnsInHanded {} Try.checked os 6 .any (Rows.fnExactProofBytesSpec.pre6 enc Try.prog Try.f6 Rows.fnExactProofBytesRow.domain false) (Rows.fnExactProofBytesSpec.post enc Try.prog Try.f6 false true false false) := by
  refine returnsInHanded_of_change (C := Try.checked) own started (by kernel_rfl) Try.func6
    (ChangeSpec.witness6 (enc := enc) (C := Try.checked) false ⟨#[], #[.slice none 0 0], []⟩ 8 (by kernel_rfl) (by kernel_rfl) (by kernel_rfl) (by kernel_rfl)) ?_
  intro W base args ds gs before hval0 hW hcnd _
  have hval : ∀ (j : Nat) t v, Try.f6.params[j]? = some t → args[j]? = some v → Value.okWide Try.prog W .any base t v := hval0
  have hW' := hW
  obtain ⟨p, q, hA0, hV, rfl, hfz, hnd⟩ := hW
  have hA : DataW.TrodAll enc Try.prog W 0 (fun _ => true) true Try.f6.params.toList args.toList ds p := hA0
  rw [Try.params6] at hA hval
  obtain ⟨v0, vs0, d0, ds0, p0, q0, hargs, rfl, rfl, h0, r0⟩ := trodAll_cons hA
  obtain ⟨rfl, rfl, rfl⟩ := trodAll_nil r0
  obtain rfl : args = #[v0] := by cases args; simp_all
  obtain ⟨rfl, rfl⟩ := trodVars_none hV
  obtain ⟨a0, len0, cap0, rfl⟩ := okWide_slice Try.underlying24 (hval 0 24 v0 rfl rfl)
  have k0 := h0
  have lt0 : ∀ x ∈ p0, x.block < W.heap.size := by obtain ⟨m, hm⟩ := k0; exact DataW.trod_lt m _ _ _ hm
  obtain ⟨ls, hls, hm, hs, hbig⟩ : ∃ ls : List (List UInt8), len0 = ls.length ∧ (∀ l ∈ ls, l.length ≤ 9223372036854775807) ∧ IsStrs W a0 ls ∧ ls.length ≤ 9223372036854775807 := by
    obtain ⟨fuel, hf⟩ := h0
    rcases open_strings Try.underlying24 Try.underlying9 (by kernel_rfl) hf with ⟨hcs, _⟩ | ⟨x, l, c, ss, hcs, _, hl, hm, hz, _, hcell, hwz⟩
    · simp [Value.cells] at hcs
      obtain ⟨rfl, rfl, rfl⟩ := hcs
      exact ⟨[], rfl, by simp, .inl rfl, by simp⟩
    · simp [Value.cells] at hcs
      obtain ⟨rfl, rfl, rfl⟩ := hcs
      unfold maxLen at hm
      have hz' : ss.length = cap0 := by simpa using hz
      refine ⟨(ss.take len0).map (·.data.toList), by simp; omega, ?_, ?_, by simp; omega⟩
      · intro l hlm
        simp only [List.mem_map] at hlm
        obtain ⟨s, hs1, rfl⟩ := hlm
        have := hwz s (List.mem_of_mem_take hs1)
        unfold maxLen at this
        rw [Array.length_toList]; exact this
      · by_cases h0 : len0 = 0
        · exact .inl (by simp [h0])
        · obtain ⟨b, off, spot⟩ := x
          have hc := hcell 0 (by omega)
          have hspot : spot = none := by simpa [Addr.add] using World.cell?_spot hc
          subst hspot
          refine .inr ⟨b, off, rfl, fun j hj => ?_⟩
          simp at hj
          have hjs : j < ss.length := by omega
          have hcj := hcell j hjs
          have e1 : (⟨b, off, none⟩ : Addr).add j = ⟨b, off + j, none⟩ := by simp [Addr.add]
          rw [e1, List.getD_eq_getElem?_getD, List.getElem?_eq_getElem hjs, Option.getD_some] at hcj
          rw [hcj]
          simp only [List.getElem_map, List.getElem_take]
  clear hA0 hval0
  subst hls
  refine (walk a0 cap0 ls W hbig hm hs).mono fun e W' ⟨he, bel⟩ => ?_
  subst he
  exact ⟨_, rfl, _, _, _, [], _, [], hW', trodAll_mk1 (shut_bool Try.underlying4 _), (trodAll_cons_mk (Below.trod laidOut (by kernel_rfl) (of_decide_eq_true (by kernel_rfl)) k0 bel lt0) trodAll_mk0), rfl, bel.frame _, fun h => by cases h⟩

theorem over : Rows.fnExactProofBytesRow.holds Try.pinned (OpenSpec.ofChange Rows.fnExactProofBytesSpec) :=
  OpenClaim.holds_of_wide 6 Try.f6 rfl rfl rfl rfl rfl rfl rfl ⟨rfl, rfl, rfl, rfl, rfl⟩ rfl rfl rfl rfl rfl (by kernel_rfl) Try.func6 (by kernel_rfl)
    (of_decide_eq_true (by kernel_rfl)) (by unfold Func.isWrapper; first | (rw [if_pos (by decide +kernel)]; kernel_rfl) | (rw [if_neg (by decide +kernel)]; exact ⟨rfl, rfl⟩))
    (fun os started H enc _ => lifted os started H enc)

end Go.Proofs.Ytljalgjpedpnjaa.fnExactProofBytes
namespace Go.Proofs.Ytljalgjpedpnjaa
theorem fnExactProofBytes_holds : Rows.FnExactProofBytesSaid := fnExactProofBytes.over
end Go.Proofs.Ytljalgjpedpnjaa
