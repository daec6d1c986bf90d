/-
  At every signer SignerOk answers as its model. No condition.
-/
import Derived.Test.YtnhdkhngpnialaaSOk
import Derived.ProofKit
import Derived.OpenShut
import Derived.ShutString
import Derived.ChangeOld
import Derived.Below
import Derived.Lib.SmallJoins
namespace Go.Proofs.Ytnhdkhngpnialaa.fnExactSignerOk
open Go.ChangeShapes Go.WideShapes Go.ChangeAt Go.RowKit
open Go.ChangeMaps (open_string shut_string)
set_option linter.unusedVariables false

theorem own : ownKnob Try.prog.godebug = none := by kernel_rfl

theorem laidOut : laidOutB Try.prog = true := by kernel_rfl

set_option maxRecDepth 100000 in
set_option maxHeartbeats 400000 in
theorem walk (s : List UInt8) (n : Int) (w : World) (hl : s.length ≤ 9223372036854775807) :
    Calls Try.prog 3 #[.agg #[.string ⟨s.toArray⟩, .int .i64 n]] w fun e w' => e = .returned (.bool true) ∧ Below w.heap.size w w' := by
  have Bb : Below w.heap.size w (w.alloc (.cells #[.string ⟨s.toArray⟩, .int .i64 n] 23)) := (Below.refl _ _).alloc (Nat.le_refl _) _
  have hblk := heap_alloc_new w (.cells #[.string ⟨s.toArray⟩, .int .i64 n] 23)
  have KZ := szSigner_any s n (w.alloc (.cells #[.string ⟨s.toArray⟩, .int .i64 n] 23)) hl
  go_enter Try.func3, Try.ntmps3
  go_wp2_with fail
  refine KZ.mono ?_
  rintro e w1 ⟨he, b1⟩
  have B1 := Bb.trans (b1.mono (by simp))
  have k1 := (b1.block w.heap.size (by simp)).trans hblk
  have n1 : w.heap.size < w1.heap.size := by have := b1.size; simp at this; omega
  clear KZ b1 hblk
  rcases he with rfl | ⟨hb, k, rfl⟩
  · go_wp2
    go_ret
    exact ⟨rfl, B1⟩
  · obtain ⟨b, hbd⟩ : ∃ b, b = decide (s.length = 32 ∧ 0 ≤ n ∧ n ≤ 4) := ⟨_, rfl⟩
    have H1 := fun W => spec_ok s n b W hb hbd
    have H2 := fun W => impl_ok s n b W hb hbd
    have c0 : w1.cell? ⟨w.heap.size, 0, none⟩ = some (.string ⟨s.toArray⟩) := by simp only [World.cell?, k1]; rfl
    have c1 : w1.cell? ⟨w.heap.size, 1, none⟩ = some (.int .i64 n) := by simp only [World.cell?, k1]; rfl
    clear hbd
    go_wp2_with fail
    refine (toSigner_any s n _).mono ?_
    rintro e w2 ⟨rfl, b2⟩
    have B2 := B1.trans (b2.mono B1.size)
    have d0 := (b2.cell (p := ⟨w.heap.size, 0, none⟩) n1).trans c0
    have d1 := (b2.cell (p := ⟨w.heap.size, 1, none⟩) n1).trans c1
    have n2 : w.heap.size < w2.heap.size := Nat.lt_of_lt_of_le n1 b2.size
    clear b2 c0 c1 B1 k1
    go_wp2_with fail
    refine (H1 _).mono ?_
    rintro e w3 ⟨rfl, b3⟩
    have B3 := B2.trans (b3.mono B2.size)
    have e0 := (b3.cell (p := ⟨w.heap.size, 0, none⟩) n2).trans d0
    have e1 := (b3.cell (p := ⟨w.heap.size, 1, none⟩) n2).trans d1
    clear b3 d0 d1 B2
    go_wp2_with fail
    refine (toSigner_any s n _).mono ?_
    rintro e w4 ⟨rfl, b4⟩
    have B4 := B3.trans (b4.mono B3.size)
    clear b4 e0 e1 B3
    go_wp2_with fail
    refine (H2 _).mono ?_
    rintro e w5 ⟨rfl, b5⟩
    have B5 := B4.trans (b5.mono B4.size)
    go_wp2
    go_ret
    exact ⟨rfl, B5⟩

set_option maxRecDepth 100000 in
theorem lifted (os : Os) (started : os.Started) (H : Type) (enc : TypeId × Value → H) :
    ReturnsInHanded {} Try.checked os 3 .any (Rows.fnExactSignerOkSpec.pre6 enc Try.prog Try.f3 Rows.fnExactSignerOkRow.domain false) (Rows.fnExactSignerOkSpec.post enc Try.prog Try.f3 false true false false) := by
  refine returnsInHanded_of_change (C := Try.checked) own started (by kernel_rfl) Try.func3
    (ChangeSpec.witness6 (enc := enc) (C := Try.checked) false ⟨#[], #[.agg #[.string ByteArray.empty, .int .i64 0]], []⟩ 8 (by kernel_rfl) (by kernel_rfl) (by kernel_rfl) (by kernel_rfl)) ?_
  intro W base args ds gs before hval0 hW hcnd _
  have hval : ∀ (j : Nat) t v, Try.f3.params[j]? = some t → args[j]? = some v → Value.okWide Try.prog W .any base t v := hval0
  have hW' := hW
  obtain ⟨p, q, hA0, hV, rfl, hfz, hnd⟩ := hW
  have hA : DataW.TrodAll enc Try.prog W 0 (fun _ => true) true Try.f3.params.toList args.toList ds p := hA0
  rw [Try.params3] at hA hval
  obtain ⟨v0, vs0, d0, ds0, p0, q0, hargs, rfl, rfl, h0, r0⟩ := trodAll_cons hA
  obtain ⟨rfl, rfl, rfl⟩ := trodAll_nil r0
  obtain rfl : args = #[v0] := by cases args; simp_all
  obtain ⟨rfl, rfl⟩ := trodVars_none hV
  have k0 := h0
  have lt0 : ∀ x ∈ p0, x.block < W.heap.size := by obtain ⟨m, hm⟩ := k0; exact DataW.trod_lt m _ _ _ hm
  obtain ⟨s, n, rfl, hl⟩ : ∃ (s : List UInt8) (n : Int), v0 = .agg #[.string ⟨s.toArray⟩, .int .i64 n] ∧ s.length ≤ 9223372036854775807 := by
    obtain ⟨u0, u1, y0, y1, m, rfl, _, _, t0, t1⟩ := Go.Joins.open_agg2 Try.underlying23 (by kernel_rfl) (by kernel_rfl) (hval 0 23 v0 rfl rfl) h0
    obtain ⟨a, ha, _, hw⟩ := DataW.trod_string Try.underlying9 t0
    obtain ⟨n, hn, _, _⟩ := DataW.trod_int Try.underlying2 t1
    simp at ha hn
    exact ⟨a.data.toList, n, by rw [ha, hn, ← ba_eq], by rw [Array.length_toList]; exact hw⟩
  clear hA0 hval0
  simp only [List.append_nil] at hW'
  refine (walk s n W hl).mono fun e W' ⟨he, bel⟩ => ?_
  subst he
  exact ⟨_, rfl, _, _, _, [], _, [], hW', trodAll_mk1 (shut_bool Try.underlying4 _), (trodAll_cons_mk (Below.trod laidOut (by kernel_rfl) (of_decide_eq_true (by kernel_rfl)) k0 bel lt0) trodAll_mk0), rfl, bel.frame _, fun h => by cases h⟩

theorem over : Rows.fnExactSignerOkRow.holds Try.pinned (OpenSpec.ofChange Rows.fnExactSignerOkSpec) :=
  OpenClaim.holds_of_wide 3 Try.f3 rfl rfl rfl rfl rfl rfl rfl ⟨rfl, rfl, rfl, rfl, rfl⟩ rfl rfl rfl rfl rfl (by kernel_rfl) Try.func3 (by kernel_rfl)
    (of_decide_eq_true (by kernel_rfl)) (by unfold Func.isWrapper; first | (rw [if_pos (by decide +kernel)]; kernel_rfl) | (rw [if_neg (by decide +kernel)]; exact ⟨rfl, rfl⟩))
    (fun os started H enc _ => lifted os started H enc)

end Go.Proofs.Ytnhdkhngpnialaa.fnExactSignerOk
namespace Go.Proofs.Ytnhdkhngpnialaa
theorem fnExactSignerOk_holds : Rows.FnExactSignerOkSaid := fnExactSignerOk.over
end Go.Proofs.Ytnhdkhngpnialaa
