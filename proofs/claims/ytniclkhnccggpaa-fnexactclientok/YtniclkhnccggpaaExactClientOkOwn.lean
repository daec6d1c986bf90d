/-
  At every client ClientOk answers as its model; it writes into no argument. No condition.
-/
import Derived.Test.YtniclkhnccggpaaCli
import Derived.Deep.RegionHeld3
import Derived.ProofKit
import Derived.OpenShut
import Derived.ShutString
import Derived.ChangeOld
import Derived.Below
import Derived.Lib.SmallJoins
namespace Go.Proofs.Ytniclkhnccggpaa.fnExactClientOk
open Go.ChangeShapes Go.WideShapes Go.ChangeAt Go.RowKit
open Go.ChangeMaps (open_string shut_string)
set_option linter.unusedVariables false

theorem own : ownKnob Try.prog.godebug = none := by kernel_rfl

theorem laidOut : laidOutB Try.prog = true := by kernel_rfl

set_option maxRecDepth 100000 in
set_option maxHeartbeats 1000000 in
theorem walk (c n : Int) (a : Option Addr) (cap : Nat) (ps : List (List UInt8)) (w : World) (hl : ps.length ≤ 9223372036854775807) (hm : ∀ l ∈ ps, l.length ≤ 9223372036854775807) (hs : IsStrs w a ps) :
    Calls Try.prog 3 #[.agg #[.slice a ps.length cap, .int .i64 c, .int .i64 n]] w fun e w' => e = .returned (.bool true) ∧ Below w.heap.size w w' := by
  have Bb : Below w.heap.size w (w.alloc (.cells #[.slice a ps.length cap, .int .i64 c, .int .i64 n] 24)) := (Below.refl _ _).alloc (Nat.le_refl _) _
  have hblk := heap_alloc_new w (.cells #[.slice a ps.length cap, .int .i64 c, .int .i64 n] 24)
  have KZ := szClient_any a cap ps c n (w.alloc (.cells #[.slice a ps.length cap, .int .i64 c, .int .i64 n] 24)) hl hm (strs_later hs Bb)
  have HS : Hid (∀ W, Below w.heap.size w W → IsStrs W a ps) := fun W hW => strs_later hs hW
  clear hs hm
  go_enter Try.func3, Try.ntmps3
  go_wp2_with fail
  refine KZ.mono ?_
  rintro e w1 ⟨he, b1⟩
  have B1 := Bb.trans (b1.mono (by simp))
  have k1 := (b1.block w.heap.size (by simp)).trans hblk
  have n1 : w.heap.size < w1.heap.size := by have := b1.size; simp at this; omega
  clear KZ b1 hblk
  rcases he with rfl | ⟨hb, q, rfl⟩
  · go_wp2
    go_ret
    exact ⟨rfl, B1⟩
  · have hl' : ps.length ≤ 1048576 := by omega
    have hm' : ∀ l ∈ ps, l.length ≤ 1048576 := fun l hl => by obtain ⟨j, hj, rfl⟩ := List.getElem_of_mem hl; have := each_le ps j hj; omega
    have H1 := fun (g : Nat) W h => spec_clientOk (some ⟨g, 0, none⟩) ps.length ps c n W hl' hm' h
    have H2 := fun (g : Nat) W h => impl_clientOk (some ⟨g, 0, none⟩) ps.length ps c n W hl' hm' h
    obtain ⟨r, hr⟩ : ∃ r, r = clientOk ps c n := ⟨_, rfl⟩
    rw [← hr] at H1 H2
    have HH1 : Hid (∀ (g : Nat) W, IsStrs W (some ⟨g, 0, none⟩) ps → Calls Try.prog 6 #[.agg #[.slice (some ⟨g, 0, none⟩) ps.length ps.length, .int .i64 c, .int .i64 n]] W fun e w' => e = .returned (.bool r) ∧ Below W.heap.size W w') := H1
    have HH2 : Hid (∀ (g : Nat) W, IsStrs W (some ⟨g, 0, none⟩) ps → Calls Try.prog 8 #[.agg #[.slice (some ⟨g, 0, none⟩) ps.length ps.length, .int .i64 c, .int .i64 n]] W fun e w' => e = .returned (.bool r) ∧ Below W.heap.size W w') := H2
    have HTN : Hid (∀ W, Below w.heap.size w W → Calls Try.prog 7 #[.agg #[.slice a ps.length cap, .int .i64 c, .int .i64 n]] W fun e w' => ∃ g : Nat, e = .returned (.agg #[.slice (some ⟨g, 0, none⟩) ps.length ps.length, .int .i64 c, .int .i64 n]) ∧ w'.ownsRow W.heap.size 9 1 (.slice (some ⟨g, 0, none⟩) ps.length ps.length) ps.length (scells ps) ∧ Below W.heap.size W w') := fun W hW => toClient_any a cap ps c n W hl' (HS.out W hW)
    obtain ⟨p0, p1, p2, _⟩ := cli_cells k1
    clear H1 H2 hr hm' hb HS hl
    go_wp2_with fail
    refine (HTN.out _ B1).mono ?_
    rintro e w2 ⟨g1, rfl, o1, b2⟩
    have B2 := B1.trans (b2.mono B1.size)
    have k2 := (b2.block w.heap.size n1).trans k1
    have n2 : w.heap.size < w2.heap.size := Nat.lt_of_lt_of_le n1 b2.size
    have I1 : Hid (IsStrs w2 (some ⟨g1, 0, none⟩) ps) := (strs_own o1).2.2
    clear o1 b2 B1 k1 p0 p1 p2
    go_wp2_with fail
    refine (HH1.out _ _ I1.out).mono ?_
    rintro e w3 ⟨rfl, b3⟩
    have B3 := B2.trans (b3.mono B2.size)
    have k3 := (b3.block w.heap.size n2).trans k2
    have n3 : w.heap.size < w3.heap.size := Nat.lt_of_lt_of_le n2 b3.size
    obtain ⟨p0, p1, p2, _⟩ := cli_cells k3
    clear b3 B2 k2 I1
    go_wp2_with fail
    refine (HTN.out _ B3).mono ?_
    rintro e w4 ⟨g3, rfl, o3, b4⟩
    have B4 := B3.trans (b4.mono B3.size)
    have k4 := (b4.block w.heap.size n3).trans k3
    have n4 : w.heap.size < w4.heap.size := Nat.lt_of_lt_of_le n3 b4.size
    have O3 := hidOwn o3
    clear o3 b4 B3 k3 p0 p1 p2
    have Bl : Below w4.heap.size w4 (w4.alloc (.cells #[.slice (some ⟨g3, 0, none⟩) ps.length ps.length, .int .i64 c, .int .i64 n] 27)) := (Below.refl _ _).alloc (Nat.le_refl _) _
    have P3 := hidOwn (keptC O3.out Bl)
    have I4 : Hid (IsStrs (w4.alloc (.cells #[.slice (some ⟨g3, 0, none⟩) ps.length ps.length, .int .i64 c, .int .i64 n] 27)) (some ⟨g3, 0, none⟩) ps) := (strs_own P3.out).2.2
    have B5 := B4.trans (Bl.mono B4.size)
    have x5 := heap_alloc_new w4 (.cells #[.slice (some ⟨g3, 0, none⟩) ps.length ps.length, .int .i64 c, .int .i64 n] 27)
    have k5 := (Bl.block w.heap.size n4).trans k4
    clear O3 B4 Bl k4
    go_wp2_with fail
    refine (HH2.out _ _ I4.out).mono ?_
    rintro e w6 ⟨rfl, b6⟩
    have B6 := B5.trans (b6.mono B5.size)
    have x6 := (b6.block w4.heap.size (by simp)).trans x5
    have k6 := (b6.block w.heap.size (by simp; omega)).trans k5
    have n6 : w4.heap.size < w6.heap.size := by have := b6.size; simp at this; omega
    have Q3 := hidOwn (keptC P3.out b6)
    obtain ⟨p0, p1, p2, _⟩ := cli_cells k6
    obtain ⟨z0, z1, z2, _⟩ := cli_cells x6
    clear b6 B5 x5 k5 P3 I4
    have B6d : Below w.heap.size w w6.drew := ⟨B6.os, B6.tape, B6.output, B6.size, B6.block⟩
    have n6w : w.heap.size < w6.heap.size := by omega
    have SX : Hid (w6.cell? ⟨w.heap.size, 0, none⟩ = some (.slice a ps.length cap) ∧ w6.cell? ⟨w.heap.size, 1, none⟩ = some (.int .i64 c) ∧ w6.cell? ⟨w.heap.size, 2, none⟩ = some (.int .i64 n) ∧ w6.cell? ⟨w4.heap.size, 0, none⟩ = some (.slice (some ⟨g3, 0, none⟩) ps.length ps.length) ∧ w6.cell? ⟨w4.heap.size, 1, none⟩ = some (.int .i64 c) ∧ w6.cell? ⟨w4.heap.size, 2, none⟩ = some (.int .i64 n)) := ⟨p0, p1, p2, z0, z1, z2⟩
    clear x6 k6
    go_wp2_with fail
    go_region_held3 (fun w' => w'.cell? ⟨w.heap.size, 0, none⟩ = some (.slice a ps.length cap) ∧ w'.cell? ⟨w.heap.size, 1, none⟩ = some (.int .i64 c) ∧ w'.cell? ⟨w.heap.size, 2, none⟩ = some (.int .i64 n) ∧ w'.cell? ⟨w4.heap.size, 0, none⟩ = some (.slice (some ⟨g3, 0, none⟩) ps.length ps.length) ∧ w'.cell? ⟨w4.heap.size, 1, none⟩ = some (.int .i64 c) ∧ w'.cell? ⟨w4.heap.size, 2, none⟩ = some (.int .i64 n))
      (first | exact S8.out | exact S7.out | exact SX.out)
      (first
        | (go_at_call 9
           refine (eqClient_same (some ⟨g3, 0, none⟩) (some ⟨g5, 0, none⟩) ps.length ps.length ps.length ps.length ps c n _ _ w7 (by omega) R3.out O5.out).mono ?_
           rintro e w8 ⟨rfl, b8⟩
           have B8 := B7.trans (b8.mono B7.size)
           have S8 : Hid (w8.cell? ⟨w.heap.size, 0, none⟩ = some (.slice a ps.length cap) ∧ w8.cell? ⟨w.heap.size, 1, none⟩ = some (.int .i64 c) ∧ w8.cell? ⟨w.heap.size, 2, none⟩ = some (.int .i64 n) ∧ w8.cell? ⟨w4.heap.size, 0, none⟩ = some (.slice (some ⟨g3, 0, none⟩) ps.length ps.length) ∧ w8.cell? ⟨w4.heap.size, 1, none⟩ = some (.int .i64 c) ∧ w8.cell? ⟨w4.heap.size, 2, none⟩ = some (.int .i64 n)) := ⟨(b8.cell (p := ⟨w.heap.size, 0, none⟩) n7).trans S7.out.1, (b8.cell (p := ⟨w.heap.size, 1, none⟩) n7).trans S7.out.2.1, (b8.cell (p := ⟨w.heap.size, 2, none⟩) n7).trans S7.out.2.2.1, (b8.cell (p := ⟨w4.heap.size, 0, none⟩) n7x).trans S7.out.2.2.2.1, (b8.cell (p := ⟨w4.heap.size, 1, none⟩) n7x).trans S7.out.2.2.2.2.1, (b8.cell (p := ⟨w4.heap.size, 2, none⟩) n7x).trans S7.out.2.2.2.2.2⟩
           clear b8)
        | (go_at_call 7
           refine (HTN.out w6.drew B6d).mono ?_
           rintro e w7 ⟨g5, rfl, o5, b7⟩
           have b7' : Below w6.heap.size w6 w7 := ⟨b7.os, b7.tape, b7.output, b7.size, b7.block⟩
           have B7 := B6.trans (b7'.mono B6.size)
           have S7 : Hid (w7.cell? ⟨w.heap.size, 0, none⟩ = some (.slice a ps.length cap) ∧ w7.cell? ⟨w.heap.size, 1, none⟩ = some (.int .i64 c) ∧ w7.cell? ⟨w.heap.size, 2, none⟩ = some (.int .i64 n) ∧ w7.cell? ⟨w4.heap.size, 0, none⟩ = some (.slice (some ⟨g3, 0, none⟩) ps.length ps.length) ∧ w7.cell? ⟨w4.heap.size, 1, none⟩ = some (.int .i64 c) ∧ w7.cell? ⟨w4.heap.size, 2, none⟩ = some (.int .i64 n)) := ⟨(b7'.cell (p := ⟨w.heap.size, 0, none⟩) n6w).trans SX.out.1, (b7'.cell (p := ⟨w.heap.size, 1, none⟩) n6w).trans SX.out.2.1, (b7'.cell (p := ⟨w.heap.size, 2, none⟩) n6w).trans SX.out.2.2.1, (b7'.cell (p := ⟨w4.heap.size, 0, none⟩) n6).trans SX.out.2.2.2.1, (b7'.cell (p := ⟨w4.heap.size, 1, none⟩) n6).trans SX.out.2.2.2.2.1, (b7'.cell (p := ⟨w4.heap.size, 2, none⟩) n6).trans SX.out.2.2.2.2.2⟩
           have n7 : w.heap.size < w7.heap.size := Nat.lt_of_lt_of_le n6w b7'.size
           have n7x : w4.heap.size < w7.heap.size := Nat.lt_of_lt_of_le n6 b7'.size
           have O5 := hidOwn o5
           have R3 := hidOwn (keptC Q3.out b7')
           clear b7 b7' o5))
    all_goals
      go_wp2
      go_ret
      exact ⟨rfl, B8⟩

set_option maxRecDepth 100000 in
theorem lifted (os : Os) (started : os.Started) (H : Type) (enc : TypeId × Value → H) :
    ReturnsInHanded {} Try.checked os 3 .any (Rows.fnExactClientOkSpec.pre6 enc Try.prog Try.f3 Rows.fnExactClientOkRow.domain false) (Rows.fnExactClientOkSpec.post enc Try.prog Try.f3 false true false false) := by
  refine returnsInHanded_of_change (C := Try.checked) own started (by kernel_rfl) Try.func3
    (ChangeSpec.witness6 (enc := enc) (C := Try.checked) false ⟨#[], #[.agg #[.slice none 0 0, .int .i64 0, .int .i64 0]], []⟩ 8 (by kernel_rfl) (by kernel_rfl) (by kernel_rfl) (by kernel_rfl)) ?_
  intro W base args ds gs before hval0 hW hcnd _
  have hval : ∀ (j : Nat) t v, Try.f3.params[j]? = some t → args[j]? = some v → Value.okWide Try.prog W .any base t v := hval0
  have hW' := hW
  obtain ⟨p, q, hA0, hV, rfl, hfz, hnd⟩ := hW
  have hA : DataW.TrodAll enc Try.prog W 0 (fun _ => true) true Try.f3.params.toList args.toList ds p := hA0
  rw [Try.params3] at hA hval
  obtain ⟨v0, vs0, d0, ds0, p0, q0, hargs, rfl, rfl, h0, r0⟩ := trodAll_cons hA
  obtain ⟨rfl, rfl, rfl⟩ := trodAll_nil r0
  obtain rfl : args = #[v0] := by cases args; simp_all
  obtain ⟨rfl, rfl⟩ := trodVars_none hV
  have k0 := h0
  have lt0 : ∀ x ∈ p0, x.block < W.heap.size := by obtain ⟨m, hm⟩ := k0; exact DataW.trod_lt m _ _ _ hm
  obtain ⟨a, cap, ps, c, n, rfl, hs, hl, hm⟩ := client_of (hval 0 24 v0 rfl rfl) h0
  clear hA0 hval0
  simp only [List.append_nil] at hW'
  refine (walk c n a cap ps W hl hm hs).mono fun e W' ⟨he, bel⟩ => ?_
  subst he
  exact ⟨_, rfl, _, _, _, [], _, [], hW', trodAll_mk1 (shut_bool Try.underlying4 _), (trodAll_cons_mk (Below.trod laidOut (by kernel_rfl) (of_decide_eq_true (by kernel_rfl)) k0 bel lt0) trodAll_mk0), rfl, bel.frame _, fun h => by cases h⟩

theorem over : Rows.fnExactClientOkRow.holds Try.pinned (OpenSpec.ofChange Rows.fnExactClientOkSpec) :=
  OpenClaim.holds_of_wide 3 Try.f3 rfl rfl rfl rfl rfl rfl rfl ⟨rfl, rfl, rfl, rfl, rfl⟩ rfl rfl rfl rfl rfl (by kernel_rfl) Try.func3 (by kernel_rfl)
    (of_decide_eq_true (by kernel_rfl)) (by unfold Func.isWrapper; first | (rw [if_pos (by decide +kernel)]; kernel_rfl) | (rw [if_neg (by decide +kernel)]; exact ⟨rfl, rfl⟩))
    (fun os started H enc _ => lifted os started H enc)

end Go.Proofs.Ytniclkhnccggpaa.fnExactClientOk
namespace Go.Proofs.Ytniclkhnccggpaa
theorem fnExactClientOk_holds : Rows.FnExactClientOkSaid := fnExactClientOk.over
end Go.Proofs.Ytniclkhnccggpaa
