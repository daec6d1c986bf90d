/-
  At every code items come back from their list, and what is read as a list, written again, has just its bytes: FnRlpLists answers true. No condition.
-/
import Derived.Test.YtgneihfhkaamfaaCodeLaw
import Derived.Test.YtgneihfhkaamfaaDrawL
import Derived.Test.YtgneihfhkaamfaaDrawI
import Derived.Test.YtgneihfhkaamfaaSLst
import Derived.Test.YtgneihfhkaamfaaSItems
import Derived.Test.YtgneihfhkaamfaaIItems
import Derived.Test.YtgneihfhkaamfaaIListN
import Derived.Test.YtgneihfhkaamfaaMathBackL
import Derived.ProofKit
import Derived.OpenShut
import Derived.ShutString
import Derived.ChangeOld
import Derived.Below
namespace Go.Proofs.Ytgneihfhkaamfaa.fnRlpLists
open Go.ChangeShapes Go.WideShapes Go.ChangeAt Go.RowKit
open Go.ChangeMaps (open_string shut_string)
set_option linter.unusedVariables false

theorem own : ownKnob Try.prog.godebug = none := by kernel_rfl

theorem keptB {w w' : World} {b e n : Nat} {v : Value} {xs : List Value} (h : w.ownsRow b e 1 v n xs) (hb : Below w.heap.size w w') : w'.ownsRow b e 1 v n xs :=
  h.kept (row := none) ⟨hb.os, hb.tape, hb.output, hb.size, fun k hk _ => hb.block k hk⟩ (by cases v.ownBlock with | none => exact .inl rfl | some k => exact .inr (by simp))

set_option maxRecDepth 100000 in
set_option maxHeartbeats 4000000 in
theorem walk (a0 : Option Addr) (len0 cap0 : Nat) (w : World) (w0 : Code w a0 len0) :
    Calls Try.prog 4 #[.slice a0 len0 cap0] w fun e w' => e = .returned (.bool true) ∧ Below w.heap.size w w' := by
  by_cases hb : len0 ≤ 1048576
  · have HB := bigNo len0 cap0 a0 w hb
    have HC : Hid (Code w a0 len0) := w0
    clear w0
    go_enter Try.func4, Try.ntmps4
    go_wp2_with fail
    refine HB.mono ?_
    rintro e w ⟨rfl, rfl⟩
    clear HB
    have HD := drawList len0 cap0 a0 w hb HC.out
    go_wp2_with fail
    refine HD.mono ?_
    rintro e w2 ⟨g, c, ls, hl5, hlf, rfl, own2, b2⟩
    clear HD
    have H1 := impl_list g c ls w.heap.size w2 (by omega) (own_cap own2) own2
    have O2 := hidOwn own2
    clear own2
    rcases items_list ls with ⟨e0, e1⟩ | ⟨e0, e1⟩
    · rw [e0] at H1 e1
      have H2 := fun W => impl_items_no [] W (by simp) e1
      clear e1
      go_wp2_with fail
      refine H1.mono ?_
      rintro e w3 ⟨rfl, b3⟩
      go_wp2_with fail
      refine (H2 _).mono ?_
      rintro e w4 ⟨rfl, b4⟩
      have c3 := b2.trans (b3.mono b2.size)
      have c4 := c3.trans (b4.mono c3.size)
      have H3 := spec_list g c ls w.heap.size w4 (by omega) (keptB (keptB O2.out b3) b4)
      rw [e0] at H3
      clear H1 H2 b2 b3 b4 c3 O2 e0
      go_wp2_with fail
      refine H3.mono ?_
      rintro e w5 ⟨rfl, b5⟩
      have cc := c4.trans (b5.mono c4.size)
      clear H3 b5 c4
      have H5 := drawItems len0 cap0 a0 _ hb (HC.out.later cc)
      go_wp2_with fail
      refine H5.mono ?_
      rintro e wa ⟨b, hbl, rfl, ba⟩
      have c5 := cc.trans (ba.mono cc.size)
      clear H5 ba cc
      cases hr : itemsL b with
      | none =>
        have H6 := fun W => impl_items_no b W (by omega) hr
        have H7 := fun W => spec_items b W (by omega)
        rw [hr] at H7
        clear hr
        go_wp2_with fail
        refine (H6 _).mono ?_
        rintro e wb ⟨rfl, bb⟩
        go_wp2_with fail
        refine (H7 _).mono ?_
        rintro e wc ⟨rfl, bc⟩
        have c6 := c5.trans (bb.mono c5.size)
        have c7 := c6.trans (bc.mono c6.size)
        clear H6 H7 bb bc c5 c6
        go_wp2
        go_ret
        exact ⟨rfl, c7⟩
      | some xs =>
        have H6 := fun W => impl_items_ok b xs W (by omega) hr
        have H7 := fun W => spec_items b W (by omega)
        rw [hr] at H7
        have hx1 := items_num b xs hr
        have hx2 := items_len b xs hr
        have HLI : Hid (listL xs = b) := list_items b xs hr
        clear hr
        go_wp2_with fail
        refine (H6 _).mono ?_
        rintro e wb ⟨v1, rfl, own1, bb, _⟩
        obtain ⟨va1, vm1, vc1, hvs1⟩ := own_slice own1
        subst hvs1
        have O1 := hidOwn own1
        clear own1
        go_wp2_with fail
        refine (H7 _).mono ?_
        rintro e wc ⟨v2, rfl, own2, bc, _⟩
        obtain ⟨va2, vm2, vc2, hvs2⟩ := own_slice own2
        subst hvs2
        have H8 := impl_list_any xs _ _ wc (by omega) (keptB O1.out bc)
        rw [HLI.out] at H8
        have c6 := c5.trans (bb.mono c5.size)
        have c7 := c6.trans (bc.mono c6.size)
        clear H6 H7 bb bc c5 c6 own2 O1 HLI
        go_wp2_with fail
        refine H8.mono ?_
        rintro e wd ⟨rfl, bd⟩
        have c8 := c7.trans (bd.mono c7.size)
        clear H8 bd c7
        go_wp2
        go_ret
        exact ⟨rfl, c8⟩
    · have hsl : (listL ls).length ≤ 1048576 := by
        by_cases hc : ls.flatten.length ≤ 60000 ∧ ls.all isItemL = true
        · rw [show listL ls = wrapB ls.flatten 192 from if_pos hc]
          have := wrapB_len ls.flatten 192 (by omega)
          omega
        · rw [show listL ls = [] from if_neg hc]; simp
      have HE : Hid (listL ls = listL ls) := rfl
      obtain ⟨s, hs⟩ : ∃ s, s = listL ls := ⟨_, rfl⟩
      rw [← hs] at H1 e1 e0 hsl
      have HS : Hid (s = listL ls) := hs
      clear hs HE
      cases s with
      | nil => exact absurd rfl e0
      | cons ch sr =>
        have H2 := fun W => impl_items_ok (ch :: sr) ls W hsl e1
        clear e0 e1
        go_wp2_with fail
        refine H1.mono ?_
        rintro e w3 ⟨rfl, b3⟩
        go_wp2_with fail
        refine (H2 _).mono ?_
        rintro e w4 ⟨v, rfl, own4, b4, _⟩
        have c3 := b2.trans (b3.mono b2.size)
        have c4 := c3.trans (b4.mono c3.size)
        have own24 := keptB (keptB O2.out b3) b4
        have H3 := spec_list g c ls w.heap.size w4 (by omega) own24
        rw [← HS.out] at H3
        have O4 := hidOwn own4
        have O24 := hidOwn own24
        obtain ⟨va, vm, vc, hvs⟩ := own_slice own4
        subst hvs
        clear H1 H2 b2 b3 b4 c3 O2 own4 own24
        go_wp2_with fail
        refine H3.mono ?_
        rintro e w5 ⟨rfl, b5⟩
        have H4 := sameT ls _ _ _ _ w5 (by omega) (keptB O4.out b5) (keptB O24.out b5)
        have c5 := c4.trans (b5.mono c4.size)
        clear H3 b5 c4 O4 O24
        go_wp2_with fail
        refine H4.mono ?_
        rintro e w6 ⟨rfl, q, rfl⟩
        have cc : Below w.heap.size w (w5.drewN q) := ⟨c5.os, c5.tape, c5.output, c5.size, c5.block⟩
        clear H4 c5
        have H5 := drawItems len0 cap0 a0 _ hb (HC.out.later cc)
        go_wp2_with fail
        refine H5.mono ?_
        rintro e wa ⟨b, hbl, rfl, ba⟩
        have c5 := cc.trans (ba.mono cc.size)
        clear H5 ba cc
        cases hr : itemsL b with
        | none =>
          have H6 := fun W => impl_items_no b W (by omega) hr
          have H7 := fun W => spec_items b W (by omega)
          rw [hr] at H7
          clear hr
          go_wp2_with fail
          refine (H6 _).mono ?_
          rintro e wb ⟨rfl, bb⟩
          go_wp2_with fail
          refine (H7 _).mono ?_
          rintro e wc ⟨rfl, bc⟩
          have c6 := c5.trans (bb.mono c5.size)
          have c7 := c6.trans (bc.mono c6.size)
          clear H6 H7 bb bc c5 c6
          go_wp2
          go_ret
          exact ⟨rfl, c7⟩
        | some xs =>
          have H6 := fun W => impl_items_ok b xs W (by omega) hr
          have H7 := fun W => spec_items b W (by omega)
          rw [hr] at H7
          have hx1 := items_num b xs hr
          have hx2 := items_len b xs hr
          have HLI : Hid (listL xs = b) := list_items b xs hr
          clear hr
          go_wp2_with fail
          refine (H6 _).mono ?_
          rintro e wb ⟨v1, rfl, own1, bb, _⟩
          obtain ⟨va1, vm1, vc1, hvs1⟩ := own_slice own1
          subst hvs1
          have O1 := hidOwn own1
          clear own1
          go_wp2_with fail
          refine (H7 _).mono ?_
          rintro e wc ⟨v2, rfl, own2, bc, _⟩
          obtain ⟨va2, vm2, vc2, hvs2⟩ := own_slice own2
          subst hvs2
          have H8 := impl_list_any xs _ _ wc (by omega) (keptB O1.out bc)
          rw [HLI.out] at H8
          have c6 := c5.trans (bb.mono c5.size)
          have c7 := c6.trans (bc.mono c6.size)
          clear H6 H7 bb bc c5 c6 own2 O1 HLI
          go_wp2_with fail
          refine H8.mono ?_
          rintro e wd ⟨rfl, bd⟩
          have c8 := c7.trans (bd.mono c7.size)
          clear H8 bd c7
          go_wp2
          go_ret
          exact ⟨rfl, c8⟩
  · have HB := bigYes len0 cap0 a0 w hb
    clear w0
    go_enter Try.func4, Try.ntmps4
    go_wp2_with fail
    refine HB.mono ?_
    rintro e w ⟨rfl, rfl⟩
    clear HB
    go_wp2
    go_ret
    exact ⟨rfl, Below.refl _ _⟩

set_option maxRecDepth 100000 in
theorem lifted (os : Os) (started : os.Started) (H : Type) (enc : TypeId × Value → H) :
    ReturnsInHanded {} Try.checked os 4 .any (Rows.fnRlpListsSpec.pre6 enc Try.prog Try.f4 Rows.fnRlpListsRow.domain false) (Rows.fnRlpListsSpec.post enc Try.prog Try.f4 false true false false) := by
  refine returnsInHanded_of_change (C := Try.checked) own started (by kernel_rfl) Try.func4
    (ChangeSpec.witness6 (enc := enc) (C := Try.checked) false ⟨#[], #[.slice none 0 0], []⟩ 8 (by kernel_rfl) (by kernel_rfl) (by kernel_rfl) (by kernel_rfl)) ?_
  intro W base args ds gs before hval0 hW hcnd _
  have hval : ∀ (j : Nat) t v, Try.f4.params[j]? = some t → args[j]? = some v → Value.okWide Try.prog W .any base t v := hval0
  have hW' := hW
  obtain ⟨p, q, hA0, hV, rfl, hfz, hnd⟩ := hW
  have hA : DataW.TrodAll enc Try.prog W 0 (fun _ => true) true Try.f4.params.toList args.toList ds p := hA0
  rw [Try.params4] at hA hval
  obtain ⟨v0, vs0, d0, ds0, p0, q0, hargs, rfl, rfl, h0, r0⟩ := trodAll_cons hA
  obtain ⟨rfl, rfl, rfl⟩ := trodAll_nil r0
  obtain rfl : args = #[v0] := by cases args; simp_all
  obtain ⟨rfl, rfl⟩ := trodVars_none hV
  obtain ⟨a0, len0, cap0, rfl⟩ := okWide_slice Try.underlying22 (hval 0 22 v0 rfl rfl)
  have k0 := h0
  have lt0 : ∀ x ∈ p0, x.block < W.heap.size := by obtain ⟨m, hm⟩ := k0; exact DataW.trod_lt m _ _ _ hm
  have w0 : Code W a0 len0 := by
    obtain ⟨fuel, hf⟩ := h0
    rcases open_ints Try.underlying22 Try.underlying5 (by kernel_rfl) hf with ⟨hcs, _⟩ | ⟨x, l, c, zs, hcs, _, hl, hm, hz, _, hcell, hwz⟩
    · simp [Value.cells] at hcs
      obtain ⟨rfl, rfl, rfl⟩ := hcs
      exact .inl rfl
    · simp [Value.cells] at hcs
      obtain ⟨rfl, rfl, rfl⟩ := hcs
      exact codeOf W x _ _ zs hl (by simpa using hz) hcell hwz
  clear hA0 hval0
  refine (walk a0 len0 cap0 W w0).mono fun e W' ⟨he, bel⟩ => ?_
  subst he
  exact ⟨_, rfl, _, _, _, [], _, [], hW', trodAll_mk1 (shut_bool Try.underlying4 _), (trodAll_cons_mk (Below.trod laidOut (by kernel_rfl) (of_decide_eq_true (by kernel_rfl)) k0 bel lt0) trodAll_mk0), rfl, bel.frame _, fun h => by cases h⟩

theorem over : Rows.fnRlpListsRow.holds Try.pinned (OpenSpec.ofChange Rows.fnRlpListsSpec) :=
  OpenClaim.holds_of_wide 4 Try.f4 rfl rfl rfl rfl rfl rfl rfl ⟨rfl, rfl, rfl, rfl, rfl⟩ rfl rfl rfl rfl rfl (by kernel_rfl) Try.func4 (by kernel_rfl)
    (of_decide_eq_true (by kernel_rfl)) (by unfold Func.isWrapper; first | (rw [if_pos (by decide +kernel)]; kernel_rfl) | (rw [if_neg (by decide +kernel)]; exact ⟨rfl, rfl⟩))
    (fun os started H enc _ => lifted os started H enc)

end Go.Proofs.Ytgneihfhkaamfaa.fnRlpLists
namespace Go.Proofs.Ytgneihfhkaamfaa
theorem fnRlpLists_holds : Rows.FnRlpListsSaid := fnRlpLists.over
end Go.Proofs.Ytgneihfhkaamfaa
