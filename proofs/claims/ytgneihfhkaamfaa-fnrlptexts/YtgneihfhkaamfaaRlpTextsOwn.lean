/-
  At every code a text comes back from its item, and what is taken as a text, written again, has just its bytes: FnRlpTexts answers true. No condition.
-/
import Derived.Test.YtgneihfhkaamfaaCodeLaw
import Derived.Test.YtgneihfhkaamfaaDrawT
import Derived.Test.YtgneihfhkaamfaaSTakeAll
import Derived.Test.YtgneihfhkaamfaaITake
import Derived.ProofKit
import Derived.OpenShut
import Derived.ShutString
import Derived.ChangeOld
import Derived.Below
namespace Go.Proofs.Ytgneihfhkaamfaa.fnRlpTexts
open Go.ChangeShapes Go.WideShapes Go.ChangeAt Go.RowKit
open Go.ChangeMaps (open_string shut_string)
set_option linter.unusedVariables false

theorem own : ownKnob Try.prog.godebug = none := by kernel_rfl

theorem rlp_is (l : List UInt8) (hl : l.length ≤ 60000) (w : World) :
    Calls Try.prog 8 #[.string ⟨l.toArray⟩] w fun e w' => e = .returned (.string ⟨(textB l).toArray⟩) ∧ Below w.heap.size w w' := by
  have h := impl_rlpText ⟨l.toArray⟩ w (by simp [ByteArray.size]; omega)
  have e1 : (ByteArray.mk l.toArray).data.toList = l := by simp
  have e2 : rlpText l = textB l := if_pos hl
  rw [e1, e2] at h
  exact h

theorem rlp_told (l : List UInt8) (hl : l.length ≤ 60000) (w : World) :
    Calls Try.prog 10 #[.string ⟨l.toArray⟩] w fun e w' => e = .returned (.string ⟨(textB l).toArray⟩) ∧ Below w.heap.size w w' := by
  have h := spec_rlpText ⟨l.toArray⟩ w (by simp [ByteArray.size]; omega)
  have e1 : (ByteArray.mk l.toArray).data.toList = l := by simp
  have e2 : rlpText l = textB l := if_pos hl
  rw [e1, e2] at h
  exact h

theorem take_kind (l : List UInt8) (k : Nat) (bd rest : List UInt8) (h : takeL l = some (k, bd, rest)) : k = 1 ∨ k = 2 := by
  match l, h with
  | [], h => cases h
  | b :: r, h =>
    by_cases h1 : b.toNat < 128
    · have e : takeL (b :: r) = some (1, [b], r) := by simp only [takeL]; rw [if_pos h1]
      rw [e] at h; cases h; exact .inl rfl
    · by_cases h2 : b.toNat < 192
      · rw [takeL_item1 b r h1 h2] at h
        exact .inl (item_in _ _ _ _ _ _ h).2.1
      · rw [takeL_item2 b r h2] at h
        exact .inr (item_in _ _ _ _ _ _ h).2.1

theorem tk_none : tkV none = .tuple #[.int .i64 0, .string ⟨#[]⟩, .string ⟨#[]⟩, .bool false] := rfl
theorem tk_one (b r : List UInt8) : tkV (some (1, b, r)) = .tuple #[.int .i64 1, .string ⟨b.toArray⟩, .string ⟨r.toArray⟩, .bool true] := rfl
theorem tk_two (b r : List UInt8) : tkV (some (2, b, r)) = .tuple #[.int .i64 2, .string ⟨b.toArray⟩, .string ⟨r.toArray⟩, .bool true] := rfl

set_option maxRecDepth 100000 in
set_option maxHeartbeats 4000000 in
theorem walk (a0 : Option Addr) (len0 cap0 : Nat) (w : World) (w0 : Code w a0 len0) :
    Calls Try.prog 3 #[.slice a0 len0 cap0] w fun e w' => e = .returned (.bool true) ∧ Below w.heap.size w w' := by
  by_cases hb : len0 ≤ 1048576
  · have HB := bigNo len0 cap0 a0 w hb
    have HC : Hid (Code w a0 len0) := w0
    clear w0
    go_enter Try.func3, Try.ntmps3
    go_wp2_with fail
    refine HB.mono ?_
    rintro e w ⟨rfl, rfl⟩
    clear HB
    have HD := drawText len0 cap0 a0 w hb HC.out
    go_wp2_with fail
    refine HD.mono ?_
    rintro e w2 ⟨l, hl, rfl, b2⟩
    clear HD
    have H1 := fun W => rlp_is l (by omega) W
    have H2 := fun W => rlp_told l (by omega) W
    have hsl := textB_len l (by omega)
    have htk := takeL_text_fore l [120, 121] (by omega)
    obtain ⟨s, hs⟩ : ∃ s, s = textB l := ⟨_, rfl⟩
    rw [← hs] at H1 H2 hsl htk
    have H3 := fun W => impl_take (s ++ [120, 121]) W (by simp; omega)
    rw [htk, tk_one] at H3
    have happ := ba_app2 s [120, 121]
    clear hs htk
    go_wp2_with fail
    refine (H1 _).mono ?_
    rintro e w3 ⟨rfl, b3⟩
    go_wp2_with fail
    refine (H3 _).mono ?_
    rintro e w4 ⟨rfl, b4⟩
    go_wp2_with fail
    refine (H2 _).mono ?_
    rintro e w5 ⟨rfl, b5⟩
    have c3 := b2.trans (b3.mono b2.size)
    have c4 := c3.trans (b4.mono c3.size)
    have c := c4.trans (b5.mono c4.size)
    clear H1 H2 H3 b2 b3 b4 b5 c3 c4
    have H4 := drawTake len0 cap0 a0 w5 hb (HC.out.later c)
    go_wp2_with fail
    refine H4.mono ?_
    rintro e wa ⟨b, hbl, rfl, ba⟩
    have c5 := c.trans (ba.mono c.size)
    clear H4 ba c
    have H5 := fun W => impl_take b W (by omega)
    have H6 := fun W => spec_take b W (by omega)
    cases hr : takeL b with
    | none =>
      rw [hr, tk_none] at H5 H6
      clear hr
      go_wp2_with fail
      refine (H5 _).mono ?_
      rintro e w6 ⟨rfl, b6⟩
      go_wp2_with fail
      refine (H6 _).mono ?_
      rintro e w7 ⟨rfl, b7⟩
      have c6 := c5.trans (b6.mono c5.size)
      have c7 := c6.trans (b7.mono c6.size)
      clear H5 H6 b6 b7 c5 c6
      go_wp2
      go_ret
      exact ⟨rfl, c7⟩
    | some x =>
      obtain ⟨k, v, more⟩ := x
      rcases take_kind b k v more hr with rfl | rfl
      · obtain ⟨hv, hvl⟩ := takeL_text_back b v more hr
        have H7 := fun W => rlp_is v hvl W
        have hap2 := ba_app2 (textB v) more
        have hlv : (textB v).length + more.length ≤ 1000 := by have := congrArg List.length hv; simp at this; omega
        rw [hv] at hap2
        obtain ⟨tv, htv⟩ : ∃ tv, tv = textB v := ⟨_, rfl⟩
        rw [← htv] at H7 hap2 hlv
        rw [hr, tk_one] at H5 H6
        clear hr hv htv
        go_wp2_with fail
        refine (H5 _).mono ?_
        rintro e w6 ⟨rfl, b6⟩
        go_wp2_with fail
        refine (H6 _).mono ?_
        rintro e w7 ⟨rfl, b7⟩
        have c6 := c5.trans (b6.mono c5.size)
        have c7 := c6.trans (b7.mono c6.size)
        clear H5 H6 b6 b7 c5 c6
        go_wp2_with fail
        refine (H7 _).mono ?_
        rintro e w8 ⟨rfl, b8⟩
        have c8 := c7.trans (b8.mono c7.size)
        clear H7 b8 c7
        go_wp2
        go_ret
        exact ⟨rfl, c8⟩
      · rw [hr, tk_two] at H5 H6
        clear hr
        go_wp2_with fail
        refine (H5 _).mono ?_
        rintro e w6 ⟨rfl, b6⟩
        go_wp2_with fail
        refine (H6 _).mono ?_
        rintro e w7 ⟨rfl, b7⟩
        have c6 := c5.trans (b6.mono c5.size)
        have c7 := c6.trans (b7.mono c6.size)
        clear H5 H6 b6 b7 c5 c6
        go_wp2
        go_ret
        exact ⟨rfl, c7⟩
  · have HB := bigYes len0 cap0 a0 w hb
    clear w0
    go_enter Try.func3, Try.ntmps3
    go_wp2_with fail
    refine HB.mono ?_
    rintro e w ⟨rfl, rfl⟩
    clear HB
    go_wp2
    go_ret
    exact ⟨rfl, Below.refl _ _⟩

set_option maxRecDepth 100000 in
theorem lifted (os : Os) (started : os.Started) (H : Type) (enc : TypeId × Value → H) :
    ReturnsInHanded {} Try.checked os 3 .any (Rows.fnRlpTextsSpec.pre6 enc Try.prog Try.f3 Rows.fnRlpTextsRow.domain false) (Rows.fnRlpTextsSpec.post enc Try.prog Try.f3 false true false false) := by
  refine returnsInHanded_of_change (C := Try.checked) own started (by kernel_rfl) Try.func3
    (ChangeSpec.witness6 (enc := enc) (C := Try.checked) false ⟨#[], #[.slice none 0 0], []⟩ 8 (by kernel_rfl) (by kernel_rfl) (by kernel_rfl) (by kernel_rfl)) ?_
  intro W base args ds gs before hval0 hW hcnd _
  have hval : ∀ (j : Nat) t v, Try.f3.params[j]? = some t → args[j]? = some v → Value.okWide Try.prog W .any base t v := hval0
  have hW' := hW
  obtain ⟨p, q, hA0, hV, rfl, hfz, hnd⟩ := hW
  have hA : DataW.TrodAll enc Try.prog W 0 (fun _ => true) true Try.f3.params.toList args.toList ds p := hA0
  rw [Try.params3] at hA hval
  obtain ⟨v0, vs0, d0, ds0, p0, q0, hargs, rfl, rfl, h0, r0⟩ := trodAll_cons hA
  obtain ⟨rfl, rfl, rfl⟩ := trodAll_nil r0
  obtain rfl : args = #[v0] := by cases args; simp_all
  obtain ⟨rfl, rfl⟩ := trodVars_none hV
  obtain ⟨a0, len0, cap0, rfl⟩ := okWide_slice Try.underlying22 (hval 0 22 v0 rfl rfl)
  have k0 := h0
  have lt0 : ∀ x ∈ p0, x.block < W.heap.size := by obtain ⟨m, hm⟩ := k0; exact DataW.trod_lt m _ _ _ hm
  have w0 : Code W a0 len0 := by
    obtain ⟨fuel, hf⟩ := h0
    rcases open_ints Try.underlying22 Try.underlying5 (by kernel_rfl) hf with ⟨hcs, _⟩ | ⟨x, l, c, zs, hcs, _, hl, hm, hz, _, hcell, hwz⟩
    · simp [Value.cells] at hcs
      obtain ⟨rfl, rfl, rfl⟩ := hcs
      exact .inl rfl
    · simp [Value.cells] at hcs
      obtain ⟨rfl, rfl, rfl⟩ := hcs
      exact codeOf W x _ _ zs hl (by simpa using hz) hcell hwz
  clear hA0 hval0
  refine (walk a0 len0 cap0 W w0).mono fun e W' ⟨he, bel⟩ => ?_
  subst he
  exact ⟨_, rfl, _, _, _, [], _, [], hW', trodAll_mk1 (shut_bool Try.underlying4 _), (trodAll_cons_mk (Below.trod laidOut (by kernel_rfl) (of_decide_eq_true (by kernel_rfl)) k0 bel lt0) trodAll_mk0), rfl, bel.frame _, fun h => by cases h⟩

theorem over : Rows.fnRlpTextsRow.holds Try.pinned (OpenSpec.ofChange Rows.fnRlpTextsSpec) :=
  OpenClaim.holds_of_wide 3 Try.f3 rfl rfl rfl rfl rfl rfl rfl ⟨rfl, rfl, rfl, rfl, rfl⟩ rfl rfl rfl rfl rfl (by kernel_rfl) Try.func3 (by kernel_rfl)
    (of_decide_eq_true (by kernel_rfl)) (by unfold Func.isWrapper; first | (rw [if_pos (by decide +kernel)]; kernel_rfl) | (rw [if_neg (by decide +kernel)]; exact ⟨rfl, rfl⟩))
    (fun os started H enc _ => lifted os started H enc)

end Go.Proofs.Ytgneihfhkaamfaa.fnRlpTexts
namespace Go.Proofs.Ytgneihfhkaamfaa
theorem fnRlpTexts_holds : Rows.FnRlpTextsSaid := fnRlpTexts.over
end Go.Proofs.Ytgneihfhkaamfaa
