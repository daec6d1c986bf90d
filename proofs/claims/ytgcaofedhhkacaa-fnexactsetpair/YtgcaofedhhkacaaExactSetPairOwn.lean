/-
  At every list of pairs, key and value SetPair answers as its model; it writes into no argument, and its answer owns its memory. No condition.
-/
import Derived.Test.YtgcaofedhhkacaaPairM
import Derived.Test.YtgcaofedhhkacaaISetP
import Derived.Test.YtgcaofedhhkacaaOpen5
import Derived.ProofKit
import Derived.OpenShut
import Derived.ShutString
import Derived.ChangeOld
import Derived.Below
import Derived.SliceStrings
namespace Go.Proofs.Ytgcaofedhhkacaa.fnExactSetPair
open Go.ChangeShapes Go.WideShapes Go.ChangeAt Go.RowKit
open Go.ChangeMaps (open_string shut_string)
set_option linter.unusedVariables false

theorem own : ownKnob Try.prog.godebug = none := by kernel_rfl
theorem laidOut : laidOutB Try.prog = true := by kernel_rfl

theorem sizes_le (ps : List PairL) (h : ps.length + sizeP ps ≤ 1048576) : ∀ p ∈ ps, p.1.length ≤ 1048576 ∧ p.2.length ≤ 1048576 := by
  intro p hp
  obtain ⟨j, hj, rfl⟩ := List.getElem_of_mem hp
  have := sizeP_le ps j hj
  exact ⟨by omega, by omega⟩

theorem setR_len (ps : List PairL) (k v : List UInt8) : (setR ps k v).length ≤ 1000 := by
  unfold setR
  split
  · rename_i h
    simp only [setOk, Bool.and_eq_true] at h
    have := (pairsOk_of _ h.2).1
    omega
  · simp

set_option maxRecDepth 100000 in
set_option maxHeartbeats 2000000 in
theorem walk (a : Option Addr) (cap : Nat) (ps : List PairL) (w : World) (hl : ps.length ≤ 9223372036854775807) (hm : ∀ p ∈ ps, p.1.length ≤ 9223372036854775807 ∧ p.2.length ≤ 9223372036854775807) (hs : IsPairs w a ps) (a1 : ByteArray) (w1 : a1.size ≤ maxLen) (a2 : ByteArray) (w2 : a2.size ≤ maxLen) :
    Calls Try.prog 5 #[.slice a ps.length cap, .string a1, .string a2] w fun e w' => e = .returned (.bool true) ∧ Below w.heap.size w w' := by
  unfold maxLen at w1 w2
  have HK := szPairS_any a cap ps w hl hm hs
  have HS : Hid (∀ W, Below w.heap.size w W → IsPairs W a ps) := fun W hW => hs.later hW
  by_cases hb1 : a1.size ≤ 1048576
  · by_cases hb2 : a2.size ≤ 1048576
    · have e1 : a1 = ⟨a1.data.toList.toArray⟩ := ba_eq a1
      have hkl : a1.data.toList.length ≤ 1048576 := by rw [Array.length_toList]; exact hb1
      have e2 : a2 = ⟨a2.data.toList.toArray⟩ := ba_eq a2
      have hvl : a2.data.toList.length ≤ 1048576 := by rw [Array.length_toList]; exact hb2
      obtain ⟨k, hk⟩ : ∃ k, k = a1.data.toList := ⟨_, rfl⟩
      obtain ⟨v, hv⟩ : ∃ v, v = a2.data.toList := ⟨_, rfl⟩
      rw [← hk] at e1 hkl
      rw [← hv] at e2 hvl
      clear hk hv
      subst e1 e2
      clear hs hm
      go_enter Try.func5, Try.ntmps5
      go_wp2_with fail
      refine HK.mono ?_
      rintro e w0 ⟨he, b0⟩
      rcases he with rfl | ⟨hb, n, rfl⟩
      · go_wp2
        go_ret
        exact ⟨rfl, b0⟩
      · have hln : ps.length ≤ 1048576 := by omega
        have hmm := sizes_le ps hb
        have HH1 : Hid (∀ a c W, IsPairs W a ps → Calls Try.prog 21 #[.slice a ps.length c, .string ⟨k.toArray⟩, .string ⟨v.toArray⟩] W fun e w' => ∃ (a' : Option Addr) (m cap : Nat), e = .returned (.tuple #[.slice a' m cap, .bool (setOk ps k v)]) ∧ w'.ownsRow W.heap.size 68 2 (.slice a' m cap) (setR ps k v).length (pcells (setR ps k v)) ∧ Below W.heap.size W w') := fun a c W h => spec_setPair a c ps k v W hln hmm hkl hvl h
        have HH2 : Hid (∀ b c W, ps.length ≤ c → IsPairs W (some ⟨b, 0, none⟩) ps → Calls Try.prog 22 #[.slice (some ⟨b, 0, none⟩) ps.length c, .string ⟨k.toArray⟩, .string ⟨v.toArray⟩] W fun e w' => ∃ (a' : Option Addr) (m cap : Nat), e = .returned (.tuple #[.slice a' m cap, .bool (setOk ps k v)]) ∧ w'.ownsRow W.heap.size 68 2 (.slice a' m cap) (setR ps k v).length (pcells (setR ps k v)) ∧ Below W.heap.size W w') := fun b c W hc h => impl_setPair b 0 c ps k v W hln hc hmm hkl hvl h
        have hrl : (setR ps k v).length ≤ 1000 := setR_len ps k v
        obtain ⟨r, hr⟩ : ∃ r, r = setR ps k v := ⟨_, rfl⟩
        obtain ⟨ok, hok⟩ : ∃ ok, ok = setOk ps k v := ⟨_, rfl⟩
        rw [← hr, ← hok] at HH1 HH2
        rw [← hr] at hrl
        clear HK hb hmm hr hok
        go_wp2_with fail
        refine (toPairS_any a cap ps _ hln (HS.out _ b0)).mono ?_
        rintro e w3 ⟨rfl, o3, b3⟩
        have B3 := b0.trans (b3.mono b0.size)
        have I3 : Hid (IsPairs w3 (some ⟨w0.heap.size, 0, none⟩) ps) := (isPairs_own o3).2.2
        clear o3 b3
        go_wp2_with fail
        refine (HH1.out _ _ _ I3.out).mono ?_
        rintro e w4 ⟨x1, xm, xc, rfl, ox, b4⟩
        have B4 := B3.trans (b4.mono B3.size)
        have OX := hidOwn ox
        have xlt : ∀ q, (Value.slice x1 xm xc).ownBlock = some q → q < w4.heap.size := fun q hq => (ox.lt q hq).2
        clear ox b4 I3 HH1
        go_wp2_with fail
        refine (toPairS_any a cap ps _ hln (HS.out _ B4)).mono ?_
        rintro e w5 ⟨rfl, o5, b5⟩
        have B5 := B4.trans (b5.mono B4.size)
        have s5 := own_lt o5
        have OX5 := hidOwn (kept2 OX.out b5)
        have O5 := hidOwn o5
        clear o5 b5 OX
        go_wp2_with fail
        refine (HH2.out _ _ _ (Nat.le_refl _) (isPairs_own O5.out).2.2).mono ?_
        rintro e w6 ⟨y1, ym, yc, rfl, oy, b6⟩
        have B6 := B5.trans (b6.mono B5.size)
        have s6 := b6.size
        have OX6 := hidOwn (kept2 OX5.out b6)
        have O6 := hidOwn (kept2 O5.out b6)
        have ylt : ∀ q, (Value.slice y1 ym yc).ownBlock = some q → w5.heap.size ≤ q ∧ q < w6.heap.size := fun q hq => oy.lt q hq
        have OY := hidOwn oy
        obtain ⟨ey, _, _⟩ := isPairs_own oy
        obtain ⟨ex, _, _⟩ := isPairs_own OX6.out
        subst ey ex
        clear oy b6 OX5 O5
        go_wp2_with fail
        refine (eqPairS_same r _ _ _ _ _ (by omega) (isPairs_own OY.out).2.2 (isPairs_own OX6.out).2.2).mono ?_
        rintro e w7 ⟨rfl, b7⟩
        have B7 := B6.trans (b7.mono B6.size)
        have s7 := b7.size
        have OX7 := hidOwn (kept2 OX6.out b7)
        have O7 := hidOwn (kept2 O6.out b7)
        have OY7 := hidOwn (kept2 OY.out b7)
        clear b7 OX6 O6 OY
        go_wp2_with fail
        refine (toPairS_any a cap ps _ hln (HS.out _ B7)).mono ?_
        rintro e w8 ⟨rfl, o8, b8⟩
        have B8 := B7.trans (b8.mono B7.size)
        have s8 := b8.size
        have OX8 := hidOwn (kept2 OX7.out b8)
        have O8 := hidOwn (kept2 O7.out b8)
        have OY8 := hidOwn (kept2 OY7.out b8)
        have I8 : Hid (IsPairs w8 (some ⟨w7.heap.size, 0, none⟩) ps) := (isPairs_own o8).2.2
        clear o8 b8 OX7 O7 OY7
        go_wp2_with fail
        refine (eqPairS_same ps _ _ _ _ _ (by omega) (isPairs_own O8.out).2.2 I8.out).mono ?_
        rintro e w9 ⟨rfl, b9⟩
        have B9 := B8.trans (b9.mono B8.size)
        have s9 := b9.size
        have OX9 := hidOwn (kept2 OX8.out b9)
        have O9 := hidOwn (kept2 O8.out b9)
        have OY9 := hidOwn (kept2 OY8.out b9)
        clear b9 OX8 O8 OY8 I8
        go_wp2_with fail
        refine (markPairS_any ps _ _ _ _ 1 w9 (by omega) (by omega) (by omega) O9.out).mono ?_
        rintro e w10 ⟨rfl, _, G10⟩
        have s10 := G10.size
        have B10 : Below w.heap.size w w10 := B9.grown G10 B9.size (fun q hq => by simp [Value.ownBlock] at hq; have := B4.size; omega)
        have OX10 := hidOwn (OX9.out.kept G10 (by
          cases hv : (Value.slice x1 r.length xc).ownBlock with
          | none => exact .inl rfl
          | some q => exact .inr (fun e => by have := xlt q hv; simp [Value.ownBlock] at e; omega)))
        have OY10 := hidOwn (OY9.out.kept G10 (by
          cases hv : (Value.slice y1 r.length yc).ownBlock with
          | none => exact .inl rfl
          | some q => exact .inr (fun e => by have := ylt q hv; simp [Value.ownBlock] at e; omega)))
        have hk0 : ¬ (1 : Int) + 2 * (ps.length : Int) < 0 := by omega
        have hkb : decide ((1 : Int) + 2 * (ps.length : Int) < 0) = false := decide_eq_false hk0
        clear G10 OX9 O9 OY9
        go_wp2_with fail
        refine (eqPairS_same r _ _ _ _ _ (by omega) (isPairs_own OY10.out).2.2 (isPairs_own OX10.out).2.2).mono ?_
        rintro e w11 ⟨rfl, b11⟩
        have B11 := B10.trans (b11.mono B10.size)
        have s11 := b11.size
        have OX11 := hidOwn (kept2 OX10.out b11)
        have OY11 := hidOwn (kept2 OY10.out b11)
        clear b11 OX10 OY10
        go_wp2_with fail
        refine (markPairS_any r _ _ _ _ 1 w11 (by omega) (by omega) (by omega) OY11.out).mono ?_
        rintro e w12 ⟨rfl, o12, G12⟩
        have s12 := G12.size
        have B12 : Below w.heap.size w w12 := B11.grown G12 B11.size (fun q hq => by have := ylt q hq; have := B5.size; omega)
        have OX12 := hidOwn (OX11.out.kept G12 (by
          cases hv : (Value.slice x1 r.length xc).ownBlock with
          | none => exact .inl rfl
          | some q => exact .inr (fun e => by have h1 := xlt q hv; have h2 := ylt q e.symm; omega)))
        have M12 := hidOwn o12
        have hq0 : ¬ (1 : Int) + 2 * (r.length : Int) < 0 := by omega
        clear G12 o12 OX11 OY11
        go_wp2_with fail
        refine (heldPairS_any r.length _ _ _ _ 1 w12 (by omega) (by omega) (by omega) M12.out).mono ?_
        rintro e w13 ⟨rfl, G13⟩
        have b13 := below_of_grown G13
        have B13 := B12.trans (b13.mono B12.size)
        have OX13 := hidOwn (kept2 OX12.out b13)
        have M13 := hidOwn (kept2 M12.out b13)
        clear G13 b13 OX12 M12
        go_wp2_with fail
        refine (toPairS_any a cap ps _ hln (HS.out _ B13)).mono ?_
        rintro e w14 ⟨rfl, o14, b14⟩
        have B14 := B13.trans (b14.mono B13.size)
        have OX14 := hidOwn (kept2 OX13.out b14)
        have M14 := hidOwn (kept2 M13.out b14)
        have I14 : Hid (IsPairs w14 (some ⟨w13.heap.size, 0, none⟩) ps) := (isPairs_own o14).2.2
        clear o14 b14 OX13 M13
        go_wp2_with fail
        refine (HH2.out _ _ _ (Nat.le_refl _) I14.out).mono ?_
        rintro e w15 ⟨z1, zm, zc, rfl, oz, b15⟩
        have B15 := B14.trans (b15.mono B14.size)
        have OX15 := hidOwn (kept2 OX14.out b15)
        have M15 := hidOwn (kept2 M14.out b15)
        have OZ := hidOwn oz
        obtain ⟨ez, _, _⟩ := isPairs_own oz
        subst ez
        clear oz b15 OX14 M14 I14 HH2
        go_wp2_with fail
        refine (eqPairS_same r _ _ _ _ _ (by omega) (isPairs_own OZ.out).2.2 (isPairs_own OX15.out).2.2).mono ?_
        rintro e w16 ⟨rfl, b16⟩
        have B16 := B15.trans (b16.mono B15.size)
        have M16 := hidOwn (kept2 M15.out b16)
        clear b16 OX15 M15 OZ
        go_wp2_with fail
        refine (heldPairS_any r.length _ _ _ _ 1 w16 (by omega) (by omega) (by omega) M16.out).mono ?_
        rintro e w17 ⟨rfl, G17⟩
        have B17 := B16.trans ((below_of_grown G17).mono B16.size)
        clear G17
        go_wp2
        go_ret
        exact ⟨rfl, B17⟩
    · have hb2' : ¬ (a2.size : Int) ≤ 1048576 := by omega
      clear HK HS hs hm
      go_enter Try.func5, Try.ntmps5
      go_wp2
      go_ret
      exact ⟨rfl, Below.refl _ _⟩
  · have hb1' : ¬ (a1.size : Int) ≤ 1048576 := by omega
    clear HK HS hs hm
    go_enter Try.func5, Try.ntmps5
    go_wp2
    go_ret
    exact ⟨rfl, Below.refl _ _⟩

set_option maxRecDepth 100000 in
theorem lifted (os : Os) (started : os.Started) (H : Type) (enc : TypeId × Value → H) :
    ReturnsInHanded {} Try.checked os 5 .any (Rows.fnExactSetPairSpec.pre6 enc Try.prog Try.f5 Rows.fnExactSetPairRow.domain false) (Rows.fnExactSetPairSpec.post enc Try.prog Try.f5 false true false false) := by
  refine returnsInHanded_of_change (C := Try.checked) own started (by kernel_rfl) Try.func5
    (ChangeSpec.witness6 (enc := enc) (C := Try.checked) false ⟨#[], #[.slice none 0 0, .string ByteArray.empty, .string ByteArray.empty], []⟩ 8 (by kernel_rfl) (by kernel_rfl) (by kernel_rfl) (by kernel_rfl)) ?_
  intro W base args ds gs before hval0 hW hcnd _
  have hval : ∀ (j : Nat) t v, Try.f5.params[j]? = some t → args[j]? = some v → Value.okWide Try.prog W .any base t v := hval0
  have hW' := hW
  obtain ⟨p, q, hA0, hV, rfl, hfz, hnd⟩ := hW
  have hA : DataW.TrodAll enc Try.prog W 0 (fun _ => true) true Try.f5.params.toList args.toList ds p := hA0
  rw [Try.params5] at hA hval
  obtain ⟨v0, vs0, d0, ds0, p0, q0, hargs, rfl, rfl, h0, r0⟩ := trodAll_cons hA
  obtain ⟨v1, vs1, d1, ds1, p1, q1, hargs1, rfl, rfl, h1, r1⟩ := trodAll_cons r0
  obtain ⟨v2, vs2, d2, ds2, p2, q2, hargs2, rfl, rfl, h2, r2⟩ := trodAll_cons r1
  obtain ⟨rfl, rfl, rfl⟩ := trodAll_nil r2
  obtain rfl : args = #[v0, v1, v2] := by cases args; simp_all
  obtain ⟨rfl, rfl⟩ := trodVars_none hV
  obtain ⟨a1, rfl, rfl, rfl, w1⟩ := open_string Try.underlying9 (hval 1 9 v1 rfl rfl) h1
  obtain ⟨a2, rfl, rfl, rfl, w2⟩ := open_string Try.underlying9 (hval 2 9 v2 rfl rfl) h2
  have k0 := h0
  have lt0 : ∀ x ∈ p0, x.block < W.heap.size := by obtain ⟨m, hm⟩ := k0; exact DataW.trod_lt m _ _ _ hm
  obtain ⟨a0, ps, cap0, hv0, hm, hs, hbig⟩ : ∃ (a : Option Addr) (ps : List PairL) (cap : Nat), v0 = .slice a ps.length cap ∧ (∀ p ∈ ps, p.1.length ≤ 9223372036854775807 ∧ p.2.length ≤ 9223372036854775807) ∧ IsPairs W a ps ∧ ps.length ≤ 9223372036854775807 := by
    obtain ⟨a1, len1, cap1, rfl⟩ := okWide_slice Try.underlying34 (hval 0 34 v0 rfl rfl)
    obtain ⟨fuel, hf⟩ := h0
    exact pairs_of (by simpa [Value.cells] using hf)
  clear hA0 hval0
  subst hv0
  refine (walk a0 cap0 ps W hbig hm hs a1 w1 a2 w2).mono fun e W' ⟨he, bel⟩ => ?_
  subst he
  exact ⟨_, rfl, _, _, _, [], _, [], hW', trodAll_mk1 (shut_bool Try.underlying4 _), (trodAll_cons_mk (Below.trod laidOut (by kernel_rfl) (of_decide_eq_true (by kernel_rfl)) k0 bel lt0) (trodAll_cons_mk (shut_string Try.underlying9 w1) (trodAll_cons_mk (shut_string Try.underlying9 w2) trodAll_mk0))), rfl, bel.frame _, fun h => by cases h⟩

theorem over : Rows.fnExactSetPairRow.holds Try.pinned (OpenSpec.ofChange Rows.fnExactSetPairSpec) :=
  OpenClaim.holds_of_wide 5 Try.f5 rfl rfl rfl rfl rfl rfl rfl ⟨rfl, rfl, rfl, rfl, rfl⟩ rfl rfl rfl rfl rfl (by kernel_rfl) Try.func5 (by kernel_rfl)
    (of_decide_eq_true (by kernel_rfl)) (by unfold Func.isWrapper; first | (rw [if_pos (by decide +kernel)]; kernel_rfl) | (rw [if_neg (by decide +kernel)]; exact ⟨rfl, rfl⟩))
    (fun os started H enc _ => lifted os started H enc)

end Go.Proofs.Ytgcaofedhhkacaa.fnExactSetPair
namespace Go.Proofs.Ytgcaofedhhkacaa
theorem fnExactSetPair_holds : Rows.FnExactSetPairSaid := fnExactSetPair.over
end Go.Proofs.Ytgcaofedhhkacaa
