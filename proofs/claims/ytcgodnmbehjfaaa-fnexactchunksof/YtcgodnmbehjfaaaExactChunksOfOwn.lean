/-
  At every list of pairs and every size ChunksOf answers as its model; it writes into no argument, and its answer owns its memory. No condition.
-/
import Derived.Test.YtcgodnmbehjfaaaSChunks
import Derived.Test.YtcgodnmbehjfaaaOpen5
import Derived.ProofKit
import Derived.OpenShut
import Derived.ShutString
import Derived.ChangeOld
import Derived.Below
import Derived.SliceStrings
namespace Go.Proofs.Ytcgodnmbehjfaaa.fnExactChunksOf
open Go.ChangeShapes Go.WideShapes Go.ChangeAt Go.RowKit
open Go.ChangeMaps (open_string shut_string)
set_option linter.unusedVariables false

theorem own : ownKnob Try.prog.godebug = none := by kernel_rfl
theorem laidOut : laidOutB Try.prog = true := by kernel_rfl

theorem sizes_le (ps : List PairL) (h : ps.length + sizeP ps ≤ 1048576) : ∀ p ∈ ps, p.1.length ≤ 1048576 ∧ p.2.length ≤ 1048576 := by
  intro p hp
  obtain ⟨j, hj, rfl⟩ := List.getElem_of_mem hp
  have := sizeP_le ps j hj
  exact ⟨by omega, by omega⟩

theorem chunksR_len (ps : List PairL) (mo : Int) : (chunksR ps mo).length ≤ 61 := by
  unfold chunksR
  split
  · rename_i h
    simp only [chunksOkL, Bool.and_eq_true] at h
    rw [chunksL_length]
    exact chunksN_le (pairsOk_of _ h.1).1
  · simp
theorem chunksR_each (ps : List PairL) (mo : Int) : ∀ c ∈ chunksR ps mo, c.2.2.length ≤ 60 := by
  unfold chunksR
  split
  · rename_i h
    simp only [chunksOkL, Bool.and_eq_true] at h
    have h60 := (pairsOk_of _ h.1).1
    intro c hc
    simp only [chunksL, chunksTo, List.mem_map] at hc
    obtain ⟨i, _, rfl⟩ := hc
    rw [chunkAt_len]; omega
  · simp
theorem endC_sum (B : Nat) : ∀ (cs : List ChL) (k : Nat), (∀ c ∈ cs, c.2.2.length ≤ B) → endC k cs ≤ k + cs.length * (2 + 2 * B)
  | [], k, _ => by simp [endC]
  | c :: cs, k, h => by
    have h1 := h c (by simp)
    have h2 := endC_sum B cs (k + 2 + 2 * c.2.2.length) (fun x hx => h x (by simp [hx]))
    have e : (cs.length + 1) * (2 + 2 * B) = cs.length * (2 + 2 * B) + (2 + 2 * B) := Nat.succ_mul _ _
    show endC (k + 2 + 2 * c.2.2.length) cs ≤ k + (cs.length + 1) * (2 + 2 * B)
    rw [e]
    omega
theorem endC_bound (r : List ChL) (hl : r.length ≤ 61) (h : ∀ c ∈ r, c.2.2.length ≤ 60) : endC 1 r ≤ 10000 := by
  have := endC_sum 60 r 1 h
  omega

set_option maxRecDepth 100000 in
set_option maxHeartbeats 2000000 in
theorem walk (a : Option Addr) (cap : Nat) (ps : List PairL) (w : World) (hl : ps.length ≤ 9223372036854775807) (hm : ∀ p ∈ ps, p.1.length ≤ 9223372036854775807 ∧ p.2.length ≤ 9223372036854775807) (hs : IsPairs w a ps) (mo : Int) :
    Calls Try.prog 4 #[.slice a ps.length cap, .int .i64 mo] w fun e w' => e = .returned (.bool true) ∧ Below w.heap.size w w' := by
  have HK := szPairS_any a cap ps w hl hm hs
  have HS : Hid (∀ W, Below w.heap.size w W → IsPairs W a ps) := fun W hW => hs.later hW
  clear hs hm
  go_enter Try.func4, Try.ntmps4
  go_wp2_with fail
  refine HK.mono ?_
  rintro e w0 ⟨he, b0⟩
  rcases he with rfl | ⟨hb, n, rfl⟩
  · go_wp2
    go_ret
    exact ⟨rfl, b0⟩
  · have hln : ps.length ≤ 1048576 := by omega
    have hmm := sizes_le ps hb
    have HH1 : Hid (∀ b W, IsPairs W (some ⟨b, 0, none⟩) ps → Calls Try.prog 12 #[.slice (some ⟨b, 0, none⟩) ps.length ps.length, .int .i64 mo] W fun e w' => ∃ (v : Value) (vs : List Value), e = .returned (.tuple #[v, .bool (chunksOkL ps mo)]) ∧ OwnC w' W.heap.size 46 v (chunksR ps mo) vs ∧ Below W.heap.size W w') := fun b W h => spec_chunksOf b 0 ps.length ps mo W hln (Nat.le_refl _) hmm h
    have HH2 : Hid (∀ b W, IsPairs W (some ⟨b, 0, none⟩) ps → Calls Try.prog 14 #[.slice (some ⟨b, 0, none⟩) ps.length ps.length, .int .i64 mo] W fun e w' => ∃ (v : Value) (vs : List Value), e = .returned (.tuple #[v, .bool (chunksOkL ps mo)]) ∧ OwnC w' W.heap.size 46 v (chunksR ps mo) vs ∧ Below W.heap.size W w') := fun b W h => impl_chunksOf b 0 ps.length ps mo W hln (Nat.le_refl _) hmm h
    have hrl : (chunksR ps mo).length ≤ 61 := chunksR_len ps mo
    have hre : ∀ c ∈ chunksR ps mo, c.2.2.length ≤ 60 := chunksR_each ps mo
    obtain ⟨r, hr⟩ : ∃ r, r = chunksR ps mo := ⟨_, rfl⟩
    obtain ⟨ok, hok⟩ : ∃ ok, ok = chunksOkL ps mo := ⟨_, rfl⟩
    rw [← hr, ← hok] at HH1 HH2
    rw [← hr] at hrl hre
    have hen : endC 1 r ≤ 10000 := endC_bound r hrl hre
    have HE : Hid (∀ (v x : Value) (vs xs : List Value) (l1 l2 : Nat) (W : World), OwnC W l1 46 v r vs → OwnC W l2 46 x r xs → Calls Try.prog 15 #[v, x] W fun e w' => e = .returned (.bool true) ∧ Below W.heap.size W w') := fun v x vs xs l1 l2 W h1 h2 => eqChunkS_same r v x vs xs l1 l2 _ _ W (by omega) (fun c hc => by have := hre c hc; omega) h1 h2
    have HM : Hid (∀ (v : Value) (vs : List Value) (lo : Nat) (W : World), OwnC W lo 46 v r vs → Calls Try.prog 18 #[v, .int .i64 1] W fun e w' => e = .returned (.int .i64 ((endC 1 r : Nat) : Int)) ∧ OwnC w' lo 46 v (marksC 1 r) vs ∧ Below lo W w') := fun v vs lo W h => markChunkS_any r v vs lo _ 1 W (by omega) (by omega) (by omega) h
    have HH : Hid (∀ (v : Value) (vs : List Value) (lo : Nat) (W : World), OwnC W lo 46 v (marksC 1 r) vs → Calls Try.prog 19 #[v, .int .i64 1] W fun e w' => e = .returned (.int .i64 ((endC 1 r : Nat) : Int)) ∧ Below W.heap.size W w') := fun v vs lo W h => heldChunkS_any r v vs lo _ 1 W (by omega) (by omega) (by omega) h
    have hn0 : ¬ ((endC 1 r : Nat) : Int) < 0 := by omega
    obtain ⟨en, hen'⟩ : ∃ en, en = endC 1 r := ⟨_, rfl⟩
    rw [← hen'] at HM HH hn0 hen
    clear HK hb hmm hr hok hre hen'
    go_wp2_with fail
    refine (toPairS_any a cap ps _ hln (HS.out _ b0)).mono ?_
    rintro e w3 ⟨rfl, o3, b3⟩
    have B3 := b0.trans (b3.mono b0.size)
    have I3 : Hid (IsPairs w3 (some ⟨w0.heap.size, 0, none⟩) ps) := (isPairs_own o3).2.2
    clear o3 b3
    go_wp2_with fail
    refine (HH1.out _ _ I3.out).mono ?_
    rintro e w4 ⟨x, xs, rfl, ox, b4⟩
    have B4 := B3.trans (b4.mono B3.size)
    have OX : Hid (OwnC w4 w3.heap.size 46 x r xs) := ox
    clear ox b4 I3 HH1
    go_wp2_with fail
    refine (toPairS_any a cap ps _ hln (HS.out _ B4)).mono ?_
    rintro e w5 ⟨rfl, o5, b5⟩
    have B5 := B4.trans (b5.mono B4.size)
    have s5 := own_lt o5
    have OX5 : Hid (OwnC w5 w3.heap.size 46 x r xs) := OX.out.later b5
    have XB : Hid (∀ W, Below w4.heap.size w4 W → OwnC W w3.heap.size 46 x r xs) := fun W h => OX.out.later h
    have O5 := hidOwn o5
    clear o5 OX
    go_wp2_with fail
    refine (HH2.out _ _ (isPairs_own O5.out).2.2).mono ?_
    rintro e w6 ⟨y, ys, rfl, oy, b6⟩
    have B6 := B5.trans (b6.mono B5.size)
    have s6 := b6.size
    have b46 := b5.trans (b6.mono b5.size)
    have OY : Hid (OwnC w6 w5.heap.size 46 y r ys) := oy
    have O6 := hidOwn (kept2 O5.out b6)
    clear oy b6 b5 O5 OX5
    go_wp2_with fail
    refine (HE.out _ _ _ _ _ _ _ OY.out (XB.out _ b46)).mono ?_
    rintro e w7 ⟨rfl, b7⟩
    have B7 := B6.trans (b7.mono B6.size)
    have s7 := b7.size
    have b47 := b46.trans (b7.mono b46.size)
    have OY7 : Hid (OwnC w7 w5.heap.size 46 y r ys) := OY.out.later b7
    have O7 := hidOwn (kept2 O6.out b7)
    clear b7 b46 OY O6
    go_wp2_with fail
    refine (toPairS_any a cap ps _ hln (HS.out _ B7)).mono ?_
    rintro e w8 ⟨rfl, o8, b8⟩
    have B8 := B7.trans (b8.mono B7.size)
    have s8 := b8.size
    have b48 := b47.trans (b8.mono b47.size)
    have OY8 : Hid (OwnC w8 w5.heap.size 46 y r ys) := OY7.out.later b8
    have O8 := hidOwn (kept2 O7.out b8)
    have I8 : Hid (IsPairs w8 (some ⟨w7.heap.size, 0, none⟩) ps) := (isPairs_own o8).2.2
    clear o8 b8 b47 OY7 O7
    go_wp2_with fail
    refine (eqPairS_same ps _ _ _ _ _ (by omega) (isPairs_own O8.out).2.2 I8.out).mono ?_
    rintro e w9 ⟨rfl, b9⟩
    have B9 := B8.trans (b9.mono B8.size)
    have s9 := b9.size
    have b49 := b48.trans (b9.mono b48.size)
    have OY9 : Hid (OwnC w9 w5.heap.size 46 y r ys) := OY8.out.later b9
    have O9 := hidOwn (kept2 O8.out b9)
    clear b9 b48 OY8 O8 I8
    go_wp2_with fail
    refine (markPairS_any ps _ _ _ _ 1 w9 (by omega) (by omega) (by omega) O9.out).mono ?_
    rintro e w10 ⟨rfl, _, G10⟩
    have s10 := G10.size
    have B10 : Below w.heap.size w w10 := B9.grown G10 B9.size (fun q hq => by simp [Value.ownBlock] at hq; have := B4.size; omega)
    have OY10 : Hid (OwnC w10 w5.heap.size 46 y r ys) := OY9.out.grown G10 (fun k h1 h2 e => by simp [Value.ownBlock] at e; omega)
    have b410 : Below w4.heap.size w4 w10 := b49.grown G10 b49.size (fun q hq => by simp [Value.ownBlock] at hq; omega)
    have hk0 : ¬ (1 : Int) + 2 * (ps.length : Int) < 0 := by omega
    have hkb : decide ((1 : Int) + 2 * (ps.length : Int) < 0) = false := decide_eq_false hk0
    clear G10 OY9 O9 b49
    go_wp2_with fail
    refine (HE.out _ _ _ _ _ _ _ OY10.out (XB.out _ b410)).mono ?_
    rintro e w11 ⟨rfl, b11⟩
    have B11 := B10.trans (b11.mono B10.size)
    have s11 := b11.size
    have b411 := b410.trans (b11.mono b410.size)
    have OY11 : Hid (OwnC w11 w5.heap.size 46 y r ys) := OY10.out.later b11
    clear b11 b410 OY10
    go_wp2_with fail
    refine (HM.out _ _ _ _ OY11.out).mono ?_
    rintro e w12 ⟨rfl, o12, G12⟩
    have s12 := G12.size
    have B12 : Below w.heap.size w w12 := ⟨G12.os.trans B11.os, G12.tape.trans B11.tape, G12.output.trans B11.output, Nat.le_trans B11.size G12.size, fun k hk => (G12.block k (by have := B5.size; omega)).trans (B11.block k hk)⟩
    have b412 : Below w4.heap.size w4 w12 := ⟨G12.os.trans b411.os, G12.tape.trans b411.tape, G12.output.trans b411.output, Nat.le_trans b411.size G12.size, fun k hk => (G12.block k (by omega)).trans (b411.block k hk)⟩
    have M12 : Hid (OwnC w12 w5.heap.size 46 y (marksC 1 r) ys) := o12
    clear G12 o12 OY11 b411 HM
    go_wp2_with fail
    refine (HH.out _ _ _ _ M12.out).mono ?_
    rintro e w13 ⟨rfl, b13⟩
    have B13 := B12.trans (b13.mono B12.size)
    have b413 := b412.trans (b13.mono b412.size)
    have M13 : Hid (OwnC w13 w5.heap.size 46 y (marksC 1 r) ys) := M12.out.later b13
    clear b13 b412 M12
    go_wp2_with fail
    refine (toPairS_any a cap ps _ hln (HS.out _ B13)).mono ?_
    rintro e w14 ⟨rfl, o14, b14⟩
    have B14 := B13.trans (b14.mono B13.size)
    have b414 := b413.trans (b14.mono b413.size)
    have M14 : Hid (OwnC w14 w5.heap.size 46 y (marksC 1 r) ys) := M13.out.later b14
    have I14 : Hid (IsPairs w14 (some ⟨w13.heap.size, 0, none⟩) ps) := (isPairs_own o14).2.2
    clear o14 b14 b413 M13
    go_wp2_with fail
    refine (HH2.out _ _ I14.out).mono ?_
    rintro e w15 ⟨z, zs, rfl, oz, b15⟩
    have B15 := B14.trans (b15.mono B14.size)
    have b415 := b414.trans (b15.mono b414.size)
    have M15 : Hid (OwnC w15 w5.heap.size 46 y (marksC 1 r) ys) := M14.out.later b15
    have OZ : Hid (OwnC w15 w14.heap.size 46 z r zs) := oz
    clear oz b15 b414 M14 I14 HH2
    go_wp2_with fail
    refine (HE.out _ _ _ _ _ _ _ OZ.out (XB.out _ b415)).mono ?_
    rintro e w16 ⟨rfl, b16⟩
    have B16 := B15.trans (b16.mono B15.size)
    have M16 : Hid (OwnC w16 w5.heap.size 46 y (marksC 1 r) ys) := M15.out.later b16
    clear b16 b415 M15 OZ HE
    go_wp2_with fail
    refine (HH.out _ _ _ _ M16.out).mono ?_
    rintro e w17 ⟨rfl, b17⟩
    have B17 := B16.trans (b17.mono B16.size)
    clear b17
    go_wp2
    go_ret
    exact ⟨rfl, B17⟩

set_option maxRecDepth 100000 in
theorem lifted (os : Os) (started : os.Started) (H : Type) (enc : TypeId × Value → H) :
    ReturnsInHanded {} Try.checked os 4 .any (Rows.fnExactChunksOfSpec.pre6 enc Try.prog Try.f4 Rows.fnExactChunksOfRow.domain false) (Rows.fnExactChunksOfSpec.post enc Try.prog Try.f4 false true false false) := by
  refine returnsInHanded_of_change (C := Try.checked) own started (by kernel_rfl) Try.func4
    (ChangeSpec.witness6 (enc := enc) (C := Try.checked) false ⟨#[], #[.slice none 0 0, .int .i64 0], []⟩ 8 (by kernel_rfl) (by kernel_rfl) (by kernel_rfl) (by kernel_rfl)) ?_
  intro W base args ds gs before hval0 hW hcnd _
  have hval : ∀ (j : Nat) t v, Try.f4.params[j]? = some t → args[j]? = some v → Value.okWide Try.prog W .any base t v := hval0
  have hW' := hW
  obtain ⟨p, q, hA0, hV, rfl, hfz, hnd⟩ := hW
  have hA : DataW.TrodAll enc Try.prog W 0 (fun _ => true) true Try.f4.params.toList args.toList ds p := hA0
  rw [Try.params4] at hA hval
  obtain ⟨v0, vs0, d0, ds0, p0, q0, hargs, rfl, rfl, h0, r0⟩ := trodAll_cons hA
  obtain ⟨v1, vs1, d1, ds1, p1, q1, hargs1, rfl, rfl, h1, r1⟩ := trodAll_cons r0
  obtain ⟨rfl, rfl, rfl⟩ := trodAll_nil r1
  obtain rfl : args = #[v0, v1] := by cases args; simp_all
  obtain ⟨rfl, rfl⟩ := trodVars_none hV
  obtain ⟨a1, rfl, rfl, rfl, w1⟩ := open_int Try.underlying2 (hval 1 2 v1 rfl rfl) h1
  have k0 := h0
  have lt0 : ∀ x ∈ p0, x.block < W.heap.size := by obtain ⟨m, hm⟩ := k0; exact DataW.trod_lt m _ _ _ hm
  obtain ⟨a0, ps, cap0, hv0, hm, hs, hbig⟩ : ∃ (a : Option Addr) (ps : List PairL) (cap : Nat), v0 = .slice a ps.length cap ∧ (∀ p ∈ ps, p.1.length ≤ 9223372036854775807 ∧ p.2.length ≤ 9223372036854775807) ∧ IsPairs W a ps ∧ ps.length ≤ 9223372036854775807 := by
    obtain ⟨a1, len1, cap1, rfl⟩ := okWide_slice Try.underlying30 (hval 0 30 v0 rfl rfl)
    obtain ⟨fuel, hf⟩ := h0
    exact pairs_of (by simpa [Value.cells] using hf)
  clear hA0 hval0
  subst hv0
  refine (walk a0 cap0 ps W hbig hm hs a1).mono fun e W' ⟨he, bel⟩ => ?_
  subst he
  exact ⟨_, rfl, _, _, _, [], _, [], hW', trodAll_mk1 (shut_bool Try.underlying4 _), (trodAll_cons_mk (Below.trod laidOut (by kernel_rfl) (of_decide_eq_true (by kernel_rfl)) k0 bel lt0) (trodAll_cons_mk (shut_int Try.underlying2 w1) trodAll_mk0)), rfl, bel.frame _, fun h => by cases h⟩

theorem over : Rows.fnExactChunksOfRow.holds Try.pinned (OpenSpec.ofChange Rows.fnExactChunksOfSpec) :=
  OpenClaim.holds_of_wide 4 Try.f4 rfl rfl rfl rfl rfl rfl rfl ⟨rfl, rfl, rfl, rfl, rfl⟩ rfl rfl rfl rfl rfl (by kernel_rfl) Try.func4 (by kernel_rfl)
    (of_decide_eq_true (by kernel_rfl)) (by unfold Func.isWrapper; first | (rw [if_pos (by decide +kernel)]; kernel_rfl) | (rw [if_neg (by decide +kernel)]; exact ⟨rfl, rfl⟩))
    (fun os started H enc _ => lifted os started H enc)

end Go.Proofs.Ytcgodnmbehjfaaa.fnExactChunksOf
namespace Go.Proofs.Ytcgodnmbehjfaaa
theorem fnExactChunksOf_holds : Rows.FnExactChunksOfSaid := fnExactChunksOf.over
end Go.Proofs.Ytcgodnmbehjfaaa
