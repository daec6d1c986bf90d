/-
  At every code the flag and the nibbles go into bytes and back, and Nibbles gives two for each byte: FnPrefixes answers true. No condition.
-/
import Derived.Test.YtgneihfhkaamfaaHurt
import Derived.Test.YtgneihfhkaamfaaNib
import Derived.Test.YtgneihfhkaamfaaIRead
import Derived.ProofKit
import Derived.OpenShut
import Derived.ShutString
import Derived.ChangeOld
import Derived.Below
namespace Go.Proofs.Ytgneihfhkaamfaa.fnPrefixes
open Go.ChangeShapes Go.WideShapes Go.ChangeAt Go.RowKit
open Go.ChangeMaps (open_string shut_string)
set_option linter.unusedVariables false

theorem own : ownKnob Try.prog.godebug = none := by kernel_rfl
theorem laidOut : laidOutB Try.prog = true := by kernel_rfl

theorem big_no (n cap : Nat) (a : Option Addr) (w : World) (h : n ≤ 1048576) :
    Calls Try.prog 6 #[.slice a n cap] w fun e w' => e = .returned (.bool false) ∧ w' = w := by
  have h' : ¬ (1048576 : Int) < (n : Int) := by omega
  go_enter Try.func6, Try.ntmps6
  go_wp2
  go_ret
  exact ⟨by simp, rfl⟩

theorem big_yes (n cap : Nat) (a : Option Addr) (w : World) (h : ¬ n ≤ 1048576) :
    Calls Try.prog 6 #[.slice a n cap] w fun e w' => e = .returned (.bool true) ∧ w' = w := by
  have h' : (1048576 : Int) < (n : Int) := by omega
  go_enter Try.func6, Try.ntmps6
  go_wp2
  go_ret
  exact ⟨by simp, rfl⟩

theorem pre_is (l : List UInt8) (t : Bool) (hl : l.length ≤ 60000) (hq : isNibs l = true) (w : World) :
    Calls Try.prog 21 #[.string ⟨l.toArray⟩, .bool t] w fun e w' => e = .returned (.tuple #[.string ⟨(pack (withFlag l t)).toArray⟩, .bool true]) ∧ Below w.heap.size w w' := by
  have h := impl_hexPrefix ⟨l.toArray⟩ t w (by simp [ByteArray.size]; omega)
  have e1 : (ByteArray.mk l.toArray).data.toList = l := by simp
  rw [e1] at h
  have e2 : hexPre l t = pack (withFlag l t) := if_pos ⟨hl, hq⟩
  have e3 : hexOk l = true := by simp [hexOk, hq, hl]
  rw [e2, e3] at h
  exact h

theorem pre_no (l : List UInt8) (t : Bool) (hl : l.length ≤ 60000) (hq : isNibs l = false) (w : World) :
    Calls Try.prog 21 #[.string ⟨l.toArray⟩, .bool t] w fun e w' => e = .returned (.tuple #[.string ⟨#[]⟩, .bool false]) ∧ Below w.heap.size w w' := by
  have h := impl_hexPrefix ⟨l.toArray⟩ t w (by simp [ByteArray.size]; omega)
  have e1 : (ByteArray.mk l.toArray).data.toList = l := by simp
  rw [e1] at h
  have e2 : hexPre l t = [] := if_neg (by simp [hq])
  have e3 : hexOk l = false := by simp [hexOk, hq]
  rw [e2, e3] at h
  exact h

theorem told_is (l : List UInt8) (t : Bool) (hl : l.length ≤ 60000) (hq : isNibs l = true) (w : World) :
    Calls Try.prog 22 #[.string ⟨l.toArray⟩, .bool t] w fun e w' => e = .returned (.tuple #[.string ⟨(pack (withFlag l t)).toArray⟩, .bool true]) ∧ Below w.heap.size w w' := by
  have h := spec_hexPrefix ⟨l.toArray⟩ t w (by simp [ByteArray.size]; omega)
  have e1 : (ByteArray.mk l.toArray).data.toList = l := by simp
  rw [e1] at h
  have e2 : hexPre l t = pack (withFlag l t) := if_pos ⟨hl, hq⟩
  have e3 : hexOk l = true := by simp [hexOk, hq, hl]
  rw [e2, e3] at h
  exact h

theorem told_no (l : List UInt8) (t : Bool) (hl : l.length ≤ 60000) (hq : isNibs l = false) (w : World) :
    Calls Try.prog 22 #[.string ⟨l.toArray⟩, .bool t] w fun e w' => e = .returned (.tuple #[.string ⟨#[]⟩, .bool false]) ∧ Below w.heap.size w w' := by
  have h := spec_hexPrefix ⟨l.toArray⟩ t w (by simp [ByteArray.size]; omega)
  have e1 : (ByteArray.mk l.toArray).data.toList = l := by simp
  rw [e1] at h
  have e2 : hexPre l t = [] := if_neg (by simp [hq])
  have e3 : hexOk l = false := by simp [hexOk, hq]
  rw [e2, e3] at h
  exact h

theorem nib_is (l : List UInt8) (hl : l.length ≤ 60000) (w : World) :
    Calls Try.prog 27 #[.string ⟨l.toArray⟩] w fun e w' => e = .returned (.string ⟨(nibs l).toArray⟩) ∧ Below w.heap.size w w' := by
  have h := impl_nibbles ⟨l.toArray⟩ w (by simp [ByteArray.size]; omega)
  have e1 : (ByteArray.mk l.toArray).data.toList = l := by simp
  rw [e1] at h
  exact h

theorem nib_told (l : List UInt8) (hl : l.length ≤ 60000) (w : World) :
    Calls Try.prog 28 #[.string ⟨l.toArray⟩] w fun e w' => e = .returned (.string ⟨(nibs l).toArray⟩) ∧ Below w.heap.size w w' := by
  have h := spec_nibbles ⟨l.toArray⟩ w (by simp [ByteArray.size]; omega)
  have e1 : (ByteArray.mk l.toArray).data.toList = l := by simp
  rw [e1] at h
  exact h

theorem nibs_len : ∀ l : List UInt8, (nibs l).length = 2 * l.length
  | [] => rfl
  | b :: r => by rw [nibs_cons]; simp [nibs_len r]; omega

set_option maxRecDepth 100000 in
set_option maxHeartbeats 4000000 in
theorem walk (a0 : Option Addr) (len0 cap0 : Nat) (w : World) (w0 : Code w a0 len0) :
    Calls Try.prog 5 #[.slice a0 len0 cap0] w fun e w' => e = .returned (.bool true) ∧ Below w.heap.size w w' := by
  by_cases hb : len0 ≤ 1048576
  · have HB := big_no len0 cap0 a0 w hb
    have HD := drawHex len0 cap0 a0 w hb w0
    have HC : Hid (Code w a0 len0) := w0
    clear w0
    go_enter Try.func5, Try.ntmps5
    go_wp2_with fail
    refine HB.mono ?_
    rintro e w1 ⟨rfl, rfl⟩
    clear HB
    go_wp2_with fail
    refine HD.mono ?_
    rintro e w2 ⟨l, t, hl, rfl, b2⟩
    clear HD
    by_cases hq : isNibs l = true
    · obtain ⟨q, hqq⟩ : ∃ q, q = pack (withFlag l t) := ⟨_, rfl⟩
      have H1 := fun W => pre_is l t (by omega) hq W
      have H2 := fun W => told_is l t (by omega) hq W
      have hlen : q.length = l.length / 2 + 1 := by rw [hqq]; exact hexlen l t
      have hlen' : (q.length : Int) = (l.length : Int) / 2 + 1 := by omega
      have hlen2 : ((l.length : Int)).tdiv 2 = (l.length : Int) / 2 := Int.tdiv_eq_ediv_of_nonneg (by omega)
      have hw1 : IntKind.i64.wrap ((l.length : Int) / 2) = (l.length : Int) / 2 := i64_wrap_small _ (by omega) (by omega)
      have hw2 : IntKind.i64.wrap ((l.length : Int) / 2 + 1) = (l.length : Int) / 2 + 1 := i64_wrap_small _ (by omega) (by omega)
      have H3 := fun W => impl_read q W (by omega)
      have hrd : readL q = some (l, t) := by rw [hqq]; exact readL_pack l t hq
      rw [hrd] at H3
      simp only [rdV] at H3
      rw [← hqq] at H1 H2
      clear hqq hrd hq
      go_wp2_with fail
      refine (H1 _).mono ?_
      rintro e w3 ⟨rfl, b3⟩
      go_wp2_with fail
      refine (H2 _).mono ?_
      rintro e w4 ⟨rfl, b4⟩
      go_wp2_with fail
      refine (H3 _).mono ?_
      rintro e w5 ⟨rfl, b5⟩
      have c3 := b2.trans (b3.mono b2.size)
      have c4 := c3.trans (b4.mono c3.size)
      have c := c4.trans (b5.mono c4.size)
      clear H1 H2 H3 b2 b3 b4 b5 c3 c4
      have H4 := drawRead len0 cap0 a0 w5 hb (HC.out.later c)
      go_wp2_with fail
      refine H4.mono ?_
      rintro e wa ⟨b, hbl, rfl, ba⟩
      have ca := c.trans (ba.mono c.size)
      clear H4 ba c
      have H5 := fun W => impl_read b W (by omega)
      have H6 := fun W => spec_read b W (by omega)
      cases hr : readL b with
      | none =>
        rw [hr] at H5 H6
        simp only [rdV] at H5 H6
        have H7 := fun W => pre_is [] false (by simp) rfl W
        clear hr
        go_wp2_with fail
        refine (H5 _).mono ?_
        rintro e wb ⟨rfl, bb⟩
        go_wp2_with fail
        refine (H6 _).mono ?_
        rintro e wc ⟨rfl, bc⟩
        go_wp2_with fail
        refine (H7 _).mono ?_
        rintro e wd ⟨rfl, bd⟩
        have cb := ca.trans (bb.mono ca.size)
        have cc := cb.trans (bc.mono cb.size)
        have cd := cc.trans (bd.mono cc.size)
        clear H5 H6 H7 bb bc bd ca cb cc
        have H8 := drawNib len0 cap0 a0 wd hb (HC.out.later cd)
        go_wp2_with fail
        refine H8.mono ?_
        rintro e we ⟨k, hk, rfl, be⟩
        have ce := cd.trans (be.mono cd.size)
        have hn := nibs_len k
        obtain ⟨nk, hnk⟩ : ∃ nk, nk = nibs k := ⟨_, rfl⟩
        have H9 := fun W => nib_is k (by omega) W
        have H10 := fun W => nib_told k (by omega) W
        rw [← hnk] at H9 H10 hn
        have hn' : (nk.length : Int) = 2 * (k.length : Int) := by omega
        have hwk : IntKind.i64.wrap (2 * (k.length : Int)) = 2 * (k.length : Int) := i64_wrap_small _ (by omega) (by omega)
        clear hnk H8 be cd
        go_wp2_with fail
        refine (H9 _).mono ?_
        rintro e wf ⟨rfl, bf⟩
        go_wp2_with fail
        refine (H10 _).mono ?_
        rintro e wg ⟨rfl, bg⟩
        go_wp2_with fail
        refine (H9 _).mono ?_
        rintro e wh ⟨rfl, bh⟩
        have cf := ce.trans (bf.mono ce.size)
        have cg := cf.trans (bg.mono cf.size)
        have ch := cg.trans (bh.mono cg.size)
        clear H9 H10 bf bg bh ce cf cg
        go_wp2
        go_ret
        exact ⟨rfl, ch⟩
      | some x =>
        obtain ⟨x, is⟩ := x
        obtain ⟨hx1, hx2, hx3⟩ := pack_readL b x is hr
        rw [hr] at H5 H6
        simp only [rdV] at H5 H6
        have H7 := fun W => pre_is x is (by omega) hx1 W
        rw [hx2] at H7
        clear hr hx1 hx2 hx3
        go_wp2_with fail
        refine (H5 _).mono ?_
        rintro e wb ⟨rfl, bb⟩
        go_wp2_with fail
        refine (H6 _).mono ?_
        rintro e wc ⟨rfl, bc⟩
        go_wp2_with fail
        refine (H7 _).mono ?_
        rintro e wd ⟨rfl, bd⟩
        have cb := ca.trans (bb.mono ca.size)
        have cc := cb.trans (bc.mono cb.size)
        have cd := cc.trans (bd.mono cc.size)
        clear H5 H6 H7 bb bc bd ca cb cc
        have H8 := drawNib len0 cap0 a0 wd hb (HC.out.later cd)
        go_wp2_with fail
        refine H8.mono ?_
        rintro e we ⟨k, hk, rfl, be⟩
        have ce := cd.trans (be.mono cd.size)
        have hn := nibs_len k
        obtain ⟨nk, hnk⟩ : ∃ nk, nk = nibs k := ⟨_, rfl⟩
        have H9 := fun W => nib_is k (by omega) W
        have H10 := fun W => nib_told k (by omega) W
        rw [← hnk] at H9 H10 hn
        have hn' : (nk.length : Int) = 2 * (k.length : Int) := by omega
        have hwk : IntKind.i64.wrap (2 * (k.length : Int)) = 2 * (k.length : Int) := i64_wrap_small _ (by omega) (by omega)
        clear hnk H8 be cd
        go_wp2_with fail
        refine (H9 _).mono ?_
        rintro e wf ⟨rfl, bf⟩
        go_wp2_with fail
        refine (H10 _).mono ?_
        rintro e wg ⟨rfl, bg⟩
        go_wp2_with fail
        refine (H9 _).mono ?_
        rintro e wh ⟨rfl, bh⟩
        have cf := ce.trans (bf.mono ce.size)
        have cg := cf.trans (bg.mono cf.size)
        have ch := cg.trans (bh.mono cg.size)
        clear H9 H10 bf bg bh ce cf cg
        go_wp2
        go_ret
        exact ⟨rfl, ch⟩
    · have hq' : isNibs l = false := by simpa using hq
      have H1 := fun W => pre_no l t (by omega) hq' W
      have H2 := fun W => told_no l t (by omega) hq' W
      clear hq hq'
      go_wp2_with fail
      refine (H1 _).mono ?_
      rintro e w3 ⟨rfl, b3⟩
      go_wp2_with fail
      refine (H2 _).mono ?_
      rintro e w4 ⟨rfl, b4⟩
      have c3 := b2.trans (b3.mono b2.size)
      have c := c3.trans (b4.mono c3.size)
      clear H1 H2 b2 b3 b4 c3
      have H4 := drawRead len0 cap0 a0 w4 hb (HC.out.later c)
      go_wp2_with fail
      refine H4.mono ?_
      rintro e wa ⟨b, hbl, rfl, ba⟩
      have ca := c.trans (ba.mono c.size)
      clear H4 ba c
      have H5 := fun W => impl_read b W (by omega)
      have H6 := fun W => spec_read b W (by omega)
      cases hr : readL b with
      | none =>
        rw [hr] at H5 H6
        simp only [rdV] at H5 H6
        have H7 := fun W => pre_is [] false (by simp) rfl W
        clear hr
        go_wp2_with fail
        refine (H5 _).mono ?_
        rintro e wb ⟨rfl, bb⟩
        go_wp2_with fail
        refine (H6 _).mono ?_
        rintro e wc ⟨rfl, bc⟩
        go_wp2_with fail
        refine (H7 _).mono ?_
        rintro e wd ⟨rfl, bd⟩
        have cb := ca.trans (bb.mono ca.size)
        have cc := cb.trans (bc.mono cb.size)
        have cd := cc.trans (bd.mono cc.size)
        clear H5 H6 H7 bb bc bd ca cb cc
        have H8 := drawNib len0 cap0 a0 wd hb (HC.out.later cd)
        go_wp2_with fail
        refine H8.mono ?_
        rintro e we ⟨k, hk, rfl, be⟩
        have ce := cd.trans (be.mono cd.size)
        have hn := nibs_len k
        obtain ⟨nk, hnk⟩ : ∃ nk, nk = nibs k := ⟨_, rfl⟩
        have H9 := fun W => nib_is k (by omega) W
        have H10 := fun W => nib_told k (by omega) W
        rw [← hnk] at H9 H10 hn
        have hn' : (nk.length : Int) = 2 * (k.length : Int) := by omega
        have hwk : IntKind.i64.wrap (2 * (k.length : Int)) = 2 * (k.length : Int) := i64_wrap_small _ (by omega) (by omega)
        clear hnk H8 be cd
        go_wp2_with fail
        refine (H9 _).mono ?_
        rintro e wf ⟨rfl, bf⟩
        go_wp2_with fail
        refine (H10 _).mono ?_
        rintro e wg ⟨rfl, bg⟩
        go_wp2_with fail
        refine (H9 _).mono ?_
        rintro e wh ⟨rfl, bh⟩
        have cf := ce.trans (bf.mono ce.size)
        have cg := cf.trans (bg.mono cf.size)
        have ch := cg.trans (bh.mono cg.size)
        clear H9 H10 bf bg bh ce cf cg
        go_wp2
        go_ret
        exact ⟨rfl, ch⟩
      | some x =>
        obtain ⟨x, is⟩ := x
        obtain ⟨hx1, hx2, hx3⟩ := pack_readL b x is hr
        rw [hr] at H5 H6
        simp only [rdV] at H5 H6
        have H7 := fun W => pre_is x is (by omega) hx1 W
        rw [hx2] at H7
        clear hr hx1 hx2 hx3
        go_wp2_with fail
        refine (H5 _).mono ?_
        rintro e wb ⟨rfl, bb⟩
        go_wp2_with fail
        refine (H6 _).mono ?_
        rintro e wc ⟨rfl, bc⟩
        go_wp2_with fail
        refine (H7 _).mono ?_
        rintro e wd ⟨rfl, bd⟩
        have cb := ca.trans (bb.mono ca.size)
        have cc := cb.trans (bc.mono cb.size)
        have cd := cc.trans (bd.mono cc.size)
        clear H5 H6 H7 bb bc bd ca cb cc
        have H8 := drawNib len0 cap0 a0 wd hb (HC.out.later cd)
        go_wp2_with fail
        refine H8.mono ?_
        rintro e we ⟨k, hk, rfl, be⟩
        have ce := cd.trans (be.mono cd.size)
        have hn := nibs_len k
        obtain ⟨nk, hnk⟩ : ∃ nk, nk = nibs k := ⟨_, rfl⟩
        have H9 := fun W => nib_is k (by omega) W
        have H10 := fun W => nib_told k (by omega) W
        rw [← hnk] at H9 H10 hn
        have hn' : (nk.length : Int) = 2 * (k.length : Int) := by omega
        have hwk : IntKind.i64.wrap (2 * (k.length : Int)) = 2 * (k.length : Int) := i64_wrap_small _ (by omega) (by omega)
        clear hnk H8 be cd
        go_wp2_with fail
        refine (H9 _).mono ?_
        rintro e wf ⟨rfl, bf⟩
        go_wp2_with fail
        refine (H10 _).mono ?_
        rintro e wg ⟨rfl, bg⟩
        go_wp2_with fail
        refine (H9 _).mono ?_
        rintro e wh ⟨rfl, bh⟩
        have cf := ce.trans (bf.mono ce.size)
        have cg := cf.trans (bg.mono cf.size)
        have ch := cg.trans (bh.mono cg.size)
        clear H9 H10 bf bg bh ce cf cg
        go_wp2
        go_ret
        exact ⟨rfl, ch⟩
  · have HB := big_yes len0 cap0 a0 w hb
    clear w0
    go_enter Try.func5, Try.ntmps5
    go_wp2_with fail
    refine HB.mono ?_
    rintro e w1 ⟨rfl, rfl⟩
    clear HB
    go_wp2
    go_ret
    exact ⟨rfl, Below.refl _ _⟩

theorem code_of (W : World) (x : Addr) (len cap : Nat) (zs : List Int) (hl : len ≤ cap) (hz : zs.length = cap) (hcell : ∀ i, i < zs.length → W.cell? (x.add i) = some (.int .u8 (zs.getD i 0))) (hwz : ∀ n ∈ zs, (Lit.int .u8 n).wf = true) : Code W (some x) len := by
  by_cases h0 : len = 0
  · exact .inl h0
  · obtain ⟨b, o, sp⟩ := x
    have h00 := hcell 0 (by omega)
    have hsp : sp = none := World.cell?_spot (a := ⟨b, o, sp⟩) (by simpa [Addr.add] using h00)
    subst hsp
    have hlt : b < W.heap.size := by
      rcases Nat.lt_or_ge b W.heap.size with h | h
      · exact h
      · simp [Addr.add, World.cell?, Array.getElem?_eq_none h] at h00
    refine .inr ⟨b, o, rfl, hlt, fun i hi => ?_⟩
    have hc := hcell i (by omega)
    have ha : (Addr.add ⟨b, o, none⟩ i) = ⟨b, o + i, none⟩ := by unfold Addr.add; split <;> simp_all
    rw [ha] at hc
    have hi' : i < zs.length := by omega
    have hm : zs.getD i 0 ∈ zs := by simp [List.getD, List.getElem?_eq_getElem hi']
    have hwf := hwz _ hm
    obtain ⟨z, hz⟩ : ∃ z, z = zs.getD i 0 := ⟨_, rfl⟩
    rw [← hz] at hc hwf
    have hr : 0 ≤ z ∧ z ≤ 255 := by simp only [Lit.wf, Bool.and_eq_true, decide_eq_true_eq] at hwf; exact hwf
    refine ⟨UInt8.ofNat z.toNat, ?_⟩
    rw [byte_of, hc]
    congr 2
    omega

set_option maxRecDepth 100000 in
theorem lifted (os : Os) (started : os.Started) (H : Type) (enc : TypeId × Value → H) :
    ReturnsInHanded {} Try.checked os 5 .any (Rows.fnPrefixesSpec.pre6 enc Try.prog Try.f5 Rows.fnPrefixesRow.domain false) (Rows.fnPrefixesSpec.post enc Try.prog Try.f5 false true false false) := by
  refine returnsInHanded_of_change (C := Try.checked) own started (by kernel_rfl) Try.func5
    (ChangeSpec.witness6 (enc := enc) (C := Try.checked) false ⟨#[], #[.slice none 0 0], []⟩ 8 (by kernel_rfl) (by kernel_rfl) (by kernel_rfl) (by kernel_rfl)) ?_
  intro W base args ds gs before hval0 hW hcnd _
  have hval : ∀ (j : Nat) t v, Try.f5.params[j]? = some t → args[j]? = some v → Value.okWide Try.prog W .any base t v := hval0
  have hW' := hW
  obtain ⟨p, q, hA0, hV, rfl, hfz, hnd⟩ := hW
  have hA : DataW.TrodAll enc Try.prog W 0 (fun _ => true) true Try.f5.params.toList args.toList ds p := hA0
  rw [Try.params5] at hA hval
  obtain ⟨v0, vs0, d0, ds0, p0, q0, hargs, rfl, rfl, h0, r0⟩ := trodAll_cons hA
  obtain ⟨rfl, rfl, rfl⟩ := trodAll_nil r0
  obtain rfl : args = #[v0] := by cases args; simp_all
  obtain ⟨rfl, rfl⟩ := trodVars_none hV
  obtain ⟨a0, len0, cap0, rfl⟩ := okWide_slice Try.underlying22 (hval 0 22 v0 rfl rfl)
  have k0 := h0
  have lt0 : ∀ x ∈ p0, x.block < W.heap.size := by obtain ⟨m, hm⟩ := k0; exact DataW.trod_lt m _ _ _ hm
  have w0 : Code W a0 len0 := by
    obtain ⟨fuel, hf⟩ := h0
    rcases open_ints Try.underlying22 Try.underlying5 (by kernel_rfl) hf with ⟨hcs, _⟩ | ⟨x, l, c, zs, hcs, _, hl, hm, hz, _, hcell, hwz⟩
    · simp [Value.cells] at hcs
      obtain ⟨rfl, rfl, rfl⟩ := hcs
      exact .inl rfl
    · simp [Value.cells] at hcs
      obtain ⟨rfl, rfl, rfl⟩ := hcs
      exact code_of W x _ _ zs hl (by simpa using hz) hcell hwz
  clear hA0 hval0
  refine (walk a0 len0 cap0 W w0).mono fun e W' ⟨he, bel⟩ => ?_
  subst he
  exact ⟨_, rfl, _, _, _, [], _, [], hW', trodAll_mk1 (shut_bool Try.underlying4 _), (trodAll_cons_mk (Below.trod laidOut (by kernel_rfl) (of_decide_eq_true (by kernel_rfl)) k0 bel lt0) trodAll_mk0), rfl, bel.frame _, fun h => by cases h⟩

theorem over : Rows.fnPrefixesRow.holds Try.pinned (OpenSpec.ofChange Rows.fnPrefixesSpec) :=
  OpenClaim.holds_of_wide 5 Try.f5 rfl rfl rfl rfl rfl rfl rfl ⟨rfl, rfl, rfl, rfl, rfl⟩ rfl rfl rfl rfl rfl (by kernel_rfl) Try.func5 (by kernel_rfl)
    (of_decide_eq_true (by kernel_rfl)) (by unfold Func.isWrapper; first | (rw [if_pos (by decide +kernel)]; kernel_rfl) | (rw [if_neg (by decide +kernel)]; exact ⟨rfl, rfl⟩))
    (fun os started H enc _ => lifted os started H enc)

end Go.Proofs.Ytgneihfhkaamfaa.fnPrefixes
namespace Go.Proofs.Ytgneihfhkaamfaa
theorem fnPrefixes_holds : Rows.FnPrefixesSaid := fnPrefixes.over
end Go.Proofs.Ytgneihfhkaamfaa
