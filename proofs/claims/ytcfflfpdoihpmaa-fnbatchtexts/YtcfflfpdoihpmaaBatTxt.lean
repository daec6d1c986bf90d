/-
  Contracts: a batch's text, of the program and of the model (written by mkbtxt.py).
-/
import Derived.Test.YtcfflfpdoihpmaaMathNum
import Derived.Test.YtcfflfpdoihpmaaBatOk
import Derived.Test.YtcfflfpdoihpmaaWrap
import Derived.Test.YtcfflfpdoihpmaaSL1
import Derived.Test.YtcfflfpdoihpmaaIL1
import Derived.Deep.RegionHeld3
import Derived.Deep.AppendLies
namespace Go.Proofs.Ytcfflfpdoihpmaa
open Go.RowKit
set_option linter.unusedVariables false

theorem infoPr : (Try.prog.info? 90).map (fun i => (i.zero, i.size, i.bytes)) = some (some (.agg #[.string ⟨#[]⟩, .string ⟨#[]⟩]), 2, 32) := by kernel_rfl

theorem duo_setR {w : World} {b j : Nat} {u v y : Value} {t : TypeId} (h : w.heap[b]? = some (.cells #[u, v] t (0, 0))) : (w.setCell ⟨b, j, none⟩ y).heap[b]? = some (.cells (#[u, v].setIfInBounds j y) t (0, 0)) := by
  have hlt := lt_of_block h
  have h' : w.heap[b] = .cells #[u, v] t (0, 0) := by simpa [Array.getElem?_eq_getElem hlt] using h
  show (w.heap.modify b _)[b]? = _
  rw [Array.getElem?_eq_getElem (by simpa using hlt), Array.getElem_modify_self, h']
  rfl

set_option maxRecDepth 100000 in
set_option maxHeartbeats 400000 in
theorem spec_l1Num (n : Nat) (w : World) (hn : n ≤ 1000000000000) :
    Calls Try.prog 67 #[.int .i64 n] w fun e w' => e = .returned (.string ⟨(numB 8 n).toArray⟩) ∧ Below w.heap.size w w' := by
  have hcv : (IntKind.u64).wrap (n : Int) = (n : Int) := by simp [IntKind.wrap, IntKind.signed, IntKind.bits]; omega
  have HS : (bigB n 8).dropWhile (· == 0) = numB 8 n := dropZ_bigB 8 n (by omega)
  have HZ := bigB_length n 8
  go_enter Try.func67, Try.ntmps67
  go_wp2_with fail
  refine (spec_l1Big n 8 _ (by omega) (by omega)).mono ?_
  rintro e w1 ⟨rfl, hb1⟩
  go_wp2
  go_loop [3] (fun v => ∃ l : List UInt8, v = .string ⟨l.toArray⟩ ∧ l.length ≤ 8 ∧ Hid (l.dropWhile (· == 0) = numB 8 n)) (fun v => match v with | .string s => s.size | _ => 0)
  case atStart => exact ⟨_, rfl, by rw [HZ]; omega, HS⟩
  case round =>
    obtain ⟨l, rfl, hl, HL⟩ := hrel
    clear HS HZ
    match l, hl, HL with
    | [], hl, HL =>
      go_wp2
      go_ret
      exact ⟨ret_string (by rw [← HL.out]; rfl), hb1⟩
    | a :: r, hl, HL =>
      by_cases ha : a = 0
      · subst ha
        go_wp2
        go_round
        case rel => exact ⟨r, congrArg Value.string (ba_tail (0 :: r)), by simp at hl ⊢; omega, by rw [Hid, ← HL.out, dropZ_zero]⟩
        case measure => simp [ByteArray.size]
      · have ha' : ((((ByteArray.mk (a :: r).toArray)[0]'(by simp [ByteArray.size])).toNat : Int) == 0) = false := by
          show ((a.toNat : Int) == 0) = false
          simp only [beq_eq_false_iff_ne, ne_eq]
          intro h
          exact ha (UInt8.toNat_inj.1 (by simpa using h))
        have HR : Hid (a :: r = numB 8 n) := by rw [Hid, ← HL.out]; exact (dropZ_stop a r ha).symm
        go_wp2
        go_ret
        exact ⟨ret_string HR.out, hb1⟩

set_option maxRecDepth 100000 in
set_option maxHeartbeats 400000 in
theorem impl_numberRow (x y : Nat) (w : World) (hx : x ≤ 1000000000000) (hy : y ≤ 1000000000000) :
    Calls Try.prog 68 #[.int .i64 x, .int .i64 y] w fun e w' => e = .returned (.agg #[.string ⟨(numB 8 x).toArray⟩, .string ⟨(numB 8 y).toArray⟩]) ∧ Below w.heap.size w w' := by
  have B0 : Below w.heap.size w (w.alloc (.cells #[.string ⟨#[]⟩, .string ⟨#[]⟩] 90)) := (Below.refl _ _).alloc (Nat.le_refl _) _
  have HQ : Hid ((w.alloc (.cells #[.string ⟨#[]⟩, .string ⟨#[]⟩] 90)).heap[w.heap.size]? = some (.cells #[.string ⟨#[]⟩, .string ⟨#[]⟩] 90 (0, 0))) := heap_alloc_new w _
  have HL : Hid (w.heap.size < (w.alloc (.cells #[.string ⟨#[]⟩, .string ⟨#[]⟩] 90)).heap.size) := by rw [Hid]; simp
  have K1 := impl_numberText x (w.alloc (.cells #[.string ⟨#[]⟩, .string ⟨#[]⟩] 90)) (by omega)
  have K2 := fun W => impl_numberText y W (by omega)
  obtain ⟨s, hs⟩ : ∃ s, s = numB 8 x := ⟨_, rfl⟩
  obtain ⟨t, ht⟩ : ∃ t, t = numB 8 y := ⟨_, rfl⟩
  rw [← hs] at K1 ⊢
  rw [← ht] at K2 ⊢
  clear hs ht
  go_enter Try.func68, Try.ntmps68
  go_wp2_with fail
  refine K1.mono ?_
  rintro e w1 ⟨rfl, b1⟩
  have Q1 : Hid (w1.heap[w.heap.size]? = some (.cells #[.string ⟨#[]⟩, .string ⟨#[]⟩] 90 (0, 0))) := (b1.block w.heap.size HL.out).trans HQ.out
  have B1 := B0.trans (b1.mono B0.size)
  have L1 : Hid (w.heap.size < w1.heap.size) := Nat.lt_of_lt_of_le HL.out b1.size
  clear b1 K1 B0
  go_wp2_with fail
  refine (K2 _).mono ?_
  rintro e w2 ⟨rfl, b2⟩
  have Q2 := (b2.block w.heap.size L1.out).trans Q1.out
  have B2 := B1.trans (b2.mono B1.size)
  have q0 : w2.cell? ⟨w.heap.size, 0, none⟩ = some (.string ⟨#[]⟩) := by simp only [World.cell?, Q2]; rfl
  have q1 : w2.cell? ⟨w.heap.size, 1, none⟩ = some (.string ⟨#[]⟩) := by simp only [World.cell?, Q2]; rfl
  have f0 := frozen_of_row w2 w.heap.size 0 _ _ Q2
  have f1 := frozen_of_row w2 w.heap.size 1 _ _ Q2
  have y2 : ((w2.setCell ⟨w.heap.size, 0, none⟩ (.string ⟨s.toArray⟩)).setCell ⟨w.heap.size, 1, none⟩ (.string ⟨t.toArray⟩)).heap[w.heap.size]? = some (.cells #[.string ⟨s.toArray⟩, .string ⟨t.toArray⟩] 90 (0, 0)) := by
    exact duo_setR (j := 1) (duo_setR (j := 0) Q2)
  have Y2 : Hid (((w2.setCell ⟨w.heap.size, 0, none⟩ (.string ⟨s.toArray⟩)).setCell ⟨w.heap.size, 1, none⟩ (.string ⟨t.toArray⟩)).heap[w.heap.size]? = some (.cells #[.string ⟨s.toArray⟩, .string ⟨t.toArray⟩] 90 (0, 0))) := y2
  clear b2 K2 B1 Q2 y2
  go_wp2
  exact bodyPost_ret (v := .agg #[.string ⟨s.toArray⟩, .string ⟨t.toArray⟩]) (results_cell_row rfl _ _ w.heap.size 90 _ (0, 0) _ rfl Y2.out Try.underlying90 rfl (by kernel_rfl)) rfl ⟨rfl, (B2.setCell (Nat.le_refl _) _).setCell (Nat.le_refl _) _⟩

set_option maxRecDepth 100000 in
set_option maxHeartbeats 1000000 in
theorem impl_textOfRows (a : Option Addr) (cap : Nat) (ps : List PairL) (w : World) (hf : (pairTs ps).flatten.length ≤ 30000) (hl : ps.length ≤ 500) (hs : IsPairs w a ps) :
    Calls Try.prog 69 #[.slice a ps.length cap] w fun e w' => e = .returned (.string ⟨(listB (pairTs ps)).toArray⟩) ∧ Below w.heap.size w w' := by
  obtain ⟨i0, hi0, hz0, hz1, hz2⟩ := info_parts info9i
  obtain ⟨out, hout⟩ : ∃ out, out = listB (pairTs ps) := ⟨_, rfl⟩
  have HK : Hid (∀ W a2 c2, IsStrs W a2 (pairTs ps) → Calls Try.prog 96 #[.slice a2 (2 * ps.length) c2] W fun e w' => e = .returned (.string ⟨out.toArray⟩) ∧ Below W.heap.size W w') := fun W a2 c2 h => by
    have := impl_listOfTexts a2 c2 (pairTs ps) W hf (by rw [pairTs_length]; omega) h
    rw [pairTs_length, ← hout] at this
    exact this
  rw [← hout]
  clear hout hf
  go_enter Try.func69, Try.ntmps69
  go_wp2
  go_loopw [3, 5, 8] (fun v _ i wr => ∃ j c2 : Nat, ∃ a2 : Option Addr, j ≤ ps.length ∧ i = .int .i64 (j : Int) ∧ v = .slice a2 (2 * j) c2 ∧ wr.ownsRow w.heap.size 9 1 (.slice a2 (2 * j) c2) (2 * j) (scells (pairTs (ps.take j))) ∧ Below w.heap.size w wr) (fun _ _ i _ => ps.length - (intOf i).toNat)
  case atStart => exact ⟨0, 0, none, Nat.zero_le _, rfl, rfl, World.ownsRow_nil _ _ _ _, Below.refl _ _⟩
  case round =>
    obtain ⟨j, c2, a2, hj, rfl, rfl, hown, hbel⟩ := hrel
    have hsz := hbel.size
    by_cases hlt : j < ps.length
    · obtain ⟨b, off, ha, d1, d2⟩ : ∃ b off, a = some ⟨b, off, none⟩ ∧ wr.cell? ⟨b, off + j * 2, none⟩ = some (.string ⟨ps[j].1.toArray⟩) ∧ wr.cell? ⟨b, off + j * 2 + 1, none⟩ = some (.string ⟨ps[j].2.toArray⟩) := by
        rcases hs.later hbel with h | ⟨b, off, h, hc⟩
        · rw [h] at hlt; simp at hlt
        · exact ⟨b, off, h, (hc j hlt).1, (hc j hlt).2⟩
      subst ha
      have hj0 : (0 : Int) ≤ (j : Int) := by omega
      have hj1 : (j : Int) < (ps.length : Int) := by omega
      have hlow : ∀ k, (Value.slice a2 (2 * j) c2).ownBlock = some k → w.heap.size ≤ k := fun k hk => (hown.lt k hk).1
      have HT : Hid (scells (pairTs (ps.take (j + 1))) = scells (pairTs (ps.take j)) ++ [.string ⟨ps[j].1.toArray⟩, .string ⟨ps[j].2.toArray⟩]) := by
        rw [Hid, take_snocP ps j hlt, pairTs_snoc]; simp [scells]
      obtain ⟨x, hx⟩ : ∃ x, x = ps[j].1 := ⟨_, rfl⟩
      obtain ⟨y, hy⟩ : ∃ y, y = ps[j].2 := ⟨_, rfl⟩
      rw [← hx] at d1 HT
      rw [← hy] at d2 HT
      have W2 : Hid (∀ t, Below w.heap.size w ((wr.alloc (.cells #[.string ⟨x.toArray⟩, .string ⟨y.toArray⟩] 90)).alloc (.cells #[.string ⟨x.toArray⟩, .string ⟨y.toArray⟩] t))) := fun t => (hbel.alloc hsz _).alloc (by simp; omega) _
      have hown2 := hown.alloc (.cells #[.string ⟨x.toArray⟩, .string ⟨y.toArray⟩] 90)
      clear hx hy hs hown hbel
      go_wp2_with (at_builtin; refine wpList_append_lies _ rfl _ _ 24 rfl w.heap.size 9 i0 (.string ⟨#[]⟩) 1 16 Try.underlying24 hi0 hz0 hz1 hz2 rfl (by decide) (.slice a2 (2 * j) c2) (2 * j) _ rfl (hown2.alloc _) ⟨wr.heap.size + 1, 0, none⟩ 2 2 [.string ⟨x.toArray⟩, .string ⟨y.toArray⟩] rfl rfl (World.news_of_block (cs := #[.string ⟨x.toArray⟩, .string ⟨y.toArray⟩]) (t := 9) (fr := (0, 0)) (by have := heap_alloc_new (wr.alloc (.cells #[.string ⟨x.toArray⟩, .string ⟨y.toArray⟩] 90)) (.cells #[.string ⟨x.toArray⟩, .string ⟨y.toArray⟩] 9); simpa using this)) (by simp [Value.oneCell']) (by omega) (by unfold maxLen; omega) (by omega) (by simp; omega) (wr.heap.size + 2) (by simp) ?_; intro g2 cap2 w3 hown3 hgrow hat hlt3)
      have hbel3 : Below w.heap.size w w3 := (W2.out _).grown hgrow (by simp; omega) hlow
      have e2 : 2 * j + 2 = 2 * (j + 1) := by omega
      have HO3 : Hid (w3.ownsRow w.heap.size 9 1 (.slice (some ⟨g2, 0, none⟩) (2 * (j + 1)) cap2) (2 * (j + 1)) (scells (pairTs (ps.take (j + 1))))) := by rw [Hid, HT.out, ← e2]; exact hown3
      rw [e2]
      clear hgrow hown3 hown2 W2 e2
      go_roundw
      case rel => exact ⟨j + 1, cap2, some ⟨g2, 0, none⟩, by omega, by go_num, rfl, HO3.out, hbel3⟩
      case measure => simp [intOf]; omega
    · have hjl : j = ps.length := by omega
      subst hjl
      rw [List.take_length] at hown
      have HI : Hid (IsStrs wr a2 (pairTs ps)) := (strs_own hown).2.2
      clear hown hs
      go_wp2_with fail
      refine (HK.out _ _ _ HI.out).mono ?_
      rintro e w4 ⟨rfl, b4⟩
      have B4 := hbel.trans (b4.mono hsz)
      clear b4
      go_wp2
      go_ret
      exact ⟨rfl, B4⟩

set_option maxRecDepth 100000 in
set_option maxHeartbeats 1000000 in
theorem impl_batchText (c n : Int) (a : Option Addr) (cap : Nat) (ps : List OpL) (w : World) (hl : ps.length ≤ 1048576) (hm : ∀ p ∈ ps, p.1.length ≤ 1048576 ∧ p.2.1.length ≤ 1048576) (hs : IsOps w a ps) :
    Calls Try.prog 28 #[.agg #[.int .i64 c, .int .i64 n, .slice a ps.length cap]] w fun e w' => e = .returned (.string ⟨(batchB c n ps).toArray⟩) ∧ Below w.heap.size w w' := by
  obtain ⟨i0, hi0, hz0, hz1, hz2⟩ := info_parts infoPr
  have B0 : Below w.heap.size w (w.alloc (.cells #[.int .i64 c, .int .i64 n, .slice a ps.length cap] 44)) := (Below.refl _ _).alloc (Nat.le_refl _) _
  have HQ : Hid ((w.alloc (.cells #[.int .i64 c, .int .i64 n, .slice a ps.length cap] 44)).heap[w.heap.size]? = some (.cells #[.int .i64 c, .int .i64 n, .slice a ps.length cap] 44 (0, 0))) := heap_alloc_new w _
  have HL : Hid (w.heap.size < (w.alloc (.cells #[.int .i64 c, .int .i64 n, .slice a ps.length cap] 44)).heap.size) := by rw [Hid]; simp
  have BX : Hid (Below w.heap.size w (w.alloc (.cells #[.int .i64 c, .int .i64 n, .slice a ps.length cap] 44))) := B0
  have K := impl_batchOk c n a cap ps (w.alloc (.cells #[.int .i64 c, .int .i64 n, .slice a ps.length cap] 44)) hl hm (hs.later B0)
  have HS : Hid (∀ W, Below w.heap.size w W → IsOps W a ps) := fun W hW => hs.later hW
  obtain ⟨out, hout⟩ : ∃ out, out = batchB c n ps := ⟨_, rfl⟩
  rw [← hout]
  clear hs hm B0
  cases hb : batchOk c n ps with
  | false =>
    rw [hb] at K
    have HO : Hid (out = []) := by rw [Hid, hout, batchB, if_neg (by rw [hb]; simp)]
    clear hb hout
    go_enter Try.func28, Try.ntmps28
    go_wp2_with fail
    refine K.mono ?_
    rintro e w1 ⟨rfl, b1⟩
    have B1 := BX.out.trans (b1.mono BX.out.size)
    clear b1 K
    go_wp2
    go_ret
    rw [HO.out]
    exact ⟨rfl, B1⟩
  | true =>
    rw [hb] at K
    obtain ⟨hn1, hn2, h1, h12, _⟩ := batchOk_of c n ps hb
    have hfl := batchTs_flat c n ps hb
    have HO : Hid (out = listB (pairTs ((numB 8 c.toNat, numB 8 n.toNat) :: opRows ps))) := by rw [Hid, hout, batchB, if_pos hb, rows_batch]
    obtain ⟨hc1, hc2⟩ := numOk_nat c hn1
    obtain ⟨hm1, hm2⟩ := numOk_nat n hn2
    obtain ⟨c', hc'⟩ : ∃ c', c' = c.toNat := ⟨_, rfl⟩
    obtain ⟨n', hn'⟩ : ∃ n', n' = n.toNat := ⟨_, rfl⟩
    rw [← hc'] at hc1 hc2 HO
    rw [← hn'] at hm1 hm2 HO
    have HKT : Hid (∀ W a2 c2, IsPairs W a2 ((numB 8 c', numB 8 n') :: opRows ps) → Calls Try.prog 69 #[.slice a2 (ps.length + 1) c2] W fun e w' => e = .returned (.string ⟨out.toArray⟩) ∧ Below W.heap.size W w') := fun W a2 c2 h => by
      have := impl_textOfRows a2 c2 ((numB 8 c', numB 8 n') :: opRows ps) W (by rw [hc', hn', rows_batch]; omega) (by simp [opRows_length]; omega) h
      rw [← HO.out, List.length_cons, opRows_length] at this
      exact this
    have KN := fun W => impl_numberRow c' n' W hc2 hm2
    rw [← hc1, ← hm1] at KN
    clear hb hout hn1 hn2 hfl hc' hn' hc1 hm1 hc2 hm2 HO
    obtain ⟨x0, hx0⟩ : ∃ x, x = numB 8 c' := ⟨_, rfl⟩
    obtain ⟨y0, hy0⟩ : ∃ y, y = numB 8 n' := ⟨_, rfl⟩
    rw [← hx0, ← hy0] at KN HKT
    clear hx0 hy0
    go_enter Try.func28, Try.ntmps28
    go_wp2_with fail
    refine K.mono ?_
    rintro e w1 ⟨rfl, b1⟩
    have Q1 : Hid (w1.heap[w.heap.size]? = some (.cells #[.int .i64 c, .int .i64 n, .slice a ps.length cap] 44 (0, 0))) := (b1.block w.heap.size HL.out).trans HQ.out
    have L1 : Hid (w.heap.size < w1.heap.size) := Nat.lt_of_lt_of_le HL.out b1.size
    have B1 := BX.out.trans (b1.mono BX.out.size)
    obtain ⟨bc0, bc1, bc2, bcf⟩ := bat_cells Q1.out
    clear b1 K bcf bc2
    go_wp2_with fail
    refine (KN _).mono ?_
    rintro e w2 ⟨rfl, b2⟩
    have Q2 := (b2.block w.heap.size L1.out).trans Q1.out
    have B2 := B1.trans (b2.mono B1.size)
    have L2 : Hid (w.heap.size < w2.heap.size) := Nat.lt_of_lt_of_le L1.out b2.size
    have HB3 : Hid (Below w2.heap.size w2 (w2.alloc (.cells #[.string ⟨x0.toArray⟩, .string ⟨y0.toArray⟩] 90))) := (Below.refl _ _).alloc (Nat.le_refl _) _
    have BA : Hid (Below w.heap.size w (w2.alloc (.cells #[.string ⟨x0.toArray⟩, .string ⟨y0.toArray⟩] 90))) := B2.alloc B2.size _
    have Q3 := (Below.heap_alloc w2 (.cells #[.string ⟨x0.toArray⟩, .string ⟨y0.toArray⟩] 90) w.heap.size L2.out).trans Q2
    have O3 : Hid ((w2.alloc (.cells #[.string ⟨x0.toArray⟩, .string ⟨y0.toArray⟩] 90)).ownsRow w2.heap.size 90 2 (.slice (some ⟨w2.heap.size, 0, none⟩) 1 1) 1 [.string ⟨x0.toArray⟩, .string ⟨y0.toArray⟩]) := World.ownsRow_lit (e := 90) (size := 2) w2 #[.string ⟨x0.toArray⟩, .string ⟨y0.toArray⟩] 1 (base := w2.heap.size) (Nat.le_refl _) (by unfold maxLen; omega) rfl
    obtain ⟨ec0, ec1, ec2, ecf⟩ := bat_cells Q3
    clear b2 KN Q2 B1 bc0 bc1 ecf Q3 ec0 ec1
    obtain ⟨w3, hw3⟩ : ∃ w3, w3 = w2.alloc (.cells #[.string ⟨x0.toArray⟩, .string ⟨y0.toArray⟩] 90) := ⟨_, rfl⟩
    have HW3 : Hid (w3 = w2.alloc (.cells #[.string ⟨x0.toArray⟩, .string ⟨y0.toArray⟩] 90)) := hw3
    go_wp2
    rw [← HW3.out]
    rw [← hw3] at BA O3 ec2 HB3
    clear hw3 HW3
    have L3 : Hid (w.heap.size < w3.heap.size) := World.block_lt_of_cell? w3 _ ec2
    have S3 : Hid (w2.heap.size < w3.heap.size) := own_lt O3.out
    go_loopw [3, 5, 18] (fun v _ i wr => ∃ j c2 g : Nat, j ≤ ps.length ∧ i = .int .i64 (j : Int) ∧ v = .slice (some ⟨g, 0, none⟩) (j + 1) c2 ∧ wr.ownsRow w2.heap.size 90 2 (.slice (some ⟨g, 0, none⟩) (j + 1) c2) (j + 1) (pcells ((x0, y0) :: opRows (ps.take j))) ∧ Below w2.heap.size w2 wr) (fun _ _ i _ => ps.length - (intOf i).toNat)
    case atStart => exact ⟨0, 1, w2.heap.size, Nat.zero_le _, rfl, rfl, O3.out, HB3.out⟩
    case round =>
      obtain ⟨j, c2, g, hj, rfl, rfl, hown, hbel⟩ := hrel
      have hsz := hbel.size
      have hwb : Below w.heap.size w wr := B2.trans (hbel.mono B2.size)
      have hws := hwb.size
      by_cases hlt : j < ps.length
      · obtain ⟨b, off, ha, d1, d2, d3⟩ : ∃ b off, a = some ⟨b, off, none⟩ ∧ wr.cell? ⟨b, off + j * 3, none⟩ = some (.string ⟨ps[j].1.toArray⟩) ∧ wr.cell? ⟨b, off + j * 3 + 1, none⟩ = some (.string ⟨ps[j].2.1.toArray⟩) ∧ wr.cell? ⟨b, off + j * 3 + 2, none⟩ = some (.bool ps[j].2.2) := by
          rcases HS.out wr hwb with h | ⟨b, off, h, hc⟩
          · rw [h] at hlt; simp at hlt
          · exact ⟨b, off, h, hc j hlt⟩
        subst ha
        have hj0 : (0 : Int) ≤ (j : Int) := by omega
        have hj1 : (j : Int) < (ps.length : Int) := by omega
        have hlow : ∀ k, (Value.slice (some ⟨g, 0, none⟩) (j + 1) c2).ownBlock = some k → w2.heap.size ≤ k := fun k hk => (hown.lt k hk).1
        have HT : Hid (pcells ((x0, y0) :: opRows (ps.take (j + 1))) = pcells ((x0, y0) :: opRows (ps.take j)) ++ [.string ⟨ps[j].1.toArray⟩, .string ⟨ps[j].2.1.toArray⟩]) := by
          rw [Hid, opRows_take ps j hlt, ← List.cons_append, pcells_app]; rfl
        obtain ⟨x, hx⟩ : ∃ x, x = ps[j].1 := ⟨_, rfl⟩
        obtain ⟨y, hy⟩ : ∃ y, y = ps[j].2.1 := ⟨_, rfl⟩
        obtain ⟨z, hz⟩ : ∃ z, z = ps[j].2.2 := ⟨_, rfl⟩
        rw [← hx] at d1 HT
        rw [← hy] at d2 HT
        rw [← hz] at d3
        have W2 : Hid (∀ t, Below w2.heap.size w2 ((wr.alloc (.cells #[.string ⟨x.toArray⟩, .string ⟨y.toArray⟩, .bool z] 83)).alloc (.cells #[.string ⟨x.toArray⟩, .string ⟨y.toArray⟩] t))) := fun t => (hbel.alloc hsz _).alloc (by simp; omega) _
        have hown2 := hown.alloc (.cells #[.string ⟨x.toArray⟩, .string ⟨y.toArray⟩, .bool z] 83)
        clear hx hy hz hown hbel HKT hwb
        go_wp2_with (at_builtin; refine wpList_append_lies _ rfl _ _ 56 rfl w2.heap.size 90 i0 (.agg #[.string ⟨#[]⟩, .string ⟨#[]⟩]) 2 32 Try.underlying56 hi0 hz0 hz1 hz2 rfl (by decide) (.slice (some ⟨g, 0, none⟩) (j + 1) c2) (j + 1) _ rfl (hown2.alloc _) ⟨wr.heap.size + 1, 0, none⟩ 1 1 [.string ⟨x.toArray⟩, .string ⟨y.toArray⟩] rfl rfl (World.news_of_block (cs := #[.string ⟨x.toArray⟩, .string ⟨y.toArray⟩]) (t := 90) (fr := (0, 0)) (by have := heap_alloc_new (wr.alloc (.cells #[.string ⟨x.toArray⟩, .string ⟨y.toArray⟩, .bool z] 83)) (.cells #[.string ⟨x.toArray⟩, .string ⟨y.toArray⟩] 90); simpa using this)) (by simp [Value.oneCell']) (by omega) (by unfold maxLen; omega) (by omega) (by simp; omega) (wr.heap.size + 2) (by simp) ?_; intro g2 cap2 w4 hown4 hgrow hat hlt4)
        have hbel4 : Below w2.heap.size w2 w4 := (W2.out _).grown hgrow (by simp; omega) hlow
        have HO4 : Hid (w4.ownsRow w2.heap.size 90 2 (.slice (some ⟨g2, 0, none⟩) (j + 1 + 1) cap2) (j + 1 + 1) (pcells ((x0, y0) :: opRows (ps.take (j + 1))))) := by rw [Hid, HT.out]; exact hown4
        clear hgrow hown4 hown2 W2
        go_roundw
        case rel => exact ⟨j + 1, cap2, g2, by omega, by go_num, rfl, HO4.out, hbel4⟩
        case measure => simp [intOf]; omega
      · have hjl : j = ps.length := by omega
        subst hjl
        rw [List.take_length] at hown
        have HI : Hid (IsPairs wr (some ⟨g, 0, none⟩) ((x0, y0) :: opRows ps)) := (isPairs_own hown).2.2
        clear hown
        go_wp2_with fail
        refine (HKT.out _ _ _ HI.out).mono ?_
        rintro e w4 ⟨rfl, b4⟩
        have B4 := hwb.trans (b4.mono hws)
        clear b4
        go_wp2
        go_ret
        exact ⟨rfl, B4⟩
end Go.Proofs.Ytcfflfpdoihpmaa
