/-
 Texts that are laid as one: MathZ, MathNum, SNum, NumRow.
-/
import Derived.Test.YthnddgdnialogaaGreatDoorMathAll
import Derived.Test.YthnddgdnialogaaGreatDoorMathOp
import Derived.Test.YthnddgdnialogaaGreatDoorMath2
import Derived.Test.YthnddgdnialogaaGreatDoorWrapTxt
import Derived.Test.YthnddgdnialogaaGreatDoorSL1
import Derived.Test.YthnddgdnialogaaGreatDoorIListAll
import Derived.Deep.RegionHeld3
import Derived.Deep.AppendLies
namespace Go.Proofs.YthnddgdnialogaaGreatDoor
open Go.RowKit
set_option linter.unusedVariables false
theorem bigB_succ (n k : Nat) : bigB n (k + 1) = bigB (n / 256) k ++ [UInt8.ofNat n] := by
 simp only [bigB, List.range_succ, List.map_append, List.map_cons, List.map_nil]
 have e : n / 2 ^ (8 * (k + 1 - 1 - k)) = n := by simp
 rw [e]
 congr 1
 refine List.map_congr_left fun j hj => ?_
 have hj' := List.mem_range.1 hj
 have e2 : 8 * (k + 1 - 1 - j) = 8 + 8 * (k - 1 - j) := by omega
 rw [e2, Nat.pow_add, ← Nat.div_div_eq_div_mul]
theorem dropZ_bigB : ∀ (k n : Nat), n < 256 ^ k → (bigB n k).dropWhile (· == 0) = numB k n
 | 0, n, h => rfl
 | k + 1, n, h => by
   have ih := dropZ_bigB k (n / 256) (by rw [Nat.pow_succ] at h; omega)
   rw [bigB_succ, List.dropWhile_append, ih]
   by_cases h0 : n = 0
   · subst h0
     simp [numB_zero]
   · rw [numB, if_neg h0]
     by_cases h1 : n / 256 = 0
     · rw [h1, numB_zero]
       have hb : UInt8.ofNat n ≠ 0 := fun e => by
        have := congrArg UInt8.toNat e
        simp at this
        omega
       simp [hb]
     · have hne : (numB k (n / 256)).isEmpty = false := by
        cases k with
        | zero => simp at h; omega
        | succ k => rw [numB, if_neg h1]; simp
       simp [hne]
theorem dropZ_zero (r : List UInt8) : (0 :: r).dropWhile (· == 0) = r.dropWhile (· == 0) := by simp
theorem dropZ_stop (a : UInt8) (r : List UInt8) (h : a ≠ 0) : (a :: r).dropWhile (· == 0) = a :: r := by simp [h]
theorem numB_len : ∀ (f n : Nat), (numB f n).length ≤ f
 | 0, n => by simp [numB]
 | f + 1, n => by
   rw [numB]
   split
   · simp
   · have := numB_len f (n / 256); simp; omega
end Go.Proofs.YthnddgdnialogaaGreatDoor
namespace Go.Proofs.YthnddgdnialogaaGreatDoor
open Go.RowKit
set_option linter.unusedVariables false
def pairTs (ps : List PairL) : List (List UInt8) := ps.flatMap fun p => [p.1, p.2]
theorem pairTs_snoc (ps : List PairL) (p : PairL) : pairTs (ps ++ [p]) = pairTs ps ++ [p.1, p.2] := by simp [pairTs]
theorem pairTs_length (ps : List PairL) : (pairTs ps).length = 2 * ps.length := by
 induction ps with
 | nil => rfl
 | cons p ps ih => simp only [pairTs, List.flatMap_cons, List.length_append, List.length_cons, List.length_nil] at ih ⊢; omega
theorem numOk_nat (c : Int) (h : numOk c = true) : c = (c.toNat : Int) ∧ c.toNat ≤ 1000000000000 := by
 simp only [numOk, decide_eq_true_eq] at h
 omega
end Go.Proofs.YthnddgdnialogaaGreatDoor
namespace Go.Proofs.YthnddgdnialogaaGreatDoor
open Go.RowKit
set_option linter.unusedVariables false
set_option maxRecDepth 100000 in
set_option maxHeartbeats 400000 in
theorem spec_l1Num (n : Nat) (w : World) (hn : n ≤ 1000000000000) :
 Calls Tryz.prog 42 #[.int .i64 n] w fun e w' => e = .returned (.string ⟨(numB 8 n).toArray⟩) ∧ Below w.heap.size w w' := by
 have hcv : (IntKind.u64).wrap (n : Int) = (n : Int) := by simp [IntKind.wrap, IntKind.signed, IntKind.bits]; omega
 have HS : (bigB n 8).dropWhile (· == 0) = numB 8 n := dropZ_bigB 8 n (by omega)
 have HZ := bigB_length n 8
 go_enter Tryz.func42, Tryz.ntmps42
 go_wp2_with fail
 refine (spec_l1Big n 8 _ (by omega) (by omega)).mono ?_
 rintro e w1 ⟨rfl, hb1⟩
 go_wp2
 go_loop [3] (fun v => ∃ l : List UInt8, v = .string ⟨l.toArray⟩ ∧ l.length ≤ 8 ∧ Hid (l.dropWhile (· == 0) = numB 8 n)) (fun v => match v with | .string s => s.size | _ => 0)
 case atStart => exact ⟨_, rfl, by rw [HZ]; omega, HS⟩
 case round =>
  obtain ⟨l, rfl, hl, HL⟩ := hrel
  clear HS HZ
  match l, hl, HL with
  | [], hl, HL =>
    go_wp2
    go_ret
    exact ⟨ret_string (by rw [← HL.out]; rfl), hb1⟩
  | a :: r, hl, HL =>
    by_cases ha : a = 0
    · subst ha
      go_wp2
      go_round
      case rel => exact ⟨r, congrArg Value.string (ba_tail (0 :: r)), by simp at hl ⊢; omega, by rw [Hid, ← HL.out, dropZ_zero]⟩
      case measure => simp [ByteArray.size]
    · have ha' : ((((ByteArray.mk (a :: r).toArray)[0]'(by simp [ByteArray.size])).toNat : Int) == 0) = false := by
       show ((a.toNat : Int) == 0) = false
       simp only [beq_eq_false_iff_ne, ne_eq]
       intro h
       exact ha (UInt8.toNat_inj.1 (by simpa using h))
      have HR : Hid (a :: r = numB 8 n) := by rw [Hid, ← HL.out]; exact (dropZ_stop a r ha).symm
      go_wp2
      go_ret
      exact ⟨ret_string HR.out, hb1⟩
end Go.Proofs.YthnddgdnialogaaGreatDoor
namespace Go.Proofs.YthnddgdnialogaaGreatDoor
open Go.RowKit
set_option linter.unusedVariables false
theorem infoPr : (Tryz.prog.info? 60).map (fun i => (i.zero, i.size, i.bytes)) = some (some (.agg #[.string ⟨#[]⟩, .string ⟨#[]⟩]), 2, 32) := by kernel_rfl
theorem duo_setR {w : World} {b j : Nat} {u v y : Value} {t : TypeId} (h : w.heap[b]? = some (.cells #[u, v] t (0, 0))) : (w.setCell ⟨b, j, none⟩ y).heap[b]? = some (.cells (#[u, v].setIfInBounds j y) t (0, 0)) := by
 have hlt := lt_of_block h
 have h' : w.heap[b] = .cells #[u, v] t (0, 0) := by simpa [Array.getElem?_eq_getElem hlt] using h
 show (w.heap.modify b _)[b]? = _
 rw [Array.getElem?_eq_getElem (by simpa using hlt), Array.getElem_modify_self, h']
 rfl
set_option maxRecDepth 100000 in
set_option maxHeartbeats 400000 in
theorem impl_numberRow (x y : Nat) (w : World) (hx : x ≤ 1000000000000) (hy : y ≤ 1000000000000) :
 Calls Tryz.prog 44 #[.int .i64 x, .int .i64 y] w fun e w' => e = .returned (.agg #[.string ⟨(numB 8 x).toArray⟩, .string ⟨(numB 8 y).toArray⟩]) ∧ Below w.heap.size w w' := by
 have B0 : Below w.heap.size w (w.alloc (.cells #[.string ⟨#[]⟩, .string ⟨#[]⟩] 60)) := (Below.refl _ _).alloc (Nat.le_refl _) _
 have HQ : Hid ((w.alloc (.cells #[.string ⟨#[]⟩, .string ⟨#[]⟩] 60)).heap[w.heap.size]? = some (.cells #[.string ⟨#[]⟩, .string ⟨#[]⟩] 60 (0, 0))) := heap_alloc_new w _
 have HL : Hid (w.heap.size < (w.alloc (.cells #[.string ⟨#[]⟩, .string ⟨#[]⟩] 60)).heap.size) := by rw [Hid]; simp
 have K1 := impl_numberText x (w.alloc (.cells #[.string ⟨#[]⟩, .string ⟨#[]⟩] 60)) (by omega)
 have K2 := fun W => impl_numberText y W (by omega)
 obtain ⟨s, hs⟩ : ∃ s, s = numB 8 x := ⟨_, rfl⟩
 obtain ⟨t, ht⟩ : ∃ t, t = numB 8 y := ⟨_, rfl⟩
 rw [← hs] at K1 ⊢
 rw [← ht] at K2 ⊢
 clear hs ht
 go_enter Tryz.func44, Tryz.ntmps44
 go_wp2_with fail
 refine K1.mono ?_
 rintro e w1 ⟨rfl, b1⟩
 have Q1 : Hid (w1.heap[w.heap.size]? = some (.cells #[.string ⟨#[]⟩, .string ⟨#[]⟩] 60 (0, 0))) := (b1.block w.heap.size HL.out).trans HQ.out
 have B1 := B0.trans (b1.mono B0.size)
 have L1 : Hid (w.heap.size < w1.heap.size) := Nat.lt_of_lt_of_le HL.out b1.size
 clear b1 K1 B0
 go_wp2_with fail
 refine (K2 _).mono ?_
 rintro e w2 ⟨rfl, b2⟩
 have Q2 := (b2.block w.heap.size L1.out).trans Q1.out
 have B2 := B1.trans (b2.mono B1.size)
 have q0 : w2.cell? ⟨w.heap.size, 0, none⟩ = some (.string ⟨#[]⟩) := by simp only [World.cell?, Q2]; rfl
 have q1 : w2.cell? ⟨w.heap.size, 1, none⟩ = some (.string ⟨#[]⟩) := by simp only [World.cell?, Q2]; rfl
 have f0 := frozen_of_row w2 w.heap.size 0 _ _ Q2
 have f1 := frozen_of_row w2 w.heap.size 1 _ _ Q2
 have y2 : ((w2.setCell ⟨w.heap.size, 0, none⟩ (.string ⟨s.toArray⟩)).setCell ⟨w.heap.size, 1, none⟩ (.string ⟨t.toArray⟩)).heap[w.heap.size]? = some (.cells #[.string ⟨s.toArray⟩, .string ⟨t.toArray⟩] 60 (0, 0)) := by
  exact duo_setR (j := 1) (duo_setR (j := 0) Q2)
 have Y2 : Hid (((w2.setCell ⟨w.heap.size, 0, none⟩ (.string ⟨s.toArray⟩)).setCell ⟨w.heap.size, 1, none⟩ (.string ⟨t.toArray⟩)).heap[w.heap.size]? = some (.cells #[.string ⟨s.toArray⟩, .string ⟨t.toArray⟩] 60 (0, 0))) := y2
 clear b2 K2 B1 Q2 y2
 go_wp2
 exact bodyPost_ret (v := .agg #[.string ⟨s.toArray⟩, .string ⟨t.toArray⟩]) (results_cell_row rfl _ _ w.heap.size 60 _ (0, 0) _ rfl Y2.out Tryz.underlying60 rfl (by kernel_rfl)) rfl ⟨rfl, (B2.setCell (Nat.le_refl _) _).setCell (Nat.le_refl _) _⟩
set_option maxRecDepth 100000 in
set_option maxHeartbeats 1000000 in
theorem impl_textOfRows (a : Option Addr) (cap : Nat) (ps : List PairL) (w : World) (hf : (pairTs ps).flatten.length ≤ 30000) (hl : ps.length ≤ 500) (hs : IsPairs w a ps) :
 Calls Tryz.prog 45 #[.slice a ps.length cap] w fun e w' => e = .returned (.string ⟨(listB (pairTs ps)).toArray⟩) ∧ Below w.heap.size w w' := by
 obtain ⟨i0, hi0, hz0, hz1, hz2⟩ := info_parts info9i
 obtain ⟨out, hout⟩ : ∃ out, out = listB (pairTs ps) := ⟨_, rfl⟩
 have HK : Hid (∀ W a2 c2, IsStrs W a2 (pairTs ps) → Calls Tryz.prog 74 #[.slice a2 (2 * ps.length) c2] W fun e w' => e = .returned (.string ⟨out.toArray⟩) ∧ Below W.heap.size W w') := fun W a2 c2 h => by
  have := impl_listOfTexts a2 c2 (pairTs ps) W hf (by rw [pairTs_length]; omega) h
  rw [pairTs_length, ← hout] at this
  exact this
 rw [← hout]
 clear hout hf
 go_enter Tryz.func45, Tryz.ntmps45
 go_wp2
 go_loopw [3, 5, 8] (fun v _ i wr => ∃ j c2 : Nat, ∃ a2 : Option Addr, j ≤ ps.length ∧ i = .int .i64 (j : Int) ∧ v = .slice a2 (2 * j) c2 ∧ wr.ownsRow w.heap.size 9 1 (.slice a2 (2 * j) c2) (2 * j) (scells (pairTs (ps.take j))) ∧ Below w.heap.size w wr) (fun _ _ i _ => ps.length - (intOf i).toNat)
 case atStart => exact ⟨0, 0, none, Nat.zero_le _, rfl, rfl, World.ownsRow_nil _ _ _ _, Below.refl _ _⟩
 case round =>
  obtain ⟨j, c2, a2, hj, rfl, rfl, hown, hbel⟩ := hrel
  have hsz := hbel.size
  by_cases hlt : j < ps.length
  · obtain ⟨b, off, ha, d1, d2⟩ : ∃ b off, a = some ⟨b, off, none⟩ ∧ wr.cell? ⟨b, off + j * 2, none⟩ = some (.string ⟨ps[j].1.toArray⟩) ∧ wr.cell? ⟨b, off + j * 2 + 1, none⟩ = some (.string ⟨ps[j].2.toArray⟩) := by
     rcases hs.later hbel with h | ⟨b, off, h, hc⟩
     · rw [h] at hlt; simp at hlt
     · exact ⟨b, off, h, (hc j hlt).1, (hc j hlt).2⟩
    subst ha
    have hj0 : (0 : Int) ≤ (j : Int) := by omega
    have hj1 : (j : Int) < (ps.length : Int) := by omega
    have hlow : ∀ k, (Value.slice a2 (2 * j) c2).ownBlock = some k → w.heap.size ≤ k := fun k hk => (hown.lt k hk).1
    have HT : Hid (scells (pairTs (ps.take (j + 1))) = scells (pairTs (ps.take j)) ++ [.string ⟨ps[j].1.toArray⟩, .string ⟨ps[j].2.toArray⟩]) := by
     rw [Hid, take_snocP ps j hlt, pairTs_snoc]; simp [scells]
    obtain ⟨x, hx⟩ : ∃ x, x = ps[j].1 := ⟨_, rfl⟩
    obtain ⟨y, hy⟩ : ∃ y, y = ps[j].2 := ⟨_, rfl⟩
    rw [← hx] at d1 HT
    rw [← hy] at d2 HT
    have W2 : Hid (∀ t, Below w.heap.size w ((wr.alloc (.cells #[.string ⟨x.toArray⟩, .string ⟨y.toArray⟩] 60)).alloc (.cells #[.string ⟨x.toArray⟩, .string ⟨y.toArray⟩] t))) := fun t => (hbel.alloc hsz _).alloc (by simp; omega) _
    have hown2 := hown.alloc (.cells #[.string ⟨x.toArray⟩, .string ⟨y.toArray⟩] 60)
    clear hx hy hs hown hbel
    go_wp2_with (at_builtin; refine wpList_append_lies _ rfl _ _ 65 rfl w.heap.size 9 i0 (.string ⟨#[]⟩) 1 16 Tryz.underlying65 hi0 hz0 hz1 hz2 rfl (by decide) (.slice a2 (2 * j) c2) (2 * j) _ rfl (hown2.alloc _) ⟨wr.heap.size + 1, 0, none⟩ 2 2 [.string ⟨x.toArray⟩, .string ⟨y.toArray⟩] rfl rfl (World.news_of_block (cs := #[.string ⟨x.toArray⟩, .string ⟨y.toArray⟩]) (t := 9) (fr := (0, 0)) (by have := heap_alloc_new (wr.alloc (.cells #[.string ⟨x.toArray⟩, .string ⟨y.toArray⟩] 60)) (.cells #[.string ⟨x.toArray⟩, .string ⟨y.toArray⟩] 9); simpa using this)) (by simp [Value.oneCell']) (by omega) (by unfold maxLen; omega) (by omega) (by simp; omega) (wr.heap.size + 2) (by simp) ?_; intro g2 cap2 w3 hown3 hgrow hat hlt3)
    have hbel3 : Below w.heap.size w w3 := (W2.out _).grown hgrow (by simp; omega) hlow
    have e2 : 2 * j + 2 = 2 * (j + 1) := by omega
    have HO3 : Hid (w3.ownsRow w.heap.size 9 1 (.slice (some ⟨g2, 0, none⟩) (2 * (j + 1)) cap2) (2 * (j + 1)) (scells (pairTs (ps.take (j + 1))))) := by rw [Hid, HT.out, ← e2]; exact hown3
    rw [e2]
    clear hgrow hown3 hown2 W2 e2
    go_roundw
    case rel => exact ⟨j + 1, cap2, some ⟨g2, 0, none⟩, by omega, by go_num, rfl, HO3.out, hbel3⟩
    case measure => simp [intOf]; omega
  · have hjl : j = ps.length := by omega
    subst hjl
    rw [List.take_length] at hown
    have HI : Hid (IsStrs wr a2 (pairTs ps)) := (strs_own hown).2.2
    clear hown hs
    go_wp2_with fail
    refine (HK.out _ _ _ HI.out).mono ?_
    rintro e w4 ⟨rfl, b4⟩
    have B4 := hbel.trans (b4.mono hsz)
    clear b4
    go_wp2
    go_ret
    exact ⟨rfl, B4⟩
end Go.Proofs.YthnddgdnialogaaGreatDoor
