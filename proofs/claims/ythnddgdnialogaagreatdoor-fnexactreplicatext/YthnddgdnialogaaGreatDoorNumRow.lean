/-
 Contracts: a row of two numbers, the text of rows, of the program (written by mknumrow.py out of BatTxt.tl).
-/
import Derived.Test.YthnddgdnialogaaGreatDoorMathNum
import Derived.Test.YthnddgdnialogaaGreatDoorSNum
import Derived.Test.YthnddgdnialogaaGreatDoorWrapTxt
import Derived.Test.YthnddgdnialogaaGreatDoorSL1
import Derived.Test.YthnddgdnialogaaGreatDoorIListAll
import Derived.Deep.RegionHeld3
import Derived.Deep.AppendLies
namespace Go.Proofs.YthnddgdnialogaaGreatDoor
open Go.RowKit
set_option linter.unusedVariables false
theorem infoPr : (Tryz.prog.info? 60).map (fun i => (i.zero, i.size, i.bytes)) = some (some (.agg #[.string ⟨#[]⟩, .string ⟨#[]⟩]), 2, 32) := by kernel_rfl
theorem duo_setR {w : World} {b j : Nat} {u v y : Value} {t : TypeId} (h : w.heap[b]? = some (.cells #[u, v] t (0, 0))) : (w.setCell ⟨b, j, none⟩ y).heap[b]? = some (.cells (#[u, v].setIfInBounds j y) t (0, 0)) := by
 have hlt := lt_of_block h
 have h' : w.heap[b] = .cells #[u, v] t (0, 0) := by simpa [Array.getElem?_eq_getElem hlt] using h
 show (w.heap.modify b _)[b]? = _
 rw [Array.getElem?_eq_getElem (by simpa using hlt), Array.getElem_modify_self, h']
 rfl
set_option maxRecDepth 100000 in
set_option maxHeartbeats 400000 in
theorem impl_numberRow (x y : Nat) (w : World) (hx : x ≤ 1000000000000) (hy : y ≤ 1000000000000) :
 Calls Tryz.prog 44 #[.int .i64 x, .int .i64 y] w fun e w' => e = .returned (.agg #[.string ⟨(numB 8 x).toArray⟩, .string ⟨(numB 8 y).toArray⟩]) ∧ Below w.heap.size w w' := by
 have B0 : Below w.heap.size w (w.alloc (.cells #[.string ⟨#[]⟩, .string ⟨#[]⟩] 60)) := (Below.refl _ _).alloc (Nat.le_refl _) _
 have HQ : Hid ((w.alloc (.cells #[.string ⟨#[]⟩, .string ⟨#[]⟩] 60)).heap[w.heap.size]? = some (.cells #[.string ⟨#[]⟩, .string ⟨#[]⟩] 60 (0, 0))) := heap_alloc_new w _
 have HL : Hid (w.heap.size < (w.alloc (.cells #[.string ⟨#[]⟩, .string ⟨#[]⟩] 60)).heap.size) := by rw [Hid]; simp
 have K1 := impl_numberText x (w.alloc (.cells #[.string ⟨#[]⟩, .string ⟨#[]⟩] 60)) (by omega)
 have K2 := fun W => impl_numberText y W (by omega)
 obtain ⟨s, hs⟩ : ∃ s, s = numB 8 x := ⟨_, rfl⟩
 obtain ⟨t, ht⟩ : ∃ t, t = numB 8 y := ⟨_, rfl⟩
 rw [← hs] at K1 ⊢
 rw [← ht] at K2 ⊢
 clear hs ht
 go_enter Tryz.func44, Tryz.ntmps44
 go_wp2_with fail
 refine K1.mono ?_
 rintro e w1 ⟨rfl, b1⟩
 have Q1 : Hid (w1.heap[w.heap.size]? = some (.cells #[.string ⟨#[]⟩, .string ⟨#[]⟩] 60 (0, 0))) := (b1.block w.heap.size HL.out).trans HQ.out
 have B1 := B0.trans (b1.mono B0.size)
 have L1 : Hid (w.heap.size < w1.heap.size) := Nat.lt_of_lt_of_le HL.out b1.size
 clear b1 K1 B0
 go_wp2_with fail
 refine (K2 _).mono ?_
 rintro e w2 ⟨rfl, b2⟩
 have Q2 := (b2.block w.heap.size L1.out).trans Q1.out
 have B2 := B1.trans (b2.mono B1.size)
 have q0 : w2.cell? ⟨w.heap.size, 0, none⟩ = some (.string ⟨#[]⟩) := by simp only [World.cell?, Q2]; rfl
 have q1 : w2.cell? ⟨w.heap.size, 1, none⟩ = some (.string ⟨#[]⟩) := by simp only [World.cell?, Q2]; rfl
 have f0 := frozen_of_row w2 w.heap.size 0 _ _ Q2
 have f1 := frozen_of_row w2 w.heap.size 1 _ _ Q2
 have y2 : ((w2.setCell ⟨w.heap.size, 0, none⟩ (.string ⟨s.toArray⟩)).setCell ⟨w.heap.size, 1, none⟩ (.string ⟨t.toArray⟩)).heap[w.heap.size]? = some (.cells #[.string ⟨s.toArray⟩, .string ⟨t.toArray⟩] 60 (0, 0)) := by
  exact duo_setR (j := 1) (duo_setR (j := 0) Q2)
 have Y2 : Hid (((w2.setCell ⟨w.heap.size, 0, none⟩ (.string ⟨s.toArray⟩)).setCell ⟨w.heap.size, 1, none⟩ (.string ⟨t.toArray⟩)).heap[w.heap.size]? = some (.cells #[.string ⟨s.toArray⟩, .string ⟨t.toArray⟩] 60 (0, 0))) := y2
 clear b2 K2 B1 Q2 y2
 go_wp2
 exact bodyPost_ret (v := .agg #[.string ⟨s.toArray⟩, .string ⟨t.toArray⟩]) (results_cell_row rfl _ _ w.heap.size 60 _ (0, 0) _ rfl Y2.out Tryz.underlying60 rfl (by kernel_rfl)) rfl ⟨rfl, (B2.setCell (Nat.le_refl _) _).setCell (Nat.le_refl _) _⟩
set_option maxRecDepth 100000 in
set_option maxHeartbeats 1000000 in
theorem impl_textOfRows (a : Option Addr) (cap : Nat) (ps : List PairL) (w : World) (hf : (pairTs ps).flatten.length ≤ 30000) (hl : ps.length ≤ 500) (hs : IsPairs w a ps) :
 Calls Tryz.prog 45 #[.slice a ps.length cap] w fun e w' => e = .returned (.string ⟨(listB (pairTs ps)).toArray⟩) ∧ Below w.heap.size w w' := by
 obtain ⟨i0, hi0, hz0, hz1, hz2⟩ := info_parts info9i
 obtain ⟨out, hout⟩ : ∃ out, out = listB (pairTs ps) := ⟨_, rfl⟩
 have HK : Hid (∀ W a2 c2, IsStrs W a2 (pairTs ps) → Calls Tryz.prog 74 #[.slice a2 (2 * ps.length) c2] W fun e w' => e = .returned (.string ⟨out.toArray⟩) ∧ Below W.heap.size W w') := fun W a2 c2 h => by
  have := impl_listOfTexts a2 c2 (pairTs ps) W hf (by rw [pairTs_length]; omega) h
  rw [pairTs_length, ← hout] at this
  exact this
 rw [← hout]
 clear hout hf
 go_enter Tryz.func45, Tryz.ntmps45
 go_wp2
 go_loopw [3, 5, 8] (fun v _ i wr => ∃ j c2 : Nat, ∃ a2 : Option Addr, j ≤ ps.length ∧ i = .int .i64 (j : Int) ∧ v = .slice a2 (2 * j) c2 ∧ wr.ownsRow w.heap.size 9 1 (.slice a2 (2 * j) c2) (2 * j) (scells (pairTs (ps.take j))) ∧ Below w.heap.size w wr) (fun _ _ i _ => ps.length - (intOf i).toNat)
 case atStart => exact ⟨0, 0, none, Nat.zero_le _, rfl, rfl, World.ownsRow_nil _ _ _ _, Below.refl _ _⟩
 case round =>
  obtain ⟨j, c2, a2, hj, rfl, rfl, hown, hbel⟩ := hrel
  have hsz := hbel.size
  by_cases hlt : j < ps.length
  · obtain ⟨b, off, ha, d1, d2⟩ : ∃ b off, a = some ⟨b, off, none⟩ ∧ wr.cell? ⟨b, off + j * 2, none⟩ = some (.string ⟨ps[j].1.toArray⟩) ∧ wr.cell? ⟨b, off + j * 2 + 1, none⟩ = some (.string ⟨ps[j].2.toArray⟩) := by
     rcases hs.later hbel with h | ⟨b, off, h, hc⟩
     · rw [h] at hlt; simp at hlt
     · exact ⟨b, off, h, (hc j hlt).1, (hc j hlt).2⟩
    subst ha
    have hj0 : (0 : Int) ≤ (j : Int) := by omega
    have hj1 : (j : Int) < (ps.length : Int) := by omega
    have hlow : ∀ k, (Value.slice a2 (2 * j) c2).ownBlock = some k → w.heap.size ≤ k := fun k hk => (hown.lt k hk).1
    have HT : Hid (scells (pairTs (ps.take (j + 1))) = scells (pairTs (ps.take j)) ++ [.string ⟨ps[j].1.toArray⟩, .string ⟨ps[j].2.toArray⟩]) := by
     rw [Hid, take_snocP ps j hlt, pairTs_snoc]; simp [scells]
    obtain ⟨x, hx⟩ : ∃ x, x = ps[j].1 := ⟨_, rfl⟩
    obtain ⟨y, hy⟩ : ∃ y, y = ps[j].2 := ⟨_, rfl⟩
    rw [← hx] at d1 HT
    rw [← hy] at d2 HT
    have W2 : Hid (∀ t, Below w.heap.size w ((wr.alloc (.cells #[.string ⟨x.toArray⟩, .string ⟨y.toArray⟩] 60)).alloc (.cells #[.string ⟨x.toArray⟩, .string ⟨y.toArray⟩] t))) := fun t => (hbel.alloc hsz _).alloc (by simp; omega) _
    have hown2 := hown.alloc (.cells #[.string ⟨x.toArray⟩, .string ⟨y.toArray⟩] 60)
    clear hx hy hs hown hbel
    go_wp2_with (at_builtin; refine wpList_append_lies _ rfl _ _ 65 rfl w.heap.size 9 i0 (.string ⟨#[]⟩) 1 16 Tryz.underlying65 hi0 hz0 hz1 hz2 rfl (by decide) (.slice a2 (2 * j) c2) (2 * j) _ rfl (hown2.alloc _) ⟨wr.heap.size + 1, 0, none⟩ 2 2 [.string ⟨x.toArray⟩, .string ⟨y.toArray⟩] rfl rfl (World.news_of_block (cs := #[.string ⟨x.toArray⟩, .string ⟨y.toArray⟩]) (t := 9) (fr := (0, 0)) (by have := heap_alloc_new (wr.alloc (.cells #[.string ⟨x.toArray⟩, .string ⟨y.toArray⟩] 60)) (.cells #[.string ⟨x.toArray⟩, .string ⟨y.toArray⟩] 9); simpa using this)) (by simp [Value.oneCell']) (by omega) (by unfold maxLen; omega) (by omega) (by simp; omega) (wr.heap.size + 2) (by simp) ?_; intro g2 cap2 w3 hown3 hgrow hat hlt3)
    have hbel3 : Below w.heap.size w w3 := (W2.out _).grown hgrow (by simp; omega) hlow
    have e2 : 2 * j + 2 = 2 * (j + 1) := by omega
    have HO3 : Hid (w3.ownsRow w.heap.size 9 1 (.slice (some ⟨g2, 0, none⟩) (2 * (j + 1)) cap2) (2 * (j + 1)) (scells (pairTs (ps.take (j + 1))))) := by rw [Hid, HT.out, ← e2]; exact hown3
    rw [e2]
    clear hgrow hown3 hown2 W2 e2
    go_roundw
    case rel => exact ⟨j + 1, cap2, some ⟨g2, 0, none⟩, by omega, by go_num, rfl, HO3.out, hbel3⟩
    case measure => simp [intOf]; omega
  · have hjl : j = ps.length := by omega
    subst hjl
    rw [List.take_length] at hown
    have HI : Hid (IsStrs wr a2 (pairTs ps)) := (strs_own hown).2.2
    clear hown hs
    go_wp2_with fail
    refine (HK.out _ _ _ HI.out).mono ?_
    rintro e w4 ⟨rfl, b4⟩
    have B4 := hbel.trans (b4.mono hsz)
    clear b4
    go_wp2
    go_ret
    exact ⟨rfl, B4⟩
end Go.Proofs.YthnddgdnialogaaGreatDoor
