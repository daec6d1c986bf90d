/-
  Contract: the program's NodeText.
-/
import Derived.Test.YtjlkeoocddianaaDoorITextB
namespace Go.Proofs.YtjlkeoocddianaaDoor
open Go.RowKit
set_option linter.unusedVariables false

theorem nodeOk_cases (k : Int) (p : List UInt8) (ls : List (List UInt8)) (v : List UInt8) (h : nodeOk k p ls v = true) :
    p.length ≤ 24 ∧ isNibs p = true ∧ v.length ≤ 60 ∧ ((k = 1 ∧ ls.length = 0) ∨ (k = 2 ∧ ls.length = 1 ∧ (ls.getD 0 []).length = 32) ∨ (k = 3 ∧ ls.length = 16 ∧ ls.all kidOk = true)) := by
  simp only [nodeOk, headOk, kindOk, branchOk, Bool.and_eq_true, decide_eq_true_eq] at h
  obtain ⟨⟨h1, h2, h3⟩, h4⟩ := h
  refine ⟨h1, h2, h3, ?_⟩
  by_cases k1 : k = 1
  · rw [if_pos k1] at h4
    simp only [Bool.and_eq_true, decide_eq_true_eq] at h4
    exact .inl ⟨k1, h4.2⟩
  · rw [if_neg k1] at h4
    by_cases k2 : k = 2
    · rw [if_pos k2] at h4
      simp only [Bool.and_eq_true, decide_eq_true_eq] at h4
      exact .inr (.inl ⟨k2, h4.2.2.1, h4.2.2.2⟩)
    · rw [if_neg k2] at h4
      by_cases k3 : k = 3
      · rw [if_pos k3] at h4
        simp only [Bool.and_eq_true, decide_eq_true_eq] at h4
        exact .inr (.inr ⟨k3, h4.2.1, h4.2.2.1⟩)
      · rw [if_neg k3] at h4
        cases h4
theorem strs_first {w : World} {a : Option Addr} {ls : List (List UInt8)} (h : IsStrs w a ls) (h1 : ls.length = 1) : ∃ b off, a = some ⟨b, off, none⟩ ∧ w.cell? ⟨b, off, none⟩ = some (.string ⟨(ls.getD 0 []).toArray⟩) := by
  rcases h with h | ⟨b, off, h, hc⟩
  · rw [h] at h1; simp at h1
  · refine ⟨b, off, h, ?_⟩
    have := hc 0 (by omega)
    rw [Nat.add_zero] at this
    rw [this, List.getD_eq_getElem?_getD, List.getElem?_eq_getElem (by omega)]; rfl
theorem impl_text (k : Int) (p : List UInt8) (a : Option Addr) (cap : Nat) (ls : List (List UInt8)) (v : List UInt8) (w : World) (h : nodeOk k p ls v = true) (hs : IsStrs w a ls) :
    Calls Tryd.prog 71 #[.agg #[.int .i64 k, .string ⟨p.toArray⟩, .slice a ls.length cap, .string ⟨v.toArray⟩]] w fun e w' => e = .returned (.string ⟨(listB (nodeTs k p ls v)).toArray⟩) ∧ Below w.heap.size w w' := by
  obtain ⟨h1, h2, h3, h4⟩ := nodeOk_cases k p ls v h
  rcases h4 with ⟨rfl, hl⟩ | ⟨rfl, hl, hk⟩ | ⟨rfl, hl, hk⟩
  · exact impl_text1 p a cap ls.length v w h1 h2 h3
  · obtain ⟨b, off, rfl, hc⟩ := strs_first hs hl
    rw [hl]
    exact impl_text2 p b off cap (ls.getD 0 []) v w h1 h2 hk hc
  · have hf := flat_kids ls hk
    rcases hs with rfl | ⟨b, off, rfl, hc⟩
    · simp at hl
    · have := impl_text3 p b off cap ls v w hl (by omega) h3 (.inr ⟨b, off, rfl, hc⟩)
      rw [hl]
      exact this

set_option maxRecDepth 100000 in
set_option maxHeartbeats 1000000 in
theorem impl_nodeText (k : Int) (p : List UInt8) (a : Option Addr) (cap : Nat) (ls : List (List UInt8)) (v : List UInt8) (w : World) (hp : p.length ≤ 1048576) (hv : v.length ≤ 1048576) (hl : ls.length ≤ 1048576) (hm : ∀ l ∈ ls, l.length ≤ 1048576) (hs : IsStrs w a ls) :
    Calls Tryd.prog 61 #[.agg #[.int .i64 k, .string ⟨p.toArray⟩, .slice a ls.length cap, .string ⟨v.toArray⟩]] w fun e w' => e = .returned (.tuple #[.string ⟨(nodeB k p ls v).toArray⟩, .bool (nodeOk k p ls v)]) ∧ Below w.heap.size w w' := by
  have B0 : Below w.heap.size w (w.alloc (.cells #[.int .i64 k, .string ⟨p.toArray⟩, .slice a ls.length cap, .string ⟨v.toArray⟩] 48)) := (Below.refl _ _).alloc (Nat.le_refl _) _
  have BB : Hid (Below w.heap.size w (w.alloc (.cells #[.int .i64 k, .string ⟨p.toArray⟩, .slice a ls.length cap, .string ⟨v.toArray⟩] 48)) ∧ (w.alloc (.cells #[.int .i64 k, .string ⟨p.toArray⟩, .slice a ls.length cap, .string ⟨v.toArray⟩] 48)).heap[w.heap.size]? = some (.cells #[.int .i64 k, .string ⟨p.toArray⟩, .slice a ls.length cap, .string ⟨v.toArray⟩] 48 (0, 0)) ∧ w.heap.size < (w.alloc (.cells #[.int .i64 k, .string ⟨p.toArray⟩, .slice a ls.length cap, .string ⟨v.toArray⟩] 48)).heap.size) := ⟨B0, heap_alloc_new w _, by simp⟩
  have KI := impl_isNode k p a cap ls v (w.alloc (.cells #[.int .i64 k, .string ⟨p.toArray⟩, .slice a ls.length cap, .string ⟨v.toArray⟩] 48)) hp hv hl hm (strs_later hs B0)
  have HS : Hid (∀ W, Below w.heap.size w W → IsStrs W a ls) := fun W hW => strs_later hs hW
  cases hok : nodeOk k p ls v with
  | false =>
    have hnb : nodeB k p ls v = [] := by rw [nodeB, hok]; rfl
    rw [hok] at KI
    rw [hnb]
    clear hok hnb hs hm B0
    go_enter Tryd.func61, Tryd.ntmps61
    go_wp2_with fail
    refine KI.mono ?_
    rintro e w1 ⟨rfl, b1⟩
    have B1 := BB.out.1.trans (b1.mono BB.out.1.size)
    go_wp2
    go_ret2
    exact ⟨rfl, B1⟩
  | true =>
    have HKT : Hid (∀ W, IsStrs W a ls → Calls Tryd.prog 71 #[.agg #[.int .i64 k, .string ⟨p.toArray⟩, .slice a ls.length cap, .string ⟨v.toArray⟩]] W fun e w' => e = .returned (.string ⟨(nodeB k p ls v).toArray⟩) ∧ Below W.heap.size W w') := fun W hW => by
      rw [show nodeB k p ls v = listB (nodeTs k p ls v) from if_pos hok]
      exact impl_text k p a cap ls v W hok hW
    rw [hok] at KI
    obtain ⟨t, ht⟩ : ∃ t, t = nodeB k p ls v := ⟨_, rfl⟩
    rw [← ht] at HKT ⊢
    clear hok ht hs hm B0
    go_enter Tryd.func61, Tryd.ntmps61
    go_wp2_with fail
    refine KI.mono ?_
    rintro e w1 ⟨rfl, b1⟩
    have B1 := BB.out.1.trans (b1.mono BB.out.1.size)
    obtain ⟨q0, q1, q2, q3, _⟩ := quad_cells ((b1.block _ BB.out.2.2).trans BB.out.2.1)
    clear KI b1
    go_wp2_with fail
    refine (HKT.out _ (HS.out _ B1)).mono ?_
    rintro e w2 ⟨rfl, b2⟩
    go_wp2
    go_ret2
    exact ⟨rfl, B1.trans (b2.mono B1.size)⟩
end Go.Proofs.YtjlkeoocddianaaDoor
