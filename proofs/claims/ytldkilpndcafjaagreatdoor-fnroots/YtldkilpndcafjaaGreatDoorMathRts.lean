/-
  Right pairs that are put in one by one, from the front and from the end.
-/
import Derived.Test.YtldkilpndcafjaaGreatDoorMathTellP
import Derived.Test.YtldkilpndcafjaaGreatDoorSetAll
namespace Go.Proofs.YtldkilpndcafjaaGreatDoor
open Go.RowKit
set_option linter.unusedVariables false

theorem okAt_take (l : List PairL) (i j : Nat) (h : j < i) (hi : i ≤ l.length) : okAt (l.take i) j = okAt l j := by
  have h1 : ∀ q, q < i → keyAt (l.take i) q = keyAt l q ∧ valAt (l.take i) q = valAt l q := fun q hq => by
    have hq1 : q < (l.take i).length := by simp; omega
    rw [keyAt_get _ q hq1, keyAt_get l q (by omega), valAt_get _ q hq1, valAt_get l q (by omega)]
    simp
  unfold okAt
  rw [(h1 j h).1, (h1 j h).2, (h1 (j - 1) (by omega)).1]

theorem okAt_drop (l : List PairL) (i j : Nat) (h : i + j < l.length) (hok : okAt l (i + j) = true) : okAt (l.drop i) j = true := by
  have h1 : ∀ q, i + q < l.length → keyAt (l.drop i) q = keyAt l (i + q) ∧ valAt (l.drop i) q = valAt l (i + q) := fun q hq => by
    have hq1 : q < (l.drop i).length := by simp; omega
    rw [keyAt_get _ q hq1, keyAt_get l (i + q) hq, valAt_get _ q hq1, valAt_get l (i + q) hq]
    simp
  unfold okAt at hok ⊢
  rw [(h1 j h).1, (h1 j h).2]
  simp only [Bool.and_eq_true, Bool.or_eq_true, decide_eq_true_iff] at hok ⊢
  refine ⟨hok.1, ?_⟩
  by_cases hz : j = 0
  · exact .inl hz
  · right
    rw [(h1 (j - 1) (by omega)).1, show i + (j - 1) = i + j - 1 by omega]
    rcases hok.2 with h2 | h2
    · omega
    · exact h2

theorem pairs_take (l : List PairL) (h : pairsOkL l = true) (i : Nat) (hi : i ≤ l.length) : pairsOkL (l.take i) = true := by
  unfold pairsOkL at h ⊢
  rw [Bool.and_eq_true, decide_eq_true_iff, List.all_eq_true] at h ⊢
  refine ⟨by simp; omega, fun j hj => ?_⟩
  rw [List.mem_range] at hj
  have hj' : j < i := by simp at hj; omega
  rw [okAt_take l i j hj' hi]
  exact h.2 j (List.mem_range.2 (by omega))

theorem pairs_drop (l : List PairL) (h : pairsOkL l = true) (i : Nat) : pairsOkL (l.drop i) = true := by
  unfold pairsOkL at h ⊢
  rw [Bool.and_eq_true, decide_eq_true_iff, List.all_eq_true] at h ⊢
  refine ⟨by simp; omega, fun j hj => ?_⟩
  rw [List.mem_range] at hj
  have hj' : i + j < l.length := by simp at hj; omega
  exact okAt_drop l i j hj' (h.2 (i + j) (List.mem_range.2 hj'))

theorem pairs_rising (l : List PairL) (h : pairsOkL l = true) : rising l := by
  have hlt : ∀ (k i : Nat) (hi : i + 1 + k < l.length), (l[i]'(by omega)).1 < l[i + 1 + k].1 := by
    intro k
    induction k with
    | zero => intro i hi; exact pairs_step l h i hi
    | succ k ih => intro i hi; exact List.lt_trans (ih i (by omega)) (pairs_step l h (i + 1 + k) hi)
  intro i j hij hj
  rw [keyAt_get l i (by omega), keyAt_get l j hj, less_iff]
  have := hlt (j - i - 1) i (by omega)
  have e : i + 1 + (j - i - 1) = j := by omega
  simpa only [e] using this

theorem pairs_val (l : List PairL) (h : pairsOkL l = true) (i : Nat) (hi : i < l.length) : l[i].2 ≠ [] := by
  unfold pairsOkL at h
  rw [Bool.and_eq_true, List.all_eq_true] at h
  have := h.2 i (List.mem_range.2 hi)
  unfold okAt at this
  rw [valAt_get l i hi] at this
  simp only [Bool.and_eq_true, decide_eq_true_iff] at this
  intro e
  have h1 := this.1.1.2
  rw [e] at h1
  simp at h1

/-- The next pair, put behind those ahead of it. -/
theorem set_front (l : List PairL) (h : pairsOkL l = true) (i : Nat) (hi : i < l.length) : setL (l.take i) l[i].1 l[i].2 = l.take (i + 1) := by
  have hr := pairs_rising l h
  have hp : placeIs (l.take i) l[i].1 i := by
    refine ⟨by simp; omega, fun t ht => ?_, fun t ht1 ht2 => by simp at ht2; omega⟩
    have hq1 : t < (l.take i).length := by simp; omega
    have := hr t i ht hi
    rw [keyAt_get l t (by omega), keyAt_get l i hi] at this
    rw [keyAt_get _ t hq1]
    simpa using this
  rw [setL_put _ _ _ i (pairs_rising _ (pairs_take l h i (by omega))) hp]
  unfold putL insL skipN
  rw [if_neg (pairs_val l h i hi), if_neg (by simp; omega), List.drop_of_length_le (by simp; omega), List.append_nil, List.take_take, Nat.min_self]
  exact (take_snocP l i hi).symm

/-- The pair ahead, put in front of those behind it. -/
theorem set_back (l : List PairL) (h : pairsOkL l = true) (i : Nat) (hi : i < l.length) : setL (l.drop (i + 1)) l[i].1 l[i].2 = l.drop i := by
  have hr := pairs_rising l h
  have hk : ∀ t, t < (l.drop (i + 1)).length → Op.bytesLess l[i].1 (keyAt (l.drop (i + 1)) t) = true := fun t ht => by
    have ht' : i + 1 + t < l.length := by simp at ht; omega
    have := hr i (i + 1 + t) (by omega) ht'
    rw [keyAt_get l i hi, keyAt_get l _ ht'] at this
    rw [keyAt_get _ t ht]
    simpa using this
  have hp : placeIs (l.drop (i + 1)) l[i].1 0 := by
    refine ⟨Nat.zero_le _, fun t ht => by omega, fun t _ ht => ?_⟩
    rw [Bool.eq_false_iff]
    intro e
    exact List.lt_irrefl _ (List.lt_trans ((less_iff _ _).1 (hk t ht)) ((less_iff _ _).1 e))
  rw [setL_put _ _ _ 0 (pairs_rising _ (pairs_drop l h (i + 1))) hp]
  unfold putL insL skipN
  rw [if_neg (pairs_val l h i hi), if_neg (fun ⟨h1, h2⟩ => by have := hk 0 h1; rw [h2] at this; exact List.lt_irrefl _ ((less_iff _ _).1 this))]
  simp only [List.take_zero, List.nil_append, List.drop_zero]
  rw [List.drop_eq_getElem_cons hi]; rfl

theorem front_ok (l : List PairL) (h : pairsOkL l = true) (i : Nat) (hi : i < l.length) : setOk (l.take i) l[i].1 l[i].2 = true ∧ setR (l.take i) l[i].1 l[i].2 = l.take (i + 1) := by
  have e := set_front l h i hi
  have h1 : setOk (l.take i) l[i].1 l[i].2 = true := by rw [setOk, pairs_take l h i (by omega), e, pairs_take l h (i + 1) (by omega)]; rfl
  exact ⟨h1, by rw [setR, if_pos h1, e]⟩

theorem back_ok (l : List PairL) (h : pairsOkL l = true) (i : Nat) (hi : i < l.length) : setOk (l.drop (i + 1)) l[i].1 l[i].2 = true ∧ setR (l.drop (i + 1)) l[i].1 l[i].2 = l.drop i := by
  have e := set_back l h i hi
  have h1 : setOk (l.drop (i + 1)) l[i].1 l[i].2 = true := by rw [setOk, pairs_drop l h (i + 1), e, pairs_drop l h i]; rfl
  exact ⟨h1, by rw [setR, if_pos h1, e]⟩
end Go.Proofs.YtldkilpndcafjaaGreatDoor
