/-
 Two stores put together, on lists: in either order the same, once more nothing new, all nodes of both.
-/
import Derived.Test.YtelcjhkmlleodaaGreatDoorSAdd
namespace Go.Proofs.YtelcjhkmlleodaaGreatDoor
open Go.RowKit
set_option linter.unusedVariables false
theorem store_each {ps : List PairL} (h : storeOkL ps = true) : ∀ p ∈ ps, (readNode p.2).isSome = true ∧ sumL p.2 = p.1 := fun p hp => by
 obtain ⟨j, hj, rfl⟩ := List.getElem_of_mem hp
 simp only [storeOkL, Bool.and_eq_true, decide_eq_true_eq, List.all_eq_true, List.mem_range] at h
 have := h.2 j hj
 unfold stOk at this
 rw [keyAt_lt ps j hj, valAt_lt ps j hj] at this
 simp only [Bool.and_eq_true, beq_iff_eq] at this
 exact ⟨this.1.1, this.1.2⟩
theorem store_of {l : List PairL} (h4 : l.length ≤ 400) (hr : l.Pairwise (fun x y => x.1 < y.1)) (he : ∀ p ∈ l, (readNode p.2).isSome = true ∧ sumL p.2 = p.1) : storeOkL l = true := by
 refine storeOk_all _ h4 fun j hj => ?_
 obtain ⟨b1, b2⟩ := he _ (List.getElem_mem (h := hj))
 unfold stOk
 rw [valAt_lt _ j hj, keyAt_lt _ j hj, b1, b2]
 simp only [Bool.true_and, beq_self_eq_true, Bool.or_eq_true, decide_eq_true_eq]
 by_cases hz : j = 0
 · exact .inl hz
 · right
   rw [keyAt_lt _ (j - 1) (by omega), less_iff]
   exact List.pairwise_iff_getElem.1 hr (j - 1) j (by omega) hj (by omega)
theorem sorted_mem {l : List PairL} (hs : ∀ x ∈ l, ∀ y ∈ l, x.1 = y.1 → x = y) (x : PairL) : x ∈ sortedL l ↔ x ∈ l := by
 obtain ⟨_, s2, s3⟩ := sorted_facts l
 refine ⟨s2 x, fun hx => ?_⟩
 obtain ⟨y, hy, he⟩ := s3 x hx
 have := hs y (s2 y hy) x hx he
 rw [← this]; exact hy
theorem clash_of {ps qs : List PairL} (hp : ps.Pairwise (fun x y => x.1 < y.1)) (hs : ∀ x ∈ ps, ∀ y ∈ qs, x.1 = y.1 → x = y) : clashB ps qs = false :=
 clash_all ps qs fun j hj t' ht => by
  have h1 := (find_iff ps hp _ _).1 ht
  have := hs _ h1 _ (List.getElem_mem (h := hj)) rfl
  rw [← this]
structure AddF (ps qs R : List PairL) : Prop where
 ok : storeOkL R = true
 swap : addOk qs ps = true ∧ addR qs ps = R
 again : addOk R ps = true ∧ addR R ps = R
 all : ∀ x ∈ ps ++ qs, findL R x.1 = some x.2
 few : R.length ≤ ps.length + qs.length
theorem add_facts {ps qs : List PairL} (h : addOk ps qs = true) : AddF ps qs (addR ps qs) := by
 have hR := addR_yes ps qs h
 simp only [addOk, Bool.and_eq_true, decide_eq_true_eq, Bool.not_eq_true'] at h
 obtain ⟨h1, h2, h3, h4⟩ := h
 have r1 := store_rises ps h1
 have r2 := store_rises qs h2
 have hs := union_same ps qs r1 r2 h3
 obtain ⟨s1, s2, s3⟩ := sorted_facts (ps ++ qs)
 have hm := sorted_mem hs
 rw [hR]
 have hok : storeOkL (sortedL (ps ++ qs)) = true := store_of h4 s1 fun p hp => by
  rcases List.mem_append.1 (s2 p hp) with h | h
  · exact store_each h1 p h
  · exact store_each h2 p h
 have hs' : ∀ x ∈ qs ++ ps, ∀ y ∈ qs ++ ps, x.1 = y.1 → x = y := fun x hx y hy => hs x (by simpa [or_comm] using hx) y (by simpa [or_comm] using hy)
 have hsw : sortedL (qs ++ ps) = sortedL (ps ++ qs) := rise_unique _ _ (sorted_facts (qs ++ ps)).1 s1 fun x => by
  rw [sorted_mem hs' x, hm x]; simp [or_comm]
 have hsa : ∀ x ∈ sortedL (ps ++ qs) ++ ps, ∀ y ∈ sortedL (ps ++ qs) ++ ps, x.1 = y.1 → x = y := fun x hx y hy => hs x (by
  rcases List.mem_append.1 hx with h | h
  · exact s2 x h
  · exact List.mem_append_left _ h) y (by
  rcases List.mem_append.1 hy with h | h
  · exact s2 y h
  · exact List.mem_append_left _ h)
 have hag : sortedL (sortedL (ps ++ qs) ++ ps) = sortedL (ps ++ qs) := rise_unique _ _ (sorted_facts _).1 s1 fun x => by
  rw [sorted_mem hsa x]
  constructor
  · intro hx
    rcases List.mem_append.1 hx with h | h
    · exact h
    · exact (hm x).2 (List.mem_append_left _ h)
  · exact fun hx => List.mem_append_left _ hx
 have o1 : addOk qs ps = true := addOk_yes qs ps h2 h1 (clash_of r2 fun x hx y hy => hs x (List.mem_append_right _ hx) y (List.mem_append_left _ hy)) (by rw [hsw]; exact h4)
 have o2 : addOk (sortedL (ps ++ qs)) ps = true := addOk_yes _ ps hok h1 (clash_of s1 fun x hx y hy => hs x (s2 x hx) y (List.mem_append_left _ hy)) (by rw [hag]; exact h4)
 refine ⟨hok, ⟨o1, by rw [addR_yes _ _ o1, hsw]⟩, ⟨o2, by rw [addR_yes _ _ o2, hag]⟩, fun x hx => find_mem _ s1 x ((hm x).2 hx), ?_⟩
 have := sorted_len (ps ++ qs) _ (Nat.le_refl _)
 rw [List.take_length, List.length_append] at this
 exact this
end Go.Proofs.YtelcjhkmlleodaaGreatDoor
