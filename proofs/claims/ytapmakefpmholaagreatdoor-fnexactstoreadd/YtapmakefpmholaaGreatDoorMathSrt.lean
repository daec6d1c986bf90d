/-
  Nodes that rise by hash: one list of the same nodes (out of MathUni.tl, without roots; written by mksorth.py).
-/
import Derived.Test.YtapmakefpmholaaGreatDoorSSrt
import Derived.Test.YtapmakefpmholaaGreatDoorSortH
import Derived.Test.YtapmakefpmholaaGreatDoorGetAll
namespace Go.Proofs.YtapmakefpmholaaGreatDoor
open Go.RowKit
set_option linter.unusedVariables false

/-- Two lists that rise strictly by hash and have the same members are the same. -/
theorem rise_unique : ∀ (a b : List PairL), a.Pairwise (fun x y => x.1 < y.1) → b.Pairwise (fun x y => x.1 < y.1) → (∀ x, x ∈ a ↔ x ∈ b) → a = b
  | [], [], _, _, _ => rfl
  | [], y :: b, _, _, h => absurd ((h y).2 (by simp)) (by simp)
  | x :: a, [], _, _, h => absurd ((h x).1 (by simp)) (by simp)
  | x :: a, y :: b, ha, hb, h => by
    rw [List.pairwise_cons] at ha hb
    have hxy : x = y := by
      rcases List.mem_cons.1 ((h x).1 (by simp)) with h1 | h1
      · exact h1
      · rcases List.mem_cons.1 ((h y).2 (by simp)) with h2 | h2
        · exact h2.symm
        · exact absurd (List.lt_trans (hb.1 x h1) (ha.1 y h2)) (List.lt_irrefl _)
    subst hxy
    congr 1
    refine rise_unique a b ha.2 hb.2 fun z => ?_
    constructor
    · intro hz
      rcases List.mem_cons.1 ((h z).1 (List.mem_cons_of_mem _ hz)) with h1 | h1
      · subst h1; exact absurd (ha.1 z hz) (List.lt_irrefl _)
      · exact h1
    · intro hz
      rcases List.mem_cons.1 ((h z).2 (List.mem_cons_of_mem _ hz)) with h1 | h1
      · subst h1; exact absurd (hb.1 z hz) (List.lt_irrefl _)
      · exact h1

theorem stIns_nil (p : PairL) : stIns [] p = [p] := by
  simp [stIns, stPlace]

theorem keyAt_zero (x : PairL) (r : List PairL) : keyAt (x :: r) 0 = x.1 := rfl
theorem keyAt_succ (x : PairL) (r : List PairL) (k : Nat) : keyAt (x :: r) (k + 1) = keyAt r k := by simp [keyAt]

theorem stIns_cons (x : PairL) (r : List PairL) (p : PairL) : stIns (x :: r) p = if x.1 < p.1 then x :: stIns r p else if x.1 = p.1 then x :: r else p :: x :: r := by
  by_cases h : x.1 < p.1
  · rw [if_pos h]
    have hb : Op.bytesLess x.1 p.1 = true := (less_iff _ _).2 h
    unfold stIns
    simp only [stPlace, hb, if_true, List.length_cons, keyAt_succ, Nat.add_lt_add_iff_right, List.take_succ_cons, List.drop_succ_cons]
    split <;> simp
  · rw [if_neg h]
    have hb : ¬ Op.bytesLess x.1 p.1 = true := fun e => h ((less_iff _ _).1 e)
    unfold stIns
    simp only [stPlace, if_neg hb, keyAt_zero, List.length_cons, Nat.zero_lt_succ, true_and, List.take_zero, List.nil_append, List.drop_zero]
    split <;> simp

theorem stIns_mem : ∀ (out : List PairL) (p x : PairL), x ∈ stIns out p → x = p ∨ x ∈ out
  | [], p, x, h => by rw [stIns_nil] at h; simpa using h
  | y :: r, p, x, h => by
    rw [stIns_cons] at h
    split at h
    · rcases List.mem_cons.1 h with h | h
      · exact .inr (by simp [h])
      · rcases stIns_mem r p x h with h | h
        · exact .inl h
        · exact .inr (by simp [h])
    · split at h
      · exact .inr h
      · rcases List.mem_cons.1 h with h | h
        · exact .inl h
        · exact .inr h

theorem stIns_old : ∀ (out : List PairL) (p x : PairL), x ∈ out → x ∈ stIns out p
  | [], p, x, h => by simp at h
  | y :: r, p, x, h => by
    rw [stIns_cons]
    split
    · rcases List.mem_cons.1 h with h | h
      · simp [h]
      · exact List.mem_cons_of_mem _ (stIns_old r p x h)
    · split
      · exact h
      · exact List.mem_cons_of_mem _ h

theorem stIns_key : ∀ (out : List PairL) (p : PairL), ∃ y ∈ stIns out p, y.1 = p.1
  | [], p => ⟨p, by rw [stIns_nil]; simp, rfl⟩
  | y :: r, p => by
    rw [stIns_cons]
    split
    · obtain ⟨z, hz, he⟩ := stIns_key r p
      exact ⟨z, List.mem_cons_of_mem _ hz, he⟩
    · split
      · rename_i h; exact ⟨y, by simp, h⟩
      · exact ⟨p, by simp, rfl⟩

theorem stIns_rise : ∀ (out : List PairL) (p : PairL), out.Pairwise (fun x y => x.1 < y.1) → (stIns out p).Pairwise (fun x y => x.1 < y.1)
  | [], p, _ => by rw [stIns_nil]; simp
  | y :: r, p, h => by
    rw [List.pairwise_cons] at h
    rw [stIns_cons]
    split
    · rename_i hlt
      rw [List.pairwise_cons]
      refine ⟨fun z hz => ?_, stIns_rise r p h.2⟩
      rcases stIns_mem r p z hz with e | e
      · rw [e]; exact hlt
      · exact h.1 z e
    · split
      · exact List.pairwise_cons.2 h
      · rename_i h1 h2
        have hgt : p.1 < y.1 := by
          rcases tri y.1 p.1 with e | e | e
          · exact absurd e h1
          · exact absurd e h2
          · exact e
        rw [List.pairwise_cons]
        refine ⟨fun z hz => ?_, List.pairwise_cons.2 h⟩
        rcases List.mem_cons.1 hz with e | e
        · rw [e]; exact hgt
        · exact List.lt_trans hgt (h.1 z e)

theorem fold_facts : ∀ (ns out : List PairL), out.Pairwise (fun x y => x.1 < y.1) →
    (ns.foldl stIns out).Pairwise (fun x y => x.1 < y.1) ∧ (∀ x ∈ ns.foldl stIns out, x ∈ ns ∨ x ∈ out) ∧ (∀ x ∈ out, x ∈ ns.foldl stIns out) ∧ ∀ x ∈ ns, ∃ y ∈ ns.foldl stIns out, y.1 = x.1
  | [], out, h => ⟨h, fun x hx => .inr hx, fun x hx => hx, fun x hx => by simp at hx⟩
  | p :: ns, out, h => by
    obtain ⟨h1, h2, h3, h4⟩ := fold_facts ns (stIns out p) (stIns_rise out p h)
    refine ⟨h1, fun x hx => ?_, fun x hx => h3 x (stIns_old out p x hx), fun x hx => ?_⟩
    · rcases h2 x hx with e | e
      · exact .inl (List.mem_cons_of_mem _ e)
      · rcases stIns_mem out p x e with e | e
        · exact .inl (by simp [e])
        · exact .inr e
    · rcases List.mem_cons.1 hx with e | e
      · obtain ⟨y, hy, he⟩ := stIns_key out p
        exact ⟨y, h3 y hy, by rw [he, e]⟩
      · exact h4 x e

theorem sorted_facts (ns : List PairL) : (sortedL ns).Pairwise (fun x y => x.1 < y.1) ∧ (∀ x ∈ sortedL ns, x ∈ ns) ∧ ∀ x ∈ ns, ∃ y ∈ sortedL ns, y.1 = x.1 := by
  obtain ⟨h1, h2, _, h4⟩ := fold_facts ns [] List.Pairwise.nil
  exact ⟨h1, fun x hx => by rcases h2 x hx with e | e
                            · exact e
                            · simp at e, h4⟩

/-- In a list that rises by hash what is found at a hash is its node's text. -/
theorem find_mem (l : List PairL) (h : l.Pairwise (fun x y => x.1 < y.1)) (y : PairL) (hy : y ∈ l) : findL l y.1 = some y.2 := by
  unfold findL
  induction l with
  | nil => simp at hy
  | cons x r ih =>
    rw [List.pairwise_cons] at h
    rcases List.mem_cons.1 hy with e | e
    · subst e; simp
    · have hne : (x.1 == y.1) = false := by
        rw [beq_eq_false_iff_ne]; intro e2
        have := h.1 y e
        rw [e2] at this; exact List.lt_irrefl _ this
      rw [List.find?_cons, hne]
      exact ih h.2 e

end Go.Proofs.YtapmakefpmholaaGreatDoor
