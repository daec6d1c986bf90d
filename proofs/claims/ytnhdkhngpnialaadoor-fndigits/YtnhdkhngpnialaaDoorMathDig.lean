/-
  Of two texts whose digits are unlike each has a digit that is greater.
-/
import Derived.Test.YtnhdkhngpnialaaDoorMathOnce
namespace Go.Proofs.YtnhdkhngpnialaaDoor
open Go.RowKit
set_option linter.unusedVariables false

theorem chk_mono : ∀ (ds es : List Nat), ds.length = es.length → (∀ i, i < ds.length → ds.getD i 0 ≤ es.getD i 0) → (∀ e ∈ es, e ≤ 3) → chk es ≤ chk ds ∧ (chk es = chk ds → ds = es)
  | [], [], _, _, _ => ⟨Nat.le_refl _, fun _ => rfl⟩
  | d :: ds, e :: es, hl, hp, h3 => by
    have h0 := hp 0 (by simp)
    have he := h3 e (List.mem_cons_self ..)
    have ih := chk_mono ds es (by simpa using hl) (fun i hi => by have := hp (i + 1) (by simp; omega); simpa using this) (fun x hx => h3 x (List.mem_cons_of_mem _ hx))
    simp only [List.getD_cons_zero] at h0
    have e1 : chk (d :: ds) = (3 - d) + chk ds := by simp [chk]
    have e2 : chk (e :: es) = (3 - e) + chk es := by simp [chk]
    rw [e1, e2]
    refine ⟨by omega, fun h => ?_⟩
    have h1 : chk es = chk ds := by omega
    rw [ih.2 h1, show d = e by omega]
  | [], e :: es, hl, _, _ => by simp at hl
  | d :: ds, [], hl, _, _ => by simp at hl

theorem digits_at (msg : List UInt8) (i : Nat) (h : i < 16) : (digitsL msg).getD i 0 = (digs (digestD msg)).getD i 0 := by
  have hl := digs_len (digestD msg) (by rw [digestD_len]; omega)
  rw [digitsL, List.getD_eq_getElem?_getD, List.getElem?_append_left (by omega), ← List.getD_eq_getElem?_getD]
theorem digits_last (msg : List UInt8) (i : Nat) : (digitsL msg).getD (16 + i) 0 = (dig3 (chk (digs (digestD msg)))).getD i 0 := by
  have hl := digs_len (digestD msg) (by rw [digestD_len]; omega)
  rw [digitsL, List.getD_eq_getElem?_getD, List.getElem?_append_right (by omega), hl, Nat.add_sub_cancel_left, ← List.getD_eq_getElem?_getD]

theorem digits_le (m n : List UInt8) (h : ∀ i, i < 19 → (digitsL m).getD i 0 ≤ (digitsL n).getD i 0) : digitsL m = digitsL n := by
  have h1 := digs_len (digestD m) (by rw [digestD_len]; omega)
  have h2 := digs_len (digestD n) (by rw [digestD_len]; omega)
  have hm := chk_mono (digs (digestD m)) (digs (digestD n)) (by omega) (fun i hi => by rw [← digits_at m i (by omega), ← digits_at n i (by omega)]; exact h i (by omega)) (digs_lt _)
  have k1 := chk48 m
  have k2 := chk48 n
  have a0 := h 16 (by omega)
  have a1 := h 17 (by omega)
  have a2 := h 18 (by omega)
  rw [show 16 = 16 + 0 from rfl, digits_last, digits_last] at a0
  rw [show 17 = 16 + 1 from rfl, digits_last, digits_last] at a1
  rw [show 18 = 16 + 2 from rfl, digits_last, digits_last] at a2
  simp only [dig3, List.getD_cons_zero, List.getD_cons_succ] at a0 a1 a2
  have he : chk (digs (digestD n)) = chk (digs (digestD m)) := by omega
  rw [digitsL, digitsL, hm.2 he]

/-- Some one of the first j is greater. -/
def gtB (a b : List Nat) (j : Nat) : Bool := (List.range j).any fun i => decide (b.getD i 0 < a.getD i 0)
theorem gtB_succ (a b : List Nat) (j : Nat) : gtB a b (j + 1) = (gtB a b j || decide (b.getD j 0 < a.getD j 0)) := by simp [gtB, List.range_succ]
theorem gtB_no (a b : List Nat) (j : Nat) (h : gtB a b j = false) : ∀ i, i < j → a.getD i 0 ≤ b.getD i 0 := by
  intro i hi
  simp only [gtB, List.any_eq_false, List.mem_range, decide_eq_true_eq] at h
  have := h i hi
  omega
theorem gtB_self (a : List Nat) (j : Nat) : gtB a a j = false := by simp [gtB]
theorem gtB_both (m n : List UInt8) : gtB (digitsL m) (digitsL n) 19 = gtB (digitsL n) (digitsL m) 19 := by
  cases h : gtB (digitsL m) (digitsL n) 19 with
  | false => rw [digits_le m n (gtB_no _ _ _ h), gtB_self]
  | true =>
    cases h' : gtB (digitsL n) (digitsL m) 19 with
    | true => rfl
    | false =>
      rw [digits_le n m (gtB_no _ _ _ h'), gtB_self] at h
      cases h
end Go.Proofs.YtnhdkhngpnialaaDoor
