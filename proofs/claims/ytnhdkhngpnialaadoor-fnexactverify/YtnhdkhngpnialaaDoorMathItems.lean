/-
  What RlpItems answers, as a function on lists of bytes.
-/
import Derived.Test.YtnhdkhngpnialaaDoorMathTake
import Derived.Test.YtnhdkhngpnialaaDoorMathStrs
namespace Go.Proofs.YtnhdkhngpnialaaDoor
open Go.RowKit
set_option linter.unusedVariables false

theorem takeL_less (l : List UInt8) (k : Nat) (bd more : List UInt8) (h : takeL l = some (k, bd, more)) : more.length < l.length ∧ bd.length ≤ l.length := by
  match l, h with
  | [], h => cases h
  | b :: r, h =>
    by_cases h1 : b.toNat < 128
    · have e : takeL (b :: r) = some (1, [b], r) := by simp only [takeL]; rw [if_pos h1]
      rw [e] at h; cases h; simp
    · have hbl : ∀ n bd' rest', bodyL n r = some (bd', rest') → rest'.length ≤ r.length ∧ bd'.length ≤ r.length := by
        intro n bd' rest' hb
        by_cases h55 : n ≤ 55
        · rw [bodyL_short n r h55] at hb
          by_cases hf : r.length < n
          · rw [if_pos hf] at hb; cases hb
          · rw [if_neg hf] at hb; cases hb; simp; omega
        · obtain ⟨m, rfl⟩ : ∃ m, n = 55 + m := ⟨n - 55, by omega⟩
          rw [bodyL_long m r (by omega)] at hb
          by_cases hl : r.length < m ∨ 3 < m ∨ r.head? = some 0
          · rw [if_pos hl] at hb; cases hb
          · rw [if_neg hl] at hb
            by_cases hf : valB (r.take m) ≤ 55 ∨ 60000 < valB (r.take m) ∨ (r.drop m).length < valB (r.take m)
            · rw [if_pos hf] at hb; cases hb
            · rw [if_neg hf] at hb; cases hb; simp; omega
      have hin : ∀ k' t o, itemL k' t o = some (k, bd, more) → o = some (bd, more) := by
        intro k' t o ho
        cases o with
        | none => cases ho
        | some x =>
          obtain ⟨p, q⟩ := x
          simp only [itemL] at ho
          by_cases hc : (t && loneB p) = true
          · rw [if_pos hc] at ho; cases ho
          · rw [if_neg hc] at ho; cases ho; rfl
      by_cases h2 : b.toNat < 192
      · rw [takeL_item1 b r h1 h2] at h
        have := hbl _ _ _ (hin _ _ _ h)
        simp; omega
      · rw [takeL_item2 b r h2] at h
        have := hbl _ _ _ (hin _ _ _ h)
        simp; omega

/-- Items one behind the other; fuel ahead. -/
def itemsF : Nat → List UInt8 → Option (List (List UInt8))
  | _, [] => some []
  | 0, _ :: _ => none
  | f + 1, b :: r => match takeL (b :: r) with
    | none => none
    | some (_, _, more) => (itemsF f more).map fun t => (b :: r).take ((b :: r).length - more.length) :: t

theorem itemsF_nil (f : Nat) : itemsF f [] = some [] := by cases f <;> rfl

theorem itemsF_none (f : Nat) (b : UInt8) (r : List UInt8) (h : takeL (b :: r) = none) : itemsF f (b :: r) = none := by
  cases f with
  | zero => rfl
  | succ f => simp only [itemsF, h]

theorem itemsF_some (f : Nat) (b : UInt8) (r : List UInt8) (k : Nat) (bd more : List UInt8) (h : takeL (b :: r) = some (k, bd, more)) :
    itemsF (f + 1) (b :: r) = (itemsF f more).map fun t => (b :: r).take ((b :: r).length - more.length) :: t := by simp only [itemsF, h]

/-- The items of the list that it is. -/
def itemsL (l : List UInt8) : Option (List (List UInt8)) := match takeL l with
  | some (2, body, []) => itemsF body.length body
  | _ => none

theorem itemsL_none (l : List UInt8) (h : takeL l = none) : itemsL l = none := by simp only [itemsL, h]

theorem itemsL_kind (l : List UInt8) (k : Nat) (bd rest : List UInt8) (h : takeL l = some (k, bd, rest)) (hk : k ≠ 2 ∨ rest ≠ []) : itemsL l = none := by
  simp only [itemsL, h]
  rcases hk with hk | hk
  · match k, hk with
    | 0, _ => rfl
    | 1, _ => rfl
    | 2, hk => exact absurd rfl hk
    | k + 3, _ => rfl
  · cases rest with
    | nil => exact absurd rfl hk
    | cons a r => split <;> simp_all

theorem itemsL_list (l bd : List UInt8) (h : takeL l = some (2, bd, [])) : itemsL l = itemsF bd.length bd := by simp only [itemsL, h]

/-- What is told of the items, and where they lie. -/
def ItemsPost (w : World) (o : Option (List (List UInt8))) (e : Ending) (w' : World) : Prop := match o with
  | none => e = .returned (.tuple #[.slice none 0 0, .bool false]) ∧ Below w.heap.size w w'
  | some ls => ∃ v, e = .returned (.tuple #[v, .bool true]) ∧ w'.ownsRow w.heap.size 9 1 v ls.length (scells ls) ∧ Below w.heap.size w w' ∧ ls.length ≤ 1048576

theorem items_uni {w w' : World} {o : Option (List (List UInt8))} {e : Ending} (h : ItemsPost w o e w') :
    ∃ v, e = .returned (.tuple #[v, .bool o.isSome]) ∧ w'.ownsRow w.heap.size 9 1 v (o.getD []).length (scells (o.getD [])) ∧ Below w.heap.size w w' ∧ (o.getD []).length ≤ 1048576 := by
  cases o with
  | none => exact ⟨_, h.1, World.ownsRow_nil _ _ _ _, h.2, by simp⟩
  | some ls => exact h

theorem takeL_kind (l : List UInt8) (k : Nat) (bd rest : List UInt8) (h : takeL l = some (k, bd, rest)) : k = 1 ∨ k = 2 := by
  match l, h with
  | [], h => cases h
  | b :: r, h =>
    by_cases h1 : b.toNat < 128
    · have e : takeL (b :: r) = some (1, [b], r) := by simp only [takeL]; rw [if_pos h1]
      rw [e] at h; cases h; exact .inl rfl
    · have hin : ∀ k' t o, itemL k' t o = some (k, bd, rest) → k = k' := by
        intro k' t o ho
        cases o with
        | none => cases ho
        | some x =>
          obtain ⟨p, q⟩ := x
          simp only [itemL] at ho
          by_cases hc : (t && loneB p) = true
          · rw [if_pos hc] at ho; cases ho
          · rw [if_neg hc] at ho; cases ho; rfl
      by_cases h2 : b.toNat < 192
      · rw [takeL_item1 b r h1 h2] at h; exact .inl (hin _ _ _ h)
      · rw [takeL_item2 b r h2] at h; exact .inr (hin _ _ _ h)

end Go.Proofs.YtnhdkhngpnialaaDoor
