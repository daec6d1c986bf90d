/-
  What is read as a number, as rows and as a batch, on lists.
-/
import Derived.Test.YtcfflfpdoihpmaaMathNum
import Derived.Test.YtcfflfpdoihpmaaMathTs
namespace Go.Proofs.Ytcfflfpdoihpmaa
open Go.RowKit
set_option linter.unusedVariables false

def numL (s : List UInt8) : Option Nat := if s.length ≤ 6 ∧ s.head? ≠ some 0 ∧ valB s ≤ 1000000000000 then some (valB s) else none
theorem valB_cons_le (n m : Nat) (h : n ≤ m) : ∀ l : List UInt8, l.foldl (fun n b => 256 * n + b.toNat) n ≤ l.foldl (fun n b => 256 * n + b.toNat) m
  | [] => h
  | b :: l => valB_cons_le (256 * n + b.toNat) (256 * m + b.toNat) (by omega) l
theorem fold_ge (n : Nat) : ∀ l : List UInt8, n ≤ l.foldl (fun n b => 256 * n + b.toNat) n
  | [] => Nat.le_refl _
  | b :: l => Nat.le_trans (by omega) (fold_ge (256 * n + b.toNat) l)
theorem valB_mono (s : List UInt8) (j : Nat) : valB (s.take j) ≤ valB s := by
  conv => rhs; rw [← List.take_append_drop j s]
  simp only [valB, List.foldl_append]
  exact fold_ge _ _
theorem numL_long (s : List UInt8) (h : ¬ s.length ≤ 6) : numL s = none := by rw [numL, if_neg (fun e => h e.1)]
theorem numL_zero (r : List UInt8) : numL (0 :: r) = none := by rw [numL, if_neg (fun e => e.2.1 rfl)]
theorem numL_big (s : List UInt8) (j : Nat) (h : 1000000000000 < valB (s.take j)) : numL s = none := by
  rw [numL, if_neg (fun e => by have := valB_mono s j; have := e.2.2; omega)]
theorem numL_yes (s : List UInt8) (h6 : s.length ≤ 6) (h0 : s.head? ≠ some 0) (h : valB s ≤ 1000000000000) : numL s = some (valB s) := by rw [numL, if_pos ⟨h6, h0, h⟩]
theorem numB_head : ∀ (f n : Nat), n < 256 ^ f → (numB f n).head? ≠ some 0
  | 0, n, _ => by simp [numB]
  | f + 1, n, h => by
    rw [numB]
    split
    · simp
    · rename_i hn
      have hlt : n / 256 < 256 ^ f := by rw [Nat.pow_succ] at h; omega
      have ih := numB_head f (n / 256) hlt
      by_cases hz : n / 256 = 0
      · rw [hz, numB_zero]
        simp only [List.nil_append, List.head?_cons, ne_eq, Option.some.injEq]
        intro e
        have h1 := congrArg UInt8.toNat e
        simp at h1
        omega
      · cases f with
        | zero => simp at hlt; omega
        | succ f =>
          rw [numB, if_neg hz] at ih ⊢
          cases hc : numB f (n / 256 / 256) with
          | nil => rw [hc] at ih; simpa using ih
          | cons a r => rw [hc] at ih; simpa using ih
theorem numB_lenp : ∀ (f k n : Nat), n < 256 ^ k → (numB f n).length ≤ k
  | 0, k, n, _ => by simp [numB]
  | f + 1, k, n, h => by
    rw [numB]
    split
    · simp
    · rename_i hn
      cases k with
      | zero => simp at h; omega
      | succ k =>
        have := numB_lenp f k (n / 256) (by rw [Nat.pow_succ] at h; omega)
        simp; omega
theorem numL_back (s : List UInt8) (h : valB s ≤ 1000000000000) (he : numB 8 (valB s) = s) : numL s = some (valB s) := by
  refine numL_yes s ?_ ?_ h
  · rw [← he]; exact Nat.le_trans (numB_lenp 8 5 _ (by omega)) (by omega)
  · rw [← he]; exact numB_head 8 _ (by omega)
theorem numL_not (s : List UInt8) (he : ¬ numB 8 (valB s) = s) : numL s = none := by
  rw [numL, if_neg (fun e => he (numB_valB 8 s (by omega) e.2.1))]
theorem numL_of (s : List UInt8) (n : Nat) (h : numL s = some n) : n = valB s ∧ s = numB 8 n ∧ n ≤ 1000000000000 := by
  unfold numL at h
  split at h
  · rename_i hc
    cases h
    exact ⟨rfl, (numB_valB 8 s (by omega) hc.2.1).symm, hc.2.2⟩
  · cases h

/-- Texts by twos. -/
def rowsOf : List (List UInt8) → List PairL
  | k :: v :: r => (k, v) :: rowsOf r
  | _ => []
theorem rowsOf_length : ∀ ts : List (List UInt8), (rowsOf ts).length = ts.length / 2
  | [] => rfl
  | [_] => by simp [rowsOf]
  | k :: v :: r => by simp only [rowsOf, List.length_cons, rowsOf_length r]; omega
theorem rowsOf_at : ∀ (ts : List (List UInt8)) (j : Nat) (h : j < (rowsOf ts).length), (rowsOf ts)[j] = (ts.getD (2 * j) [], ts.getD (2 * j + 1) [])
  | [], j, h => by simp [rowsOf] at h
  | [_], j, h => by simp [rowsOf] at h
  | k :: v :: r, 0, h => by simp [rowsOf]
  | k :: v :: r, j + 1, h => by
    have := rowsOf_at r j (by simpa [rowsOf] using h)
    simp only [rowsOf, List.getElem_cons_succ, this]
    rw [show 2 * (j + 1) = 2 * j + 1 + 1 by omega]
    simp
theorem rowsOf_pairTs : ∀ ts : List (List UInt8), ts.length % 2 = 0 → pairTs (rowsOf ts) = ts
  | [], _ => rfl
  | [_], h => by simp at h
  | k :: v :: r, h => by
    have := rowsOf_pairTs r (by simp at h; omega)
    simp only [rowsOf, pairTs, List.flatMap_cons] at this ⊢
    rw [this]; rfl
theorem rowsOf_back : ∀ ps : List PairL, rowsOf (pairTs ps) = ps
  | [] => rfl
  | p :: ps => by
    have := rowsOf_back ps
    simp only [pairTs, List.flatMap_cons] at this ⊢
    simp only [List.cons_append, List.nil_append, rowsOf, this]
def rowsL (s : List UInt8) : Option (List PairL) := match textsL s with
  | none => none
  | some ts => if ts.length = 0 ∨ ts.length % 2 = 1 then none else some (rowsOf ts)
def opsR (ps : List PairL) : List OpL := ps.map fun p => (p.1, p.2, p.2.isEmpty)
theorem opsR_length (ps : List PairL) : (opsR ps).length = ps.length := by simp [opsR]
theorem opsR_take (ps : List PairL) (j : Nat) (h : j < ps.length) : opsR (ps.take (j + 1)) = opsR (ps.take j) ++ [(ps[j].1, ps[j].2, ps[j].2.isEmpty)] := by
  simp only [opsR, take_snocP ps j h, List.map_append, List.map_cons, List.map_nil]
abbrev BatL := Nat × Nat × List OpL
def zeroB : BatL := (0, 0, [])
def batOf (x y : Option Nat) (ps : List OpL) : Option BatL := match x, y with
  | some c, some n => if batchOk c n ps = true then some (c, n, ps) else none
  | _, _ => none
def readRows : List PairL → Option BatL
  | [] => none
  | r :: rs => batOf (numL r.1) (numL r.2) (opsR rs)
/-- What is read as a batch. -/
def readBatch (s : List UInt8) : Option BatL := match rowsL s with
  | none => none
  | some rs => readRows rs
theorem batOf_no1 (y : Option Nat) (ps : List OpL) : batOf none y ps = none := by cases y <;> rfl
theorem batOf_no2 (x : Option Nat) (ps : List OpL) : batOf x none ps = none := by cases x <;> rfl
theorem batOf_no (x y : Option Nat) (ps : List OpL) (h : ∀ c n, x = some c → y = some n → batchOk c n ps = false) : batOf x y ps = none := by
  cases x with
  | none => exact batOf_no1 _ _
  | some c => cases y with
    | none => rfl
    | some n => simp only [batOf, h c n rfl rfl]; rfl
theorem batOf_long (x y : Option Nat) (ps : List OpL) (h : 12 < ps.length) : batOf x y ps = none := by
  refine batOf_no _ _ _ fun c n _ _ => ?_
  cases hb : batchOk c n ps with
  | false => rfl
  | true => have := (batchOk_of c n ps hb).2.2.2.1; omega
theorem rows_small (s : List UInt8) (rs : List PairL) (h : rowsL s = some rs) : 1 ≤ rs.length ∧ rs.length ≤ s.length ∧ ∀ p ∈ rs, p.1.length ≤ 60000 ∧ p.2.length ≤ 60000 := by
  unfold rowsL at h
  cases ht : textsL s with
  | none => rw [ht] at h; cases h
  | some ts =>
    rw [ht] at h
    simp only at h
    split at h
    · cases h
    · rename_i hc
      cases h
      have he := textsL_each s ts ht
      refine ⟨by rw [rowsOf_length]; omega, by rw [rowsOf_length]; omega, fun p hp => ?_⟩
      obtain ⟨j, hj, rfl⟩ := List.getElem_of_mem hp
      rw [rowsOf_at ts j hj]
      have g : ∀ i, (ts.getD i []).length ≤ 60000 := fun i => by
        rw [List.getD_eq_getElem?_getD]
        by_cases hi : i < ts.length
        · rw [List.getElem?_eq_getElem hi]; exact he.2 _ (List.getElem_mem _)
        · rw [List.getElem?_eq_none (by omega)]; simp
      exact ⟨g _, g _⟩
end Go.Proofs.Ytcfflfpdoihpmaa
