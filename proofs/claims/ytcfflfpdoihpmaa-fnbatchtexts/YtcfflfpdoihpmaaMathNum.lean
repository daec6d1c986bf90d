/-
  Numbers' texts, on lists: without noughts ahead; back again. What a batch's texts are.
-/
import Derived.Test.YtcfflfpdoihpmaaMathAll
import Derived.Test.YtcfflfpdoihpmaaMathOp
import Derived.Test.YtcfflfpdoihpmaaMath2
namespace Go.Proofs.Ytcfflfpdoihpmaa
open Go.RowKit
set_option linter.unusedVariables false

theorem bigB_succ (n k : Nat) : bigB n (k + 1) = bigB (n / 256) k ++ [UInt8.ofNat n] := by
  simp only [bigB, List.range_succ, List.map_append, List.map_cons, List.map_nil]
  have e : n / 2 ^ (8 * (k + 1 - 1 - k)) = n := by simp
  rw [e]
  congr 1
  refine List.map_congr_left fun j hj => ?_
  have hj' := List.mem_range.1 hj
  have e2 : 8 * (k + 1 - 1 - j) = 8 + 8 * (k - 1 - j) := by omega
  rw [e2, Nat.pow_add, ← Nat.div_div_eq_div_mul]
theorem dropZ_bigB : ∀ (k n : Nat), n < 256 ^ k → (bigB n k).dropWhile (· == 0) = numB k n
  | 0, n, h => rfl
  | k + 1, n, h => by
    have ih := dropZ_bigB k (n / 256) (by rw [Nat.pow_succ] at h; omega)
    rw [bigB_succ, List.dropWhile_append, ih]
    by_cases h0 : n = 0
    · subst h0
      simp [numB_zero]
    · rw [numB, if_neg h0]
      by_cases h1 : n / 256 = 0
      · rw [h1, numB_zero]
        have hb : UInt8.ofNat n ≠ 0 := fun e => by
          have := congrArg UInt8.toNat e
          simp at this
          omega
        simp [hb]
      · have hne : (numB k (n / 256)).isEmpty = false := by
          cases k with
          | zero => simp at h; omega
          | succ k => rw [numB, if_neg h1]; simp
        simp [hne]
theorem dropZ_zero (r : List UInt8) : (0 :: r).dropWhile (· == 0) = r.dropWhile (· == 0) := by simp
theorem dropZ_stop (a : UInt8) (r : List UInt8) (h : a ≠ 0) : (a :: r).dropWhile (· == 0) = a :: r := by simp [h]

/-- A batch's texts. -/
def opTs (ps : List OpL) : List (List UInt8) := ps.flatMap fun p => [p.1, p.2.1]
def pairTs (ps : List PairL) : List (List UInt8) := ps.flatMap fun p => [p.1, p.2]
def opRows (ps : List OpL) : List PairL := ps.map fun p => (p.1, p.2.1)
def batchTs (c n : Int) (ps : List OpL) : List (List UInt8) := numB 8 c.toNat :: numB 8 n.toNat :: opTs ps
def batchB (c n : Int) (ps : List OpL) : List UInt8 := if batchOk c n ps = true then listB (batchTs c n ps) else []
theorem opTs_snoc (ps : List OpL) (p : OpL) : opTs (ps ++ [p]) = opTs ps ++ [p.1, p.2.1] := by simp [opTs]
theorem pairTs_snoc (ps : List PairL) (p : PairL) : pairTs (ps ++ [p]) = pairTs ps ++ [p.1, p.2] := by simp [pairTs]
theorem opTs_length (ps : List OpL) : (opTs ps).length = 2 * ps.length := by
  induction ps with
  | nil => rfl
  | cons p ps ih => simp only [opTs, List.flatMap_cons, List.length_append, List.length_cons, List.length_nil] at ih ⊢; omega
theorem pairTs_length (ps : List PairL) : (pairTs ps).length = 2 * ps.length := by
  induction ps with
  | nil => rfl
  | cons p ps ih => simp only [pairTs, List.flatMap_cons, List.length_append, List.length_cons, List.length_nil] at ih ⊢; omega
theorem opRows_Ts (ps : List OpL) : pairTs (opRows ps) = opTs ps := by
  simp only [pairTs, opRows, opTs, List.flatMap_map]
theorem rows_batch (c n : Int) (ps : List OpL) : pairTs ((numB 8 c.toNat, numB 8 n.toNat) :: opRows ps) = batchTs c n ps := by
  rw [batchTs, ← opRows_Ts]; rfl
theorem numB_len : ∀ (f n : Nat), (numB f n).length ≤ f
  | 0, n => by simp [numB]
  | f + 1, n => by
    rw [numB]
    split
    · simp
    · have := numB_len f (n / 256); simp; omega
theorem batchOk_of (c n : Int) (ps : List OpL) (h : batchOk c n ps = true) : numOk c = true ∧ numOk n = true ∧ 1 ≤ ps.length ∧ ps.length ≤ 12 ∧ ps.all opOk = true := by
  simp only [batchOk, Bool.and_eq_true, decide_eq_true_eq] at h
  exact ⟨h.1.1.1.1, h.1.1.1.2, h.1.1.2, h.1.2, h.2⟩
theorem opOk_len (p : OpL) (h : opOk p = true) : p.1.length ≤ 12 ∧ p.2.1.length ≤ 60 := by
  obtain ⟨k, v, c⟩ := p
  cases c <;> simp [opOk] at h ⊢
  · exact ⟨h.1, h.2.2⟩
  · exact ⟨h.1, by rw [h.2]; simp⟩
theorem opTs_flat (ps : List OpL) (h : ps.all opOk = true) : (opTs ps).flatten.length ≤ 72 * ps.length := by
  induction ps with
  | nil => simp [opTs]
  | cons p ps ih =>
    simp only [List.all_cons, Bool.and_eq_true] at h
    have h1 := opOk_len p h.1
    have h2 := ih h.2
    simp only [opTs, List.flatMap_cons, List.flatten_append, List.length_append, List.flatten_cons, List.flatten_nil, List.length_cons, List.append_nil] at h2 ⊢
    omega
theorem batchTs_flat (c n : Int) (ps : List OpL) (h : batchOk c n ps = true) : (batchTs c n ps).flatten.length ≤ 1000 ∧ (batchTs c n ps).length ≤ 26 := by
  obtain ⟨_, _, _, h4, h5⟩ := batchOk_of c n ps h
  have h1 := opTs_flat ps h5
  have h2 := numB_len 8 c.toNat
  have h3 := numB_len 8 n.toNat
  simp only [batchTs, List.flatten_cons, List.length_append, List.length_cons, opTs_length]
  omega
theorem batchTs_take (c n : Int) (ps : List OpL) (j : Nat) (h : j < ps.length) : batchTs c n (ps.take (j + 1)) = batchTs c n (ps.take j) ++ [ps[j].1, ps[j].2.1] := by
  simp only [batchTs, take_snocO ps j h, opTs_snoc, List.cons_append]
theorem opRows_take (ps : List OpL) (j : Nat) (h : j < ps.length) : opRows (ps.take (j + 1)) = opRows (ps.take j) ++ [(ps[j].1, ps[j].2.1)] := by
  simp only [opRows, take_snocO ps j h, List.map_append, List.map_cons, List.map_nil]
theorem opRows_length (ps : List OpL) : (opRows ps).length = ps.length := by simp [opRows]
theorem numOk_nat (c : Int) (h : numOk c = true) : c = (c.toNat : Int) ∧ c.toNat ≤ 1000000000000 := by
  simp only [numOk, decide_eq_true_eq] at h
  omega
end Go.Proofs.Ytcfflfpdoihpmaa
