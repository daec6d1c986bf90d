/-
  What a node is, on lists of bytes: whether it is right, and its text.
-/
import Derived.Test.YtjlkeoocddianaaDoorMath2
import Derived.Test.YtjlkeoocddianaaDoorMathAll
namespace Go.Proofs.YtjlkeoocddianaaDoor
open Go.RowKit
set_option linter.unusedVariables false

/-- A kid of a branch is right: nothing, or a hash. -/
def kidOk (l : List UInt8) : Bool := l.isEmpty || decide (l.length = 32)
/-- One, where there is something. -/
def oneN (l : List UInt8) : Nat := if l.isEmpty = true then 0 else 1
/-- So many kids are there. -/
def kidsN : List (List UInt8) → Nat
  | [] => 0
  | l :: r => oneN l + kidsN r
def branchOk (ls : List (List UInt8)) (v : List UInt8) : Bool := decide (ls.length = 16) && (ls.all kidOk && decide (2 ≤ oneN v + kidsN ls))
def kindOk (k : Int) (p : List UInt8) (ls : List (List UInt8)) (v : List UInt8) : Bool :=
  if k = 1 then !v.isEmpty && decide (ls.length = 0)
  else if k = 2 then !p.isEmpty && (v.isEmpty && (decide (ls.length = 1) && decide ((ls.getD 0 []).length = 32)))
  else if k = 3 then p.isEmpty && branchOk ls v else false
def headOk (p v : List UInt8) : Bool := decide (p.length ≤ 24) && (isNibs p && decide (v.length ≤ 60))
/-- A node is right. -/
def nodeOk (k : Int) (p : List UInt8) (ls : List (List UInt8)) (v : List UInt8) : Bool := headOk p v && kindOk k p ls v
/-- The texts of a right node. -/
def nodeTs (k : Int) (p : List UInt8) (ls : List (List UInt8)) (v : List UInt8) : List (List UInt8) :=
  if k = 1 then [pack (withFlag p true), v] else if k = 2 then [pack (withFlag p false), ls.getD 0 []] else ls ++ [v]
/-- The text of a node, or nothing. -/
def nodeB (k : Int) (p : List UInt8) (ls : List (List UInt8)) (v : List UInt8) : List UInt8 := if nodeOk k p ls v = true then listB (nodeTs k p ls v) else []

theorem kidsN_snoc (ls : List (List UInt8)) (l : List UInt8) : kidsN (ls ++ [l]) = kidsN ls + oneN l := by
  induction ls with
  | nil => simp [kidsN]
  | cons x r ih => simp [kidsN, ih]; omega
theorem kidsN_take (ls : List (List UInt8)) (j : Nat) (h : j < ls.length) : kidsN (ls.take (j + 1)) = kidsN (ls.take j) + oneN ls[j] := by
  rw [List.take_succ_eq_append_getElem h, kidsN_snoc]
theorem oneN_le (l : List UInt8) : oneN l ≤ 1 := by unfold oneN; split <;> omega
theorem kidsN_le (ls : List (List UInt8)) : kidsN ls ≤ ls.length := by
  induction ls with
  | nil => simp [kidsN]
  | cons x r ih => have := oneN_le x; simp [kidsN]; omega
theorem kidsAll_take (ls : List (List UInt8)) (j : Nat) (h : j < ls.length) (h1 : (ls.take j).all kidOk = true) (h2 : kidOk ls[j] = true) : (ls.take (j + 1)).all kidOk = true := by
  rw [List.take_succ_eq_append_getElem h, List.all_append, h1]
  simp [h2]
theorem kidsAll_no (ls : List (List UInt8)) (j : Nat) (h : j < ls.length) (h2 : kidOk ls[j] = false) : ls.all kidOk = false := by
  rw [List.all_eq_false]
  exact ⟨ls[j], List.getElem_mem _, by simp [h2]⟩
theorem flat_kids (ls : List (List UInt8)) (h : ls.all kidOk = true) : ls.flatten.length ≤ 32 * ls.length := by
  induction ls with
  | nil => simp
  | cons x r ih =>
    simp only [List.all_cons, Bool.and_eq_true] at h
    have h1 := ih h.2
    have h2 : x.length ≤ 32 := by
      have := h.1
      simp only [kidOk, Bool.or_eq_true, List.isEmpty_iff, decide_eq_true_eq] at this
      rcases this with rfl | h3
      · simp
      · omega
    rw [List.flatten_cons, List.length_append, List.length_cons]
    omega
theorem pack_le : ∀ l : List UInt8, (pack l).length ≤ l.length
  | [] => by simp [pack]
  | [a] => by simp [pack]
  | a :: b :: r => by
    have := pack_le r
    simp [pack]
    omega
end Go.Proofs.YtjlkeoocddianaaDoor
