/-
  Contracts: a signer's size and copy, and whether it is right, of the program and of the model.
-/
import Derived.Test.YtajckopldkmcnaaDoorRows
import Derived.Test.YtajckopldkmcnaaDoorMathAll
namespace Go.Proofs.YtajckopldkmcnaaDoor
open Go.RowKit
set_option linter.unusedVariables false

def signerOk (s : List UInt8) (n : Int) : Prop := s.length = 32 ∧ 0 ≤ n ∧ n ≤ 4

theorem duo_cells {w : World} (u v : Value) (t : TypeId) : (w.alloc (.cells #[u, v] t)).cell? ⟨w.heap.size, 0, none⟩ = some u ∧ (w.alloc (.cells #[u, v] t)).cell? ⟨w.heap.size, 1, none⟩ = some v := by
  have h := heap_alloc_new w (.cells #[u, v] t)
  simp only [World.cell?, h]
  exact ⟨rfl, rfl⟩

set_option maxRecDepth 100000 in
theorem szSigner_any (s : List UInt8) (n : Int) (w : World) (hl : s.length ≤ 9223372036854775807) :
    Calls Tryd.prog 11 #[.agg #[.string ⟨s.toArray⟩, .int .i64 n], .int .i64 1048576] w fun e w' => (e = .returned (.int .i64 (-1)) ∨ (s.length ≤ 1048576 ∧ ∃ k : Nat, e = .returned (.int .i64 (k : Int)))) ∧ Below w.heap.size w w' := by
  by_cases hb : s.length ≤ 1048576
  · have hb' : (s.length : Int) ≤ 1048576 := by omega
    go_enter Tryd.func11, Tryd.ntmps11
    go_wp2
    go_ret
    exact ⟨.inr ⟨hb, 1048576 - s.length, by show Ending.returned (.int .i64 (1048576 - (s.length : Int))) = _; congr 2; omega⟩, (Below.refl _ _).alloc (Nat.le_refl _) _⟩
  · have hb' : ¬ (s.length : Int) ≤ 1048576 := by omega
    go_enter Tryd.func11, Tryd.ntmps11
    go_wp2
    go_ret
    first | exact ⟨rfl, (Below.refl _ _).alloc (Nat.le_refl _) _⟩ | exact ⟨.inl rfl, (Below.refl _ _).alloc (Nat.le_refl _) _⟩

set_option maxRecDepth 100000 in
theorem toSigner_any (s : List UInt8) (n : Int) (w : World) :
    Calls Tryd.prog 13 #[.agg #[.string ⟨s.toArray⟩, .int .i64 n]] w fun e w' => e = .returned (.agg #[.string ⟨s.toArray⟩, .int .i64 n]) ∧ Below w.heap.size w w' := by
  go_enter Tryd.func13, Tryd.ntmps13
  go_wp2
  have hb : (((w.alloc (.cells #[.string ⟨s.toArray⟩, .int .i64 n] 26)).alloc (.cells #[.string ⟨s.toArray⟩, .int .i64 n] 28)).alloc (.cells #[.string ⟨s.toArray⟩, .int .i64 n] 28)).heap[w.heap.size + 1]? = some (.cells #[.string ⟨s.toArray⟩, .int .i64 n] 28 (0, 0)) := by
    rw [Below.heap_alloc _ _ _ (by simp)]
    have := heap_alloc_new (w.alloc (.cells #[.string ⟨s.toArray⟩, .int .i64 n] 26)) (.cells #[.string ⟨s.toArray⟩, .int .i64 n] 28)
    simpa using this
  exact bodyPost_ret (v := .agg #[.string ⟨s.toArray⟩, .int .i64 n]) (results_cell_row rfl _ _ (w.heap.size + 1) 28 _ (0, 0) _ rfl hb Tryd.underlying28 rfl (by kernel_rfl)) rfl ⟨rfl, (((Below.refl _ _).alloc (Nat.le_refl _) _).alloc (by simp) _).alloc (by simp; omega) _⟩

set_option maxRecDepth 100000 in
theorem l1In_ok (n : Int) (b : Bool) (w : World) (h : b = decide (0 ≤ n ∧ n ≤ 4)) :
    Calls Tryd.prog 41 #[.int .i64 n, .int .i64 0, .int .i64 4] w fun e w' => e = .returned (.bool b) ∧ w' = w := by
  by_cases h0 : 0 ≤ n
  · by_cases h1 : n ≤ 4
    · have hb : b = true := by rw [h]; exact decide_eq_true ⟨h0, h1⟩
      subst hb
      clear h
      go_enter Tryd.func41, Tryd.ntmps41
      go_wp2
      go_ret
      exact ⟨rfl, rfl⟩
    · have hb : b = false := by rw [h]; exact decide_eq_false (fun hh => h1 hh.2)
      subst hb
      clear h
      go_enter Tryd.func41, Tryd.ntmps41
      go_wp2
      go_ret
      exact ⟨rfl, rfl⟩
  · have hb : b = false := by rw [h]; exact decide_eq_false (fun hh => h0 hh.1)
    subst hb
    clear h
    go_enter Tryd.func41, Tryd.ntmps41
    go_wp2
    go_ret
    exact ⟨rfl, rfl⟩

set_option maxRecDepth 100000 in
theorem spec_ok (s : List UInt8) (n : Int) (b : Bool) (w : World) (hl : s.length ≤ 1048576) (h : b = decide (s.length = 32 ∧ 0 ≤ n ∧ n ≤ 4)) :
    Calls Tryd.prog 83 #[.agg #[.string ⟨s.toArray⟩, .int .i64 n]] w fun e w' => e = .returned (.bool b) ∧ Below w.heap.size w w' := by
  by_cases hs : s.length = 32
  · have hs' : (s.length : Int) = 32 := by omega
    have K := l1In_ok n b (w.alloc (.cells #[.string ⟨s.toArray⟩, .int .i64 n] 28)) (by rw [h]; simp [hs])
    clear h
    go_enter Tryd.func83, Tryd.ntmps83
    go_wp2_with fail
    refine K.mono ?_
    rintro e w1 ⟨rfl, rfl⟩
    go_wp2
    go_ret
    exact ⟨rfl, (Below.refl _ _).alloc (Nat.le_refl _) _⟩
  · have hs' : ¬ (s.length : Int) = 32 := by omega
    have hb : b = false := by rw [h]; exact decide_eq_false (fun hh => hs hh.1)
    subst hb
    clear h
    go_enter Tryd.func83, Tryd.ntmps83
    go_wp2
    go_ret
    exact ⟨rfl, (Below.refl _ _).alloc (Nat.le_refl _) _⟩

set_option maxRecDepth 100000 in
theorem impl_ok (s : List UInt8) (n : Int) (b : Bool) (w : World) (hl : s.length ≤ 1048576) (h : b = decide (s.length = 32 ∧ 0 ≤ n ∧ n ≤ 4)) :
    Calls Tryd.prog 87 #[.agg #[.string ⟨s.toArray⟩, .int .i64 n]] w fun e w' => e = .returned (.bool b) ∧ Below w.heap.size w w' := by
  by_cases hs : s.length = 32
  · have hs' : (s.length : Int) = 32 := by omega
    by_cases h0 : 0 ≤ n
    · by_cases h1 : n ≤ 4
      · have hb : b = true := by rw [h]; exact decide_eq_true ⟨hs, h0, h1⟩
        subst hb
        clear h
        go_enter Tryd.func87, Tryd.ntmps87
        go_wp2
        go_ret
        exact ⟨rfl, (Below.refl _ _).alloc (Nat.le_refl _) _⟩
      · have hb : b = false := by rw [h]; exact decide_eq_false (fun hh => h1 hh.2.2)
        subst hb
        clear h
        go_enter Tryd.func87, Tryd.ntmps87
        go_wp2
        go_ret
        exact ⟨rfl, (Below.refl _ _).alloc (Nat.le_refl _) _⟩
    · have hb : b = false := by rw [h]; exact decide_eq_false (fun hh => h0 hh.2.1)
      subst hb
      clear h
      go_enter Tryd.func87, Tryd.ntmps87
      go_wp2
      go_ret
      exact ⟨rfl, (Below.refl _ _).alloc (Nat.le_refl _) _⟩
  · have hs' : ¬ (s.length : Int) = 32 := by omega
    have hb : b = false := by rw [h]; exact decide_eq_false (fun hh => hs hh.1)
    subst hb
    clear h
    go_enter Tryd.func87, Tryd.ntmps87
    go_wp2
    go_ret
    exact ⟨rfl, (Below.refl _ _).alloc (Nat.le_refl _) _⟩
end Go.Proofs.YtajckopldkmcnaaDoor
