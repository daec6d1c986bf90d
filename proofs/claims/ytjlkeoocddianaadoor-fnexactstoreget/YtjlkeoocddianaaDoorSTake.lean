/-
  The contract of the model's TakeRlp.
-/
import Derived.Test.YtjlkeoocddianaaDoorMath2
import Derived.Test.YtjlkeoocddianaaDoorMathAll
import Derived.Deep.QuietTactic
import Derived.BigQuiet
namespace Go.Proofs.YtjlkeoocddianaaDoor
open Go.RowKit
set_option linter.unusedVariables false

set_option maxRecDepth 100000 in
set_option maxHeartbeats 400000 in
theorem spec_take_nil (w : World) :
    Calls Tryd.prog 52 #[.string ⟨#[]⟩] w fun e w' => e = .returned (tkV none) ∧ Below w.heap.size w w' := by
  go_enter Tryd.func52, Tryd.ntmps52
  go_wp2
  exact bodyPost_ret (v := .tuple #[.int .i64 0, .string ⟨#[]⟩, .string ⟨#[]⟩, .bool false]) (by simp [results, Tryd.results52, go_sem]) rfl ⟨rfl, Below.refl _ _⟩

set_option maxRecDepth 100000 in
set_option maxHeartbeats 400000 in
theorem spec_take_byte (b : UInt8) (r : List UInt8) (w : World) (hb : b.toNat < 128) (hr : r.length ≤ 1048576) :
    Calls Tryd.prog 52 #[.string ⟨(b :: r).toArray⟩] w fun e w' => e = .returned (tkV (some (1, [b], r))) ∧ Below w.heap.size w w' := by
  have hix := ix_at (P := Tryd.prog) Tryd.underlying9 (b :: r) 0 0 rfl (by simp)
  have hs1 := sl_to (P := Tryd.prog) Tryd.underlying9 (b :: r) 1 1 rfl (by simp)
  have hs2 := sl_from (P := Tryd.prog) Tryd.underlying9 (b :: r) 1 1 rfl (by simp)
  simp only [List.getElem_cons_zero, List.take_succ_cons, List.take_zero, List.drop_succ_cons, List.drop_zero] at hix hs1 hs2
  have hb' : (b.toNat : Int) < 128 := by omega
  go_enter Tryd.func52, Tryd.ntmps52
  go_wp2
  go_quiet (fail)
  go_wp2
  exact bodyPost_ret (v := .tuple #[.int .i64 1, .string ⟨#[b]⟩, .string ⟨r.toArray⟩, .bool true]) (by simp [results, Tryd.results52, go_sem]) rfl ⟨rfl, below_drewN (Below.refl _ _) _⟩

/-- The first byte, as the head and a number. -/
theorem first_ix (b : UInt8) (r : List UInt8) (x : Int) (h : (b.toNat : Int) = x) (W : World) :
    (Instr.index 9 (.string ⟨(b :: r).toArray⟩) (.int .i64 0)).run Tryd.prog W = .ok (.int .u8 x) W := by
  rw [ix_at (P := Tryd.prog) Tryd.underlying9 (b :: r) 0 0 rfl (by simp) W]
  simp [h]

theorem first_from (b : UInt8) (r : List UInt8) (W : World) :
    (Instr.slice 9 (.string ⟨(b :: r).toArray⟩) (some (.int .i64 1)) none none).run Tryd.prog W = .ok (.string ⟨r.toArray⟩) W := by
  rw [sl_from (P := Tryd.prog) Tryd.underlying9 (b :: r) 1 1 rfl (by simp) W]
  simp

set_option maxRecDepth 100000 in
set_option maxHeartbeats 400000 in
theorem spec_take_short_few (b : UInt8) (r : List UInt8) (k n : Nat) (w : World) (hk : (k = 1 ∧ b.toNat = 128 + n) ∨ (k = 2 ∧ b.toNat = 192 + n)) (hn : n ≤ 55) (hf : r.length < n) (hr : r.length ≤ 1048576) :
    Calls Tryd.prog 52 #[.string ⟨(b :: r).toArray⟩] w fun e w' => e = .returned (tkV none) ∧ Below w.heap.size w w' := by
  have hs2 := first_from b r
  have hf' : (r.length : Int) < (n : Int) := by omega
  rcases hk with ⟨rfl, hb⟩ | ⟨rfl, hb⟩
  · have hix := first_ix b r (128 + (n : Int)) (by omega)
    clear hb
    go_enter Tryd.func52, Tryd.ntmps52
    go_wp2
    exact bodyPost_ret (v := .tuple #[.int .i64 0, .string ⟨#[]⟩, .string ⟨#[]⟩, .bool false]) (by simp [results, Tryd.results52, go_sem]) rfl ⟨rfl, Below.refl _ _⟩
  · have hix := first_ix b r (192 + (n : Int)) (by omega)
    clear hb
    go_enter Tryd.func52, Tryd.ntmps52
    go_wp2
    exact bodyPost_ret (v := .tuple #[.int .i64 0, .string ⟨#[]⟩, .string ⟨#[]⟩, .bool false]) (by simp [results, Tryd.results52, go_sem]) rfl ⟨rfl, Below.refl _ _⟩
set_option maxRecDepth 100000 in
set_option maxHeartbeats 1000000 in
theorem spec_take_short (b : UInt8) (r : List UInt8) (k n : Nat) (w : World) (hk : (k = 1 ∧ b.toNat = 128 + n ∧ n ≠ 1) ∨ (k = 2 ∧ b.toNat = 192 + n)) (hn : n ≤ 55) (hf : n ≤ r.length) (hr : r.length ≤ 1048576) :
    Calls Tryd.prog 52 #[.string ⟨(b :: r).toArray⟩] w fun e w' => e = .returned (tkV (some (k, r.take n, r.drop n))) ∧ Below w.heap.size w w' := by
  have hs2 := first_from b r
  have hs3 := ext_to r n hf
  have hs4 := ext_from r n hf
  have hf' : (n : Int) ≤ (r.length : Int) := by omega
  obtain ⟨r1, hr1⟩ : ∃ r1, r1 = r.take n := ⟨_, rfl⟩
  obtain ⟨r2, hr2⟩ : ∃ r2, r2 = r.drop n := ⟨_, rfl⟩
  rw [← hr1] at hs3 ⊢
  rw [← hr2] at hs4 ⊢
  clear hr1 hr2
  rcases hk with ⟨rfl, hb, h1⟩ | ⟨rfl, hb⟩
  · have hix := first_ix b r (128 + (n : Int)) (by omega)
    have h1' : ((128 + (n : Int) - 128) == 1) = false := by simp only [beq_eq_false_iff_ne, ne_eq]; omega
    clear hb h1
    go_enter Tryd.func52, Tryd.ntmps52
    go_wp2
    go_quiet (fail)
    go_wp2
    exact bodyPost_ret (v := .tuple #[.int .i64 1, .string ⟨r1.toArray⟩, .string ⟨r2.toArray⟩, .bool true]) (by simp [results, Tryd.results52, go_sem, hs3, hs4]) rfl ⟨rfl, below_drewN (Below.refl _ _) _⟩
  · have hix := first_ix b r (192 + (n : Int)) (by omega)
    clear hb
    go_enter Tryd.func52, Tryd.ntmps52
    go_wp2
    go_quiet (fail)
    go_wp2
    exact bodyPost_ret (v := .tuple #[.int .i64 2, .string ⟨r1.toArray⟩, .string ⟨r2.toArray⟩, .bool true]) (by simp [results, Tryd.results52, go_sem, hs3, hs4]) rfl ⟨rfl, below_drewN (Below.refl _ _) _⟩

set_option maxRecDepth 100000 in
set_option maxHeartbeats 1000000 in
theorem spec_take_one (b c : UInt8) (r : List UInt8) (w : World) (hb : b.toNat = 129) (hr : r.length < 1048576) :
    Calls Tryd.prog 52 #[.string ⟨(b :: c :: r).toArray⟩] w fun e w' => e = .returned (tkV (if c.toNat < 128 then none else some (1, [c], r))) ∧ Below w.heap.size w w' := by
  have hs2 := first_from b (c :: r)
  have hs3 := sl_to (P := Tryd.prog) Tryd.underlying9 (c :: r) 1 1 rfl (by simp)
  have hs4 := first_from c r
  have hix := first_ix b (c :: r) 129 (by omega)
  have hic := first_ix c r (c.toNat : Int) rfl
  simp only [List.take_succ_cons, List.take_zero] at hs3
  by_cases hc : c.toNat < 128
  · rw [if_pos hc]
    have hc' : (c.toNat : Int) < 128 := by omega
    clear hb
    go_enter Tryd.func52, Tryd.ntmps52
    go_wp2
    exact bodyPost_ret (v := .tuple #[.int .i64 0, .string ⟨#[]⟩, .string ⟨#[]⟩, .bool false]) (by simp [results, Tryd.results52, go_sem]) rfl ⟨rfl, Below.refl _ _⟩
  · rw [if_neg hc]
    have hc' : ¬ (c.toNat : Int) < 128 := by omega
    clear hb
    go_enter Tryd.func52, Tryd.ntmps52
    go_wp2
    go_quiet (fail)
    go_wp2
    exact bodyPost_ret (v := .tuple #[.int .i64 1, .string ⟨#[c]⟩, .string ⟨r.toArray⟩, .bool true]) (by simp [results, Tryd.results52, go_sem]) rfl ⟨rfl, below_drewN (Below.refl _ _) _⟩

set_option maxRecDepth 100000 in
set_option maxHeartbeats 1000000 in
theorem spec_take_long_no (b : UInt8) (r : List UInt8) (k m : Nat) (w : World) (hk : (k = 1 ∧ b.toNat = 128 + (55 + m)) ∨ (k = 2 ∧ b.toNat = 192 + (55 + m))) (hm : 1 ≤ m) (hm8 : m ≤ 8)
    (hf : r.length < m ∨ (m ≤ r.length ∧ 3 < m) ∨ (m ≤ r.length ∧ m ≤ 3 ∧ ∃ r', r = 0 :: r')) (hr : r.length ≤ 1048576) :
    Calls Tryd.prog 52 #[.string ⟨(b :: r).toArray⟩] w fun e w' => e = .returned (tkV none) ∧ Below w.heap.size w w' := by
  have hs2 := first_from b r
  rcases hf with hf | ⟨hl, h3⟩ | ⟨hl, h3, r', rfl⟩
  · have hf' : (r.length : Int) < (m : Int) := by omega
    rcases hk with ⟨rfl, hb⟩ | ⟨rfl, hb⟩
    · have hix := first_ix b r (128 + (55 + (m : Int))) (by omega)
      clear hb
      go_enter Tryd.func52, Tryd.ntmps52
      go_wp2
      exact bodyPost_ret (v := .tuple #[.int .i64 0, .string ⟨#[]⟩, .string ⟨#[]⟩, .bool false]) (by simp [results, Tryd.results52, go_sem]) rfl ⟨rfl, Below.refl _ _⟩
    · have hix := first_ix b r (192 + (55 + (m : Int))) (by omega)
      clear hb
      go_enter Tryd.func52, Tryd.ntmps52
      go_wp2
      exact bodyPost_ret (v := .tuple #[.int .i64 0, .string ⟨#[]⟩, .string ⟨#[]⟩, .bool false]) (by simp [results, Tryd.results52, go_sem]) rfl ⟨rfl, Below.refl _ _⟩
  · have hf' : (m : Int) ≤ (r.length : Int) := by omega
    have h3' : (3 : Int) < (m : Int) := by omega
    rcases hk with ⟨rfl, hb⟩ | ⟨rfl, hb⟩
    · have hix := first_ix b r (128 + (55 + (m : Int))) (by omega)
      clear hb
      go_enter Tryd.func52, Tryd.ntmps52
      go_wp2
      exact bodyPost_ret (v := .tuple #[.int .i64 0, .string ⟨#[]⟩, .string ⟨#[]⟩, .bool false]) (by simp [results, Tryd.results52, go_sem]) rfl ⟨rfl, Below.refl _ _⟩
    · have hix := first_ix b r (192 + (55 + (m : Int))) (by omega)
      clear hb
      go_enter Tryd.func52, Tryd.ntmps52
      go_wp2
      exact bodyPost_ret (v := .tuple #[.int .i64 0, .string ⟨#[]⟩, .string ⟨#[]⟩, .bool false]) (by simp [results, Tryd.results52, go_sem]) rfl ⟨rfl, Below.refl _ _⟩
  · have hf' : (m : Int) ≤ (r'.length : Int) + 1 := by simp at hl; omega
    have hi0 := first_ix 0 r' 0 rfl
    rcases hk with ⟨rfl, hb⟩ | ⟨rfl, hb⟩
    · have hix := first_ix b (0 :: r') (128 + (55 + (m : Int))) (by omega)
      clear hb
      go_enter Tryd.func52, Tryd.ntmps52
      go_wp2
      exact bodyPost_ret (v := .tuple #[.int .i64 0, .string ⟨#[]⟩, .string ⟨#[]⟩, .bool false]) (by simp [results, Tryd.results52, go_sem]) rfl ⟨rfl, Below.refl _ _⟩
    · have hix := first_ix b (0 :: r') (192 + (55 + (m : Int))) (by omega)
      clear hb
      go_enter Tryd.func52, Tryd.ntmps52
      go_wp2
      exact bodyPost_ret (v := .tuple #[.int .i64 0, .string ⟨#[]⟩, .string ⟨#[]⟩, .bool false]) (by simp [results, Tryd.results52, go_sem]) rfl ⟨rfl, Below.refl _ _⟩

end Go.Proofs.YtjlkeoocddianaaDoor
