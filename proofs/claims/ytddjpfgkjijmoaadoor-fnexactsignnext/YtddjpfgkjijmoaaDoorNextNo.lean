/-
  Contracts: a signer that is not right, or is used up, of both sides.
-/
import Derived.Test.YtddjpfgkjijmoaaDoorISig
namespace Go.Proofs.YtddjpfgkjijmoaaDoor
open Go.RowKit
set_option linter.unusedVariables false

theorem no_store (sd us : Value) (w w1 : World) {ts tg : TypeId} {a b x y z : Value} (h1 : w1.heap[w.heap.size + 1]? = some (.cells #[a, b] ts (0, 0))) (h2 : w1.heap[w.heap.size + 2]? = some (.cells #[x, y, z] tg (0, 0))) (hB : Below w.heap.size w w1) :
    (((((w1.setCell ⟨w.heap.size + 1, 0, none⟩ sd).setCell ⟨w.heap.size + 1, 1, none⟩ us).setCell ⟨w.heap.size + 1 + 1, 0, none⟩ (.int .i64 0)).setCell ⟨w.heap.size + 1 + 1, 1, none⟩ (.slice none 0 0)).setCell ⟨w.heap.size + 1 + 1, 2, none⟩ (.slice none 0 0)).heap[w.heap.size + 1]? = some (.cells #[sd, us] ts (0, 0)) ∧
    (((((w1.setCell ⟨w.heap.size + 1, 0, none⟩ sd).setCell ⟨w.heap.size + 1, 1, none⟩ us).setCell ⟨w.heap.size + 1 + 1, 0, none⟩ (.int .i64 0)).setCell ⟨w.heap.size + 1 + 1, 1, none⟩ (.slice none 0 0)).setCell ⟨w.heap.size + 1 + 1, 2, none⟩ (.slice none 0 0)).heap[w.heap.size + 1 + 1]? = some (.cells #[.int .i64 0, .slice none 0 0, .slice none 0 0] tg (0, 0)) ∧
    Below w.heap.size w (((((w1.setCell ⟨w.heap.size + 1, 0, none⟩ sd).setCell ⟨w.heap.size + 1, 1, none⟩ us).setCell ⟨w.heap.size + 1 + 1, 0, none⟩ (.int .i64 0)).setCell ⟨w.heap.size + 1 + 1, 1, none⟩ (.slice none 0 0)).setCell ⟨w.heap.size + 1 + 1, 2, none⟩ (.slice none 0 0)) :=
  ⟨(Below.heap_setCell _ _ _ _ (by simp)).trans ((Below.heap_setCell _ _ _ _ (by simp)).trans ((Below.heap_setCell _ _ _ _ (by simp)).trans (duo_set (j := 1) (duo_set (j := 0) h1)))),
    trio_set (j := 2) (trio_set (j := 1) (trio_set (j := 0) ((Below.heap_setCell _ _ _ _ (by simp)).trans ((Below.heap_setCell _ _ _ _ (by simp)).trans h2)))),
    ((((hB.setCell (by simp) _).setCell (by simp) _).setCell (by simp; omega) _).setCell (by simp; omega) _).setCell (by simp; omega) _⟩

set_option maxRecDepth 100000 in
set_option maxHeartbeats 1000000 in
theorem impl_next_no (seed msg : List UInt8) (n : Int) (w : World) (hl : seed.length ≤ 1048576) (hno : ¬ (seed.length = 32 ∧ 0 ≤ n ∧ n ≤ 3)) :
    Calls Tryd.prog 10 #[.agg #[.string ⟨seed.toArray⟩, .int .i64 n], .string ⟨msg.toArray⟩] w fun e w' => e = .returned (.tuple #[.agg #[.string ⟨seed.toArray⟩, .int .i64 n], .agg #[.int .i64 0, .slice none 0 0, .slice none 0 0], .bool false]) ∧ Below w.heap.size w w' := by
  obtain ⟨wa, hwa⟩ : ∃ wa, wa = ((w.alloc (.cells #[.string ⟨seed.toArray⟩, .int .i64 n] 25)).alloc (.cells #[.string ⟨#[]⟩, .int .i64 0] 25)).alloc (.cells #[.int .i64 0, .slice none 0 0, .slice none 0 0] 30) := ⟨_, rfl⟩
  have Ba : Below w.heap.size w wa := by rw [hwa]; exact (((Below.refl _ _).alloc (Nat.le_refl _) _).alloc (by simp) _).alloc (by simp; omega) _
  have sa : wa.heap.size = w.heap.size + 3 := by rw [hwa]; simp
  have a0 : wa.heap[w.heap.size]? = some (.cells #[.string ⟨seed.toArray⟩, .int .i64 n] 25 (0, 0)) := by rw [hwa, Below.heap_alloc _ _ _ (by simp; omega), Below.heap_alloc _ _ _ (by simp)]; exact heap_alloc_new w _
  have a1 : wa.heap[w.heap.size + 1]? = some (.cells #[.string ⟨#[]⟩, .int .i64 0] 25 (0, 0)) := by rw [hwa, Below.heap_alloc _ _ _ (by simp)]; exact new_at _ (by simp) _
  have a2 : wa.heap[w.heap.size + 2]? = some (.cells #[.int .i64 0, .slice none 0 0, .slice none 0 0] 30 (0, 0)) := by rw [hwa]; exact new_at _ (by simp) _
  by_cases h4 : n = 4 ∧ seed.length = 32
  · obtain ⟨rfl, hs⟩ := h4
    clear hno
    have K1 := impl_ok seed 4 true wa hl (by simp [hs])
    rw [hwa] at K1
    go_enter Tryd.func10, Tryd.ntmps10
    go_wp2_with fail
    refine K1.mono ?_
    rintro e w1 ⟨rfl, b1⟩
    rw [← hwa] at b1
    clear K1 hwa
    have B1 := Ba.trans (b1.mono (by omega))
    have s1 := b1.size
    have z0 := (b1.block _ (by omega)).trans a0
    have z1 := (b1.block _ (by omega)).trans a1
    have z2 := (b1.block _ (by omega)).trans a2
    obtain ⟨f0, f1, _⟩ := duo_row z0
    obtain ⟨r0, r1, rf⟩ := duo_row z1
    obtain ⟨t0, t1, t2, tf⟩ := trio_cells z2
    have rf0 := rf 0
    have rf1 := rf 1
    have tf0 := tf 0
    have tf1 := tf 1
    have tf2 := tf 2
    have HZ2 : Hid (w1.heap[w.heap.size + 1]? = some (.cells #[.string ⟨#[]⟩, .int .i64 0] 25 (0, 0)) ∧ w1.heap[w.heap.size + 2]? = some (.cells #[.int .i64 0, .slice none 0 0, .slice none 0 0] 30 (0, 0))) := ⟨z1, z2⟩
    clear z0 z1 z2 rf tf b1 a0 a1 a2 Ba
    go_wp2
    obtain ⟨F1, F2, F5⟩ := no_store (.string ⟨seed.toArray⟩) (.int .i64 4) w w1 HZ2.out.1 HZ2.out.2 B1
    exact bodyPost_ret (v := .tuple #[.agg #[.string ⟨seed.toArray⟩, .int .i64 4], .agg #[.int .i64 0, .slice none 0 0, .slice none 0 0], .bool false]) (results_ccb rfl _ _ (w.heap.size + 1) (w.heap.size + 1 + 1) 25 30 _ _ _ _ rfl F1 Tryd.underlying25 rfl (by kernel_rfl) rfl F2 Tryd.underlying30 rfl (by kernel_rfl) _ rfl) rfl ⟨rfl, F5⟩

  · have K1 := impl_ok seed n false wa hl (by rw [eq_comm, decide_eq_false_iff_not]; intro hh; exact hno ⟨hh.1, hh.2.1, by have : n ≠ 4 := fun e => h4 ⟨e, hh.1⟩; omega⟩)
    rw [hwa] at K1
    go_enter Tryd.func10, Tryd.ntmps10
    go_wp2_with fail
    refine K1.mono ?_
    rintro e w1 ⟨rfl, b1⟩
    rw [← hwa] at b1
    clear K1 hwa
    have B1 := Ba.trans (b1.mono (by omega))
    have s1 := b1.size
    have z0 := (b1.block _ (by omega)).trans a0
    have z1 := (b1.block _ (by omega)).trans a1
    have z2 := (b1.block _ (by omega)).trans a2
    obtain ⟨f0, f1, _⟩ := duo_row z0
    obtain ⟨r0, r1, rf⟩ := duo_row z1
    obtain ⟨t0, t1, t2, tf⟩ := trio_cells z2
    have rf0 := rf 0
    have rf1 := rf 1
    have tf0 := tf 0
    have tf1 := tf 1
    have tf2 := tf 2
    have HZ2 : Hid (w1.heap[w.heap.size + 1]? = some (.cells #[.string ⟨#[]⟩, .int .i64 0] 25 (0, 0)) ∧ w1.heap[w.heap.size + 2]? = some (.cells #[.int .i64 0, .slice none 0 0, .slice none 0 0] 30 (0, 0))) := ⟨z1, z2⟩
    clear z0 z1 z2 rf tf b1 a0 a1 a2 Ba
    go_wp2
    obtain ⟨F1, F2, F5⟩ := no_store (.string ⟨seed.toArray⟩) (.int .i64 n) w w1 HZ2.out.1 HZ2.out.2 B1
    exact bodyPost_ret (v := .tuple #[.agg #[.string ⟨seed.toArray⟩, .int .i64 n], .agg #[.int .i64 0, .slice none 0 0, .slice none 0 0], .bool false]) (results_ccb rfl _ _ (w.heap.size + 1) (w.heap.size + 1 + 1) 25 30 _ _ _ _ rfl F1 Tryd.underlying25 rfl (by kernel_rfl) rfl F2 Tryd.underlying30 rfl (by kernel_rfl) _ rfl) rfl ⟨rfl, F5⟩

set_option maxRecDepth 100000 in
set_option maxHeartbeats 1000000 in
theorem spec_next_no (seed msg : List UInt8) (n : Int) (w : World) (hl : seed.length ≤ 1048576) (hno : ¬ (seed.length = 32 ∧ 0 ≤ n ∧ n ≤ 3)) :
    Calls Tryd.prog 11 #[.agg #[.string ⟨seed.toArray⟩, .int .i64 n], .string ⟨msg.toArray⟩] w fun e w' => e = .returned (.tuple #[.agg #[.string ⟨seed.toArray⟩, .int .i64 n], .agg #[.int .i64 0, .slice none 0 0, .slice none 0 0], .bool false]) ∧ Below w.heap.size w w' := by
  obtain ⟨wa, hwa⟩ : ∃ wa, wa = ((w.alloc (.cells #[.string ⟨seed.toArray⟩, .int .i64 n] 25)).alloc (.cells #[.string ⟨#[]⟩, .int .i64 0] 25)).alloc (.cells #[.int .i64 0, .slice none 0 0, .slice none 0 0] 30) := ⟨_, rfl⟩
  have Ba : Below w.heap.size w wa := by rw [hwa]; exact (((Below.refl _ _).alloc (Nat.le_refl _) _).alloc (by simp) _).alloc (by simp; omega) _
  have sa : wa.heap.size = w.heap.size + 3 := by rw [hwa]; simp
  have a0 : wa.heap[w.heap.size]? = some (.cells #[.string ⟨seed.toArray⟩, .int .i64 n] 25 (0, 0)) := by rw [hwa, Below.heap_alloc _ _ _ (by simp; omega), Below.heap_alloc _ _ _ (by simp)]; exact heap_alloc_new w _
  have a1 : wa.heap[w.heap.size + 1]? = some (.cells #[.string ⟨#[]⟩, .int .i64 0] 25 (0, 0)) := by rw [hwa, Below.heap_alloc _ _ _ (by simp)]; exact new_at _ (by simp) _
  have a2 : wa.heap[w.heap.size + 2]? = some (.cells #[.int .i64 0, .slice none 0 0, .slice none 0 0] 30 (0, 0)) := by rw [hwa]; exact new_at _ (by simp) _
  by_cases h4 : n = 4 ∧ seed.length = 32
  · obtain ⟨rfl, hs⟩ := h4
    clear hno
    have K1 := spec_ok seed 4 true wa hl (by simp [hs])
    rw [hwa] at K1
    go_enter Tryd.func11, Tryd.ntmps11
    go_wp2_with fail
    refine K1.mono ?_
    rintro e w1 ⟨rfl, b1⟩
    rw [← hwa] at b1
    clear K1 hwa
    have B1 := Ba.trans (b1.mono (by omega))
    have s1 := b1.size
    have z0 := (b1.block _ (by omega)).trans a0
    have z1 := (b1.block _ (by omega)).trans a1
    have z2 := (b1.block _ (by omega)).trans a2
    obtain ⟨f0, f1, _⟩ := duo_row z0
    obtain ⟨r0, r1, rf⟩ := duo_row z1
    obtain ⟨t0, t1, t2, tf⟩ := trio_cells z2
    have rf0 := rf 0
    have rf1 := rf 1
    have tf0 := tf 0
    have tf1 := tf 1
    have tf2 := tf 2
    have HZ2 : Hid (w1.heap[w.heap.size + 1]? = some (.cells #[.string ⟨#[]⟩, .int .i64 0] 25 (0, 0)) ∧ w1.heap[w.heap.size + 2]? = some (.cells #[.int .i64 0, .slice none 0 0, .slice none 0 0] 30 (0, 0))) := ⟨z1, z2⟩
    clear z0 z1 z2 rf tf b1 a0 a1 a2 Ba
    go_wp2
    obtain ⟨F1, F2, F5⟩ := no_store (.string ⟨seed.toArray⟩) (.int .i64 4) w w1 HZ2.out.1 HZ2.out.2 B1
    exact bodyPost_ret (v := .tuple #[.agg #[.string ⟨seed.toArray⟩, .int .i64 4], .agg #[.int .i64 0, .slice none 0 0, .slice none 0 0], .bool false]) (results_ccb rfl _ _ (w.heap.size + 1) (w.heap.size + 1 + 1) 25 30 _ _ _ _ rfl F1 Tryd.underlying25 rfl (by kernel_rfl) rfl F2 Tryd.underlying30 rfl (by kernel_rfl) _ rfl) rfl ⟨rfl, F5⟩

  · have K1 := spec_ok seed n false wa hl (by rw [eq_comm, decide_eq_false_iff_not]; intro hh; exact hno ⟨hh.1, hh.2.1, by have : n ≠ 4 := fun e => h4 ⟨e, hh.1⟩; omega⟩)
    rw [hwa] at K1
    go_enter Tryd.func11, Tryd.ntmps11
    go_wp2_with fail
    refine K1.mono ?_
    rintro e w1 ⟨rfl, b1⟩
    rw [← hwa] at b1
    clear K1 hwa
    have B1 := Ba.trans (b1.mono (by omega))
    have s1 := b1.size
    have z0 := (b1.block _ (by omega)).trans a0
    have z1 := (b1.block _ (by omega)).trans a1
    have z2 := (b1.block _ (by omega)).trans a2
    obtain ⟨f0, f1, _⟩ := duo_row z0
    obtain ⟨r0, r1, rf⟩ := duo_row z1
    obtain ⟨t0, t1, t2, tf⟩ := trio_cells z2
    have rf0 := rf 0
    have rf1 := rf 1
    have tf0 := tf 0
    have tf1 := tf 1
    have tf2 := tf 2
    have HZ2 : Hid (w1.heap[w.heap.size + 1]? = some (.cells #[.string ⟨#[]⟩, .int .i64 0] 25 (0, 0)) ∧ w1.heap[w.heap.size + 2]? = some (.cells #[.int .i64 0, .slice none 0 0, .slice none 0 0] 30 (0, 0))) := ⟨z1, z2⟩
    clear z0 z1 z2 rf tf b1 a0 a1 a2 Ba
    go_wp2
    obtain ⟨F1, F2, F5⟩ := no_store (.string ⟨seed.toArray⟩) (.int .i64 n) w w1 HZ2.out.1 HZ2.out.2 B1
    exact bodyPost_ret (v := .tuple #[.agg #[.string ⟨seed.toArray⟩, .int .i64 n], .agg #[.int .i64 0, .slice none 0 0, .slice none 0 0], .bool false]) (results_ccb rfl _ _ (w.heap.size + 1) (w.heap.size + 1 + 1) 25 30 _ _ _ _ rfl F1 Tryd.underlying25 rfl (by kernel_rfl) rfl F2 Tryd.underlying30 rfl (by kernel_rfl) _ rfl) rfl ⟨rfl, F5⟩

end Go.Proofs.YtddjpfgkjijmoaaDoor
