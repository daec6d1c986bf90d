/-
  Contracts: a drawn batch, a drawn batch's text (written by mkdp.py).
-/
import Derived.Test.YtcfflfpdoihpmaaDrawO
namespace Go.Proofs.Ytcfflfpdoihpmaa
open Go.RowKit
set_option linter.unusedVariables false

theorem smallO_le {ps : List OpL} (h : smallO ps) : ∀ p ∈ ps, p.1.length ≤ 1048576 ∧ p.2.1.length ≤ 1048576 := fun p hp => by
  have := h p hp
  exact ⟨by omega, by omega⟩
theorem batchB_len (c n : Int) (ps : List OpL) : (batchB c n ps).length ≤ 33006 := by
  unfold batchB
  split
  · rename_i h
    have := batchTs_flat c n ps h
    exact (listB_len _ (by omega) (by omega)).2
  · simp

set_option maxRecDepth 100000 in
set_option maxHeartbeats 1000000 in
theorem drawBatch (n cap : Nat) (a : Option Addr) (w : World) (hn : n ≤ 1048576) (h : Code w a n) :
    Calls Try.prog 33 #[.slice a n cap] w fun e w' => ∃ (x y : Int) (ps : List OpL) (a2 : Option Addr) (c2 : Nat), ps.length ≤ 4 ∧ smallO ps ∧ e = .returned (.agg #[.int .i64 x, .int .i64 y, .slice a2 ps.length c2]) ∧ w'.ownsRow w.heap.size 83 3 (.slice a2 ps.length c2) ps.length (ocells ps) ∧ Below w.heap.size w w' := by
  have B0 : Below w.heap.size w (w.alloc (.cells #[.int .i64 0, .int .i64 0, .slice none 0 0] 44)) := (Below.refl _ _).alloc (Nat.le_refl _) _
  have BX : Hid (Below w.heap.size w (w.alloc (.cells #[.int .i64 0, .int .i64 0, .slice none 0 0] 44))) := B0
  have X0 : Hid ((w.alloc (.cells #[.int .i64 0, .int .i64 0, .slice none 0 0] 44)).heap[w.heap.size]? = some (.cells #[.int .i64 0, .int .i64 0, .slice none 0 0] 44 (0, 0))) := heap_alloc_new w _
  have S0 : Hid ((w.alloc (.cells #[.int .i64 0, .int .i64 0, .slice none 0 0] 44)).heap.size = w.heap.size + 1) := by rw [Hid]; simp
  have H1 := open_any n cap a (w.alloc (.cells #[.int .i64 0, .int .i64 0, .slice none 0 0] 44)) (h.later B0)
  clear h B0
  go_enter Try.func33, Try.ntmps33
  go_wp2_with fail
  refine H1.mono ?_
  rintro e w1 ⟨rfl, hR1, b1⟩
  rw [S0.out] at hR1
  have B1 : Hid (Below w.heap.size w w1) := BX.out.trans (b1.mono BX.out.size)
  have X1 : Hid (w1.heap[w.heap.size]? = some (.cells #[.int .i64 0, .int .i64 0, .slice none 0 0] 44 (0, 0))) := (b1.block w.heap.size (by have := S0.out; omega)).trans X0.out
  have hb1 : Hid (Below (w.heap.size + 1) (w.alloc (.cells #[.int .i64 0, .int .i64 0, .slice none 0 0] 44)) w1) := by have := b1; rw [S0.out] at this; exact this
  have K2 := batch_any (w.heap.size + 1) n cap a w1 hn hR1
  clear hR1 b1 H1
  simp only [S0.out]
  go_wp2_with fail
  refine K2.mono ?_
  rintro e w2 ⟨x, y, ps, a2, c2, hpl, hsm, rfl, hO2, hR2, hG2⟩
  have X2 : Hid (w2.heap[w.heap.size]? = some (.cells #[.int .i64 0, .int .i64 0, .slice none 0 0] 44 (0, 0))) := (hG2.block w.heap.size (lt_of_block X1.out) (by simp)).trans X1.out
  have B2 : Hid (Below w.heap.size w w2) := B1.out.grown hG2 B1.out.size (fun k hk => by simp at hk; omega)
  have S1 : Hid (w.heap.size < w1.heap.size) := lt_of_block X1.out
  have O2 := hidOwn hO2
  have HSM : Hid (smallO ps) := hsm
  have NW : Hid ((Value.slice a2 ps.length c2).ownBlock ≠ some w.heap.size) := fun e => by have := (hO2.lt _ e).1; have := S1.out; omega
  obtain ⟨q0, q1, q2, qf⟩ := bat_cells X2.out
  have qf0 := qf 0
  have qf1 := qf 1
  have qf2 := qf 2
  clear qf hO2 hR2 hG2 K2 hsm
  go_wp2
  exact bodyPost_ret (v := .agg #[.int .i64 x, .int .i64 y, .slice a2 ps.length c2]) (results_cell_row rfl _ _ w.heap.size 44 _ (0, 0) _ rfl (tri_setB (.int .i64 x) (.int .i64 y) (.slice a2 ps.length c2) X2.out) Try.underlying44 rfl (by kernel_rfl)) rfl ⟨x, y, ps, a2, c2, hpl, HSM.out, rfl, (tri_own O2.out NW.out _ _ _).mono (by have := S1.out; omega), triS_below B2.out (Nat.le_refl _) _ _ _⟩

set_option maxRecDepth 100000 in
set_option maxHeartbeats 1000000 in
theorem drawReadB (n cap : Nat) (a : Option Addr) (w : World) (hn : n ≤ 1048576) (h : Code w a n) :
    Calls Try.prog 35 #[.slice a n cap] w fun e w' => ∃ l : List UInt8, l.length ≤ 60000 ∧ e = .returned (.string ⟨l.toArray⟩) ∧ Below w.heap.size w w' := by
  have H1 := open_any n cap a w h
  clear h
  go_enter Try.func35, Try.ntmps35
  go_wp2_with fail
  refine H1.mono ?_
  rintro e w1 ⟨rfl, hR1, b1⟩
  have B1 : Hid (Below w.heap.size w w1) := b1
  have K2 := batch_any w.heap.size n cap a w1 hn hR1
  clear hR1 b1 H1
  go_wp2_with fail
  refine K2.mono ?_
  rintro e w2 ⟨x, y, ps, a2, c2, hpl, hsm, rfl, hO2, hR2, hG2⟩
  have B2 : Hid (Below w.heap.size w w2) := B1.out.grown hG2 B1.out.size (fun k hk => by simp at hk; omega)
  have K3 := spec_batchText x y a2 c2 ps w2 (by omega) (smallO_le hsm) (isOps_own hO2).2.2
  have hbl := batchB_len x y ps
  obtain ⟨s, hs⟩ : ∃ s, s = batchB x y ps := ⟨_, rfl⟩
  rw [← hs] at K3 hbl
  have R2 : Hid (Rd w.heap.size a n cap w2) := hR2
  clear hO2 hR2 hG2 K2 hsm hs
  go_wp2_with fail
  refine K3.mono ?_
  rintro e w3 ⟨rfl, b3⟩
  have B3 : Hid (Below w.heap.size w w3) := B2.out.trans (b3.mono B2.out.size)
  have K4 := hurt_any w.heap.size n cap a s w3 (by omega) hn (R2.out.keptNone b3)
  clear b3 K3 R2
  go_wp2_with fail
  refine K4.mono ?_
  rintro e w4 ⟨l, hl, rfl, hR4, hG4⟩
  have B4 : Hid (Below w.heap.size w w4) := B3.out.grown hG4 B3.out.size (fun k hk => by simp at hk; omega)
  clear hR4 hG4 K4
  go_wp2
  go_ret
  exact ⟨l, by omega, rfl, B4.out⟩
end Go.Proofs.Ytcfflfpdoihpmaa
