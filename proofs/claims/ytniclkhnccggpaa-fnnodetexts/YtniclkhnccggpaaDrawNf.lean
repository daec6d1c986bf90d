/-
  Contracts: a drawn node; drawn bytes that may be a node's (written by mkdrawnf.py).
-/
import Derived.Test.YtniclkhnccggpaaDrawNe
import Derived.Test.YtniclkhnccggpaaHurt
import Derived.Test.YtniclkhnccggpaaSNodeAll
namespace Go.Proofs.Ytniclkhnccggpaa
open Go.RowKit
set_option linter.unusedVariables false

set_option maxRecDepth 100000 in
set_option maxHeartbeats 1000000 in
theorem drawNodeT (n cap : Nat) (a : Option Addr) (w : World) (hn : n ≤ 1048576) (h : Code w a n) :
    Calls Try.prog 11 #[.slice a n cap] w fun e w' => ∃ (k : Int) (p : List UInt8) (ls : List (List UInt8)) (v : List UInt8) (a2 : Option Addr) (c2 : Nat), p.length ≤ 1048576 ∧ v.length ≤ 1048576 ∧ ls.length ≤ 17 ∧ (∀ l ∈ ls, l.length ≤ 1048576) ∧ e = .returned (.agg #[.int .i64 k, .string ⟨p.toArray⟩, .slice a2 ls.length c2, .string ⟨v.toArray⟩]) ∧ w'.ownsRow w.heap.size 9 1 (.slice a2 ls.length c2) ls.length (scells ls) ∧ Below w.heap.size w w' := by
  have B0 : Below w.heap.size w (w.alloc (.cells #[.int .i64 0, .string ⟨#[]⟩, .slice none 0 0, .string ⟨#[]⟩] 34)) := (Below.refl _ _).alloc (Nat.le_refl _) _
  have BX : Hid (Below w.heap.size w (w.alloc (.cells #[.int .i64 0, .string ⟨#[]⟩, .slice none 0 0, .string ⟨#[]⟩] 34))) := B0
  have X0 : Hid ((w.alloc (.cells #[.int .i64 0, .string ⟨#[]⟩, .slice none 0 0, .string ⟨#[]⟩] 34)).heap[w.heap.size]? = some (.cells #[.int .i64 0, .string ⟨#[]⟩, .slice none 0 0, .string ⟨#[]⟩] 34 (0, 0))) := heap_alloc_new w _
  have S0 : Hid ((w.alloc (.cells #[.int .i64 0, .string ⟨#[]⟩, .slice none 0 0, .string ⟨#[]⟩] 34)).heap.size = w.heap.size + 1) := by rw [Hid]; simp
  have H1 := open_any n cap a (w.alloc (.cells #[.int .i64 0, .string ⟨#[]⟩, .slice none 0 0, .string ⟨#[]⟩] 34)) (h.later B0)
  clear h B0
  go_enter Try.func11, Try.ntmps11
  go_wp2_with fail
  refine H1.mono ?_
  rintro e w1 ⟨rfl, hR1, b1⟩
  rw [S0.out] at hR1
  have B1 : Hid (Below w.heap.size w w1) := BX.out.trans (b1.mono BX.out.size)
  have X1 : Hid (w1.heap[w.heap.size]? = some (.cells #[.int .i64 0, .string ⟨#[]⟩, .slice none 0 0, .string ⟨#[]⟩] 34 (0, 0))) := (b1.block w.heap.size (by have := S0.out; omega)).trans X0.out
  have K2 := node_any (w.heap.size + 1) n cap a w1 hn hR1
  clear hR1 b1 H1
  simp only [S0.out]
  go_wp2_with fail
  refine K2.mono ?_
  rintro e w2 ⟨k, p, ls, v, a2, c2, hp, hv, hl, hm, rfl, hO2, hR2, hG2⟩
  have X2 : Hid (w2.heap[w.heap.size]? = some (.cells #[.int .i64 0, .string ⟨#[]⟩, .slice none 0 0, .string ⟨#[]⟩] 34 (0, 0))) := (hG2.block w.heap.size (lt_of_block X1.out) (by simp)).trans X1.out
  have B2 : Hid (Below w.heap.size w w2) := B1.out.grown hG2 B1.out.size (fun k hk => by simp at hk; omega)
  have S1 : Hid (w.heap.size < w1.heap.size) := lt_of_block X1.out
  have O2 := hidOwn hO2
  have HM : Hid (∀ l ∈ ls, l.length ≤ 1048576) := hm
  have NW : Hid ((Value.slice a2 ls.length c2).ownBlock ≠ some w.heap.size) := fun e => by have := (hO2.lt _ e).1; have := S1.out; omega
  obtain ⟨q0, q1, q2, q3, qf⟩ := nd_cells X2.out
  have qf0 := qf 0
  have qf1 := qf 1
  have qf2 := qf 2
  have qf3 := qf 3
  clear qf hO2 hR2 hG2 K2 hm
  go_wp2
  exact bodyPost_ret (v := .agg #[.int .i64 k, .string ⟨p.toArray⟩, .slice a2 ls.length c2, .string ⟨v.toArray⟩]) (results_cell_row rfl _ _ w.heap.size 34 _ (0, 0) _ rfl (nd_set (j := 3) (nd_set (j := 2) (nd_set (j := 1) (nd_set (j := 0) X2.out)))) Try.underlying34 rfl (by kernel_rfl)) rfl ⟨k, p, ls, v, a2, c2, hp, hv, hl, HM.out, rfl, (ownsRow_setCell_other (ownsRow_setCell_other (ownsRow_setCell_other (ownsRow_setCell_other O2.out NW.out _) NW.out _) NW.out _) NW.out _).mono (by have := S1.out; omega), (((B2.out.setCell (Nat.le_refl _) _).setCell (Nat.le_refl _) _).setCell (Nat.le_refl _) _).setCell (Nat.le_refl _) _⟩

set_option maxRecDepth 100000 in
set_option maxHeartbeats 1000000 in
theorem drawReadNd (n cap : Nat) (a : Option Addr) (w : World) (hn : n ≤ 1048576) (h : Code w a n) :
    Calls Try.prog 16 #[.slice a n cap] w fun e w' => ∃ l : List UInt8, l.length ≤ 60000 ∧ e = .returned (.string ⟨l.toArray⟩) ∧ Below w.heap.size w w' := by
  have H1 := open_any n cap a w h
  clear h
  go_enter Try.func16, Try.ntmps16
  go_wp2_with fail
  refine H1.mono ?_
  rintro e w1 ⟨rfl, hR1, b1⟩
  have B1 : Hid (Below w.heap.size w w1) := b1
  have K2 := node_any w.heap.size n cap a w1 hn hR1
  clear hR1 b1 H1
  go_wp2_with fail
  refine K2.mono ?_
  rintro e w2 ⟨k, p, ls, v, a2, c2, hp, hv, hl, hm, rfl, hO2, hR2, hG2⟩
  have B2 : Hid (Below w.heap.size w w2) := B1.out.grown hG2 B1.out.size (fun k hk => by simp at hk; omega)
  have K3 := spec_nodeText k p a2 c2 ls v w2 hp hv (by omega) hm (strs_own hO2).2.2
  have hbl := nodeB_len k p ls v
  obtain ⟨s, hs⟩ : ∃ s, s = nodeB k p ls v := ⟨_, rfl⟩
  obtain ⟨ok, hok⟩ : ∃ ok, ok = nodeOk k p ls v := ⟨_, rfl⟩
  rw [← hs, ← hok] at K3
  rw [← hs] at hbl
  have R2 : Hid (Rd w.heap.size a n cap w2) := hR2
  clear hO2 hR2 hG2 K2 hm hs hok
  go_wp2_with fail
  refine K3.mono ?_
  rintro e w3 ⟨rfl, b3⟩
  have B3 : Hid (Below w.heap.size w w3) := B2.out.trans (b3.mono B2.out.size)
  have K4 := hurt_any w.heap.size n cap a s w3 (by omega) hn (R2.out.keptNone b3)
  clear b3 K3 R2
  go_wp2_with fail
  refine K4.mono ?_
  rintro e w4 ⟨l, hl2, rfl, hR4, hG4⟩
  have B4 : Hid (Below w.heap.size w w4) := B3.out.grown hG4 B3.out.size (fun k hk => by simp at hk; omega)
  clear hR4 hG4 K4
  go_wp2
  go_ret
  exact ⟨l, by omega, rfl, B4.out⟩
end Go.Proofs.Ytniclkhnccggpaa
