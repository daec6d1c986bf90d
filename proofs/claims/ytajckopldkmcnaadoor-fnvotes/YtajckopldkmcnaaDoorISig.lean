/-
  Contracts: the program's root of keys, the path beside a key, the next signature.
-/
import Derived.Test.YtajckopldkmcnaaDoorITree
import Derived.Test.YtajckopldkmcnaaDoorSOk
import Derived.Deep.Cut
namespace Go.Proofs.YtajckopldkmcnaaDoor
open Go.RowKit
set_option linter.unusedVariables false

theorem new_at (w : World) {n : Nat} (h : w.heap.size = n) (o : Obj) : (w.alloc o).heap[n]? = some o := by rw [← h]; exact heap_alloc_new w o
theorem heap_size_alloc (w : World) (o : Obj) : (w.alloc o).heap.size = w.heap.size + 1 := by simp

set_option maxRecDepth 100000 in
set_option maxHeartbeats 400000 in
theorem impl_keyRoot (seed : List UInt8) (w : World) (hs : seed.length = 32) (hT : Tab w) :
    Calls Tryd.prog 33 #[.string ⟨seed.toArray⟩] w fun e w' => e = .returned (.tuple #[.string ⟨(rootL seed).toArray⟩, .bool true]) ∧ Below w.heap.size w w' := by
  have hs' : (seed.length : Int) = 32 := by omega
  have K := keyTree_any seed w hs hT
  obtain ⟨rt, hrt⟩ : ∃ rt, rt = rootL seed := ⟨_, rfl⟩
  rw [← hrt] at K ⊢
  clear hrt hT
  go_enter Tryd.func33, Tryd.ntmps33
  go_wp2_with fail
  refine K.mono ?_
  rintro e w1 ⟨g0, c0, g1, c1, g2, c2, rfl, l0, l1, l2, b1⟩
  have d0 : w1.cell? ⟨g2, 0, none⟩ = some (.string ⟨rt.toArray⟩) := by rw [l2.cellAt 0 (by omega)]; rfl
  have lg := own_lt l2
  have d1 : (w1.alloc (.cells #[.slice (some ⟨g0, 0, none⟩) 4 c0, .slice (some ⟨g1, 0, none⟩) 2 c1, .slice (some ⟨g2, 0, none⟩) 1 c2] 97)).cell? ⟨g2, 0, none⟩ = some (.string ⟨rt.toArray⟩) := by rw [World.cell?_alloc_lt _ _ _ (by simpa using lg)]; exact d0
  have B1 := b1.alloc b1.size (.cells #[.slice (some ⟨g0, 0, none⟩) 4 c0, .slice (some ⟨g1, 0, none⟩) 2 c1, .slice (some ⟨g2, 0, none⟩) 1 c2] 97)
  clear K l0 l1 l2
  go_wp2
  go_ret2
  exact ⟨rfl, B1⟩

set_option maxRecDepth 100000 in
theorem impl_keyRoot_no (seed : List UInt8) (w : World) (hl : seed.length ≤ 1048576) (hs : seed.length ≠ 32) :
    Calls Tryd.prog 33 #[.string ⟨seed.toArray⟩] w fun e w' => e = .returned (.tuple #[.string ⟨#[]⟩, .bool false]) ∧ w' = w := by
  have hs' : ¬ (seed.length : Int) = 32 := by omega
  go_enter Tryd.func33, Tryd.ntmps33
  go_wp2
  go_ret2
  exact ⟨rfl, rfl⟩

set_option maxRecDepth 100000 in
set_option maxHeartbeats 1000000 in
theorem keyPath_0 (L0 L1 : List (List UInt8)) (x y : List UInt8) (g0 c0 g1 c1 g2 c2 b : Nat) (w : World) (h0 : w.ownsRow b 9 1 (.slice (some ⟨g0, 0, none⟩) 4 c0) 4 (scells L0)) (h1 : w.ownsRow b 9 1 (.slice (some ⟨g1, 0, none⟩) 2 c1) 2 (scells L1)) (n0 : L0.length = 4) (n1 : L1.length = 2) (hx : x = L0.getD 1 []) (hy : y = L1.getD 1 []) :
    Calls Tryd.prog 90 #[.agg #[.slice (some ⟨g0, 0, none⟩) 4 c0, .slice (some ⟨g1, 0, none⟩) 2 c1, .slice (some ⟨g2, 0, none⟩) 1 c2], .int .i64 0] w fun e w' => ∃ g cap : Nat, e = .returned (.slice (some ⟨g, 0, none⟩) 2 cap) ∧ w'.ownsRow w.heap.size 9 1 (.slice (some ⟨g, 0, none⟩) 2 cap) 2 (scells [x, y]) ∧ Below w.heap.size w w' := by
  obtain ⟨i0, hi0, hz0, hz1, hz2⟩ := info_parts info9i
  have r0 := row_at h0 n0 1 (by omega)
  have r1 := row_at h1 n1 1 (by omega)
  rw [← hx] at r0
  rw [← hy] at r1
  have lg0 := own_lt h0
  have lg1 := own_lt h1
  have s0 : (w.alloc (.cells #[.slice (some ⟨g0, 0, none⟩) 4 c0, .slice (some ⟨g1, 0, none⟩) 2 c1, .slice (some ⟨g2, 0, none⟩) 1 c2] 97)).cell? ⟨g0, 1, none⟩ = some (.string ⟨x.toArray⟩) := by rw [World.cell?_alloc_lt _ _ _ (by simpa using lg0)]; exact r0
  have hq0 : bits .xor .i64 0 1 = 1 := by decide
  have hq1 : bits .xor .i64 0 1 = 1 := by decide
  clear h0 h1 hx hy
  go_enter Tryd.func90, Tryd.ntmps90
  go_wp2_with fail
  refine wp_loop_rounds 3 ?_
  rw [rounds_succ]
  go_wp2_with (at_builtin; refine wpList_append_lies _ rfl _ _ 29 rfl (w.heap.size + 1) 9 i0 (.string ⟨#[]⟩) 1 16 Tryd.underlying29 hi0 hz0 hz1 hz2 rfl (by decide) (.slice none 0 0) 0 _ rfl (own_nil _ _ _) ⟨w.heap.size + 1, 0, none⟩ 1 1 [.string ⟨x.toArray⟩] rfl rfl (World.news_of_block (cs := #[.string ⟨x.toArray⟩]) (t := 9) (fr := (0, 0)) (new_at (w.alloc (.cells #[.slice (some ⟨g0, 0, none⟩) 4 c0, .slice (some ⟨g1, 0, none⟩) 2 c1, .slice (some ⟨g2, 0, none⟩) 1 c2] 97)) (by simp) _)) (by simp [Value.oneCell']) (by omega) (by unfold maxLen; omega) (by omega) (by simp) (w.heap.size + 2) (by simp) ?_; intro g3 cap3 w3 hown3 hgrow3 hat3 hlt3)
  have B3 : Below w.heap.size w w3 := (((Below.refl w.heap.size w).alloc (Nat.le_refl _) _).alloc (by simp) _).grown hgrow3 (by simp; omega) (by simp [Value.ownBlock])
  have q1 : w3.heap[w.heap.size]? = some (.cells #[.slice (some ⟨g0, 0, none⟩) 4 c0, .slice (some ⟨g1, 0, none⟩) 2 c1, .slice (some ⟨g2, 0, none⟩) 1 c2] 97 (0, 0)) := by
    rw [hgrow3.block _ (by simp; omega) (by simp [Value.ownBlock]), Below.heap_alloc _ _ _ (by simp)]; exact heap_alloc_new w _
  obtain ⟨_, p1, _, _⟩ := trio_cells q1
  have s1 := (B3.cell (p := ⟨g1, 1, none⟩) lg1).trans r1
  have sz3 := hgrow3.size
  simp only [heap_size_alloc] at sz3
  have O3 := hidOwn hown3
  have hb3 := own_base hown3
  clear hown3 hgrow3 hat3 q1 s0 r0 r1
  go_wp2_with fail
  rw [rounds_succ]
  go_wp2_with (at_builtin; refine wpList_append_lies _ rfl _ _ 29 rfl (w.heap.size + 1) 9 i0 (.string ⟨#[]⟩) 1 16 Tryd.underlying29 hi0 hz0 hz1 hz2 rfl (by decide) (.slice (some ⟨g3, 0, none⟩) 1 cap3) 1 _ rfl (O3.out.alloc _) ⟨w3.heap.size, 0, none⟩ 1 1 [.string ⟨y.toArray⟩] rfl rfl (World.news_of_block (cs := #[.string ⟨y.toArray⟩]) (t := 9) (fr := (0, 0)) (heap_alloc_new w3 _)) (by simp [Value.oneCell']) (by omega) (by unfold maxLen; omega) (by omega) (by simp; omega) (w3.heap.size + 1) (by simp) ?_; intro g4 cap4 w4 hown4 hgrow4 hat4 hlt4)
  have B4 : Below w.heap.size w w4 := (B3.alloc B3.size _).grown hgrow4 (by simp; omega) (fun k hk => by simp [Value.ownBlock] at hk; omega)
  have O4 := hidOwn hown4
  clear hown4 hgrow4 hat4 O3 B3
  go_wp2_with fail
  rw [rounds_succ]
  go_wp2
  go_ret
  exact ⟨g4, cap4, rfl, O4.out.mono (by omega), B4⟩

set_option maxRecDepth 100000 in
set_option maxHeartbeats 1000000 in
theorem keyPath_1 (L0 L1 : List (List UInt8)) (x y : List UInt8) (g0 c0 g1 c1 g2 c2 b : Nat) (w : World) (h0 : w.ownsRow b 9 1 (.slice (some ⟨g0, 0, none⟩) 4 c0) 4 (scells L0)) (h1 : w.ownsRow b 9 1 (.slice (some ⟨g1, 0, none⟩) 2 c1) 2 (scells L1)) (n0 : L0.length = 4) (n1 : L1.length = 2) (hx : x = L0.getD 0 []) (hy : y = L1.getD 1 []) :
    Calls Tryd.prog 90 #[.agg #[.slice (some ⟨g0, 0, none⟩) 4 c0, .slice (some ⟨g1, 0, none⟩) 2 c1, .slice (some ⟨g2, 0, none⟩) 1 c2], .int .i64 1] w fun e w' => ∃ g cap : Nat, e = .returned (.slice (some ⟨g, 0, none⟩) 2 cap) ∧ w'.ownsRow w.heap.size 9 1 (.slice (some ⟨g, 0, none⟩) 2 cap) 2 (scells [x, y]) ∧ Below w.heap.size w w' := by
  obtain ⟨i0, hi0, hz0, hz1, hz2⟩ := info_parts info9i
  have r0 := row_at h0 n0 0 (by omega)
  have r1 := row_at h1 n1 1 (by omega)
  rw [← hx] at r0
  rw [← hy] at r1
  have lg0 := own_lt h0
  have lg1 := own_lt h1
  have s0 : (w.alloc (.cells #[.slice (some ⟨g0, 0, none⟩) 4 c0, .slice (some ⟨g1, 0, none⟩) 2 c1, .slice (some ⟨g2, 0, none⟩) 1 c2] 97)).cell? ⟨g0, 0, none⟩ = some (.string ⟨x.toArray⟩) := by rw [World.cell?_alloc_lt _ _ _ (by simpa using lg0)]; exact r0
  have hq0 : bits .xor .i64 1 1 = 0 := by decide
  have hq1 : bits .xor .i64 0 1 = 1 := by decide
  clear h0 h1 hx hy
  go_enter Tryd.func90, Tryd.ntmps90
  go_wp2_with fail
  refine wp_loop_rounds 3 ?_
  rw [rounds_succ]
  go_wp2_with (at_builtin; refine wpList_append_lies _ rfl _ _ 29 rfl (w.heap.size + 1) 9 i0 (.string ⟨#[]⟩) 1 16 Tryd.underlying29 hi0 hz0 hz1 hz2 rfl (by decide) (.slice none 0 0) 0 _ rfl (own_nil _ _ _) ⟨w.heap.size + 1, 0, none⟩ 1 1 [.string ⟨x.toArray⟩] rfl rfl (World.news_of_block (cs := #[.string ⟨x.toArray⟩]) (t := 9) (fr := (0, 0)) (new_at (w.alloc (.cells #[.slice (some ⟨g0, 0, none⟩) 4 c0, .slice (some ⟨g1, 0, none⟩) 2 c1, .slice (some ⟨g2, 0, none⟩) 1 c2] 97)) (by simp) _)) (by simp [Value.oneCell']) (by omega) (by unfold maxLen; omega) (by omega) (by simp) (w.heap.size + 2) (by simp) ?_; intro g3 cap3 w3 hown3 hgrow3 hat3 hlt3)
  have B3 : Below w.heap.size w w3 := (((Below.refl w.heap.size w).alloc (Nat.le_refl _) _).alloc (by simp) _).grown hgrow3 (by simp; omega) (by simp [Value.ownBlock])
  have q1 : w3.heap[w.heap.size]? = some (.cells #[.slice (some ⟨g0, 0, none⟩) 4 c0, .slice (some ⟨g1, 0, none⟩) 2 c1, .slice (some ⟨g2, 0, none⟩) 1 c2] 97 (0, 0)) := by
    rw [hgrow3.block _ (by simp; omega) (by simp [Value.ownBlock]), Below.heap_alloc _ _ _ (by simp)]; exact heap_alloc_new w _
  obtain ⟨_, p1, _, _⟩ := trio_cells q1
  have s1 := (B3.cell (p := ⟨g1, 1, none⟩) lg1).trans r1
  have sz3 := hgrow3.size
  simp only [heap_size_alloc] at sz3
  have O3 := hidOwn hown3
  have hb3 := own_base hown3
  clear hown3 hgrow3 hat3 q1 s0 r0 r1
  go_wp2_with fail
  rw [rounds_succ]
  go_wp2_with (at_builtin; refine wpList_append_lies _ rfl _ _ 29 rfl (w.heap.size + 1) 9 i0 (.string ⟨#[]⟩) 1 16 Tryd.underlying29 hi0 hz0 hz1 hz2 rfl (by decide) (.slice (some ⟨g3, 0, none⟩) 1 cap3) 1 _ rfl (O3.out.alloc _) ⟨w3.heap.size, 0, none⟩ 1 1 [.string ⟨y.toArray⟩] rfl rfl (World.news_of_block (cs := #[.string ⟨y.toArray⟩]) (t := 9) (fr := (0, 0)) (heap_alloc_new w3 _)) (by simp [Value.oneCell']) (by omega) (by unfold maxLen; omega) (by omega) (by simp; omega) (w3.heap.size + 1) (by simp) ?_; intro g4 cap4 w4 hown4 hgrow4 hat4 hlt4)
  have B4 : Below w.heap.size w w4 := (B3.alloc B3.size _).grown hgrow4 (by simp; omega) (fun k hk => by simp [Value.ownBlock] at hk; omega)
  have O4 := hidOwn hown4
  clear hown4 hgrow4 hat4 O3 B3
  go_wp2_with fail
  rw [rounds_succ]
  go_wp2
  go_ret
  exact ⟨g4, cap4, rfl, O4.out.mono (by omega), B4⟩

set_option maxRecDepth 100000 in
set_option maxHeartbeats 1000000 in
theorem keyPath_2 (L0 L1 : List (List UInt8)) (x y : List UInt8) (g0 c0 g1 c1 g2 c2 b : Nat) (w : World) (h0 : w.ownsRow b 9 1 (.slice (some ⟨g0, 0, none⟩) 4 c0) 4 (scells L0)) (h1 : w.ownsRow b 9 1 (.slice (some ⟨g1, 0, none⟩) 2 c1) 2 (scells L1)) (n0 : L0.length = 4) (n1 : L1.length = 2) (hx : x = L0.getD 3 []) (hy : y = L1.getD 0 []) :
    Calls Tryd.prog 90 #[.agg #[.slice (some ⟨g0, 0, none⟩) 4 c0, .slice (some ⟨g1, 0, none⟩) 2 c1, .slice (some ⟨g2, 0, none⟩) 1 c2], .int .i64 2] w fun e w' => ∃ g cap : Nat, e = .returned (.slice (some ⟨g, 0, none⟩) 2 cap) ∧ w'.ownsRow w.heap.size 9 1 (.slice (some ⟨g, 0, none⟩) 2 cap) 2 (scells [x, y]) ∧ Below w.heap.size w w' := by
  obtain ⟨i0, hi0, hz0, hz1, hz2⟩ := info_parts info9i
  have r0 := row_at h0 n0 3 (by omega)
  have r1 := row_at h1 n1 0 (by omega)
  rw [← hx] at r0
  rw [← hy] at r1
  have lg0 := own_lt h0
  have lg1 := own_lt h1
  have s0 : (w.alloc (.cells #[.slice (some ⟨g0, 0, none⟩) 4 c0, .slice (some ⟨g1, 0, none⟩) 2 c1, .slice (some ⟨g2, 0, none⟩) 1 c2] 97)).cell? ⟨g0, 3, none⟩ = some (.string ⟨x.toArray⟩) := by rw [World.cell?_alloc_lt _ _ _ (by simpa using lg0)]; exact r0
  have hq0 : bits .xor .i64 2 1 = 3 := by decide
  have hq1 : bits .xor .i64 1 1 = 0 := by decide
  clear h0 h1 hx hy
  go_enter Tryd.func90, Tryd.ntmps90
  go_wp2_with fail
  refine wp_loop_rounds 3 ?_
  rw [rounds_succ]
  go_wp2_with (at_builtin; refine wpList_append_lies _ rfl _ _ 29 rfl (w.heap.size + 1) 9 i0 (.string ⟨#[]⟩) 1 16 Tryd.underlying29 hi0 hz0 hz1 hz2 rfl (by decide) (.slice none 0 0) 0 _ rfl (own_nil _ _ _) ⟨w.heap.size + 1, 0, none⟩ 1 1 [.string ⟨x.toArray⟩] rfl rfl (World.news_of_block (cs := #[.string ⟨x.toArray⟩]) (t := 9) (fr := (0, 0)) (new_at (w.alloc (.cells #[.slice (some ⟨g0, 0, none⟩) 4 c0, .slice (some ⟨g1, 0, none⟩) 2 c1, .slice (some ⟨g2, 0, none⟩) 1 c2] 97)) (by simp) _)) (by simp [Value.oneCell']) (by omega) (by unfold maxLen; omega) (by omega) (by simp) (w.heap.size + 2) (by simp) ?_; intro g3 cap3 w3 hown3 hgrow3 hat3 hlt3)
  have B3 : Below w.heap.size w w3 := (((Below.refl w.heap.size w).alloc (Nat.le_refl _) _).alloc (by simp) _).grown hgrow3 (by simp; omega) (by simp [Value.ownBlock])
  have q1 : w3.heap[w.heap.size]? = some (.cells #[.slice (some ⟨g0, 0, none⟩) 4 c0, .slice (some ⟨g1, 0, none⟩) 2 c1, .slice (some ⟨g2, 0, none⟩) 1 c2] 97 (0, 0)) := by
    rw [hgrow3.block _ (by simp; omega) (by simp [Value.ownBlock]), Below.heap_alloc _ _ _ (by simp)]; exact heap_alloc_new w _
  obtain ⟨_, p1, _, _⟩ := trio_cells q1
  have s1 := (B3.cell (p := ⟨g1, 0, none⟩) lg1).trans r1
  have sz3 := hgrow3.size
  simp only [heap_size_alloc] at sz3
  have O3 := hidOwn hown3
  have hb3 := own_base hown3
  clear hown3 hgrow3 hat3 q1 s0 r0 r1
  go_wp2_with fail
  rw [rounds_succ]
  go_wp2_with (at_builtin; refine wpList_append_lies _ rfl _ _ 29 rfl (w.heap.size + 1) 9 i0 (.string ⟨#[]⟩) 1 16 Tryd.underlying29 hi0 hz0 hz1 hz2 rfl (by decide) (.slice (some ⟨g3, 0, none⟩) 1 cap3) 1 _ rfl (O3.out.alloc _) ⟨w3.heap.size, 0, none⟩ 1 1 [.string ⟨y.toArray⟩] rfl rfl (World.news_of_block (cs := #[.string ⟨y.toArray⟩]) (t := 9) (fr := (0, 0)) (heap_alloc_new w3 _)) (by simp [Value.oneCell']) (by omega) (by unfold maxLen; omega) (by omega) (by simp; omega) (w3.heap.size + 1) (by simp) ?_; intro g4 cap4 w4 hown4 hgrow4 hat4 hlt4)
  have B4 : Below w.heap.size w w4 := (B3.alloc B3.size _).grown hgrow4 (by simp; omega) (fun k hk => by simp [Value.ownBlock] at hk; omega)
  have O4 := hidOwn hown4
  clear hown4 hgrow4 hat4 O3 B3
  go_wp2_with fail
  rw [rounds_succ]
  go_wp2
  go_ret
  exact ⟨g4, cap4, rfl, O4.out.mono (by omega), B4⟩

set_option maxRecDepth 100000 in
set_option maxHeartbeats 1000000 in
theorem keyPath_3 (L0 L1 : List (List UInt8)) (x y : List UInt8) (g0 c0 g1 c1 g2 c2 b : Nat) (w : World) (h0 : w.ownsRow b 9 1 (.slice (some ⟨g0, 0, none⟩) 4 c0) 4 (scells L0)) (h1 : w.ownsRow b 9 1 (.slice (some ⟨g1, 0, none⟩) 2 c1) 2 (scells L1)) (n0 : L0.length = 4) (n1 : L1.length = 2) (hx : x = L0.getD 2 []) (hy : y = L1.getD 0 []) :
    Calls Tryd.prog 90 #[.agg #[.slice (some ⟨g0, 0, none⟩) 4 c0, .slice (some ⟨g1, 0, none⟩) 2 c1, .slice (some ⟨g2, 0, none⟩) 1 c2], .int .i64 3] w fun e w' => ∃ g cap : Nat, e = .returned (.slice (some ⟨g, 0, none⟩) 2 cap) ∧ w'.ownsRow w.heap.size 9 1 (.slice (some ⟨g, 0, none⟩) 2 cap) 2 (scells [x, y]) ∧ Below w.heap.size w w' := by
  obtain ⟨i0, hi0, hz0, hz1, hz2⟩ := info_parts info9i
  have r0 := row_at h0 n0 2 (by omega)
  have r1 := row_at h1 n1 0 (by omega)
  rw [← hx] at r0
  rw [← hy] at r1
  have lg0 := own_lt h0
  have lg1 := own_lt h1
  have s0 : (w.alloc (.cells #[.slice (some ⟨g0, 0, none⟩) 4 c0, .slice (some ⟨g1, 0, none⟩) 2 c1, .slice (some ⟨g2, 0, none⟩) 1 c2] 97)).cell? ⟨g0, 2, none⟩ = some (.string ⟨x.toArray⟩) := by rw [World.cell?_alloc_lt _ _ _ (by simpa using lg0)]; exact r0
  have hq0 : bits .xor .i64 3 1 = 2 := by decide
  have hq1 : bits .xor .i64 1 1 = 0 := by decide
  clear h0 h1 hx hy
  go_enter Tryd.func90, Tryd.ntmps90
  go_wp2_with fail
  refine wp_loop_rounds 3 ?_
  rw [rounds_succ]
  go_wp2_with (at_builtin; refine wpList_append_lies _ rfl _ _ 29 rfl (w.heap.size + 1) 9 i0 (.string ⟨#[]⟩) 1 16 Tryd.underlying29 hi0 hz0 hz1 hz2 rfl (by decide) (.slice none 0 0) 0 _ rfl (own_nil _ _ _) ⟨w.heap.size + 1, 0, none⟩ 1 1 [.string ⟨x.toArray⟩] rfl rfl (World.news_of_block (cs := #[.string ⟨x.toArray⟩]) (t := 9) (fr := (0, 0)) (new_at (w.alloc (.cells #[.slice (some ⟨g0, 0, none⟩) 4 c0, .slice (some ⟨g1, 0, none⟩) 2 c1, .slice (some ⟨g2, 0, none⟩) 1 c2] 97)) (by simp) _)) (by simp [Value.oneCell']) (by omega) (by unfold maxLen; omega) (by omega) (by simp) (w.heap.size + 2) (by simp) ?_; intro g3 cap3 w3 hown3 hgrow3 hat3 hlt3)
  have B3 : Below w.heap.size w w3 := (((Below.refl w.heap.size w).alloc (Nat.le_refl _) _).alloc (by simp) _).grown hgrow3 (by simp; omega) (by simp [Value.ownBlock])
  have q1 : w3.heap[w.heap.size]? = some (.cells #[.slice (some ⟨g0, 0, none⟩) 4 c0, .slice (some ⟨g1, 0, none⟩) 2 c1, .slice (some ⟨g2, 0, none⟩) 1 c2] 97 (0, 0)) := by
    rw [hgrow3.block _ (by simp; omega) (by simp [Value.ownBlock]), Below.heap_alloc _ _ _ (by simp)]; exact heap_alloc_new w _
  obtain ⟨_, p1, _, _⟩ := trio_cells q1
  have s1 := (B3.cell (p := ⟨g1, 0, none⟩) lg1).trans r1
  have sz3 := hgrow3.size
  simp only [heap_size_alloc] at sz3
  have O3 := hidOwn hown3
  have hb3 := own_base hown3
  clear hown3 hgrow3 hat3 q1 s0 r0 r1
  go_wp2_with fail
  rw [rounds_succ]
  go_wp2_with (at_builtin; refine wpList_append_lies _ rfl _ _ 29 rfl (w.heap.size + 1) 9 i0 (.string ⟨#[]⟩) 1 16 Tryd.underlying29 hi0 hz0 hz1 hz2 rfl (by decide) (.slice (some ⟨g3, 0, none⟩) 1 cap3) 1 _ rfl (O3.out.alloc _) ⟨w3.heap.size, 0, none⟩ 1 1 [.string ⟨y.toArray⟩] rfl rfl (World.news_of_block (cs := #[.string ⟨y.toArray⟩]) (t := 9) (fr := (0, 0)) (heap_alloc_new w3 _)) (by simp [Value.oneCell']) (by omega) (by unfold maxLen; omega) (by omega) (by simp; omega) (w3.heap.size + 1) (by simp) ?_; intro g4 cap4 w4 hown4 hgrow4 hat4 hlt4)
  have B4 : Below w.heap.size w w4 := (B3.alloc B3.size _).grown hgrow4 (by simp; omega) (fun k hk => by simp [Value.ownBlock] at hk; omega)
  have O4 := hidOwn hown4
  clear hown4 hgrow4 hat4 O3 B3
  go_wp2_with fail
  rw [rounds_succ]
  go_wp2
  go_ret
  exact ⟨g4, cap4, rfl, O4.out.mono (by omega), B4⟩


theorem keyPath_any (seed : List UInt8) (i : Nat) (hi : i < 4) (g0 c0 g1 c1 g2 c2 b : Nat) (w : World) (h0 : w.ownsRow b 9 1 (.slice (some ⟨g0, 0, none⟩) 4 c0) 4 (scells (level0 seed))) (h1 : w.ownsRow b 9 1 (.slice (some ⟨g1, 0, none⟩) 2 c1) 2 (scells (level1 seed))) :
    Calls Tryd.prog 90 #[.agg #[.slice (some ⟨g0, 0, none⟩) 4 c0, .slice (some ⟨g1, 0, none⟩) 2 c1, .slice (some ⟨g2, 0, none⟩) 1 c2], .int .i64 (i : Int)] w fun e w' => ∃ g cap : Nat, e = .returned (.slice (some ⟨g, 0, none⟩) 2 cap) ∧ w'.ownsRow w.heap.size 9 1 (.slice (some ⟨g, 0, none⟩) 2 cap) 2 (scells (pathL seed i)) ∧ Below w.heap.size w w' := by
  match i, hi with
  | 0, _ =>
    have hp : pathL seed 0 = [keyL seed 1, nodeL (keyL seed 2) (keyL seed 3)] := by simp only [pathL]
    rw [hp]
    exact keyPath_0 (level0 seed) (level1 seed) (keyL seed 1) (nodeL (keyL seed 2) (keyL seed 3)) g0 c0 g1 c1 g2 c2 b w h0 h1 (by simp [level0]) (by simp [level1]) (by simp [level0]) (by simp [level1])
  | 1, _ =>
    have hp : pathL seed 1 = [keyL seed 0, nodeL (keyL seed 2) (keyL seed 3)] := by simp only [pathL]
    rw [hp]
    exact keyPath_1 (level0 seed) (level1 seed) (keyL seed 0) (nodeL (keyL seed 2) (keyL seed 3)) g0 c0 g1 c1 g2 c2 b w h0 h1 (by simp [level0]) (by simp [level1]) (by simp [level0]) (by simp [level1])
  | 2, _ =>
    have hp : pathL seed 2 = [keyL seed 3, nodeL (keyL seed 0) (keyL seed 1)] := by simp only [pathL]
    rw [hp]
    exact keyPath_2 (level0 seed) (level1 seed) (keyL seed 3) (nodeL (keyL seed 0) (keyL seed 1)) g0 c0 g1 c1 g2 c2 b w h0 h1 (by simp [level0]) (by simp [level1]) (by simp [level0]) (by simp [level1])
  | 3, _ =>
    have hp : pathL seed 3 = [keyL seed 2, nodeL (keyL seed 0) (keyL seed 1)] := by simp only [pathL]
    rw [hp]
    exact keyPath_3 (level0 seed) (level1 seed) (keyL seed 2) (nodeL (keyL seed 0) (keyL seed 1)) g0 c0 g1 c1 g2 c2 b w h0 h1 (by simp [level0]) (by simp [level1]) (by simp [level0]) (by simp [level1])

theorem duo_row {w : World} {b : Nat} {u v : Value} {t : TypeId} (h : w.heap[b]? = some (.cells #[u, v] t (0, 0))) :
    w.cell? ⟨b, 0, none⟩ = some u ∧ w.cell? ⟨b, 1, none⟩ = some v ∧ ∀ j, w.frozen? ⟨b, j, none⟩ = false := by
  refine ⟨?_, ?_, fun j => frozen_of_row w b j _ t h⟩ <;> simp only [World.cell?, h] <;> rfl
theorem duo_set {w : World} {b j : Nat} {u v y : Value} {t : TypeId} (h : w.heap[b]? = some (.cells #[u, v] t (0, 0))) : (w.setCell ⟨b, j, none⟩ y).heap[b]? = some (.cells (#[u, v].setIfInBounds j y) t (0, 0)) := by
  have hlt := lt_of_block h
  have h' : w.heap[b] = .cells #[u, v] t (0, 0) := by simpa [Array.getElem?_eq_getElem hlt] using h
  show (w.heap.modify b _)[b]? = _
  rw [Array.getElem?_eq_getElem (by simpa using hlt), Array.getElem_modify_self, h']
  rfl
theorem trio_set_cell {w : World} {b : Nat} {x y z : Value} {a : Addr} (h : a.block ≠ b) : (((w.setCell ⟨b, 0, none⟩ x).setCell ⟨b, 1, none⟩ y).setCell ⟨b, 2, none⟩ z).cell? a = w.cell? a :=
  World.cell?_of_block ((Below.heap_setCell _ _ _ _ (by simpa using h)).trans ((Below.heap_setCell _ _ _ _ (by simpa using h)).trans (Below.heap_setCell _ _ _ _ (by simpa using h))))
theorem below_alloc_drew {w w' : World} {o : Obj} (h : Below (w.alloc o).drew.heap.size (w.alloc o).drew w') : w.heap.size < w'.heap.size ∧ Below w.heap.size w w' ∧ w'.heap[w.heap.size]? = some o := by
  have e : (w.alloc o).drew.heap.size = w.heap.size + 1 := by show (w.alloc o).heap.size = _; simp
  have h' : Below (w.heap.size + 1) (w.alloc o) w' := ⟨h.os, h.tape, h.output, h.size, fun k hk => h.block k (by rw [e]; exact hk)⟩
  have hsz : w.heap.size + 1 ≤ w'.heap.size := by have := h.size; rw [e] at this; exact this
  exact ⟨hsz, ((Below.refl w.heap.size w).alloc (Nat.le_refl _) _).trans (h'.mono (by omega)), (h'.block _ (by omega)).trans (heap_alloc_new w _)⟩
theorem trio_store {B base bs k d n : Nat} {t e : TypeId} {w0 w : World} {xs : List Value} {u v z : Value} (hz : w.heap[bs]? = some (.cells #[u, v, z] t (0, 0))) (hb : B ≤ bs) (hB : Below B w0 w) (ho : w.ownsRow base e 1 (.slice (some ⟨k, 0, none⟩) n d) n xs) (hk : k ≠ bs) (x y q : Value) :
    (((w.setCell ⟨bs, 0, none⟩ x).setCell ⟨bs, 1, none⟩ y).setCell ⟨bs, 2, none⟩ q).heap[bs]? = some (.cells #[x, y, q] t (0, 0)) ∧ Below B w0 (((w.setCell ⟨bs, 0, none⟩ x).setCell ⟨bs, 1, none⟩ y).setCell ⟨bs, 2, none⟩ q) ∧ (((w.setCell ⟨bs, 0, none⟩ x).setCell ⟨bs, 1, none⟩ y).setCell ⟨bs, 2, none⟩ q).ownsRow base e 1 (.slice (some ⟨k, 0, none⟩) n d) n xs :=
  ⟨trio_set (j := 2) (trio_set (j := 1) (trio_set (j := 0) hz)), ((hB.setCell (by simpa using hb) _).setCell (by simpa using hb) _).setCell (by simpa using hb) _,
    ownsRow_setCell_other (ownsRow_setCell_other (ownsRow_setCell_other ho (by simpa [Value.ownBlock] using hk) _) (by simpa [Value.ownBlock] using hk) _) (by simpa [Value.ownBlock] using hk) _⟩
/-- Two rows and a bool as results, the rows in cells. -/
theorem results_ccb {P : Program} {fn : Func} {p q r : Tmp} {ty tz : TypeId} (h : fn.results = #[.cell p ty, .cell q tz, .tmp r]) (tmps : Array Value) (w : World) (g k : Nat) (t t' : TypeId) (cs ds : Array Value) (d d' : TypeDesc)
    (hp : tmps.getD p undef = .pointer (some ⟨g, 0, none⟩)) (hg : w.heap[g]? = some (.cells cs t (0, 0))) (hu : P.underlying ty = some d) (hd : (match d with | .struct _ | .array _ _ => true | _ => false) = true) (hi : (P.info? ty).map (·.size) = some cs.size)
    (hq : tmps.getD q undef = .pointer (some ⟨k, 0, none⟩)) (hk : w.heap[k]? = some (.cells ds t' (0, 0))) (hu' : P.underlying tz = some d') (hd' : (match d' with | .struct _ | .array _ _ => true | _ => false) = true) (hi' : (P.info? tz).map (·.size) = some ds.size) (vb : Value) (hb : tmps.getD r undef = vb) :
    (results fn tmps).run P w = .ok (.tuple #[.agg cs, .agg ds, vb]) w := by
  subst hb
  have hp' : tmps[p]?.getD undef = .pointer (some ⟨g, 0, none⟩) := by simpa using hp
  have hq' : tmps[q]?.getD undef = .pointer (some ⟨k, 0, none⟩) := by simpa using hq
  simp [results, h, hp', hq', asAddr, run_loadVar_row w g t ty cs (0, 0) d hg hu hd hi, run_loadVar_row w k t' tz ds (0, 0) d' hk hu' hd' hi']

set_option maxRecDepth 100000 in
set_option maxHeartbeats 2000000 in
theorem impl_next (seed msg : List UInt8) (i : Nat) (w : World) (hs : seed.length = 32) (hi : i < 4) (hl : msg.length ≤ 1048576) (hT : Tab w) :
    Calls Tryd.prog 47 #[.agg #[.string ⟨seed.toArray⟩, .int .i64 (i : Int)], .string ⟨msg.toArray⟩] w fun e w' => ∃ g c k d : Nat, e = .returned (.tuple #[.agg #[.string ⟨seed.toArray⟩, .int .i64 ((i : Int) + 1)], .agg #[.int .i64 (i : Int), .slice (some ⟨g, 0, none⟩) 19 c, .slice (some ⟨k, 0, none⟩) 2 d], .bool true]) ∧ w'.ownsRow w.heap.size 9 1 (.slice (some ⟨g, 0, none⟩) 19 c) 19 (scells (sigL (leafL seed i) msg 19)) ∧ w'.ownsRow w.heap.size 9 1 (.slice (some ⟨k, 0, none⟩) 2 d) 2 (scells (pathL seed i)) ∧ Below w.heap.size w w' := by
  obtain ⟨wa, hwa⟩ : ∃ wa, wa = ((w.alloc (.cells #[.string ⟨seed.toArray⟩, .int .i64 (i : Int)] 28)).alloc (.cells #[.string ⟨#[]⟩, .int .i64 0] 28)).alloc (.cells #[.int .i64 0, .slice none 0 0, .slice none 0 0] 31) := ⟨_, rfl⟩
  have Ba : Below w.heap.size w wa := by rw [hwa]; exact (((Below.refl _ _).alloc (Nat.le_refl _) _).alloc (by simp) _).alloc (by simp; omega) _
  have sa : wa.heap.size = w.heap.size + 3 := by rw [hwa]; simp
  have a0 : wa.heap[w.heap.size]? = some (.cells #[.string ⟨seed.toArray⟩, .int .i64 (i : Int)] 28 (0, 0)) := by rw [hwa, Below.heap_alloc _ _ _ (by simp; omega), Below.heap_alloc _ _ _ (by simp)]; exact heap_alloc_new w _
  have a1 : wa.heap[w.heap.size + 1]? = some (.cells #[.string ⟨#[]⟩, .int .i64 0] 28 (0, 0)) := by rw [hwa, Below.heap_alloc _ _ _ (by simp)]; exact new_at _ (by simp) _
  have a2 : wa.heap[w.heap.size + 2]? = some (.cells #[.int .i64 0, .slice none 0 0, .slice none 0 0] 31 (0, 0)) := by rw [hwa]; exact new_at _ (by simp) _
  have K1 := impl_ok seed (i : Int) true wa (by omega) (by simp [hs]; omega)
  have HK2 : Hid (∀ W, Below w.heap.size w W → Calls Tryd.prog 88 #[.string ⟨seed.toArray⟩, .int .i64 (i : Int)] W fun e w' => e = .returned (.tuple #[.string ⟨(leafL seed i).toArray⟩, .bool true]) ∧ Below W.heap.size W w') := fun W hW => impl_leaf seed i W hs (by omega) (hT.later hW)
  have HK3 : Hid (∀ W, Below w.heap.size w W → Calls Tryd.prog 89 #[.string ⟨(leafL seed i).toArray⟩, .string ⟨msg.toArray⟩] W fun e w' => ∃ g cap : Nat, e = .returned (.tuple #[.slice (some ⟨g, 0, none⟩) 19 cap, .bool true]) ∧ w'.ownsRow W.heap.size 9 1 (.slice (some ⟨g, 0, none⟩) 19 cap) 19 (scells (sigL (leafL seed i) msg 19)) ∧ Below W.heap.size W w') := fun W hW => impl_sign (leafL seed i) msg W (leafL_len seed i hs) hl (hT.later hW)
  have HK4 : Hid (∀ W, Below w.heap.size w W → _) := fun W hW => keyTree_any seed W hs (hT.later hW)
  have HK5 : Hid (∀ g0 c0 g1 c1 g2 c2 b W, _ → _ → _) := fun g0 c0 g1 c1 g2 c2 b W => keyPath_any seed i hi g0 c0 g1 c1 g2 c2 b W
  obtain ⟨lf, hlf⟩ : ∃ lf, lf = leafL seed i := ⟨_, rfl⟩
  obtain ⟨sg, hsg⟩ : ∃ sg, sg = sigL (leafL seed i) msg 19 := ⟨_, rfl⟩
  obtain ⟨pt, hpt⟩ : ∃ pt, pt = pathL seed i := ⟨_, rfl⟩
  obtain ⟨L0, hL0⟩ : ∃ L, L = level0 seed := ⟨_, rfl⟩
  obtain ⟨L1, hL1⟩ : ∃ L, L = level1 seed := ⟨_, rfl⟩
  obtain ⟨rt, hrt⟩ : ∃ L, L = rootL seed := ⟨_, rfl⟩
  rw [← hsg, ← hlf] at HK3
  rw [← hlf] at HK2
  rw [← hL0, ← hL1, ← hrt] at HK4
  rw [← hL0, ← hL1, ← hpt] at HK5
  rw [← hsg, ← hpt]
  rw [hwa] at K1
  have hi4 : ¬ (i : Int) = 4 := by omega
  clear hlf hsg hpt hL0 hL1 hrt hT
  go_enter Tryd.func47, Tryd.ntmps47
  go_wp2_with fail
  refine K1.mono ?_
  rintro e w1 ⟨rfl, b1⟩
  rw [← hwa] at b1
  clear K1 hwa
  have B1 := Ba.trans (b1.mono (by omega))
  have n1 := b1.size
  have p1 := (b1.block _ (by omega)).trans a0
  obtain ⟨p1a, p1b, _⟩ := duo_row p1
  go_wp2_with fail
  refine (HK2.out _ B1).mono ?_
  rintro e w2 ⟨rfl, b2⟩
  have B2 := B1.trans (b2.mono B1.size)
  have n2 := b2.size
  clear HK2 p1a p1b
  go_wp2_with fail
  refine (HK3.out _ B2).mono ?_
  rintro e w3 ⟨g, c, rfl, o3, b3⟩
  have B3 := B2.trans (b3.mono B2.size)
  have n3 := b3.size
  have z0 := (b3.block _ (by omega)).trans ((b2.block _ (by omega)).trans p1)
  have z1 := (b3.block _ (by omega)).trans ((b2.block _ (by omega)).trans ((b1.block _ (by omega)).trans a1))
  have z2 := (b3.block _ (by omega)).trans ((b2.block _ (by omega)).trans ((b1.block _ (by omega)).trans a2))
  have O3 := hidOwn (o3.mono B2.size)
  have hg3 := own_base o3
  have lg3 := own_lt o3
  have HZ : Hid (w3.heap[w.heap.size]? = some (.cells #[.string ⟨seed.toArray⟩, .int .i64 (i : Int)] 28 (0, 0)) ∧ w3.heap[w.heap.size + 1]? = some (.cells #[.string ⟨#[]⟩, .int .i64 0] 28 (0, 0)) ∧ w3.heap[w.heap.size + 2]? = some (.cells #[.int .i64 0, .slice none 0 0, .slice none 0 0] 31 (0, 0))) := ⟨z0, z1, z2⟩
  have sw3 : w.heap.size + 3 ≤ w3.heap.size := by omega
  obtain ⟨p3a, p3b, _⟩ := duo_row z0
  clear HK3 o3 b3 b2 b1 p1 a0 a1 a2 z0 z1 z2 B2 B1 Ba
  have K4 := HK4.out w3.drew (below_drewI B3)
  have K4A := HK4.out (w3.alloc (.cells #[.int .i64 0, .slice none 0 0, .slice none 0 0] 31)).drew (below_drewI (B3.alloc B3.size _))
  go_wp2_with fail
  go_cut [11] from 36 (fun v wx => ∃ bs k d : Nat, v = .pointer (some ⟨bs, 0, none⟩) ∧ Hid (wx.heap[bs]? = some (.cells #[.int .i64 (i : Int), .slice (some ⟨g, 0, none⟩) 19 c, .slice (some ⟨k, 0, none⟩) 2 d] 31 (0, 0))) ∧ Hid (w3.heap.size ≤ bs ∧ w3.heap.size ≤ k) ∧ Hid (Below w3.heap.size w3 wx) ∧ Hid (wx.ownsRow w3.heap.size 9 1 (.slice (some ⟨k, 0, none⟩) 2 d) 2 (scells pt)))
  case first =>
    go_region_held3 (fun w' => w'.cell? ⟨w.heap.size, 0, none⟩ = some (.string ⟨seed.toArray⟩) ∧ w'.cell? ⟨w.heap.size, 1, none⟩ = some (.int .i64 (i : Int)))
      (first | (exact ⟨by assumption, by assumption⟩) | (with_reducible exact ⟨(trio_set_cell (by simp; omega)).trans (by assumption), (trio_set_cell (by simp; omega)).trans (by assumption)⟩) | go_keep)
      (first
        | (go_at_call 90
           with_reducible refine (HK5.out g0 c0 g1 c1 g2 c2 _ wA l0A l1A).mono ?_
           rintro e w5 ⟨k, d, rfl, o5, b5⟩
           have s5 : wA.heap.size ≤ w5.heap.size := b5.size
           have q5a := (b5.cell (p := ⟨w.heap.size, 0, none⟩) (by simp; omega)).trans q4a
           have q5b := (b5.cell (p := ⟨w.heap.size, 1, none⟩) (by simp; omega)).trans q4b
           have HN : Hid (Below w3.heap.size w3 w5 ∧ w5.heap[w3.heap.size]? = some (.cells #[.int .i64 0, .slice none 0 0, .slice none 0 0] 31) ∧ wA.heap.size ≤ k ∧ w3.heap.size < wA.heap.size) := ⟨b4.trans (b5.mono s4), (b5.block _ s4').trans hzA, own_base o5, s4'⟩
           have O5 := hidOwn o5
           obtain ⟨y0, y1, y2, yf⟩ := trio_cells HN.out.2.1
           have yf0 := yf 0
           have yf1 := yf 1
           have yf2 := yf 2
           clear o5 b5 yf)
        | (go_at_call 90
           with_reducible refine (HK5.out g0 c0 g1 c1 g2 c2 _ (w4.alloc (.cells #[.int .i64 0, .slice none 0 0, .slice none 0 0] 31)) (l0.alloc _) (l1.alloc _)).mono ?_
           rintro e w5 ⟨k, d, rfl, o5, b5⟩
           have s5 : w4.heap.size < w5.heap.size := by have := b5.size; simp at this; omega
           have q5a := (b5.cell (p := ⟨w.heap.size, 0, none⟩) (by simp; omega)).trans ((World.cell?_alloc_lt _ _ _ (by simp; omega)).trans q4a)
           have q5b := (b5.cell (p := ⟨w.heap.size, 1, none⟩) (by simp; omega)).trans ((World.cell?_alloc_lt _ _ _ (by simp; omega)).trans q4b)
           have HN : Hid (Below w3.heap.size w3 w5 ∧ w5.heap[w4.heap.size]? = some (.cells #[.int .i64 0, .slice none 0 0, .slice none 0 0] 31) ∧ w4.heap.size < k ∧ w3.heap.size ≤ w4.heap.size) := ⟨(b4.alloc s4 _).trans (b5.mono (by simp; omega)), (b5.block _ (by simp)).trans (heap_alloc_new w4 _), by have := own_base o5; simp at this; omega, s4⟩
           have O5 := hidOwn o5
           obtain ⟨y0, y1, y2, yf⟩ := trio_cells HN.out.2.1
           have yf0 := yf 0
           have yf1 := yf 1
           have yf2 := yf 2
           clear o5 b5 yf)
        | (go_at_call 90
           with_reducible refine (HK5.out g0 c0 g1 c1 g2 c2 _ w4 l0 l1).mono ?_
           rintro e w5 ⟨k, d, rfl, o5, b5⟩
           have s5 : w4.heap.size ≤ w5.heap.size := b5.size
           have q5a := (b5.cell (p := ⟨w.heap.size, 0, none⟩) (by simp; omega)).trans q4a
           have q5b := (b5.cell (p := ⟨w.heap.size, 1, none⟩) (by simp; omega)).trans q4b
           have HC : Hid (Below w3.heap.size w3 w5 ∧ w4.heap.size ≤ k ∧ w3.heap.size ≤ w4.heap.size ∧ k < w5.heap.size) := ⟨b4.trans (b5.mono s4), own_base o5, s4, own_lt o5⟩
           have O5 := hidOwn o5
           clear o5 b5)
        | (go_at_call 65
           with_reducible refine K4A.mono ?_
           rintro e wA ⟨g0, c0, g1, c1, g2, c2, rfl, l0A, l1A, l2A, b4'⟩
           obtain ⟨s4', b4, hzA⟩ := below_alloc_drew b4'
           have s4 : w3.heap.size ≤ wA.heap.size := Nat.le_of_lt s4'
           have q4a := (b4.cell (p := ⟨w.heap.size, 0, none⟩) (by simp; omega)).trans p3a
           have q4b := (b4.cell (p := ⟨w.heap.size, 1, none⟩) (by simp; omega)).trans p3b)
        | (go_at_call 65
           with_reducible refine K4.mono ?_
           rintro e w4 ⟨g0, c0, g1, c1, g2, c2, rfl, l0, l1, l2, b4'⟩
           have b4 : Below w3.heap.size w3 w4 := ⟨b4'.os, b4'.tape, b4'.output, b4'.size, b4'.block⟩
           have s4 : w3.heap.size ≤ w4.heap.size := b4.size
           have q4a := (b4.cell (p := ⟨w.heap.size, 0, none⟩) (by simp; omega)).trans p3a
           have q4b := (b4.cell (p := ⟨w.heap.size, 1, none⟩) (by simp; omega)).trans p3b))
    all_goals go_wp2_with fail
    · go_meet
      case rel =>
        have hc := HC.out
        exact ⟨w5.heap.size, k, d, rfl, heap_alloc_new w5 _, ⟨by omega, by omega⟩, hc.1.alloc hc.1.size _, (O5.out.alloc _).mono (by omega)⟩
    · go_meet
      case rel =>
        have hn := HN.out
        have ts := trio_store (base := w4.heap.size + 1) hn.2.1 hn.2.2.2 hn.1 (by simpa using O5.out) (by omega) (.int .i64 (i : Int)) (.slice (some ⟨g, 0, none⟩) 19 c) (.slice (some ⟨k, 0, none⟩) 2 d)
        exact ⟨w4.heap.size, k, d, rfl, ts.1, ⟨by omega, by omega⟩, ts.2.1, ts.2.2.mono (by omega)⟩
    · go_meet
      case rel =>
        have hn := HN.out
        have ts := trio_store hn.2.1 (Nat.le_refl _) hn.1 O5.out (by omega) (.int .i64 (i : Int)) (.slice (some ⟨g, 0, none⟩) 19 c) (.slice (some ⟨k, 0, none⟩) 2 d)
        exact ⟨w3.heap.size, k, d, rfl, ts.1, ⟨by omega, by omega⟩, ts.2.1, ts.2.2.mono (by omega)⟩
  case rest =>
    obtain ⟨bs, k, d, rfl, HS, HB, HW, HO⟩ := hcut
    have hbb := HB.out
    have BW := HW.out
    have z0 := (BW.block _ (by omega)).trans HZ.out.1
    have z1 := (BW.block _ (by omega)).trans HZ.out.2.1
    have z2 := (BW.block _ (by omega)).trans HZ.out.2.2
    obtain ⟨s0, s1, sf⟩ := duo_row z0
    obtain ⟨r0, r1, rf⟩ := duo_row z1
    obtain ⟨t0, t1, t2, tf⟩ := trio_cells z2
    obtain ⟨v0, v1, v2, _⟩ := trio_cells HS.out
    have rf0 := rf 0
    have rf1 := rf 1
    have tf0 := tf 0
    have tf1 := tf 1
    have tf2 := tf 2
    have hiw : IntKind.i64.wrap ((i : Int) + 1) = (i : Int) + 1 := i64_wrap_small _ (by omega) (by omega)
    have ne1 : bs ≠ w.heap.size := by omega
    have ne2 : bs ≠ w.heap.size + 1 := by omega
    have ne3 : bs ≠ w.heap.size + 1 + 1 := by omega
    have HZ2 : Hid (wc.heap[w.heap.size + 1]? = some (.cells #[.string ⟨#[]⟩, .int .i64 0] 28 (0, 0)) ∧ wc.heap[w.heap.size + 2]? = some (.cells #[.int .i64 0, .slice none 0 0, .slice none 0 0] 31 (0, 0))) := ⟨z1, z2⟩
    clear K4 K4A HK4 HK5 z0 z1 z2 rf tf p3a p3b
    go_wp2_with fail
    go_region
    go_wp2
    have eu := duo_set (j := 1) (y := .int .i64 ((i : Int) + 1)) (duo_set (j := 0) (y := .string ⟨seed.toArray⟩) HZ2.out.1)
    have BS := (((B3.trans (BW.mono B3.size)).setCell (p := ⟨w.heap.size + 1, 0, none⟩) (by simp) (.string ⟨seed.toArray⟩)).setCell (p := ⟨w.heap.size + 1, 1, none⟩) (by simp) (.int .i64 ((i : Int) + 1)))
    have hz2 : ((wc.setCell ⟨w.heap.size + 1, 0, none⟩ (.string ⟨seed.toArray⟩)).setCell ⟨w.heap.size + 1, 1, none⟩ (.int .i64 ((i : Int) + 1))).heap[w.heap.size + 1 + 1]? = _ := (Below.heap_setCell _ _ _ _ (by simp)).trans ((Below.heap_setCell _ _ _ _ (by simp)).trans HZ2.out.2)
    have hgk := (O3.out.kept (w' := wc) (row := none) ⟨BW.os, BW.tape, BW.output, BW.size, fun j hj _ => BW.block j hj⟩ (.inr (by simp [Value.ownBlock])))
    have two : ∀ {q m a base : Nat} {xs : List Value}, wc.ownsRow base 9 1 (.slice (some ⟨q, 0, none⟩) m a) m xs → w.heap.size + 2 < q → ((wc.setCell ⟨w.heap.size + 1, 0, none⟩ (.string ⟨seed.toArray⟩)).setCell ⟨w.heap.size + 1, 1, none⟩ (.int .i64 ((i : Int) + 1))).ownsRow base 9 1 (.slice (some ⟨q, 0, none⟩) m a) m xs := fun h hq => ownsRow_setCell_other (ownsRow_setCell_other h (by simp [Value.ownBlock]; omega) _) (by simp [Value.ownBlock]; omega) _
    have hgb := own_base hgk
    have ts := trio_store hz2 (by omega : w.heap.size ≤ w.heap.size + 1 + 1) BS (two hgk (by omega)) (by omega) (.int .i64 (i : Int)) (.slice (some ⟨g, 0, none⟩) 19 c) (.slice (some ⟨k, 0, none⟩) 2 d)
    have tk := trio_store hz2 (by omega : w.heap.size ≤ w.heap.size + 1 + 1) BS (two HO.out (by omega)) (by omega) (.int .i64 (i : Int)) (.slice (some ⟨g, 0, none⟩) 19 c) (.slice (some ⟨k, 0, none⟩) 2 d)
    have eu2 := (Below.heap_setCell _ ⟨w.heap.size + 1 + 1, 2, none⟩ (.slice (some ⟨k, 0, none⟩) 2 d) (w.heap.size + 1) (by simp)).trans ((Below.heap_setCell _ ⟨w.heap.size + 1 + 1, 1, none⟩ (.slice (some ⟨g, 0, none⟩) 19 c) (w.heap.size + 1) (by simp)).trans ((Below.heap_setCell _ ⟨w.heap.size + 1 + 1, 0, none⟩ (.int .i64 (i : Int)) (w.heap.size + 1) (by simp)).trans eu))
    obtain ⟨wf, hwf⟩ : ∃ wf, wf = (((((wc.setCell ⟨w.heap.size + 1, 0, none⟩ (.string ⟨seed.toArray⟩)).setCell ⟨w.heap.size + 1, 1, none⟩ (.int .i64 ((i : Int) + 1))).setCell ⟨w.heap.size + 1 + 1, 0, none⟩ (.int .i64 (i : Int))).setCell ⟨w.heap.size + 1 + 1, 1, none⟩ (.slice (some ⟨g, 0, none⟩) 19 c)).setCell ⟨w.heap.size + 1 + 1, 2, none⟩ (.slice (some ⟨k, 0, none⟩) 2 d)).drew := ⟨_, rfl⟩
    have F1 : wf.heap[w.heap.size + 1]? = some (.cells #[.string ⟨seed.toArray⟩, .int .i64 ((i : Int) + 1)] 28 (0, 0)) := by rw [hwf]; exact eu2
    have F2 : wf.heap[w.heap.size + 1 + 1]? = some (.cells #[.int .i64 (i : Int), .slice (some ⟨g, 0, none⟩) 19 c, .slice (some ⟨k, 0, none⟩) 2 d] 31 (0, 0)) := by rw [hwf]; exact ts.1
    have F3 : wf.ownsRow w.heap.size 9 1 (.slice (some ⟨g, 0, none⟩) 19 c) 19 (scells sg) := by rw [hwf]; exact ts.2.2.drew
    have F4 : wf.ownsRow w.heap.size 9 1 (.slice (some ⟨k, 0, none⟩) 2 d) 2 (scells pt) := by rw [hwf]; exact (tk.2.2.mono B3.size).drew
    have F5 : Below w.heap.size w wf := by rw [hwf]; exact below_drewI ts.2.1
    rw [← hwf]
    clear hwf eu2 ts tk eu hz2 BS two hgk
    exact bodyPost_ret (v := .tuple #[.agg #[.string ⟨seed.toArray⟩, .int .i64 ((i : Int) + 1)], .agg #[.int .i64 (i : Int), .slice (some ⟨g, 0, none⟩) 19 c, .slice (some ⟨k, 0, none⟩) 2 d], .bool true]) (results_ccb rfl _ _ (w.heap.size + 1) (w.heap.size + 1 + 1) 28 31 _ _ _ _ rfl F1 Tryd.underlying28 rfl (by kernel_rfl) rfl F2 Tryd.underlying31 rfl (by kernel_rfl) _ rfl) rfl ⟨g, c, k, d, rfl, F3, F4, F5⟩
end Go.Proofs.YtajckopldkmcnaaDoor
