/-
  Contracts: the program's tree of keys.
-/
import Derived.Test.YtajckopldkmcnaaDoorILeaf
import Derived.Test.YtajckopldkmcnaaDoorMath2
import Derived.Deep.RegionLaw
import Derived.Deep.AppendLies
namespace Go.Proofs.YtajckopldkmcnaaDoor
open Go.RowKit
set_option linter.unusedVariables false

theorem trio_cells {w : World} {b : Nat} {u v x : Value} {t : TypeId} (h : w.heap[b]? = some (.cells #[u, v, x] t (0, 0))) :
    w.cell? ⟨b, 0, none⟩ = some u ∧ w.cell? ⟨b, 1, none⟩ = some v ∧ w.cell? ⟨b, 2, none⟩ = some x ∧ ∀ j, w.frozen? ⟨b, j, none⟩ = false := by
  refine ⟨?_, ?_, ?_, fun j => frozen_of_row w b j _ t h⟩ <;> simp only [World.cell?, h] <;> rfl
theorem trio_set {w : World} {b j : Nat} {u v x y : Value} {t : TypeId} (h : w.heap[b]? = some (.cells #[u, v, x] t (0, 0))) : (w.setCell ⟨b, j, none⟩ y).heap[b]? = some (.cells (#[u, v, x].setIfInBounds j y) t (0, 0)) := by
  have hlt := lt_of_block h
  have h' : w.heap[b] = .cells #[u, v, x] t (0, 0) := by simpa [Array.getElem?_eq_getElem hlt] using h
  show (w.heap.modify b _)[b]? = _
  rw [Array.getElem?_eq_getElem (by simpa using hlt), Array.getElem_modify_self, h']
  rfl

theorem grown_of_belowT {w w' : World} (h : Below w.heap.size w w') (row : Option Nat) : w.grownBy w' row := ⟨h.os, h.tape, h.output, h.size, fun k hk _ => h.block k hk⟩
theorem grown_set {w w' : World} {b j : Nat} (h : w.grownBy w' (some b)) (y : Value) : w.grownBy (w'.setCell ⟨b, j, none⟩ y) (some b) :=
  ⟨h.os, h.tape, h.output, by simpa [World.setCell] using h.size, fun k hk hne => (Below.heap_setCell _ _ _ _ (fun e => hne (by simpa using e))).trans (h.block k hk hne)⟩
theorem grown_trans2 {w w1 w2 : World} {b : Nat} {o : Obj} {v : Value} (h : w.grownBy w1 (some b)) (hg : (w1.alloc o).grownBy w2 v.ownBlock) (hl : ∀ k, v.ownBlock = some k → w.heap.size ≤ k) : w.grownBy w2 (some b) :=
  ⟨hg.os.trans h.os, hg.tape.trans h.tape, hg.output.trans h.output, by have := hg.size; have := h.size; simp at *; omega, fun k hk hne => by
    have h1 := h.size
    rw [hg.block k (by simp; omega) (fun e => by have := hl k e.symm; omega), Below.heap_alloc _ _ _ (by omega)]
    exact h.block k hk hne⟩

set_option maxRecDepth 100000 in
set_option maxHeartbeats 4000000 in
theorem keyTree_any (seed : List UInt8) (w : World) (hs : seed.length = 32) (hT : Tab w) :
    Calls Tryd.prog 65 #[.string ⟨seed.toArray⟩] w fun e w' => ∃ g0 c0 g1 c1 g2 c2 : Nat, e = .returned (.agg #[.slice (some ⟨g0, 0, none⟩) 4 c0, .slice (some ⟨g1, 0, none⟩) 2 c1, .slice (some ⟨g2, 0, none⟩) 1 c2]) ∧ w'.ownsRow w.heap.size 9 1 (.slice (some ⟨g0, 0, none⟩) 4 c0) 4 (scells (level0 seed)) ∧ w'.ownsRow w.heap.size 9 1 (.slice (some ⟨g1, 0, none⟩) 2 c1) 2 (scells (level1 seed)) ∧ w'.ownsRow w.heap.size 9 1 (.slice (some ⟨g2, 0, none⟩) 1 c2) 1 (scells [rootL seed]) ∧ Below w.heap.size w w' := by
  obtain ⟨i0, hi0, hz0, hz1, hz2⟩ := info_parts info9i
  have HT : Hid (Tab w) := hT
  have h32 := level0_32 seed hs
  have h321 := level1_32 seed hs
  have HK4 : Hid (keysTo seed 4 = level0 seed) := keysTo_four seed
  have HP1 : Hid (pairsTo (level0 seed) 2 = level1 seed) := pairs_level1 seed
  have HP2 : Hid (pairsTo (level1 seed) 1 = [rootL seed]) := pairs_level2 seed
  obtain ⟨L0, hL0⟩ : ∃ L, L = level0 seed := ⟨_, rfl⟩
  obtain ⟨L1, hL1⟩ : ∃ L, L = level1 seed := ⟨_, rfl⟩
  obtain ⟨rt, hrt⟩ : ∃ L, L = rootL seed := ⟨_, rfl⟩
  have n0 : L0.length = 4 := by rw [hL0]; simp [level0]
  have n1 : L1.length = 2 := by rw [hL1]; simp [level1]
  rw [← hL0] at HK4 h32 HP1 ⊢
  rw [← hL1] at h321 HP1 HP2 ⊢
  rw [← hrt] at HP2 ⊢
  clear hL0 hL1 hrt
  have H32 : Hid (∀ k, k < 4 → (L0.getD k []).length = 32) := h32
  have H321 : Hid (∀ k, k < 2 → (L1.getD k []).length = 32) := h321
  clear h32 h321
  clear hT
  go_enter Tryd.func65, Tryd.ntmps65
  go_wp2
  go_loopw [4, 5, 6, 7, 8, 12] (fun _ _ _ _ _ i wr => ∃ j m c : Nat, ∃ a : Option Addr, j ≤ 4 ∧ i = .int .i64 (j : Int) ∧ Hid (wr.heap[w.heap.size]? = some (.cells #[.slice none 0 0, .slice none 0 0, .slice none 0 0] 97 (0, 0)) ∧ wr.heap[w.heap.size + 1]? = some (.cells #[.slice a m c, .slice none 0 0, .slice none 0 0] 97 (0, 0))) ∧ wr.ownsRow (w.heap.size + 2) 9 1 (.slice a m c) j (scells (keysTo seed j)) ∧ Below w.heap.size w wr) (fun _ _ _ _ _ i _ => 4 - (intOf i).toNat)
  case atStart =>
    have e1 : (w.alloc (.cells #[.slice none 0 0, .slice none 0 0, .slice none 0 0] 97)).heap.size = w.heap.size + 1 := by simp
    have h1 := heap_alloc_new (w.alloc (.cells #[.slice none 0 0, .slice none 0 0, .slice none 0 0] 97)) (.cells #[.slice none 0 0, .slice none 0 0, .slice none 0 0] 97)
    rw [e1] at h1
    exact ⟨0, 0, 0, none, by omega, rfl, ⟨by rw [Below.heap_alloc _ _ _ (by simp)]; exact heap_alloc_new w _, h1⟩, own_nil _ _ _, ((Below.refl _ _).alloc (Nat.le_refl _) _).alloc (by simp) _⟩
  case round =>
    obtain ⟨j, m, c, a, hj, rfl, HB, hown, hbel⟩ := hrel
    have hsz := hbel.size
    by_cases hlt : j < 4
    · have hlt' : (j : Int) < 4 := by omega
      have K1 := impl_leaf seed j wr hs (by omega) (HT.out.later hbel)
      have hll := leafL_len seed j hs
      have K2 := fun W hW => impl_public (leafL seed j) W hll hW
      have HN : Hid (keysTo seed (j + 1) = keysTo seed j ++ [publicL (leafL seed j)]) := keysTo_snoc seed j
      obtain ⟨y, hy⟩ : ∃ y, y = publicL (leafL seed j) := ⟨_, rfl⟩
      rw [← hy] at K2 HN
      obtain ⟨x, hx⟩ : ∃ x, x = leafL seed j := ⟨_, rfl⟩
      rw [← hx] at K1 K2
      have HO := hidOwn hown
      have hlow := own_low hown
      have lb1 := lt_of_block HB.out.2
      clear hy hx hown hll
      go_wp2_with fail
      refine K1.mono ?_
      rintro e w1 ⟨rfl, b1⟩
      have B1 := hbel.trans (b1.mono hsz)
      have O1 := hidOwn (keptO HO.out b1)
      have H1 : Hid (w1.heap[w.heap.size]? = some (.cells #[.slice none 0 0, .slice none 0 0, .slice none 0 0] 97 (0, 0)) ∧ w1.heap[w.heap.size + 1]? = some (.cells #[.slice a m c, .slice none 0 0, .slice none 0 0] 97 (0, 0))) := ⟨(b1.block _ (by omega)).trans HB.out.1, (b1.block _ lb1).trans HB.out.2⟩
      clear HO b1 hbel K1 HB
      go_wp2_with fail
      refine (K2 _ (HT.out.later B1)).mono ?_
      rintro e w2 ⟨rfl, b2⟩
      have B2 := B1.trans (b2.mono B1.size)
      have hs2 := B2.size
      have lb2 := lt_of_block H1.out.2
      have hown2 := keptO O1.out b2
      have h2a := (b2.block _ (by omega)).trans H1.out.1
      have h2b := (b2.block _ lb2).trans H1.out.2
      have lb3 := lt_of_block h2b
      obtain ⟨p0, _, _, _⟩ := trio_cells h2b
      clear O1 b2 B1 K2 H1
      go_wp2_with (at_builtin; refine wpList_append_own _ rfl _ _ 29 rfl (w.heap.size + 2) 9 i0 (.string ⟨#[]⟩) 1 16 Tryd.underlying29 hi0 hz0 hz1 hz2 rfl (by decide) (.slice a m c) j _ rfl (hown2.alloc _) ⟨w2.heap.size, 0, none⟩ 1 1 [.string ⟨y.toArray⟩] rfl rfl (World.news_of_block (cs := #[.string ⟨y.toArray⟩]) (t := 9) (fr := (0, 0)) (heap_alloc_new w2 _)) (by simp [Value.oneCell']) (by unfold maxLen; omega) (by omega) (by simp; omega) ?_; intro v3 w3 hown3 hgrow3 hnil3; obtain ⟨a3, m3, c3, rfl⟩ := own_slice hown3; have h3b : w3.heap[w.heap.size + 1]? = some (.cells #[.slice a m c, .slice none 0 0, .slice none 0 0] 97 (0, 0)) := (by rw [hgrow3.block _ (by simp; omega) (fun e => by have := hlow _ e.symm; omega), Below.heap_alloc _ _ _ lb3]; exact h2b); obtain ⟨q0, _, _, qf⟩ := trio_cells h3b; have qf0 := qf 0)
      have h3a : w3.heap[w.heap.size]? = some (.cells #[.slice none 0 0, .slice none 0 0, .slice none 0 0] 97 (0, 0)) := by rw [hgrow3.block _ (by simp; omega) (fun e => by have := hlow _ e.symm; omega), Below.heap_alloc _ _ _ (by omega)]; exact h2a
      have B3 : Below w.heap.size w w3 := (B2.alloc hs2 _).grown hgrow3 (by simp; omega) (fun k hk => by have := hlow k hk; omega)
      have HO3 : Hid (w3.ownsRow (w.heap.size + 2) 9 1 (.slice a3 m3 c3) (j + 1) (scells (keysTo seed (j + 1)))) := by rw [Hid, HN.out, scells_snoc]; exact hown3
      have t3 := trio_set (j := 0) (y := .slice a3 m3 c3) h3b
      have u3 : (w3.setCell ⟨w.heap.size + 1, 0, none⟩ (.slice a3 m3 c3)).heap[w.heap.size]? = _ := (Below.heap_setCell _ _ _ _ (by simp)).trans h3a
      have HT3 : Hid ((w3.setCell ⟨w.heap.size + 1, 0, none⟩ (.slice a3 m3 c3)).heap[w.heap.size]? = some (.cells #[.slice none 0 0, .slice none 0 0, .slice none 0 0] 97 (0, 0)) ∧ (w3.setCell ⟨w.heap.size + 1, 0, none⟩ (.slice a3 m3 c3)).heap[w.heap.size + 1]? = some (.cells #[.slice a3 m3 c3, .slice none 0 0, .slice none 0 0] 97 (0, 0))) := ⟨u3, t3⟩
      have B4 : Below w.heap.size w (w3.setCell ⟨w.heap.size + 1, 0, none⟩ (.slice a3 m3 c3)) := B3.setCell (by simp) _
      have HO4 := hidOwn (ownsRow_setCell_below (a := ⟨w.heap.size + 1, 0, none⟩) HO3.out (by simp) (.slice a3 m3 c3))
      clear hown3 hgrow3 hnil3 hown2 B2 B3 HO3 t3 u3 h3a h3b
      go_wp2
      go_roundw
      case rel => exact ⟨j + 1, m3, c3, a3, by omega, by go_num, HT3, HO4.out, B4⟩
      case measure => simp [intOf]; omega
    · have hj4 : j = 4 := by omega
      subst hj4
      obtain ⟨rfl, g0, rfl⟩ := own_some hown (by omega)
      have O0 : Hid (wr.ownsRow (w.heap.size + 2) 9 1 (.slice (some ⟨g0, 0, none⟩) 4 c) 4 (scells L0)) := by rw [Hid, ← HK4.out]; exact hown
      have bg0 := own_base O0.out
      have lg0 := own_lt O0.out
      have e4 : ((4 : Nat) : Int) = 4 := rfl
      rw [e4]
      clear hown hlt hj e4
      obtain ⟨c0, hc0⟩ : ∃ c0, c0 = c := ⟨_, rfl⟩
      rw [← hc0] at O0 HB
      obtain ⟨p0, _, _, _⟩ := trio_cells HB.out.2
      clear hc0
      go_wp2_with fail
      refine wp_loop_rounds 3 ?_
      have HB0 := HB
      obtain ⟨wa, rfl⟩ : ∃ W, W = wr := ⟨_, rfl⟩
      rw [rounds_succ]
      go_wp2
      go_loopw [11] (fun i wr => ∃ j k q cc : Nat, ∃ a : Option Addr, j ≤ 2 ∧ i = .int .i64 (k : Int) ∧ Hid (k = 2 * j) ∧ Hid (wr.heap[w.heap.size]? = some (.cells #[.slice none 0 0, .slice none 0 0, .slice none 0 0] 97 (0, 0)) ∧ wr.heap[w.heap.size + 1]? = some (.cells #[.slice (some ⟨g0, 0, none⟩) 4 c0, .slice a q cc, .slice none 0 0] 97 (0, 0))) ∧ wr.ownsRow wa.heap.size 9 1 (.slice a q cc) j (scells (pairsTo L0 j)) ∧ wa.grownBy wr (some (w.heap.size + 1))) (fun i _ => 4 - (intOf i).toNat)
      case atStart => exact ⟨0, 0, 0, 0, none, by omega, rfl, rfl, HB0, own_nil _ _ _, World.grownBy.refl _ _⟩
      case round =>
        obtain ⟨j, k, q, cc, a, hj, rfl, HK, HX, hown, hgr⟩ := hrel
        have hsx := hgr.size
        have hlw : w.heap.size + 1 < wa.heap.size := by omega
        by_cases hlt : j < 2
        · have hwo : IntKind.i64.wrap 1 = 1 := by decide
          have hk0 : (0 : Int) ≤ (k : Int) := by omega
          have hk1 : (k : Int) + 1 < 4 := by have := HK.out; omega
          have hk2 : (k : Int) < 4 := by omega
          have hk3 : (0 : Int) ≤ (k : Int) + 1 := by omega
          have hk5 : ((k : Int) + 1).toNat = k + 1 := by omega
          have hkw : IntKind.i64.wrap ((k : Int) + 1) = (k : Int) + 1 := i64_wrap_small _ (by omega) (by omega)
          have r0 : ∀ i, i < 4 → wa.cell? ⟨g0, i, none⟩ = some (.string ⟨(L0.getD i []).toArray⟩) := row_at O0.out n0
          have f1 := (hgr.cell_far ⟨g0, k, none⟩ lg0 (by simp; omega)).trans (r0 k (by omega))
          have f2 := (hgr.cell_far ⟨g0, k + 1, none⟩ lg0 (by simp; omega)).trans (r0 (k + 1) (by omega))
          have h1 := H32.out k (by omega)
          have h2 := H32.out (k + 1) (by omega)
          have HN : Hid (pairsTo L0 (j + 1) = pairsTo L0 j ++ [nodeL (L0.getD k []) (L0.getD (k + 1) [])]) := by rw [Hid, pairsTo_snoc, HK.out]
          obtain ⟨x, hx⟩ : ∃ x, x = L0.getD k [] := ⟨_, rfl⟩
          obtain ⟨y, hy⟩ : ∃ y, y = L0.getD (k + 1) [] := ⟨_, rfl⟩
          rw [← hx] at f1 h1 HN
          rw [← hy] at f2 h2 HN
          have HBX : Hid (Below w.heap.size w wr) := hbel.grown hgr (by omega) (fun k hk => by simp at hk; omega)
          have K := keyNode_any x y wr.drew h1 h2 (HT.out.later (below_drewI HBX.out))
          obtain ⟨z, hz⟩ : ∃ z, z = nodeL x y := ⟨_, rfl⟩
          rw [← hz] at K HN
          have HO := hidOwn hown
          have hlow := own_low hown
          obtain ⟨_, s0, _, sf⟩ := trio_cells HX.out.2
          have HG : Hid (wa.grownBy wr (some (w.heap.size + 1))) := hgr
          have lgx : g0 < wr.heap.size := by omega
          have lwx : w.heap.size + 1 < wr.heap.size := by omega
          clear hz hx hy hown hgr r0 sf
          go_wp2_with fail
          go_region_law (first
            | (refine step_append_lies _ rfl (.tmp 50) (.tmp 61) 29 rfl wa.heap.size 9 i0 (.string ⟨#[]⟩) 1 16 Tryd.underlying29 hi0 hz0 hz1 hz2 rfl (by decide) (.slice a q cc) j _ (by simp [Act.eval]) (O1x.out.alloc _) ⟨w1.heap.size, 0, none⟩ 1 1 [.string ⟨z.toArray⟩] (by simp [Act.eval]) rfl (World.news_of_block (cs := #[.string ⟨z.toArray⟩]) (t := 9) (fr := (0, 0)) (heap_alloc_new w1 _)) (by simp [Value.oneCell']) (by decide) (by unfold maxLen; omega) (by omega) (by simp; omega) (w1.heap.size + 1) (by simp) ?_
               intro g3 c3 w3 hown3 hgrow3 hat3 hlt3
               have h3b : w3.heap[w.heap.size + 1]? = some (.cells #[.slice (some ⟨g0, 0, none⟩) 4 c0, .slice a q cc, .slice none 0 0] 97 (0, 0)) := (by rw [hgrow3.block _ (by simp; omega) (fun e => by have := hlow _ e.symm; omega), Below.heap_alloc _ _ _ (by omega)]; exact h1b)
               obtain ⟨_, q0, _, qf⟩ := trio_cells h3b
               have qf0 := qf 1
               clear qf)
            | (go_simp
               go_at_call 99
               refine K.mono ?_
               rintro e w1 ⟨rfl, b1'⟩
               have b1 : Below wr.heap.size wr w1 := ⟨b1'.os, b1'.tape, b1'.output, b1'.size, b1'.block⟩
               have sz1 := b1.size
               have h1a := (b1.block _ (by omega)).trans HX.out.1
               have h1b := (b1.block _ lwx).trans HX.out.2
               obtain ⟨_, t0, _, _⟩ := trio_cells h1b
               have t0a : (w1.alloc (.cells #[.string ⟨z.toArray⟩] 9)).cell? ⟨w.heap.size + 1, 1, none⟩ = some (.slice a q cc) := (by rw [World.cell?_alloc_lt _ _ _ (by simp; omega)]; exact t0)
               have O1x := hidOwn (keptO HO.out b1)
               have c3x := (b1.cell (p := ⟨g0, k, none⟩) lgx).trans f1
               have c4x := (b1.cell (p := ⟨g0, k + 1, none⟩) lgx).trans f2))
          all_goals
            have h3a : w3.heap[w.heap.size]? = some (.cells #[.slice none 0 0, .slice none 0 0, .slice none 0 0] 97 (0, 0)) := by rw [hgrow3.block _ (by simp; omega) (fun e => by have := hlow _ e.symm; omega), Below.heap_alloc _ _ _ (by omega)]; exact h1a
            have G3 : wa.grownBy w3 (some (w.heap.size + 1)) := grown_trans2 (HG.out.trans (grown_of_belowT b1 _)) hgrow3 hlow
            have HO3 : Hid (w3.ownsRow wa.heap.size 9 1 (.slice (some ⟨g3, 0, none⟩) (j + 1) c3) (j + 1) (scells (pairsTo L0 (j + 1)))) := by rw [Hid, HN.out, scells_snoc]; exact hown3
            have t3 := trio_set (j := 1) (y := .slice (some ⟨g3, 0, none⟩) (j + 1) c3) h3b
            have u3 : (w3.setCell ⟨w.heap.size + 1, 1, none⟩ (.slice (some ⟨g3, 0, none⟩) (j + 1) c3)).heap[w.heap.size]? = _ := (Below.heap_setCell _ _ _ _ (by simp)).trans h3a
            have HT3 : Hid ((w3.setCell ⟨w.heap.size + 1, 1, none⟩ (.slice (some ⟨g3, 0, none⟩) (j + 1) c3)).heap[w.heap.size]? = some (.cells #[.slice none 0 0, .slice none 0 0, .slice none 0 0] 97 (0, 0)) ∧ (w3.setCell ⟨w.heap.size + 1, 1, none⟩ (.slice (some ⟨g3, 0, none⟩) (j + 1) c3)).heap[w.heap.size + 1]? = some (.cells #[.slice (some ⟨g0, 0, none⟩) 4 c0, .slice (some ⟨g3, 0, none⟩) (j + 1) c3, .slice none 0 0] 97 (0, 0))) := ⟨u3, t3⟩
            have HG4 : Hid (wa.grownBy (w3.setCell ⟨w.heap.size + 1, 1, none⟩ (.slice (some ⟨g3, 0, none⟩) (j + 1) c3)) (some (w.heap.size + 1))) := grown_set G3 _
            have HO4 := hidOwn (ownsRow_setCell_below (a := ⟨w.heap.size + 1, 1, none⟩) HO3.out (by simp; omega) (.slice (some ⟨g3, 0, none⟩) (j + 1) c3))
            clear hown3 hgrow3 hat3 hlt3 G3 HO3 t3 u3 h3a h3b h1a h1b O1x
            go_wp2
            go_roundw
            case rel => exact ⟨j + 1, k + 2, j + 1, c3, some ⟨g3, 0, none⟩, by omega, by go_num, by rw [Hid, HK.out]; omega, HT3, HO4.out, HG4.out⟩
            case measure => simp [intOf]; omega
        · have hjm : j = 2 := by omega
          subst hjm
          obtain ⟨rfl, g1, rfl⟩ := own_some hown (by omega)
          have hkn : k = 4 := by have := HK.out; omega
          subst hkn
          have eK : ((4 : Nat) : Int) = 4 := rfl
          rw [eK]
          clear eK HK hlt hj
          have O1 : Hid (wr.ownsRow (w.heap.size + 2) 9 1 (.slice (some ⟨g1, 0, none⟩) 2 cc) 2 (scells L1)) := by rw [Hid, ← HP1.out]; exact hown.mono (by omega)
          have bg1 := own_base O1.out
          have lg1 := own_lt O1.out
          have O0' := hidOwn (O0.out.kept hgr (.inr (by simp [Value.ownBlock]; omega)))
          have hbb : Below w.heap.size w wr := hbel.grown hgr (by omega) (fun k hk => by simp at hk; omega)
          clear hgr hown
          obtain ⟨c1, rfl⟩ : ∃ c1, c1 = cc := ⟨_, rfl⟩
          obtain ⟨wb, rfl⟩ : ∃ wb, wb = wr := ⟨_, rfl⟩
          have HB1 := HX
          have lg0' : g0 < wb.heap.size := by omega
          obtain ⟨_, p1, _, _⟩ := trio_cells HB1.out.2
          clear HX
          go_wp2
          rw [rounds_succ]

          go_wp2
          go_loopw [11] (fun i wr => ∃ j k q cc : Nat, ∃ a : Option Addr, j ≤ 1 ∧ i = .int .i64 (k : Int) ∧ Hid (k = 2 * j) ∧ Hid (wr.heap[w.heap.size]? = some (.cells #[.slice none 0 0, .slice none 0 0, .slice none 0 0] 97 (0, 0)) ∧ wr.heap[w.heap.size + 1]? = some (.cells #[.slice (some ⟨g0, 0, none⟩) 4 c0, .slice (some ⟨g1, 0, none⟩) 2 c1, .slice a q cc] 97 (0, 0))) ∧ wr.ownsRow wb.heap.size 9 1 (.slice a q cc) j (scells (pairsTo L1 j)) ∧ wb.grownBy wr (some (w.heap.size + 1))) (fun i _ => 2 - (intOf i).toNat)
          case atStart => exact ⟨0, 0, 0, 0, none, by omega, rfl, rfl, HB1, own_nil _ _ _, World.grownBy.refl _ _⟩
          case round =>
            obtain ⟨j, k, q, cc, a, hj, rfl, HK, HX, hown, hgr⟩ := hrel
            have hsx := hgr.size
            have hlw : w.heap.size + 1 < wb.heap.size := by omega
            by_cases hlt : j < 1
            · have hwo : IntKind.i64.wrap 2 = 2 := by decide
              have hk0 : (0 : Int) ≤ (k : Int) := by omega
              have hk1 : (k : Int) + 1 < 2 := by have := HK.out; omega
              have hk2 : (k : Int) < 2 := by omega
              have hk3 : (0 : Int) ≤ (k : Int) + 1 := by omega
              have hk5 : ((k : Int) + 1).toNat = k + 1 := by omega
              have hkw : IntKind.i64.wrap ((k : Int) + 1) = (k : Int) + 1 := i64_wrap_small _ (by omega) (by omega)
              have r0 : ∀ i, i < 2 → wb.cell? ⟨g1, i, none⟩ = some (.string ⟨(L1.getD i []).toArray⟩) := row_at O1.out n1
              have f1 := (hgr.cell_far ⟨g1, k, none⟩ lg1 (by simp; omega)).trans (r0 k (by omega))
              have f2 := (hgr.cell_far ⟨g1, k + 1, none⟩ lg1 (by simp; omega)).trans (r0 (k + 1) (by omega))
              have h1 := H321.out k (by omega)
              have h2 := H321.out (k + 1) (by omega)
              have HN : Hid (pairsTo L1 (j + 1) = pairsTo L1 j ++ [nodeL (L1.getD k []) (L1.getD (k + 1) [])]) := by rw [Hid, pairsTo_snoc, HK.out]
              obtain ⟨x, hx⟩ : ∃ x, x = L1.getD k [] := ⟨_, rfl⟩
              obtain ⟨y, hy⟩ : ∃ y, y = L1.getD (k + 1) [] := ⟨_, rfl⟩
              rw [← hx] at f1 h1 HN
              rw [← hy] at f2 h2 HN
              have HBX : Hid (Below w.heap.size w wr) := hbb.grown hgr (by omega) (fun k hk => by simp at hk; omega)
              have K := keyNode_any x y wr.drew h1 h2 (HT.out.later (below_drewI HBX.out))
              obtain ⟨z, hz⟩ : ∃ z, z = nodeL x y := ⟨_, rfl⟩
              rw [← hz] at K HN
              have HO := hidOwn hown
              have hlow := own_low hown
              obtain ⟨_, _, s0, sf⟩ := trio_cells HX.out.2
              have HG : Hid (wb.grownBy wr (some (w.heap.size + 1))) := hgr
              have lgx : g1 < wr.heap.size := by omega
              have lwx : w.heap.size + 1 < wr.heap.size := by omega
              clear hz hx hy hown hgr r0 sf
              go_wp2_with fail
              go_region_law (first
                | (refine step_append_lies _ rfl (.tmp 50) (.tmp 61) 29 rfl wb.heap.size 9 i0 (.string ⟨#[]⟩) 1 16 Tryd.underlying29 hi0 hz0 hz1 hz2 rfl (by decide) (.slice a q cc) j _ (by simp [Act.eval]) (O1x.out.alloc _) ⟨w1.heap.size, 0, none⟩ 1 1 [.string ⟨z.toArray⟩] (by simp [Act.eval]) rfl (World.news_of_block (cs := #[.string ⟨z.toArray⟩]) (t := 9) (fr := (0, 0)) (heap_alloc_new w1 _)) (by simp [Value.oneCell']) (by decide) (by unfold maxLen; omega) (by omega) (by simp; omega) (w1.heap.size + 1) (by simp) ?_
                   intro g3 c3 w3 hown3 hgrow3 hat3 hlt3
                   have h3b : w3.heap[w.heap.size + 1]? = some (.cells #[.slice (some ⟨g0, 0, none⟩) 4 c0, .slice (some ⟨g1, 0, none⟩) 2 c1, .slice a q cc] 97 (0, 0)) := (by rw [hgrow3.block _ (by simp; omega) (fun e => by have := hlow _ e.symm; omega), Below.heap_alloc _ _ _ (by omega)]; exact h1b)
                   obtain ⟨_, _, q0, qf⟩ := trio_cells h3b
                   have qf0 := qf 2
                   clear qf)
                | (go_simp
                   go_at_call 99
                   refine K.mono ?_
                   rintro e w1 ⟨rfl, b1'⟩
                   have b1 : Below wr.heap.size wr w1 := ⟨b1'.os, b1'.tape, b1'.output, b1'.size, b1'.block⟩
                   have sz1 := b1.size
                   have h1a := (b1.block _ (by omega)).trans HX.out.1
                   have h1b := (b1.block _ lwx).trans HX.out.2
                   obtain ⟨_, _, t0, _⟩ := trio_cells h1b
                   have t0a : (w1.alloc (.cells #[.string ⟨z.toArray⟩] 9)).cell? ⟨w.heap.size + 1, 2, none⟩ = some (.slice a q cc) := (by rw [World.cell?_alloc_lt _ _ _ (by simp; omega)]; exact t0)
                   have O1x := hidOwn (keptO HO.out b1)
                   have c3x := (b1.cell (p := ⟨g1, k, none⟩) lgx).trans f1
                   have c4x := (b1.cell (p := ⟨g1, k + 1, none⟩) lgx).trans f2))
              all_goals
                have h3a : w3.heap[w.heap.size]? = some (.cells #[.slice none 0 0, .slice none 0 0, .slice none 0 0] 97 (0, 0)) := by rw [hgrow3.block _ (by simp; omega) (fun e => by have := hlow _ e.symm; omega), Below.heap_alloc _ _ _ (by omega)]; exact h1a
                have G3 : wb.grownBy w3 (some (w.heap.size + 1)) := grown_trans2 (HG.out.trans (grown_of_belowT b1 _)) hgrow3 hlow
                have HO3 : Hid (w3.ownsRow wb.heap.size 9 1 (.slice (some ⟨g3, 0, none⟩) (j + 1) c3) (j + 1) (scells (pairsTo L1 (j + 1)))) := by rw [Hid, HN.out, scells_snoc]; exact hown3
                have t3 := trio_set (j := 2) (y := .slice (some ⟨g3, 0, none⟩) (j + 1) c3) h3b
                have u3 : (w3.setCell ⟨w.heap.size + 1, 2, none⟩ (.slice (some ⟨g3, 0, none⟩) (j + 1) c3)).heap[w.heap.size]? = _ := (Below.heap_setCell _ _ _ _ (by simp)).trans h3a
                have HT3 : Hid ((w3.setCell ⟨w.heap.size + 1, 2, none⟩ (.slice (some ⟨g3, 0, none⟩) (j + 1) c3)).heap[w.heap.size]? = some (.cells #[.slice none 0 0, .slice none 0 0, .slice none 0 0] 97 (0, 0)) ∧ (w3.setCell ⟨w.heap.size + 1, 2, none⟩ (.slice (some ⟨g3, 0, none⟩) (j + 1) c3)).heap[w.heap.size + 1]? = some (.cells #[.slice (some ⟨g0, 0, none⟩) 4 c0, .slice (some ⟨g1, 0, none⟩) 2 c1, .slice (some ⟨g3, 0, none⟩) (j + 1) c3] 97 (0, 0))) := ⟨u3, t3⟩
                have HG4 : Hid (wb.grownBy (w3.setCell ⟨w.heap.size + 1, 2, none⟩ (.slice (some ⟨g3, 0, none⟩) (j + 1) c3)) (some (w.heap.size + 1))) := grown_set G3 _
                have HO4 := hidOwn (ownsRow_setCell_below (a := ⟨w.heap.size + 1, 2, none⟩) HO3.out (by simp; omega) (.slice (some ⟨g3, 0, none⟩) (j + 1) c3))
                clear hown3 hgrow3 hat3 hlt3 G3 HO3 t3 u3 h3a h3b h1a h1b O1x
                go_wp2
                go_roundw
                case rel => exact ⟨j + 1, k + 2, j + 1, c3, some ⟨g3, 0, none⟩, by omega, by go_num, by rw [Hid, HK.out]; omega, HT3, HO4.out, HG4.out⟩
                case measure => simp [intOf]; omega
            · have hjm : j = 1 := by omega
              subst hjm
              obtain ⟨rfl, g2, rfl⟩ := own_some hown (by omega)
              have hkn : k = 2 := by have := HK.out; omega
              subst hkn
              have eK : ((2 : Nat) : Int) = 2 := rfl
              rw [eK]
              clear eK HK hlt hj
              have O2 : Hid (wr.ownsRow (w.heap.size + 2) 9 1 (.slice (some ⟨g2, 0, none⟩) 1 cc) 1 (scells [rt])) := by rw [Hid, ← HP2.out]; exact hown.mono (by omega)
              have P0 := hidOwn (O0'.out.kept hgr (.inr (by simp [Value.ownBlock]; omega)))
              have P1 := hidOwn (O1.out.kept hgr (.inr (by simp [Value.ownBlock]; omega)))
              have HBX : Hid (Below w.heap.size w wr) := hbb.grown hgr (by omega) (fun k hk => by simp at hk; omega)
              have bg2 := own_base O2.out
              obtain ⟨z0, z1, z2, zf⟩ := trio_cells HX.out.1
              obtain ⟨y0, y1, y2, _⟩ := trio_cells HX.out.2
              have zf0 := zf 0
              have zf1 := zf 1
              have zf2 := zf 2
              clear zf hgr hown
              go_wp2
              rw [rounds_succ]
              go_wp2
              have x2 := trio_set (j := 0) (y := .slice (some ⟨g0, 0, none⟩) 4 c0) HX.out.1
              have x3 := trio_set (j := 1) (y := .slice (some ⟨g1, 0, none⟩) 2 c1) x2
              have x4 := trio_set (j := 2) (y := .slice (some ⟨g2, 0, none⟩) 1 cc) x3
              have rows : ∀ {g m c base : Nat} {xs : List Value}, wr.ownsRow base 9 1 (.slice (some ⟨g, 0, none⟩) m c) m xs → w.heap.size + 2 ≤ g → (((wr.setCell ⟨w.heap.size, 0, none⟩ (.slice (some ⟨g0, 0, none⟩) 4 c0)).setCell ⟨w.heap.size, 1, none⟩ (.slice (some ⟨g1, 0, none⟩) 2 c1)).setCell ⟨w.heap.size, 2, none⟩ (.slice (some ⟨g2, 0, none⟩) 1 cc)).ownsRow base 9 1 (.slice (some ⟨g, 0, none⟩) m c) m xs := fun h hg =>
                ownsRow_setCell_other (ownsRow_setCell_other (ownsRow_setCell_other h (by simp [Value.ownBlock]; omega) _) (by simp [Value.ownBlock]; omega) _) (by simp [Value.ownBlock]; omega) _
              exact bodyPost_ret (v := .agg #[.slice (some ⟨g0, 0, none⟩) 4 c0, .slice (some ⟨g1, 0, none⟩) 2 c1, .slice (some ⟨g2, 0, none⟩) 1 cc]) (results_cell_row rfl _ _ w.heap.size 97 _ (0, 0) _ rfl x4 Tryd.underlying97 rfl (by kernel_rfl)) rfl ⟨g0, c0, g1, c1, g2, cc, rfl, (rows P0.out (by omega)).mono (by omega), (rows P1.out (by omega)).mono (by omega), (rows O2.out (by omega)).mono (by omega), ((HBX.out.setCell (by simp) _).setCell (by simp) _).setCell (by simp) _⟩

end Go.Proofs.YtajckopldkmcnaaDoor
