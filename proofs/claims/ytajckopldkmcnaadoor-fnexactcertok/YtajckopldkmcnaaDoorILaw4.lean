/-
  Contracts of the laws' own helpers on signatures: sizes, copies, equal ones.
-/
import Derived.Test.YtajckopldkmcnaaDoorStrsAll
import Derived.Test.YtajckopldkmcnaaDoorSzGen
import Derived.Test.YtajckopldkmcnaaDoorIRootN
namespace Go.Proofs.YtajckopldkmcnaaDoor
open Go.RowKit
set_option linter.unusedVariables false

theorem tri_cells {w : World} {b : Nat} {u v x : Value} {t : TypeId} (h : w.heap[b]? = some (.cells #[u, v, x] t (0, 0))) :
    w.cell? ⟨b, 0, none⟩ = some u ∧ w.cell? ⟨b, 1, none⟩ = some v ∧ w.cell? ⟨b, 2, none⟩ = some x ∧ ∀ j, w.frozen? ⟨b, j, none⟩ = false := by
  refine ⟨?_, ?_, ?_, fun j => frozen_of_row w b j _ t h⟩ <;> simp only [World.cell?, h] <;> rfl
theorem tri_set {w : World} {b j : Nat} {u v x y : Value} {t : TypeId} (h : w.heap[b]? = some (.cells #[u, v, x] t (0, 0))) : (w.setCell ⟨b, j, none⟩ y).heap[b]? = some (.cells (#[u, v, x].setIfInBounds j y) t (0, 0)) := by
  have hlt := lt_of_block h
  have h' : w.heap[b] = .cells #[u, v, x] t (0, 0) := by simpa [Array.getElem?_eq_getElem hlt] using h
  show (w.heap.modify b _)[b]? = _
  rw [Array.getElem?_eq_getElem (by simpa using hlt), Array.getElem_modify_self, h']
  rfl

set_option maxRecDepth 100000 in
set_option maxHeartbeats 1000000 in
theorem toSig_any (i : Int) (ao ap : Option Addr) (co cp : Nat) (os ps : List (List UInt8)) (w : World) (ho : os.length ≤ 1048576) (hp : ps.length ≤ 1048576) (hs : IsStrs w ao os) (hq : IsStrs w ap ps) :
    Calls Tryd.prog 54 #[.agg #[.int .i64 i, .slice ao os.length co, .slice ap ps.length cp]] w fun e w' => ∃ g1 g2 : Nat, e = .returned (.agg #[.int .i64 i, .slice (some ⟨g1, 0, none⟩) os.length os.length, .slice (some ⟨g2, 0, none⟩) ps.length ps.length]) ∧ w'.ownsRow w.heap.size 9 1 (.slice (some ⟨g1, 0, none⟩) os.length os.length) os.length (scells os) ∧ w'.ownsRow w.heap.size 9 1 (.slice (some ⟨g2, 0, none⟩) ps.length ps.length) ps.length (scells ps) ∧ Below w.heap.size w w' := by
  obtain ⟨n, hn⟩ : ∃ n, n = w.heap.size := ⟨_, rfl⟩
  obtain ⟨wa, hwa⟩ : ∃ wa, wa = ((w.alloc (.cells #[.int .i64 i, .slice ao os.length co, .slice ap ps.length cp] 41)).alloc (.cells #[.int .i64 0, .slice none 0 0, .slice none 0 0] 31)).alloc (.cells #[.int .i64 i, .slice none 0 0, .slice none 0 0] 31) := ⟨_, rfl⟩
  have Ba : Below w.heap.size w wa := by rw [hwa]; exact (((Below.refl _ _).alloc (Nat.le_refl _) _).alloc (by simp) _).alloc (by simp; omega) _
  have sa : wa.heap.size = w.heap.size + 3 := by rw [hwa]; simp
  have a0 : wa.heap[w.heap.size]? = some (.cells #[.int .i64 i, .slice ao os.length co, .slice ap ps.length cp] 41 (0, 0)) := by rw [hwa, Below.heap_alloc _ _ _ (by simp; omega), Below.heap_alloc _ _ _ (by simp)]; exact heap_alloc_new w _
  have a1 : wa.heap[w.heap.size + 1]? = some (.cells #[.int .i64 0, .slice none 0 0, .slice none 0 0] 31 (0, 0)) := by
    rw [hwa, Below.heap_alloc _ _ _ (by simp)]
    have := heap_alloc_new (w.alloc (.cells #[.int .i64 i, .slice ao os.length co, .slice ap ps.length cp] 41)) (.cells #[.int .i64 0, .slice none 0 0, .slice none 0 0] 31)
    simpa using this
  have a2 : wa.heap[w.heap.size + 2]? = some (.cells #[.int .i64 i, .slice none 0 0, .slice none 0 0] 31 (0, 0)) := by
    rw [hwa]
    have := heap_alloc_new ((w.alloc (.cells #[.int .i64 i, .slice ao os.length co, .slice ap ps.length cp] 41)).alloc (.cells #[.int .i64 0, .slice none 0 0, .slice none 0 0] 31)) (.cells #[.int .i64 i, .slice none 0 0, .slice none 0 0] 31)
    rw [show ((w.alloc (.cells #[.int .i64 i, .slice ao os.length co, .slice ap ps.length cp] 41)).alloc (.cells #[.int .i64 0, .slice none 0 0, .slice none 0 0] 31)).heap.size = w.heap.size + 2 by simp] at this
    exact this
  have K1 := toS_any ao co os wa ho (hs.later Ba)
  have HQ : Hid (∀ W, Below w.heap.size w W → IsStrs W ap ps) := fun W hW => hq.later hW
  rw [hwa] at K1
  clear hs hq hn
  go_enter Tryd.func54, Tryd.ntmps54
  go_wp2_with fail
  refine K1.mono ?_
  rintro e w1 ⟨rfl, o1, b1⟩
  rw [← hwa] at o1 b1
  rw [show (((w.alloc (.cells #[.int .i64 i, .slice ao os.length co, .slice ap ps.length cp] 41)).alloc (.cells #[.int .i64 0, .slice none 0 0, .slice none 0 0] 31)).alloc (.cells #[.int .i64 i, .slice none 0 0, .slice none 0 0] 31)).heap.size = w.heap.size + 3 by rw [← hwa]; exact sa]
  rw [sa] at o1
  clear K1 hwa
  have B1 := Ba.trans (b1.mono (by omega))
  have e0 := (b1.block (w.heap.size) (by omega)).trans a0
  have e1 := (b1.block (w.heap.size + 1) (by omega)).trans a1
  have e2 := (b1.block (w.heap.size + 2) (by omega)).trans a2
  obtain ⟨_, _, p2, _⟩ := tri_cells e0
  obtain ⟨_, r1, _, rf⟩ := tri_cells e2
  have rf1 := rf 1
  have O1 := hidOwn o1
  have s1 : w.heap.size + 3 < w1.heap.size := own_lt o1
  clear a0 a1 a2 b1 Ba rf o1
  have z2 : (w1.setCell ⟨w.heap.size + 1 + 1, 1, none⟩ (.slice (some ⟨w.heap.size + 3, 0, none⟩) os.length os.length)).heap.size = w1.heap.size := by simp [World.setCell]
  have B2 : Below w.heap.size w (w1.setCell ⟨w.heap.size + 1 + 1, 1, none⟩ (.slice (some ⟨w.heap.size + 3, 0, none⟩) os.length os.length)) := B1.setCell (by simp; omega) _
  have K2 := toS_any ap cp ps _ hp (HQ.out _ B2)
  rw [z2] at K2
  have t2 := tri_set (j := 1) (y := .slice (some ⟨w.heap.size + 3, 0, none⟩) os.length os.length) e2
  have t1 : (w1.setCell ⟨w.heap.size + 1 + 1, 1, none⟩ (.slice (some ⟨w.heap.size + 3, 0, none⟩) os.length os.length)).heap[w.heap.size + 1]? = _ := (Below.heap_setCell _ _ _ _ (by simp)).trans e1
  have O2 := hidOwn (ownsRow_setCell_other (a := ⟨w.heap.size + 1 + 1, 1, none⟩) O1.out (by simp [Value.ownBlock]) (.slice (some ⟨w.heap.size + 3, 0, none⟩) os.length os.length))
  clear e0 e1 e2 O1 B1
  go_wp2_with fail
  refine K2.mono ?_
  rintro e w3 ⟨rfl, o3, b3⟩
  have B3 := B2.trans (b3.mono (by omega))
  have u2 : w3.heap[w.heap.size + 2]? = some (.cells #[.int .i64 i, .slice (some ⟨w.heap.size + 3, 0, none⟩) os.length os.length, .slice none 0 0] 31 (0, 0)) := (b3.block (w.heap.size + 2) (by omega)).trans t2
  have u1 : w3.heap[w.heap.size + 1]? = some (.cells #[.int .i64 0, .slice none 0 0, .slice none 0 0] 31 (0, 0)) := (b3.block (w.heap.size + 1) (by omega)).trans t1
  have O3 := hidOwn (O2.out.kept (w' := w3) (row := none) ⟨b3.os, b3.tape, b3.output, b3.size, fun k hk _ => b3.block k (by rw [← z2]; exact hk)⟩ (.inr (by simp [Value.ownBlock])))
  have Q3 := hidOwn o3
  have s3 : w1.heap.size < w3.heap.size := own_lt o3
  have u2' := tri_set (j := 2) (y := .slice (some ⟨w1.heap.size, 0, none⟩) ps.length ps.length) u2
  obtain ⟨p0, p1, p2', pf⟩ := tri_cells u2
  obtain ⟨q0, q1, q2, qf⟩ := tri_cells u1
  have pf2 := pf 2
  have qf0 := qf 0
  have qf1 := qf 1
  have qf2 := qf 2
  clear K2 t1 t2 O2 o3 b3 z2 pf qf B2
  go_wp2
  have y1 : (w3.setCell ⟨w.heap.size + 1 + 1, 2, none⟩ (.slice (some ⟨w1.heap.size, 0, none⟩) ps.length ps.length)).heap[w.heap.size + 1]? = _ := (Below.heap_setCell _ _ _ _ (by simp)).trans u1
  have y2 := tri_set (j := 0) (y := .int .i64 i) y1
  have y3 := tri_set (j := 1) (y := .slice (some ⟨w.heap.size + 3, 0, none⟩) os.length os.length) y2
  have y4 := tri_set (j := 2) (y := .slice (some ⟨w1.heap.size, 0, none⟩) ps.length ps.length) y3
  have rows : ∀ {g m c base : Nat} {xs : List Value}, w3.ownsRow base 9 1 (.slice (some ⟨g, 0, none⟩) m c) m xs → w.heap.size + 2 < g → ((((w3.setCell ⟨w.heap.size + 1 + 1, 2, none⟩ (.slice (some ⟨w1.heap.size, 0, none⟩) ps.length ps.length)).setCell ⟨w.heap.size + 1, 0, none⟩ (.int .i64 i)).setCell ⟨w.heap.size + 1, 1, none⟩ (.slice (some ⟨w.heap.size + 3, 0, none⟩) os.length os.length)).setCell ⟨w.heap.size + 1, 2, none⟩ (.slice (some ⟨w1.heap.size, 0, none⟩) ps.length ps.length)).ownsRow base 9 1 (.slice (some ⟨g, 0, none⟩) m c) m xs := fun h hg =>
    ownsRow_setCell_other (ownsRow_setCell_other (ownsRow_setCell_other (ownsRow_setCell_other h (by simp [Value.ownBlock]; omega) _) (by simp [Value.ownBlock]; omega) _) (by simp [Value.ownBlock]; omega) _) (by simp [Value.ownBlock]; omega) _
  exact bodyPost_ret (v := .agg #[.int .i64 i, .slice (some ⟨w.heap.size + 3, 0, none⟩) os.length os.length, .slice (some ⟨w1.heap.size, 0, none⟩) ps.length ps.length]) (results_cell_row rfl _ _ (w.heap.size + 1) 31 _ (0, 0) _ rfl y4 Tryd.underlying31 rfl (by kernel_rfl)) rfl ⟨w.heap.size + 3, w1.heap.size, rfl, (rows O3.out (by omega)).mono (by omega), (rows Q3.out (by omega)).mono (by omega), (((B3.setCell (by simp; omega) _).setCell (by simp) _).setCell (by simp) _).setCell (by simp) _⟩

set_option maxRecDepth 100000 in
set_option maxHeartbeats 400000 in
theorem szSig_any (i : Int) (ao ap : Option Addr) (co cp : Nat) (os ps : List (List UInt8)) (w : World) (ho : os.length ≤ 9223372036854775807) (hom : ∀ l ∈ os, l.length ≤ 9223372036854775807) (hp : ps.length ≤ 9223372036854775807) (hpm : ∀ l ∈ ps, l.length ≤ 9223372036854775807) (hs : IsStrs w ao os) (hq : IsStrs w ap ps) :
    Calls Tryd.prog 51 #[.agg #[.int .i64 i, .slice ao os.length co, .slice ap ps.length cp], .int .i64 1048576] w fun e w' => (e = .returned (.int .i64 (-1)) ∨ (os.length + os.flatten.length + ps.length + ps.flatten.length ≤ 1048576 ∧ ∃ n : Nat, e = .returned (.int .i64 (n : Int)))) ∧ Below w.heap.size w w' := by
  obtain ⟨c0, c1, c2⟩ := three_cells (w := w) (.int .i64 i) (.slice ao os.length co) (.slice ap ps.length cp) 41
  have B1 : Below w.heap.size w (w.alloc (.cells #[.int .i64 i, .slice ao os.length co, .slice ap ps.length cp] 41)) := (Below.refl _ _).alloc (Nat.le_refl _) _
  have K1 := szS_gen ao co os 1048576 (w.alloc (.cells #[.int .i64 i, .slice ao os.length co, .slice ap ps.length cp] 41)) (by omega) ho hom (hs.later B1)
  have K2 := fun n hn => szS_gen ap cp ps n (w.alloc (.cells #[.int .i64 i, .slice ao os.length co, .slice ap ps.length cp] 41)) hn hp hpm (hq.later B1)
  clear hs hq hom hpm
  go_enter Tryd.func51, Tryd.ntmps51
  go_wp2_with fail
  refine K1.mono ?_
  rintro e w1 ⟨he, rfl⟩
  clear K1
  rcases he with rfl | ⟨hb, n, hn, hnn, rfl⟩
  · go_wp2
    go_ret
    exact ⟨.inl rfl, B1⟩
  · have HN : Hid (n + (os.length + os.flatten.length) = 1048576) := hnn
    have K3 := K2 n hn
    clear K2 hnn hb
    go_wp2_with fail
    refine K3.mono ?_
    rintro e w1 ⟨he, rfl⟩
    clear K3
    rcases he with rfl | ⟨hb, k, hk, hkk, rfl⟩
    · go_wp2
      go_ret
      exact ⟨.inl rfl, B1⟩
    · have HB : Hid (os.length + os.flatten.length + ps.length + ps.flatten.length ≤ 1048576) := by rw [Hid]; have := HN.out; omega
      clear hb hkk
      go_wp2
      go_ret
      exact ⟨.inr ⟨HB.out, k, rfl⟩, B1⟩

set_option maxRecDepth 100000 in
set_option maxHeartbeats 400000 in
theorem eqSig_same (i : Int) (u1 u2 v1 v2 : Option Addr) (m1 m2 n1 n2 c1 c2 d1 d2 : Nat) (os ps : List (List UInt8)) (b1 b2 b3 b4 : Nat) (w : World) (ho : os.length ≤ 16777216) (hp : ps.length ≤ 16777216) (h1 : w.ownsRow b1 9 1 (.slice u1 m1 c1) os.length (scells os)) (h2 : w.ownsRow b2 9 1 (.slice u2 m2 c2) ps.length (scells ps)) (h3 : w.ownsRow b3 9 1 (.slice v1 n1 d1) os.length (scells os)) (h4 : w.ownsRow b4 9 1 (.slice v2 n2 d2) ps.length (scells ps)) :
    Calls Tryd.prog 48 #[.agg #[.int .i64 i, .slice u1 m1 c1, .slice u2 m2 c2], .agg #[.int .i64 i, .slice v1 n1 d1, .slice v2 n2 d2]] w fun e w' => e = .returned (.bool true) ∧ Below w.heap.size w w' := by
  have HH : Hid (w.ownsRow b1 9 1 (.slice u1 m1 c1) os.length (scells os) ∧ w.ownsRow b2 9 1 (.slice u2 m2 c2) ps.length (scells ps) ∧ w.ownsRow b3 9 1 (.slice v1 n1 d1) os.length (scells os) ∧ w.ownsRow b4 9 1 (.slice v2 n2 d2) ps.length (scells ps)) := ⟨h1, h2, h3, h4⟩
  obtain ⟨wa, hwa⟩ : ∃ wa, wa = (w.alloc (.cells #[.int .i64 i, .slice u1 m1 c1, .slice u2 m2 c2] 31)).alloc (.cells #[.int .i64 i, .slice v1 n1 d1, .slice v2 n2 d2] 31) := ⟨_, rfl⟩
  have Ba : Below w.heap.size w wa := by rw [hwa]; exact ((Below.refl _ _).alloc (Nat.le_refl _) _).alloc (by simp) _
  have K1 := eqS_same os _ _ _ _ wa ho (keptO h1 Ba) (keptO h3 Ba)
  rw [hwa] at K1
  have e0 : wa.heap[w.heap.size]? = some (.cells #[.int .i64 i, .slice u1 m1 c1, .slice u2 m2 c2] 31 (0, 0)) := by rw [hwa, Below.heap_alloc _ _ _ (by simp)]; exact heap_alloc_new w _
  have e1 : wa.heap[w.heap.size + 1]? = some (.cells #[.int .i64 i, .slice v1 n1 d1, .slice v2 n2 d2] 31 (0, 0)) := by
    rw [hwa]
    have := heap_alloc_new (w.alloc (.cells #[.int .i64 i, .slice u1 m1 c1, .slice u2 m2 c2] 31)) (.cells #[.int .i64 i, .slice v1 n1 d1, .slice v2 n2 d2] 31)
    simpa using this
  clear h1 h2 h3 h4
  go_enter Tryd.func48, Tryd.ntmps48
  go_wp2_with fail
  refine K1.mono ?_
  rintro e w1 ⟨rfl, q, rfl⟩
  rw [← hwa]
  obtain ⟨_, _, p2, _⟩ := tri_cells e0
  obtain ⟨_, _, q2, _⟩ := tri_cells e1
  have Bq : Below w.heap.size w (wa.drewN q) := ⟨Ba.os, Ba.tape, Ba.output, Ba.size, Ba.block⟩
  have K2 := eqS_same ps (.slice u2 m2 c2) (.slice v2 n2 d2) _ _ (wa.drewN q) hp (keptO HH.out.2.1 Bq) (keptO HH.out.2.2.2 Bq)
  clear K1 hwa e0 e1
  go_wp2_with fail
  refine K2.mono ?_
  rintro e w2 ⟨rfl, q3, rfl⟩
  clear K2
  go_wp2
  go_ret
  exact ⟨rfl, Ba.os, Ba.tape, Ba.output, Ba.size, Ba.block⟩
end Go.Proofs.YtajckopldkmcnaaDoor
