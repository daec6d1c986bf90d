/-
  Contracts of the laws' own helpers on one chunk: its size, its copy, equal chunks, marks laid.
-/
import Derived.Test.YtlknhcnfpkjpbaaGreatDoorImpO
namespace Go.Proofs.YtlknhcnfpkjpbaaGreatDoor
open Go.ChangeShapes Go.WideShapes Go.ChangeAt Go.RowKit
set_option linter.unusedVariables false

set_option maxRecDepth 100000 in
theorem chunk_of {H : Type} {enc : TypeId × Value → H} {W : World} {r : Reach} {b0 : Nat} {v : Value} {d : DataW H} {p : List MemPlace} (hv : Value.okWide Tryz.prog W r b0 26 v) (h : DataW.Trod enc Tryz.prog W 0 (fun _ => true) true 26 v d p) :
    ∃ (f l : Bool) (a : Option Addr) (cap : Nat) (ps : List PairL), v = .agg #[.bool f, .bool l, .slice a ps.length cap] ∧ (∀ p ∈ ps, p.1.length ≤ 9223372036854775807 ∧ p.2.length ≤ 9223372036854775807) ∧ IsPairs W a ps ∧ ps.length ≤ 9223372036854775807 := by
  obtain ⟨u0, u1, u2, y0, y1, y2, n, rfl, _, _, t0, t1, t2⟩ := Go.Joins.open_agg3 Tryz.underlying26 (by kernel_rfl) (by kernel_rfl) hv h
  obtain ⟨f, hf, _⟩ := DataW.trod_bool Tryz.underlying4 t0
  obtain ⟨l, hl, _⟩ := DataW.trod_bool Tryz.underlying4 t1
  obtain ⟨a, ps, cap, rfl, m2, i2, l2⟩ := pairs_of t2
  simp at hf hl
  subst hf hl
  exact ⟨f, l, a, cap, ps, rfl, m2, i2, l2⟩

set_option maxRecDepth 100000 in
set_option maxHeartbeats 1000000 in
theorem szChunk_any (L : Nat) (hL : L ≤ 1048576) (f d : Bool) (a : Option Addr) (cap : Nat) (ps : List PairL) (w : World) (hl : ps.length ≤ 9223372036854775807) (hm : ∀ p ∈ ps, p.1.length ≤ 9223372036854775807 ∧ p.2.length ≤ 9223372036854775807) (hs : IsPairs w a ps) :
    Calls Tryz.prog 7 #[.agg #[.bool f, .bool d, .slice a ps.length cap], .int .i64 (L : Int)] w fun e w' => (e = .returned (.int .i64 (-1)) ∨ (ps.length + sizeP ps ≤ L ∧ ∃ n : Nat, n ≤ L ∧ e = .returned (.int .i64 (n : Int)))) ∧ Below w.heap.size w w' := by
  have B0 : Below w.heap.size w (w.alloc (.cells #[.bool f, .bool d, .slice a ps.length cap] 26)) := (Below.refl _ _).alloc (Nat.le_refl _) _
  obtain ⟨p0, p1, p2, _⟩ := im_cells (heap_alloc_new w (.cells #[.bool f, .bool d, .slice a ps.length cap] 26))
  have K := szPairS_gen L hL a cap ps _ hl hm (hs.later B0)
  clear hs hm
  go_enter Tryz.func7, Tryz.ntmps7
  go_wp2_with fail
  refine K.mono ?_
  rintro e w1 ⟨he, b1⟩
  have B1 := B0.trans (b1.mono B0.size)
  rcases he with rfl | ⟨hsz, n, hn, rfl⟩
  · go_wp2
    go_ret
    exact ⟨.inl rfl, B1⟩
  · have HS : Hid (ps.length + sizeP ps ≤ L ∧ n ≤ L) := ⟨hsz, hn⟩
    clear hsz hn K
    go_wp2
    go_ret
    exact ⟨.inr ⟨HS.out.1, n, HS.out.2, rfl⟩, B1⟩

set_option maxRecDepth 100000 in
set_option maxHeartbeats 2000000 in
theorem toChunk_any (f d : Bool) (a : Option Addr) (cap : Nat) (ps : List PairL) (w : World) (hl : ps.length ≤ 1048576) (hs : IsPairs w a ps) :
    Calls Tryz.prog 10 #[.agg #[.bool f, .bool d, .slice a ps.length cap]] w fun e w' => ∃ g : Nat, e = .returned (.agg #[.bool f, .bool d, (.slice (some ⟨g, 0, none⟩) ps.length ps.length)]) ∧ w'.ownsRow w.heap.size 70 2 (.slice (some ⟨g, 0, none⟩) ps.length ps.length) ps.length (pcells ps) ∧ Below w.heap.size w w' := by
  obtain ⟨wa, hwa⟩ : ∃ wa, wa = ((w.alloc (.cells #[.bool f, .bool d, .slice a ps.length cap] 26)).alloc (.cells #[.bool false, .bool false, .slice none 0 0] 36)).alloc (.cells #[.bool f, .bool d, .slice none 0 0] 36) := ⟨_, rfl⟩
  have Ba : Below w.heap.size w wa := by rw [hwa]; exact (((Below.refl _ _).alloc (Nat.le_refl _) _).alloc (by simp) _).alloc (by simp; omega) _
  have sa : wa.heap.size = w.heap.size + 3 := by rw [hwa]; simp
  have a1 : wa.heap[w.heap.size + 1]? = some (.cells #[.bool false, .bool false, .slice none 0 0] 36 (0, 0)) := by
    rw [hwa, Below.heap_alloc _ _ _ (by simp)]
    have := heap_alloc_new (w.alloc (.cells #[.bool f, .bool d, .slice a ps.length cap] 26)) (.cells #[.bool false, .bool false, .slice none 0 0] 36)
    simpa using this
  have a2 : wa.heap[w.heap.size + 2]? = some (.cells #[.bool f, .bool d, .slice none 0 0] 36 (0, 0)) := by
    rw [hwa]
    have := heap_alloc_new ((w.alloc (.cells #[.bool f, .bool d, .slice a ps.length cap] 26)).alloc (.cells #[.bool false, .bool false, .slice none 0 0] 36)) (.cells #[.bool f, .bool d, .slice none 0 0] 36)
    rw [show ((w.alloc (.cells #[.bool f, .bool d, .slice a ps.length cap] 26)).alloc (.cells #[.bool false, .bool false, .slice none 0 0] 36)).heap.size = w.heap.size + 2 by simp] at this
    exact this
  have K1 := toPairS_any a cap ps wa hl (hs.later Ba)
  rw [sa] at K1
  rw [hwa] at K1
  clear hs
  go_enter Tryz.func10, Tryz.ntmps10
  go_wp2_with fail
  refine K1.mono ?_
  rintro e w1 ⟨rfl, o1, b1⟩
  rw [← hwa] at b1
  clear K1 hwa
  have hb1 : Below wa.heap.size wa w1 := by rw [sa]; exact b1
  have B1 := Ba.trans (hb1.mono (by omega))
  have e1 := (hb1.block (w.heap.size + 1) (by omega)).trans a1
  have e2 := (hb1.block (w.heap.size + 2) (by omega)).trans a2
  have O1 := hidOwn o1
  have s1 : w.heap.size + 3 < w1.heap.size := by have := own_lt o1; omega
  obtain ⟨r0, r1, r2, rf⟩ := im_cells e2
  obtain ⟨q0, q1, q2, qf⟩ := im_cells e1
  have rf2 := rf 2
  have qf0 := qf 0
  have qf1 := qf 1
  have qf2 := qf 2
  clear a1 a2 b1 hb1 Ba rf qf o1 sa
  have k1 : (w1.setCell ⟨w.heap.size + 1 + 1, 2, none⟩ (.slice (some ⟨w.heap.size + 3, 0, none⟩) ps.length ps.length)).heap[w.heap.size + 1]? = _ := (Below.heap_setCell _ _ _ _ (by simp)).trans e1
  have y2 := im_set (j := 0) (y := .bool f) k1
  have y3 := im_set (j := 1) (y := .bool d) y2
  have y4 := im_set (j := 2) (y := (.slice (some ⟨w.heap.size + 3, 0, none⟩) ps.length ps.length)) y3
  have HY : Hid (_ = _) := y4
  have HR : Hid (((((w1.setCell ⟨w.heap.size + 1 + 1, 2, none⟩ (.slice (some ⟨w.heap.size + 3, 0, none⟩) ps.length ps.length)).setCell ⟨w.heap.size + 1, 0, none⟩ (.bool f)).setCell ⟨w.heap.size + 1, 1, none⟩ (.bool d)).setCell ⟨w.heap.size + 1, 2, none⟩ (.slice (some ⟨w.heap.size + 3, 0, none⟩) ps.length ps.length)).ownsRow w.heap.size 70 2 (.slice (some ⟨w.heap.size + 3, 0, none⟩) ps.length ps.length) ps.length (pcells ps)) :=
    ownsRow_setCell_other (ownsRow_setCell_other (ownsRow_setCell_other (ownsRow_setCell_other (O1.out.mono (by omega)) (by simp [Value.ownBlock]) _) (by simp [Value.ownBlock]) _) (by simp [Value.ownBlock]) _) (by simp [Value.ownBlock]) _
  have HBB : Hid (Below w.heap.size w ((((w1.setCell ⟨w.heap.size + 1 + 1, 2, none⟩ (.slice (some ⟨w.heap.size + 3, 0, none⟩) ps.length ps.length)).setCell ⟨w.heap.size + 1, 0, none⟩ (.bool f)).setCell ⟨w.heap.size + 1, 1, none⟩ (.bool d)).setCell ⟨w.heap.size + 1, 2, none⟩ (.slice (some ⟨w.heap.size + 3, 0, none⟩) ps.length ps.length))) :=
    (((B1.setCell (by simp; omega) _).setCell (by simp) _).setCell (by simp) _).setCell (by simp) _
  clear e1 e2 k1 y2 y3 y4
  go_wp2
  exact bodyPost_ret (v := .agg #[.bool f, .bool d, (.slice (some ⟨w.heap.size + 3, 0, none⟩) ps.length ps.length)]) (results_cell_row rfl _ _ (w.heap.size + 1) 36 _ (0, 0) _ rfl HY.out Tryz.underlying36 rfl (by kernel_rfl)) rfl ⟨_, rfl, HR.out, HBB.out⟩

set_option maxRecDepth 100000 in
theorem eqChunk_same (f d : Bool) (ps : List PairL) (a c : Option Addr) (n m : Nat) (w : World) (hl : ps.length ≤ 16777216) (hu : IsPairs w a ps) (hv : IsPairs w c ps) :
    Calls Tryz.prog 13 #[.agg #[.bool f, .bool d, .slice a ps.length n], .agg #[.bool f, .bool d, .slice c ps.length m]] w fun e w' => e = .returned (.bool true) ∧ Below w.heap.size w w' := by
  have B0 : Below w.heap.size w ((w.alloc (.cells #[.bool f, .bool d, .slice a ps.length n] 36)).alloc (.cells #[.bool f, .bool d, .slice c ps.length m] 36)) := ((Below.refl _ _).alloc (Nat.le_refl _) _).alloc (by simp) _
  have K := eqPairS_same ps a c n m ((w.alloc (.cells #[.bool f, .bool d, .slice a ps.length n] 36)).alloc (.cells #[.bool f, .bool d, .slice c ps.length m] 36)) hl (hu.later B0) (hv.later B0)
  have H1 : Hid (((w.alloc (.cells #[.bool f, .bool d, .slice a ps.length n] 36)).alloc (.cells #[.bool f, .bool d, .slice c ps.length m] 36)).heap[w.heap.size]? = some (.cells #[.bool f, .bool d, .slice a ps.length n] 36 (0, 0))) := by
    rw [Hid, Below.heap_alloc _ _ _ (by simp)]; exact heap_alloc_new _ _
  have H2 : Hid (((w.alloc (.cells #[.bool f, .bool d, .slice a ps.length n] 36)).alloc (.cells #[.bool f, .bool d, .slice c ps.length m] 36)).heap[w.heap.size + 1]? = some (.cells #[.bool f, .bool d, .slice c ps.length m] 36 (0, 0))) := by
    have := heap_alloc_new (w.alloc (.cells #[.bool f, .bool d, .slice a ps.length n] 36)) (.cells #[.bool f, .bool d, .slice c ps.length m] 36)
    rw [Hid]; simpa using this
  obtain ⟨p0, p1, p2, _⟩ := im_cells H1.out
  obtain ⟨q0, q1, q2, _⟩ := im_cells H2.out
  clear hu hv
  go_enter Tryz.func13, Tryz.ntmps13
  go_wp2_with fail
  refine K.mono ?_
  rintro e w1 ⟨rfl, b1⟩
  have B1 := B0.trans (b1.mono B0.size)
  clear K b1 H1 H2 B0 p0 p1 p2 q0 q1 q2
  go_wp2
  go_ret
  exact ⟨rfl, B1⟩

set_option maxRecDepth 100000 in
theorem markChunk_any (f d : Bool) (ps : List PairL) (a : Option Addr) (m cap b1 k : Nat) (w : World) (hl : ps.length ≤ 4000000) (hk : 0 < k) (hk2 : k ≤ 4000000) (hv : w.ownsRow b1 70 2 (.slice a m cap) ps.length (pcells ps)) :
    Calls Tryz.prog 15 #[.agg #[.bool f, .bool d, .slice a m cap], .int .i64 k] w fun e w' => e = .returned (.int .i64 ((k : Int) + 2 * (ps.length : Int))) ∧ w'.ownsRow b1 70 2 (.slice a m cap) ps.length (pcells (marksP k ps.length)) ∧ w.grownBy w' (Value.slice a m cap).ownBlock := by
  have B0 : Below w.heap.size w (w.alloc (.cells #[.bool f, .bool d, .slice a m cap] 36)) := (Below.refl _ _).alloc (Nat.le_refl _) _
  have K := markPairS_any ps a m cap b1 k (w.alloc (.cells #[.bool f, .bool d, .slice a m cap] 36)) hl hk hk2 (kept2 hv B0)
  have G0 : Hid (w.grownBy (w.alloc (.cells #[.bool f, .bool d, .slice a m cap] 36)) (Value.slice a m cap).ownBlock) := grown_of_below B0 _
  obtain ⟨p0, p1, p2, _⟩ := im_cells (heap_alloc_new w (.cells #[.bool f, .bool d, .slice a m cap] 36))
  clear hv
  go_enter Tryz.func15, Tryz.ntmps15
  go_wp2_with fail
  refine K.mono ?_
  rintro e w1 ⟨rfl, o1, g1⟩
  have O1 := hidOwn o1
  have G1 : Hid (w.grownBy w1 (Value.slice a m cap).ownBlock) := G0.out.trans g1
  clear K o1 g1 G0 B0 p0 p1 p2
  go_wp2
  go_ret
  exact ⟨rfl, O1.out, G1.out⟩
end Go.Proofs.YtlknhcnfpkjpbaaGreatDoor
