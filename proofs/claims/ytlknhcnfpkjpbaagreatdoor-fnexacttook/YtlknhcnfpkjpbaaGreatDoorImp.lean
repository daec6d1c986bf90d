/-
  Imports: the laws' own helpers on them, ImportNew of both sides.
-/
import Derived.Test.YtlknhcnfpkjpbaaGreatDoorPairM
import Derived.OneCell
namespace Go.Proofs.YtlknhcnfpkjpbaaGreatDoor
open Go.RowKit
set_option linter.unusedVariables false

theorem im_cells {w : World} {b : Nat} {u v x : Value} {t : TypeId} (h : w.heap[b]? = some (.cells #[u, v, x] t (0, 0))) :
    w.cell? ⟨b, 0, none⟩ = some u ∧ w.cell? ⟨b, 1, none⟩ = some v ∧ w.cell? ⟨b, 2, none⟩ = some x ∧ ∀ j, w.frozen? ⟨b, j, none⟩ = false := by
  refine ⟨?_, ?_, ?_, fun j => frozen_of_row w b j _ t h⟩ <;> simp only [World.cell?, h] <;> rfl
theorem im_set {w : World} {b j : Nat} {u v x y : Value} {t : TypeId} (h : w.heap[b]? = some (.cells #[u, v, x] t (0, 0))) : (w.setCell ⟨b, j, none⟩ y).heap[b]? = some (.cells (#[u, v, x].setIfInBounds j y) t (0, 0)) := by
  have hlt := lt_of_block h
  have h' : w.heap[b] = .cells #[u, v, x] t (0, 0) := by simpa [Array.getElem?_eq_getElem hlt] using h
  show (w.heap.modify b _)[b]? = _
  rw [Array.getElem?_eq_getElem (by simpa using hlt), Array.getElem_modify_self, h']
  rfl
theorem results_im {P : Program} {fn : Func} {p r : Tmp} {ty : TypeId} (h : fn.results = #[.cell p ty, .tmp r]) (tmps : Array Value) (w : World) (g : Nat) (t : TypeId) (cs : Array Value) (d : TypeDesc)
    (hp : tmps.getD p undef = .pointer (some ⟨g, 0, none⟩)) (hg : w.heap[g]? = some (.cells cs t (0, 0))) (hu : P.underlying ty = some d) (hd : (match d with | .struct _ | .array _ _ => true | _ => false) = true) (hi : (P.info? ty).map (·.size) = some cs.size) (vb : Value) (hb : tmps.getD r undef = vb) :
    (results fn tmps).run P w = .ok (.tuple #[.agg cs, vb]) w := by
  subst hb
  have hp' : tmps[p]?.getD undef = .pointer (some ⟨g, 0, none⟩) := by simpa using hp
  simp [results, h, hp', asAddr, run_loadVar_row w g t ty cs (0, 0) d hg hu hd hi]

set_option maxRecDepth 100000 in
theorem eqImport_same (r : List UInt8) (d : Bool) (ps : List PairL) (a c : Option Addr) (n m : Nat) (w : World) (hl : ps.length ≤ 16777216) (hu : IsPairs w a ps) (hv : IsPairs w c ps) :
    Calls Tryz.prog 12 #[.agg #[.string ⟨r.toArray⟩, .slice a ps.length n, .bool d], .agg #[.string ⟨r.toArray⟩, .slice c ps.length m, .bool d]] w fun e w' => e = .returned (.bool true) ∧ Below w.heap.size w w' := by
  have B0 : Below w.heap.size w ((w.alloc (.cells #[.string ⟨r.toArray⟩, .slice a ps.length n, .bool d] 31)).alloc (.cells #[.string ⟨r.toArray⟩, .slice c ps.length m, .bool d] 31)) := ((Below.refl _ _).alloc (Nat.le_refl _) _).alloc (by simp) _
  have K := eqPairS_same ps a c n m ((w.alloc (.cells #[.string ⟨r.toArray⟩, .slice a ps.length n, .bool d] 31)).alloc (.cells #[.string ⟨r.toArray⟩, .slice c ps.length m, .bool d] 31)) hl (hu.later B0) (hv.later B0)
  have H1 : Hid (((w.alloc (.cells #[.string ⟨r.toArray⟩, .slice a ps.length n, .bool d] 31)).alloc (.cells #[.string ⟨r.toArray⟩, .slice c ps.length m, .bool d] 31)).heap[w.heap.size]? = some (.cells #[.string ⟨r.toArray⟩, .slice a ps.length n, .bool d] 31 (0, 0))) := by
    rw [Hid, Below.heap_alloc _ _ _ (by simp)]; exact heap_alloc_new _ _
  have H2 : Hid (((w.alloc (.cells #[.string ⟨r.toArray⟩, .slice a ps.length n, .bool d] 31)).alloc (.cells #[.string ⟨r.toArray⟩, .slice c ps.length m, .bool d] 31)).heap[w.heap.size + 1]? = some (.cells #[.string ⟨r.toArray⟩, .slice c ps.length m, .bool d] 31 (0, 0))) := by
    have := heap_alloc_new (w.alloc (.cells #[.string ⟨r.toArray⟩, .slice a ps.length n, .bool d] 31)) (.cells #[.string ⟨r.toArray⟩, .slice c ps.length m, .bool d] 31)
    rw [Hid]; simpa using this
  obtain ⟨p0, p1, p2, _⟩ := im_cells H1.out
  obtain ⟨q0, q1, q2, _⟩ := im_cells H2.out
  clear hu hv
  go_enter Tryz.func12, Tryz.ntmps12
  go_wp2_with fail
  refine K.mono ?_
  rintro e w1 ⟨rfl, b1⟩
  have B1 := B0.trans (b1.mono B0.size)
  obtain ⟨p0, p1, p2, _⟩ := im_cells ((b1.block w.heap.size (by simp; omega)).trans H1.out)
  obtain ⟨q0, q1, q2, _⟩ := im_cells ((b1.block (w.heap.size + 1) (by simp)).trans H2.out)
  clear K b1 H1 H2 B0
  go_wp2
  go_ret
  exact ⟨rfl, B1⟩

set_option maxRecDepth 100000 in
theorem markImport_any (r : List UInt8) (d : Bool) (ps : List PairL) (a : Option Addr) (m cap b1 k : Nat) (w : World) (hl : ps.length ≤ 4000000) (hk : 0 < k) (hk2 : k ≤ 4000000) (hv : w.ownsRow b1 70 2 (.slice a m cap) ps.length (pcells ps)) :
    Calls Tryz.prog 14 #[.agg #[.string ⟨r.toArray⟩, .slice a m cap, .bool d], .int .i64 k] w fun e w' => e = .returned (.int .i64 ((k : Int) + 2 * (ps.length : Int))) ∧ w'.ownsRow b1 70 2 (.slice a m cap) ps.length (pcells (marksP k ps.length)) ∧ w.grownBy w' (Value.slice a m cap).ownBlock := by
  have B0 : Below w.heap.size w (w.alloc (.cells #[.string ⟨r.toArray⟩, .slice a m cap, .bool d] 31)) := (Below.refl _ _).alloc (Nat.le_refl _) _
  have K := markPairS_any ps a m cap b1 k (w.alloc (.cells #[.string ⟨r.toArray⟩, .slice a m cap, .bool d] 31)) hl hk hk2 (kept2 hv B0)
  have G0 : Hid (w.grownBy (w.alloc (.cells #[.string ⟨r.toArray⟩, .slice a m cap, .bool d] 31)) (Value.slice a m cap).ownBlock) := grown_of_below B0 _
  obtain ⟨p0, p1, p2, _⟩ := im_cells (heap_alloc_new w (.cells #[.string ⟨r.toArray⟩, .slice a m cap, .bool d] 31))
  clear hv
  go_enter Tryz.func14, Tryz.ntmps14
  go_wp2_with fail
  refine K.mono ?_
  rintro e w1 ⟨rfl, o1, g1⟩
  have O1 := hidOwn o1
  have G1 : Hid (w.grownBy w1 (Value.slice a m cap).ownBlock) := G0.out.trans g1
  clear K o1 g1 G0 B0 p0 p1 p2
  go_wp2
  go_ret
  exact ⟨rfl, O1.out, G1.out⟩

set_option maxRecDepth 100000 in
theorem heldImport_any (r : List UInt8) (d : Bool) (n : Nat) (a : Option Addr) (m cap b1 k : Nat) (w : World) (hl : n ≤ 4000000) (hk : 0 < k) (hk2 : k ≤ 4000000) (hv : w.ownsRow b1 70 2 (.slice a m cap) n (pcells (marksP k n))) :
    Calls Tryz.prog 16 #[.agg #[.string ⟨r.toArray⟩, .slice a m cap, .bool d], .int .i64 k] w fun e w' => e = .returned (.int .i64 ((k : Int) + 2 * (n : Int))) ∧ Below w.heap.size w w' := by
  have B0 : Below w.heap.size w (w.alloc (.cells #[.string ⟨r.toArray⟩, .slice a m cap, .bool d] 31)) := (Below.refl _ _).alloc (Nat.le_refl _) _
  have K := heldPairS_any n a m cap b1 k (w.alloc (.cells #[.string ⟨r.toArray⟩, .slice a m cap, .bool d] 31)) hl hk hk2 (kept2 hv B0)
  obtain ⟨p0, p1, p2, _⟩ := im_cells (heap_alloc_new w (.cells #[.string ⟨r.toArray⟩, .slice a m cap, .bool d] 31))
  have hq0 : ¬ (k : Int) + 2 * (n : Int) < 0 := by omega
  clear hv
  go_enter Tryz.func16, Tryz.ntmps16
  go_wp2_with fail
  refine K.mono ?_
  rintro e w1 ⟨rfl, g1⟩
  have B1 := B0.trans ((below_of_grown g1).mono B0.size)
  clear K g1 B0 p0 p1 p2
  go_wp2
  go_ret
  exact ⟨rfl, B1⟩

set_option maxRecDepth 100000 in
theorem spec_importNew (r : List UInt8) (w : World) (hr : r.length ≤ 1048576) :
    Calls Tryz.prog 66 #[.string ⟨r.toArray⟩] w fun e w' => e = .returned (.tuple #[.agg #[.string ⟨(if r.length = 32 then r else []).toArray⟩, .slice none 0 0, .bool false], .bool (decide (r.length = 32))]) ∧ Below w.heap.size w w' := by
  have z0 := heap_alloc_new w (.cells #[.string ⟨#[]⟩, .slice none 0 0, .bool false] 31)
  have Ba : Below w.heap.size w (w.alloc (.cells #[.string ⟨#[]⟩, .slice none 0 0, .bool false] 31)) := (Below.refl w.heap.size w).alloc (Nat.le_refl _) _
  obtain ⟨_, _, _, z4⟩ := im_cells z0
  by_cases h : r.length = 32
  · have h' : (r.length : Int) = 32 := by omega
    have HZ : Hid ((if r.length = 32 then r else []) = r ∧ decide (r.length = 32) = true) := ⟨if_pos h, decide_eq_true h⟩
    go_enter Tryz.func66, Tryz.ntmps66
    go_wp2
    exact bodyPost_ret (v := .tuple #[.agg #[.string ⟨r.toArray⟩, .slice none 0 0, .bool false], .bool true]) (results_im rfl _ _ w.heap.size 31 _ _ rfl (heap_alloc_new _ _) Tryz.underlying31 rfl (by kernel_rfl) _ rfl) rfl ⟨rfl, (Below.refl _ _).alloc (Nat.le_refl _) _⟩
  · have h' : ¬ (r.length : Int) = 32 := by omega
    have HZ : Hid ((if r.length = 32 then r else []) = [] ∧ decide (r.length = 32) = false) := ⟨if_neg h, decide_eq_false h⟩
    go_enter Tryz.func66, Tryz.ntmps66
    go_wp2
    exact bodyPost_ret (v := .tuple #[.agg #[.string ⟨#[]⟩, .slice none 0 0, .bool false], .bool false]) (results_im rfl _ _ w.heap.size 31 _ _ rfl (heap_alloc_new _ _) Tryz.underlying31 rfl (by kernel_rfl) _ rfl) rfl ⟨rfl, (Below.refl _ _).alloc (Nat.le_refl _) _⟩

set_option maxRecDepth 100000 in
theorem impl_importNew (r : List UInt8) (w : World) (hr : r.length ≤ 1048576) :
    Calls Tryz.prog 27 #[.string ⟨r.toArray⟩] w fun e w' => e = .returned (.tuple #[.agg #[.string ⟨(if r.length = 32 then r else []).toArray⟩, .slice none 0 0, .bool false], .bool (decide (r.length = 32))]) ∧ Below w.heap.size w w' := by
  have z0 := heap_alloc_new w (.cells #[.string ⟨#[]⟩, .slice none 0 0, .bool false] 31)
  have Ba : Below w.heap.size w (w.alloc (.cells #[.string ⟨#[]⟩, .slice none 0 0, .bool false] 31)) := (Below.refl w.heap.size w).alloc (Nat.le_refl _) _
  obtain ⟨_, _, _, z4⟩ := im_cells z0
  by_cases h : r.length = 32
  · have h' : (r.length : Int) = 32 := by omega
    have HZ : Hid ((if r.length = 32 then r else []) = r ∧ decide (r.length = 32) = true) := ⟨if_pos h, decide_eq_true h⟩
    go_enter Tryz.func27, Tryz.ntmps27
    go_wp2
    exact bodyPost_ret (v := .tuple #[.agg #[.string ⟨r.toArray⟩, .slice none 0 0, .bool false], .bool true]) (results_im rfl _ _ w.heap.size 31 _ _ rfl (heap_alloc_new _ _) Tryz.underlying31 rfl (by kernel_rfl) _ rfl) rfl ⟨rfl, (Below.refl _ _).alloc (Nat.le_refl _) _⟩
  · have h' : ¬ (r.length : Int) = 32 := by omega
    have HZ : Hid ((if r.length = 32 then r else []) = [] ∧ decide (r.length = 32) = false) := ⟨if_neg h, decide_eq_false h⟩
    go_enter Tryz.func27, Tryz.ntmps27
    go_wp2
    exact bodyPost_ret (v := .tuple #[.agg #[.string ⟨#[]⟩, .slice none 0 0, .bool false], .bool false]) (results_im rfl _ _ w.heap.size 31 _ _ rfl (heap_alloc_new _ _) Tryz.underlying31 rfl (by kernel_rfl) _ rfl) rfl ⟨rfl, (Below.refl _ _).alloc (Nat.le_refl _) _⟩
end Go.Proofs.YtlknhcnfpkjpbaaGreatDoor
