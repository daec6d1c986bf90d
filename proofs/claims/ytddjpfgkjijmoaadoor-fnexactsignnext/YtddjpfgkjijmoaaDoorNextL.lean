/-
  Contracts of the laws' own helpers on signers and signatures: equal ones, marks laid, marks held.
-/
import Derived.Test.YtddjpfgkjijmoaaDoorILaw4
import Derived.Test.YtddjpfgkjijmoaaDoorSOk
namespace Go.Proofs.YtddjpfgkjijmoaaDoor
open Go.RowKit
set_option linter.unusedVariables false

set_option maxRecDepth 100000 in
theorem eqSigner_same (s : List UInt8) (n : Int) (w : World) :
    Calls Tryd.prog 24 #[.agg #[.string ⟨s.toArray⟩, .int .i64 n], .agg #[.string ⟨s.toArray⟩, .int .i64 n]] w fun e w' => e = .returned (.bool true) ∧ Below w.heap.size w w' := by
  go_enter Tryd.func24, Tryd.ntmps24
  go_wp2
  go_ret
  exact ⟨rfl, ((Below.refl _ _).alloc (Nat.le_refl _) _).alloc (by simp) _⟩

/-- Two rows of one call's own that lie apart, the first one marked. -/
theorem apart_kept {w w' : World} {b e n : Nat} {u v : Value} {xs : List Value} (h : w.ownsRow b e 1 v n xs) (hg : w.grownBy w' u.ownBlock) (hne : ∀ k, u.ownBlock = some k → v.ownBlock ≠ some k) : w'.ownsRow b e 1 v n xs :=
  h.kept hg (by
    cases hv : v.ownBlock with
    | none => exact .inl rfl
    | some j => exact .inr (fun e => hne j e.symm hv))

set_option maxRecDepth 100000 in
set_option maxHeartbeats 400000 in
theorem markSig_any (i : Int) (u1 u2 : Option Addr) (m1 m2 c1 c2 : Nat) (os ps : List (List UInt8)) (b1 b2 : Nat) (w : World) (ho : os.length ≤ 1000000) (hp : ps.length ≤ 1000000) (h1 : w.ownsRow b1 9 1 (.slice u1 m1 c1) os.length (scells os)) (h2 : w.ownsRow b2 9 1 (.slice u2 m2 c2) ps.length (scells ps)) (hne : ∀ k, (Value.slice u1 m1 c1).ownBlock = some k → (Value.slice u2 m2 c2).ownBlock ≠ some k) :
    Calls Tryd.prog 26 #[.agg #[.int .i64 i, .slice u1 m1 c1, .slice u2 m2 c2], .int .i64 1] w fun e w' => e = .returned (.int .i64 (1 + (os.length : Int) + (ps.length : Int))) ∧ w'.ownsRow b1 9 1 (.slice u1 m1 c1) os.length (scells (marks 1 os.length)) ∧ w'.ownsRow b2 9 1 (.slice u2 m2 c2) ps.length (scells (marks (1 + os.length) ps.length)) ∧ (∀ k, k < w.heap.size → (Value.slice u1 m1 c1).ownBlock ≠ some k → (Value.slice u2 m2 c2).ownBlock ≠ some k → w'.heap[k]? = w.heap[k]?) ∧ w.heap.size ≤ w'.heap.size ∧ w'.os = w.os ∧ w'.tape = w.tape ∧ w'.output = w.output := by
  have HH : Hid (w.ownsRow b1 9 1 (.slice u1 m1 c1) os.length (scells os) ∧ w.ownsRow b2 9 1 (.slice u2 m2 c2) ps.length (scells ps) ∧ ∀ k, (Value.slice u1 m1 c1).ownBlock = some k → (Value.slice u2 m2 c2).ownBlock ≠ some k) := ⟨h1, h2, hne⟩
  obtain ⟨wa, hwa⟩ : ∃ wa, wa = w.alloc (.cells #[.int .i64 i, .slice u1 m1 c1, .slice u2 m2 c2] 30) := ⟨_, rfl⟩
  have Ba : Below w.heap.size w wa := by rw [hwa]; exact (Below.refl _ _).alloc (Nat.le_refl _) _
  have sa : wa.heap.size = w.heap.size + 1 := by rw [hwa]; simp
  have K1 := markS_one os (.slice u1 m1 c1) b1 wa (by omega) (keptO h1 Ba)
  have e0 : wa.heap[w.heap.size]? = some (.cells #[.int .i64 i, .slice u1 m1 c1, .slice u2 m2 c2] 30 (0, 0)) := by rw [hwa]; exact heap_alloc_new w _
  rw [hwa] at K1
  have n1 : ∀ k, (Value.slice u1 m1 c1).ownBlock = some k → k < w.heap.size := fun k hk => (h1.lt k hk).2
  have n2 : ∀ k, (Value.slice u2 m2 c2).ownBlock = some k → k < w.heap.size := fun k hk => (h2.lt k hk).2
  have HN1 : Hid (∀ k, (Value.slice u1 m1 c1).ownBlock = some k → k < w.heap.size) := n1
  have HN2 : Hid (∀ k, (Value.slice u2 m2 c2).ownBlock = some k → k < w.heap.size) := n2
  clear h1 h2 hne n1 n2
  go_enter Tryd.func26, Tryd.ntmps26
  go_wp2_with fail
  refine K1.mono ?_
  rintro e w1 ⟨rfl, o1, G1⟩
  rw [← hwa] at G1
  have p0 := (G1.block w.heap.size (by omega) (fun e => by have := HN1.out _ e.symm; omega)).trans e0
  obtain ⟨_, _, c2', _⟩ := tri_cells p0
  have q2 : w1.ownsRow b2 9 1 (.slice u2 m2 c2) ps.length (scells ps) := apart_kept (keptO HH.out.2.1 Ba) G1 HH.out.2.2
  have K2 := markS_any ps (.slice u2 m2 c2) b2 (1 + os.length) w1 (by omega) (by omega) (by omega) q2
  rw [show (((1 + os.length : Nat)) : Int) = 1 + (os.length : Int) by omega] at K2
  have O1 := hidOwn o1
  have HG1 : Hid (wa.grownBy w1 (Value.slice u1 m1 c1).ownBlock) := G1
  clear K1 hwa q2 o1 G1 p0 e0
  go_wp2_with fail
  refine K2.mono ?_
  rintro e w2 ⟨rfl, o2, G2⟩
  have s1 := HG1.out.size
  have O2 := hidOwn o2
  have HG2 : Hid (w1.grownBy w2 (Value.slice u2 m2 c2).ownBlock) := G2
  clear o2 G2 K2
  go_wp2
  go_ret
  refine ⟨rfl, apart_kept O1.out HG2.out (fun k hk hj => HH.out.2.2 k hj hk), O2.out, fun k hk h1 h2 => ?_, by have := HG2.out.size; omega, HG2.out.os.trans (HG1.out.os.trans Ba.os), HG2.out.tape.trans (HG1.out.tape.trans Ba.tape), HG2.out.output.trans (HG1.out.output.trans Ba.output)⟩
  rw [HG2.out.block k (by omega) (fun e => h2 e.symm), HG1.out.block k (by omega) (fun e => h1 e.symm)]
  exact Ba.block k hk

set_option maxRecDepth 100000 in
set_option maxHeartbeats 400000 in
theorem heldSig_any (i : Int) (u1 u2 : Option Addr) (m1 m2 c1 c2 n1 n2 : Nat) (b1 b2 : Nat) (w : World) (ho : n1 ≤ 1000000) (hp : n2 ≤ 1000000) (h1 : w.ownsRow b1 9 1 (.slice u1 m1 c1) n1 (scells (marks 1 n1))) (h2 : w.ownsRow b2 9 1 (.slice u2 m2 c2) n2 (scells (marks (1 + n1) n2))) :
    Calls Tryd.prog 27 #[.agg #[.int .i64 i, .slice u1 m1 c1, .slice u2 m2 c2], .int .i64 1] w fun e w' => e = .returned (.int .i64 (1 + (n1 : Int) + (n2 : Int))) ∧ Below w.heap.size w w' := by
  have HH : Hid (w.ownsRow b2 9 1 (.slice u2 m2 c2) n2 (scells (marks (1 + n1) n2))) := h2
  obtain ⟨wa, hwa⟩ : ∃ wa, wa = w.alloc (.cells #[.int .i64 i, .slice u1 m1 c1, .slice u2 m2 c2] 30) := ⟨_, rfl⟩
  have Ba : Below w.heap.size w wa := by rw [hwa]; exact (Below.refl _ _).alloc (Nat.le_refl _) _
  have sa : wa.heap.size = w.heap.size + 1 := by rw [hwa]; simp
  have K1 := heldS_one n1 (.slice u1 m1 c1) b1 wa (by omega) (keptO h1 Ba)
  have e0 : wa.heap[w.heap.size]? = some (.cells #[.int .i64 i, .slice u1 m1 c1, .slice u2 m2 c2] 30 (0, 0)) := by rw [hwa]; exact heap_alloc_new w _
  rw [hwa] at K1
  have hk1 : ¬ (1 : Int) + (n1 : Int) < 0 := by omega
  have hk2 : ¬ (1 : Int) + (n1 : Int) + (n2 : Int) < 0 := by omega
  clear h1 h2
  go_enter Tryd.func27, Tryd.ntmps27
  go_wp2_with fail
  refine K1.mono ?_
  rintro e w1 ⟨rfl, G1⟩
  rw [← hwa] at G1
  have b1' := below_of_grown G1
  have B1 := Ba.trans (b1'.mono (by omega))
  have p0 := (b1'.block w.heap.size (by omega)).trans e0
  obtain ⟨_, _, c2', _⟩ := tri_cells p0
  have K2 := heldS_any n2 (.slice u2 m2 c2) b2 (1 + n1) w1 (by omega) (by omega) (by omega) (keptO HH.out B1)
  rw [show (((1 + n1 : Nat)) : Int) = 1 + (n1 : Int) by omega] at K2
  clear K1 hwa G1 b1' p0 e0
  go_wp2_with fail
  refine K2.mono ?_
  rintro e w2 ⟨rfl, G2⟩
  have b2' := below_of_grown G2
  have B2 := B1.trans (b2'.mono B1.size)
  clear K2 G2 b2'
  go_wp2
  go_ret
  exact ⟨rfl, B2⟩
end Go.Proofs.YtddjpfgkjijmoaaDoor
