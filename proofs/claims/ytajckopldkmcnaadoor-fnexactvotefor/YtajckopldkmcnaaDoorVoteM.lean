/-
  Contracts of the laws' own helpers on votes: marks laid, marks held (written by mkvotem.py).
-/
import Derived.Test.YtajckopldkmcnaaDoorVoteL
import Derived.Test.YtajckopldkmcnaaDoorNextAll
namespace Go.Proofs.YtajckopldkmcnaaDoor
open Go.RowKit
set_option linter.unusedVariables false

set_option maxRecDepth 100000 in
set_option maxHeartbeats 400000 in
theorem markVote_any (nd i : Int) (u1 u2 : Option Addr) (m1 m2 c1 c2 : Nat) (os ps : List (List UInt8)) (b1 b2 : Nat) (w : World) (ho : os.length ≤ 1000000) (hp : ps.length ≤ 1000000) (h1 : w.ownsRow b1 9 1 (.slice u1 m1 c1) os.length (scells os)) (h2 : w.ownsRow b2 9 1 (.slice u2 m2 c2) ps.length (scells ps)) (hne : ∀ k, (Value.slice u1 m1 c1).ownBlock = some k → (Value.slice u2 m2 c2).ownBlock ≠ some k) :
    Calls Tryd.prog 17 #[.agg #[.int .i64 nd, .int .i64 i, .slice u1 m1 c1, .slice u2 m2 c2], .int .i64 1] w fun e w' => e = .returned (.int .i64 (1 + (os.length : Int) + (ps.length : Int))) ∧ w'.ownsRow b1 9 1 (.slice u1 m1 c1) os.length (scells (marks 1 os.length)) ∧ w'.ownsRow b2 9 1 (.slice u2 m2 c2) ps.length (scells (marks (1 + os.length) ps.length)) ∧ (∀ k, k < w.heap.size → (Value.slice u1 m1 c1).ownBlock ≠ some k → (Value.slice u2 m2 c2).ownBlock ≠ some k → w'.heap[k]? = w.heap[k]?) ∧ w.heap.size ≤ w'.heap.size ∧ w'.os = w.os ∧ w'.tape = w.tape ∧ w'.output = w.output := by
  have Ba : Below w.heap.size w (w.alloc (.cells #[.int .i64 nd, .int .i64 i, .slice u1 m1 c1, .slice u2 m2 c2] 33)) := (Below.refl _ _).alloc (Nat.le_refl _) _
  have K := markSig_any i u1 u2 m1 m2 c1 c2 os ps b1 b2 (w.alloc (.cells #[.int .i64 nd, .int .i64 i, .slice u1 m1 c1, .slice u2 m2 c2] 33)) ho hp (keptO h1 Ba) (keptO h2 Ba) hne
  obtain ⟨t0, t1, t2, t3, _⟩ := vq_cells (heap_alloc_new w (.cells #[.int .i64 nd, .int .i64 i, .slice u1 m1 c1, .slice u2 m2 c2] 33))
  have sa : (w.alloc (.cells #[.int .i64 nd, .int .i64 i, .slice u1 m1 c1, .slice u2 m2 c2] 33)).heap.size = w.heap.size + 1 := by simp
  clear h1 h2 hne
  go_enter Tryd.func17, Tryd.ntmps17
  go_wp2_with fail
  refine K.mono ?_
  rintro e w1 ⟨rfl, o1, o2, hk, hsz, h4, h5, h6⟩
  have O1 := hidOwn o1
  have O2 := hidOwn o2
  have HK : Hid (∀ k, k < w.heap.size → (Value.slice u1 m1 c1).ownBlock ≠ some k → (Value.slice u2 m2 c2).ownBlock ≠ some k → w1.heap[k]? = w.heap[k]?) := fun k h x y => (hk k (by omega) x y).trans (Ba.block k h)
  have HR : Hid (w.heap.size ≤ w1.heap.size ∧ w1.os = w.os ∧ w1.tape = w.tape ∧ w1.output = w.output) := ⟨by omega, h4.trans Ba.os, h5.trans Ba.tape, h6.trans Ba.output⟩
  clear K hk hsz h4 h5 h6 o1 o2 t0 t1 t2 t3
  go_wp2
  go_ret
  exact ⟨rfl, O1.out, O2.out, HK.out, HR.out.1, HR.out.2.1, HR.out.2.2.1, HR.out.2.2.2⟩

set_option maxRecDepth 100000 in
set_option maxHeartbeats 400000 in
theorem heldVote_any (nd i : Int) (u1 u2 : Option Addr) (m1 m2 c1 c2 n1 n2 : Nat) (b1 b2 : Nat) (w : World) (ho : n1 ≤ 1000000) (hp : n2 ≤ 1000000) (h1 : w.ownsRow b1 9 1 (.slice u1 m1 c1) n1 (scells (marks 1 n1))) (h2 : w.ownsRow b2 9 1 (.slice u2 m2 c2) n2 (scells (marks (1 + n1) n2))) :
    Calls Tryd.prog 18 #[.agg #[.int .i64 nd, .int .i64 i, .slice u1 m1 c1, .slice u2 m2 c2], .int .i64 1] w fun e w' => e = .returned (.int .i64 (1 + (n1 : Int) + (n2 : Int))) ∧ Below w.heap.size w w' := by
  have Ba : Below w.heap.size w (w.alloc (.cells #[.int .i64 nd, .int .i64 i, .slice u1 m1 c1, .slice u2 m2 c2] 33)) := (Below.refl _ _).alloc (Nat.le_refl _) _
  have K := heldSig_any i u1 u2 m1 m2 c1 c2 n1 n2 b1 b2 (w.alloc (.cells #[.int .i64 nd, .int .i64 i, .slice u1 m1 c1, .slice u2 m2 c2] 33)) ho hp (keptO h1 Ba) (keptO h2 Ba)
  obtain ⟨t0, t1, t2, t3, _⟩ := vq_cells (heap_alloc_new w (.cells #[.int .i64 nd, .int .i64 i, .slice u1 m1 c1, .slice u2 m2 c2] 33))
  have hk2 : ¬ (1 : Int) + (n1 : Int) + (n2 : Int) < 0 := by omega
  clear h1 h2
  go_enter Tryd.func18, Tryd.ntmps18
  go_wp2_with fail
  refine K.mono ?_
  rintro e w1 ⟨rfl, b1⟩
  have B1 := Ba.trans (b1.mono (by simp))
  clear K b1 t0 t1 t2 t3
  go_wp2
  go_ret
  exact ⟨rfl, B1⟩
end Go.Proofs.YtajckopldkmcnaaDoor
