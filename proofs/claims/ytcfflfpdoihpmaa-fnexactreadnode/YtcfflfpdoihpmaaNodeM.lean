/-
  Contracts of the laws' own helpers on nodes: marks laid and held (written by mkrbown.py).
-/
import Derived.Test.YtcfflfpdoihpmaaLNode
namespace Go.Proofs.Ytcfflfpdoihpmaa
open Go.RowKit
set_option linter.unusedVariables false

theorem grown_alloc (w : World) (o : Obj) (x : Option Nat) : w.grownBy (w.alloc o) x := grown_of_below ((Below.refl _ _).alloc (Nat.le_refl _) _) x

set_option maxRecDepth 100000 in
set_option maxHeartbeats 400000 in
theorem markNode_one (c : Int) (n vv : List UInt8) (ps : List (List UInt8)) (a : Option Addr) (m cap b1 : Nat) (w : World) (hl : ps.length ≤ 4000000) (hv : w.ownsRow b1 9 1 (.slice a m cap) ps.length (scells ps)) :
    Calls Try.prog 20 #[.agg #[.int .i64 c, .string ⟨n.toArray⟩, (.slice a m cap), .string ⟨vv.toArray⟩], .int .i64 1] w fun e w' => e = .returned (.int .i64 (1 + (ps.length : Int))) ∧ w'.ownsRow b1 9 1 (.slice a m cap) ps.length (scells (marks 1 ps.length)) ∧ w.grownBy w' (Value.slice a m cap).ownBlock := by
  have K := markS_one ps (.slice a m cap) b1 (w.alloc (.cells #[.int .i64 c, .string ⟨n.toArray⟩, (.slice a m cap), .string ⟨vv.toArray⟩] 26)) (by omega) (hv.alloc _)
  have G : Hid (w.grownBy (w.alloc (.cells #[.int .i64 c, .string ⟨n.toArray⟩, (.slice a m cap), .string ⟨vv.toArray⟩] 26)) (Value.slice a m cap).ownBlock) := grown_alloc _ _ _
  clear hv
  go_enter Try.func20, Try.ntmps20
  go_wp2_with fail
  refine K.mono ?_
  rintro e w1 ⟨rfl, o1, g1⟩
  have O1 := hidOwn o1
  have G1 : Hid (w.grownBy w1 (Value.slice a m cap).ownBlock) := G.out.trans g1
  clear K o1 g1
  go_wp2
  go_ret
  exact ⟨rfl, O1.out, G1.out⟩

set_option maxRecDepth 100000 in
set_option maxHeartbeats 400000 in
theorem heldNode_one (c : Int) (n vv : List UInt8) (k : Nat) (a : Option Addr) (m cap b1 : Nat) (w : World) (hl : k ≤ 4000000) (hv : w.ownsRow b1 9 1 (.slice a m cap) k (scells (marks 1 k))) :
    Calls Try.prog 21 #[.agg #[.int .i64 c, .string ⟨n.toArray⟩, (.slice a m cap), .string ⟨vv.toArray⟩], .int .i64 1] w fun e w' => e = .returned (.int .i64 (1 + (k : Int))) ∧ w.grownBy w' none := by
  have K := heldS_one k (.slice a m cap) b1 (w.alloc (.cells #[.int .i64 c, .string ⟨n.toArray⟩, (.slice a m cap), .string ⟨vv.toArray⟩] 26)) (by omega) (hv.alloc _)
  have G : Hid (w.grownBy (w.alloc (.cells #[.int .i64 c, .string ⟨n.toArray⟩, (.slice a m cap), .string ⟨vv.toArray⟩] 26)) none) := grown_alloc _ _ _
  have hk0 : ¬ (1 : Int) + (k : Int) < 0 := by omega
  have hkb : decide ((1 : Int) + (k : Int) < 0) = false := decide_eq_false hk0
  clear hv
  go_enter Try.func21, Try.ntmps21
  go_wp2_with fail
  refine K.mono ?_
  rintro e w1 ⟨rfl, g1⟩
  have G1 : Hid (w.grownBy w1 none) := G.out.trans g1
  clear K g1
  go_wp2
  go_ret
  exact ⟨rfl, G1.out⟩
end Go.Proofs.Ytcfflfpdoihpmaa
