/-
  Contracts: what VoteFor answers at every signer, node, index and root, of both sides (written by mkvotefor.py).
-/
import Derived.Test.YtajckopldkmcnaaDoorVote
namespace Go.Proofs.YtajckopldkmcnaaDoor
open Go.RowKit
set_option linter.unusedVariables false

theorem voutcome (s msg : List UInt8) (n nd cx : Int) : ∃ (us ix vn : Int) (ok : Bool) (os ps : List (List UInt8)), os.length ≤ 19 ∧ ps.length ≤ 2 ∧ ((∃ k : Nat, cx = (k : Int) ∧ k ≤ 1000000000000 ∧ msg.length = 32 ∧ 0 ≤ nd ∧ nd ≤ 6 ∧ ((ok = true ∧ ∃ i : Nat, i < 4 ∧ s.length = 32 ∧ n = (i : Int) ∧ us = (i : Int) + 1 ∧ ix = (i : Int) ∧ os = sigL (leafL s i) (chkL k msg) 19 ∧ ps = pathL s i) ∨ (ok = false ∧ us = n ∧ ix = 0 ∧ os = [] ∧ ps = [] ∧ ¬ (s.length = 32 ∧ 0 ≤ n ∧ n ≤ 3))) ∧ vn = if ok = true then nd else 0) ∨ (¬ ((0 ≤ cx ∧ cx ≤ 1000000000000 ∧ msg.length = 32) ∧ 0 ≤ nd ∧ nd ≤ 6) ∧ ok = false ∧ us = n ∧ ix = 0 ∧ vn = 0 ∧ os = [] ∧ ps = [])) := by
  by_cases h : (0 ≤ cx ∧ cx ≤ 1000000000000 ∧ msg.length = 32) ∧ 0 ≤ nd ∧ nd ≤ 6
  · obtain ⟨k, hk⟩ := Int.eq_ofNat_of_zero_le h.1.1
    obtain ⟨us, ix, ok, os, ps, l1, l2, hr⟩ := outcome s (chkL k msg) n
    exact ⟨us, ix, if ok = true then nd else 0, ok, os, ps, l1, l2, .inl ⟨k, hk, by have := h.1.2.1; omega, h.1.2.2, h.2.1, h.2.2, hr, rfl⟩⟩
  · exact ⟨n, 0, 0, false, [], [], by simp, by simp, .inr ⟨h, rfl, rfl, rfl, rfl, rfl, rfl⟩⟩

theorem ivote_any (s msg : List UInt8) (n nd cx us ix vn : Int) (ok : Bool) (os ps : List (List UInt8)) (w : World) (hl : s.length ≤ 1048576) (hm : msg.length ≤ 1048576) (hr : (∃ k : Nat, cx = (k : Int) ∧ k ≤ 1000000000000 ∧ msg.length = 32 ∧ 0 ≤ nd ∧ nd ≤ 6 ∧ ((ok = true ∧ ∃ i : Nat, i < 4 ∧ s.length = 32 ∧ n = (i : Int) ∧ us = (i : Int) + 1 ∧ ix = (i : Int) ∧ os = sigL (leafL s i) (chkL k msg) 19 ∧ ps = pathL s i) ∨ (ok = false ∧ us = n ∧ ix = 0 ∧ os = [] ∧ ps = [] ∧ ¬ (s.length = 32 ∧ 0 ≤ n ∧ n ≤ 3))) ∧ vn = if ok = true then nd else 0) ∨ (¬ ((0 ≤ cx ∧ cx ≤ 1000000000000 ∧ msg.length = 32) ∧ 0 ≤ nd ∧ nd ≤ 6) ∧ ok = false ∧ us = n ∧ ix = 0 ∧ vn = 0 ∧ os = [] ∧ ps = [])) (hT : Tab w) :
    Calls Tryd.prog 14 #[.agg #[.string ⟨s.toArray⟩, .int .i64 n], .int .i64 nd, .int .i64 cx, .string ⟨msg.toArray⟩] w fun e w' => ∃ a1 m1 c1 a2 m2 c2, e = .returned (.tuple #[.agg #[.string ⟨s.toArray⟩, .int .i64 us], .agg #[.int .i64 vn, .int .i64 ix, .slice a1 m1 c1, .slice a2 m2 c2], .bool ok]) ∧ (∀ k, (Value.slice a1 m1 c1).ownBlock = some k → (Value.slice a2 m2 c2).ownBlock ≠ some k) ∧ w'.ownsRow w.heap.size 9 1 (.slice a1 m1 c1) os.length (scells os) ∧ w'.ownsRow w.heap.size 9 1 (.slice a2 m2 c2) ps.length (scells ps) ∧ Below w.heap.size w w' := by
  rcases hr with ⟨k, h1, h2, h3, h4, h5, h6, h7⟩ | ⟨hno, h0, h4, h5, h6, h7, h8⟩
  · rw [h1, h7]
    exact impl_vote_go s msg n nd us ix k ok os ps w hl h2 h3 h4 h5 hT h6
  · rw [h0, h4, h5, h6, h7, h8]
    refine (impl_vote_no s msg n nd cx w hl hm hT hno).mono ?_
    rintro e w1 ⟨rfl, b1⟩
    exact ⟨none, 0, 0, none, 0, 0, rfl, fun j h => by simp [Value.ownBlock] at h, own_nil _ _ _, own_nil _ _ _, b1⟩

theorem svote_any (s msg : List UInt8) (n nd cx us ix vn : Int) (ok : Bool) (os ps : List (List UInt8)) (w : World) (hl : s.length ≤ 1048576) (hm : msg.length ≤ 1048576) (hr : (∃ k : Nat, cx = (k : Int) ∧ k ≤ 1000000000000 ∧ msg.length = 32 ∧ 0 ≤ nd ∧ nd ≤ 6 ∧ ((ok = true ∧ ∃ i : Nat, i < 4 ∧ s.length = 32 ∧ n = (i : Int) ∧ us = (i : Int) + 1 ∧ ix = (i : Int) ∧ os = sigL (leafL s i) (chkL k msg) 19 ∧ ps = pathL s i) ∨ (ok = false ∧ us = n ∧ ix = 0 ∧ os = [] ∧ ps = [] ∧ ¬ (s.length = 32 ∧ 0 ≤ n ∧ n ≤ 3))) ∧ vn = if ok = true then nd else 0) ∨ (¬ ((0 ≤ cx ∧ cx ≤ 1000000000000 ∧ msg.length = 32) ∧ 0 ≤ nd ∧ nd ≤ 6) ∧ ok = false ∧ us = n ∧ ix = 0 ∧ vn = 0 ∧ os = [] ∧ ps = [])) :
    Calls Tryd.prog 12 #[.agg #[.string ⟨s.toArray⟩, .int .i64 n], .int .i64 nd, .int .i64 cx, .string ⟨msg.toArray⟩] w fun e w' => ∃ a1 m1 c1 a2 m2 c2, e = .returned (.tuple #[.agg #[.string ⟨s.toArray⟩, .int .i64 us], .agg #[.int .i64 vn, .int .i64 ix, .slice a1 m1 c1, .slice a2 m2 c2], .bool ok]) ∧ w'.ownsRow w.heap.size 9 1 (.slice a1 m1 c1) os.length (scells os) ∧ w'.ownsRow w.heap.size 9 1 (.slice a2 m2 c2) ps.length (scells ps) ∧ Below w.heap.size w w' := by
  rcases hr with ⟨k, h1, h2, h3, h4, h5, h6, h7⟩ | ⟨hno, h0, h4, h5, h6, h7, h8⟩
  · rw [h1, h7]
    exact spec_vote_go s msg n nd us ix k ok os ps w hl h2 h3 h4 h5 h6
  · rw [h0, h4, h5, h6, h7, h8]
    refine (spec_vote_no s msg n nd cx w hl hm hno).mono ?_
    rintro e w1 ⟨rfl, b1⟩
    exact ⟨none, 0, 0, none, 0, 0, rfl, own_nil _ _ _, own_nil _ _ _, b1⟩

end Go.Proofs.YtajckopldkmcnaaDoor
