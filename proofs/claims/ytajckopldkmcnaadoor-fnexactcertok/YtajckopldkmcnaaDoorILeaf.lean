/-
  Contracts: the program's seeds of leaves, and two texts put together.
-/
import Derived.Test.YtajckopldkmcnaaDoorIOnce
namespace Go.Proofs.YtajckopldkmcnaaDoor
open Go.RowKit
set_option linter.unusedVariables false

set_option maxRecDepth 100000 in
theorem keyIndex_yes (n : Int) (w : World) (h0 : 0 ≤ n) (h1 : n ≤ 3) :
    Calls Tryd.prog 105 #[.int .i64 n] w fun e w' => e = .returned (.bool true) ∧ w' = w := by
  have h4 : n < 4 := by omega
  go_enter Tryd.func105, Tryd.ntmps105
  go_wp2
  go_ret
  exact ⟨rfl, rfl⟩
set_option maxRecDepth 100000 in
theorem keyIndex_no (n : Int) (w : World) (h : ¬ (0 ≤ n ∧ n ≤ 3)) :
    Calls Tryd.prog 105 #[.int .i64 n] w fun e w' => e = .returned (.bool false) ∧ w' = w := by
  by_cases h0 : 0 ≤ n
  · have h4 : ¬ n < 4 := fun h1 => h ⟨h0, by omega⟩
    clear h
    go_enter Tryd.func105, Tryd.ntmps105
    go_wp2
    go_ret
    exact ⟨rfl, rfl⟩
  · clear h
    go_enter Tryd.func105, Tryd.ntmps105
    go_wp2
    go_ret
    exact ⟨rfl, rfl⟩

set_option maxRecDepth 100000 in
set_option maxHeartbeats 400000 in
theorem impl_leaf (seed : List UInt8) (c : Nat) (w : World) (hs : seed.length = 32) (hc : c ≤ 3) (hT : Tab w) :
    Calls Tryd.prog 88 #[.string ⟨seed.toArray⟩, .int .i64 (c : Int)] w fun e w' => e = .returned (.tuple #[.string ⟨(leafL seed c).toArray⟩, .bool true]) ∧ Below w.heap.size w w' := by
  have HT : Hid (Tab w) := hT
  have hs' : (seed.length : Int) = 32 := by omega
  have K0 := keyIndex_yes (c : Int) w (by omega) (by omega)
  have K1 := byteText_any c w (by omega)
  have K2 := fun W hW => itag2 tLeaf seed (byteL c) W (by decide) (by simp [byteL, hs]) hW
  have HE : Hid (leafL seed c = tagL tLeaf [seed, byteL c]) := rfl
  rw [← HE.out] at K2
  obtain ⟨y, hy⟩ : ∃ y, y = leafL seed c := ⟨_, rfl⟩
  rw [← hy] at K2 ⊢
  obtain ⟨p, hp⟩ : ∃ p, p = byteL c := ⟨_, rfl⟩
  rw [← hp] at K1 K2
  clear hT HE hy hp
  go_enter Tryd.func88, Tryd.ntmps88
  go_wp2_with fail
  refine K0.mono ?_
  rintro e w0 ⟨rfl, rfl⟩
  go_wp2_with fail
  refine K1.mono ?_
  rintro e w1 ⟨rfl, b1⟩
  go_wp2_with fail
  refine (K2 w1 (HT.out.later b1)).mono ?_
  rintro e w2 ⟨rfl, b2⟩
  have B2 := b1.trans (b2.mono b1.size)
  go_wp2
  go_ret2
  exact ⟨rfl, B2⟩

set_option maxRecDepth 100000 in
set_option maxHeartbeats 400000 in
theorem impl_leaf_no (seed : List UInt8) (c : Int) (w : World) (hl : seed.length ≤ 1048576) (h : ¬ (seed.length = 32 ∧ 0 ≤ c ∧ c ≤ 3)) :
    Calls Tryd.prog 88 #[.string ⟨seed.toArray⟩, .int .i64 c] w fun e w' => e = .returned (.tuple #[.string ⟨#[]⟩, .bool false]) ∧ w' = w := by
  by_cases hs : seed.length = 32
  · have hs' : (seed.length : Int) = 32 := by omega
    have K0 := keyIndex_no c w (fun hc => h ⟨hs, hc⟩)
    clear h
    go_enter Tryd.func88, Tryd.ntmps88
    go_wp2_with fail
    refine K0.mono ?_
    rintro e w0 ⟨rfl, rfl⟩
    go_wp2
    go_ret2
    exact ⟨rfl, rfl⟩
  · have hs' : ¬ (seed.length : Int) = 32 := by omega
    clear h
    go_enter Tryd.func88, Tryd.ntmps88
    go_wp2
    go_ret2
    exact ⟨rfl, rfl⟩

set_option maxRecDepth 100000 in
theorem keyNode_any (x y : List UInt8) (w : World) (hx : x.length = 32) (hy : y.length = 32) (hT : Tab w) :
    Calls Tryd.prog 99 #[.string ⟨x.toArray⟩, .string ⟨y.toArray⟩] w fun e w' => e = .returned (.string ⟨(nodeL x y).toArray⟩) ∧ Below w.heap.size w w' := by
  have K2 := itag2 tNode x y w (by decide) (by omega) hT
  have HE : Hid (nodeL x y = tagL tNode [x, y]) := rfl
  rw [← HE.out] at K2
  obtain ⟨z, hz⟩ : ∃ z, z = nodeL x y := ⟨_, rfl⟩
  rw [← hz] at K2 ⊢
  clear hT HE hz
  go_enter Tryd.func99, Tryd.ntmps99
  go_wp2_with fail
  refine K2.mono ?_
  rintro e w1 ⟨rfl, b1⟩
  go_wp2
  go_ret
  exact ⟨rfl, b1⟩
end Go.Proofs.YtajckopldkmcnaaDoor
