/-
 Rows of ops (two texts and a bool each), on lists: their cells, copies under way, marks; batches.
-/
import Derived.Test.YthnddgdnialogaaGreatDoorPairs
namespace Go.Proofs.YthnddgdnialogaaGreatDoor
open Go.RowKit
set_option linter.unusedVariables false
abbrev OpL := List UInt8 × List UInt8 × Bool
def IsOps (w : World) (a : Option Addr) (ps : List OpL) : Prop :=
 ps = [] ∨ ∃ b off, a = some ⟨b, off, none⟩ ∧ ∀ j (h : j < ps.length), w.cell? ⟨b, off + j * 3, none⟩ = some (.string ⟨ps[j].1.toArray⟩) ∧ w.cell? ⟨b, off + j * 3 + 1, none⟩ = some (.string ⟨ps[j].2.1.toArray⟩) ∧ w.cell? ⟨b, off + j * 3 + 2, none⟩ = some (.bool ps[j].2.2)
theorem IsOps.later {w w' : World} {a : Option Addr} {ps : List OpL} (h : IsOps w a ps) (hb : Below w.heap.size w w') : IsOps w' a ps := by
 rcases h with h | ⟨b, off, h1, h2⟩
 · exact .inl h
 · exact .inr ⟨b, off, h1, fun j h => ⟨(hb.cell (p := ⟨b, off + j * 3, none⟩) (World.block_lt_of_cell? w _ (h2 j h).1)).trans (h2 j h).1, (hb.cell (p := ⟨b, off + j * 3 + 1, none⟩) (World.block_lt_of_cell? w _ (h2 j h).2.1)).trans (h2 j h).2.1, (hb.cell (p := ⟨b, off + j * 3 + 2, none⟩) (World.block_lt_of_cell? w _ (h2 j h).2.2)).trans (h2 j h).2.2⟩⟩
def numOk (n : Int) : Bool := decide (1 ≤ n ∧ n ≤ 1000000000000)
end Go.Proofs.YthnddgdnialogaaGreatDoor
