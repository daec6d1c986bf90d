/-
  DERIVED. GIVEN WITH THE SEED: THE CARDS: each row of YtokfcfcdfhoejaaGreatDoorRows.lean that lists a variable, with what it lists TIED to the program's text (the seventh form; the later family's looks); each row that meets fmt, with fmt's text TOLD by the authors' own Lean function (tested against real Go, not proved from fmt's source: count such statements apart). THE CARD IS WHAT COUNTS. Prove the row's statement (the work); the ties are given (YtokfcfcdfhoejaaGreatDoorTie.lean); close each card by the builder's one call (the guide's Derived/Test/ToyasCard.lean, 'card_holds'). Laid BY PROGRAM, IN A SANDBOX (cutbox-door.mjs). By AI agents, Wed Nov 11 2026. No macro, syntax, notation, axiom, sorry.
-/
import Derived.Test.YtokfcfcdfhoejaaGreatDoorRows
import GoSem.ClaimSeven
namespace Go.Proofs.YtokfcfcdfhoejaaGreatDoor
namespace Rows

/-- THE TIED CARD OF 'laws.FnPruned'. -/
def fnPrunedCard : Claim7 := { stood := { row := fnPrunedRow, standIns := [], harness := (true, "29054e75196ad8106f16b50d183174ff3ad1c4ef32e321289a1775f4e8798fd5"), looks := false }, kinds := [], alts := [], laidByText := true, laidKinds := [.data], laidTests := true, laidLooks := .later }
def FnPrunedCardSaid : Prop := Claim7.holds Tryz.pinned (.plain (OpenSpec.ofChange fnPrunedSpec)) fnPrunedCard

/-- THE SECOND FORM's CARD OF 'laws.FnPruned'. -/
def fnPrunedUptoCard : Claim7 := { stood := { row := fnPrunedUptoRow, standIns := [], harness := (true, "29054e75196ad8106f16b50d183174ff3ad1c4ef32e321289a1775f4e8798fd5"), looks := false }, kinds := [], alts := [], laidByText := true, laidKinds := [.data], laidTests := true, laidLooks := .later }
def FnPrunedUptoCardSaid : Prop := Claim7.holds Tryz.pinned (.plain (OpenSpec.upto fnPrunedSpec)) fnPrunedUptoCard
end Rows
end Go.Proofs.YtokfcfcdfhoejaaGreatDoor
