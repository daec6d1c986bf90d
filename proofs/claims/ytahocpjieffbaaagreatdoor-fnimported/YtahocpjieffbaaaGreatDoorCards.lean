/-
  DERIVED. GIVEN WITH THE SEED: THE CARDS: each row of YtahocpjieffbaaaGreatDoorRows.lean that lists a variable, with what it lists TIED to the program's text (the seventh form; the later family's looks); each row that meets fmt, with fmt's text TOLD by the authors' own Lean function (tested against real Go, not proved from fmt's source: count such statements apart). THE CARD IS WHAT COUNTS. Prove the row's statement (the work); the ties are given (YtahocpjieffbaaaGreatDoorTie.lean); close each card by the builder's one call (the guide's Derived/Test/ToyasCard.lean, 'card_holds'). Laid BY PROGRAM, IN A SANDBOX (cutbox-door.mjs). By AI agents, Wed Nov 11 2026. No macro, syntax, notation, axiom, sorry.
-/
import Derived.Test.YtahocpjieffbaaaGreatDoorRows
import GoSem.ClaimSeven
namespace Go.Proofs.YtahocpjieffbaaaGreatDoor
namespace Rows

/-- THE TIED CARD OF 'laws.FnImported'. -/
def fnImportedCard : Claim7 := { stood := { row := fnImportedRow, standIns := [], harness := (true, "e4253fbd402f3aa63c267e2271ff90e730f2cdd008f2f9f3f72f640d36919d19"), looks := false }, kinds := [], alts := [], laidByText := true, laidKinds := [.data], laidTests := true, laidLooks := .later }
def FnImportedCardSaid : Prop := Claim7.holds Tryz.pinned (.plain (OpenSpec.ofChange fnImportedSpec)) fnImportedCard

/-- THE SECOND FORM's CARD OF 'laws.FnImported'. -/
def fnImportedUptoCard : Claim7 := { stood := { row := fnImportedUptoRow, standIns := [], harness := (true, "e4253fbd402f3aa63c267e2271ff90e730f2cdd008f2f9f3f72f640d36919d19"), looks := false }, kinds := [], alts := [], laidByText := true, laidKinds := [.data], laidTests := true, laidLooks := .later }
def FnImportedUptoCardSaid : Prop := Claim7.holds Tryz.pinned (.plain (OpenSpec.upto fnImportedSpec)) fnImportedUptoCard
end Rows
end Go.Proofs.YtahocpjieffbaaaGreatDoor
