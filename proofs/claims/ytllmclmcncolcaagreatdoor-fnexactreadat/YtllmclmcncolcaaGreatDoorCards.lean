/-
  DERIVED. GIVEN WITH THE SEED: THE CARDS: each row of YtllmclmcncolcaaGreatDoorRows.lean that lists a variable, with what it lists TIED to the program's text (the seventh form; the later family's looks); each row that meets fmt, with fmt's text TOLD by the authors' own Lean function (tested against real Go, not proved from fmt's source: count such statements apart). THE CARD IS WHAT COUNTS. Prove the row's statement (the work); the ties are given (YtllmclmcncolcaaGreatDoorTie.lean); close each card by the builder's one call (the guide's Derived/Test/ToyasCard.lean, 'card_holds'). Laid BY PROGRAM, IN A SANDBOX (cutbox-door.mjs). By AI agents, Wed Nov 11 2026. No macro, syntax, notation, axiom, sorry.
-/
import Derived.Test.YtllmclmcncolcaaGreatDoorRows
import GoSem.ClaimSeven
namespace Go.Proofs.YtllmclmcncolcaaGreatDoor
namespace Rows

/-- THE TIED CARD OF 'laws.FnExactReadAt'. -/
def fnExactReadAtCard : Claim7 := { stood := { row := fnExactReadAtRow, standIns := [], harness := (true, "8e15191983530191ac95ab8b02e7a9747d77328a39642cde0fb7f52e8c15e8e5"), looks := true }, kinds := [], alts := [], laidByText := true, laidKinds := [.handle, .data, .sentinel, .sentinel, .sentinel, .sentinel], laidTests := true, laidLooks := .later }
def FnExactReadAtCardSaid : Prop := Claim7.holds Tryz.pinned (.plain (OpenSpec.ofChange fnExactReadAtSpec)) fnExactReadAtCard

/-- THE SECOND FORM's CARD OF 'laws.FnExactReadAt'. -/
def fnExactReadAtUptoCard : Claim7 := { stood := { row := fnExactReadAtUptoRow, standIns := [], harness := (true, "8e15191983530191ac95ab8b02e7a9747d77328a39642cde0fb7f52e8c15e8e5"), looks := true }, kinds := [], alts := [], laidByText := true, laidKinds := [.handle, .data, .sentinel, .sentinel, .sentinel, .sentinel], laidTests := true, laidLooks := .later }
def FnExactReadAtUptoCardSaid : Prop := Claim7.holds Tryz.pinned (.plain (OpenSpec.upto fnExactReadAtSpec)) fnExactReadAtUptoCard
end Rows
end Go.Proofs.YtllmclmcncolcaaGreatDoor
