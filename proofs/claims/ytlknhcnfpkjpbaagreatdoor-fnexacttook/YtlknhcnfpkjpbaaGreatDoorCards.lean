/-
  DERIVED. GIVEN WITH THE SEED: THE CARDS: each row of YtlknhcnfpkjpbaaGreatDoorRows.lean that lists a variable, with what it lists TIED to the program's text (the seventh form; the later family's looks); each row that meets fmt, with fmt's text TOLD by the authors' own Lean function (tested against real Go, not proved from fmt's source: count such statements apart). THE CARD IS WHAT COUNTS. Prove the row's statement (the work); the ties are given (YtlknhcnfpkjpbaaGreatDoorTie.lean); close each card by the builder's one call (the guide's Derived/Test/ToyasCard.lean, 'card_holds'). Laid BY PROGRAM, IN A SANDBOX (cutbox-door.mjs). By AI agents, Wed Nov 11 2026. No macro, syntax, notation, axiom, sorry.
-/
import Derived.Test.YtlknhcnfpkjpbaaGreatDoorRows
import GoSem.ClaimSeven
namespace Go.Proofs.YtlknhcnfpkjpbaaGreatDoor
namespace Rows

/-- THE TIED CARD OF 'laws.FnExactTook'. -/
def fnExactTookCard : Claim7 := { stood := { row := fnExactTookRow, standIns := [], harness := (true, "18316729371ab978b6b5d142d2da3a39e0b06be0653368e150220f964c09e59d"), looks := false }, kinds := [], alts := [], laidByText := true, laidKinds := [.data], laidTests := true, laidLooks := .later }
def FnExactTookCardSaid : Prop := Claim7.holds Tryz.pinned (.plain (OpenSpec.ofChange fnExactTookSpec)) fnExactTookCard

/-- THE TIED CARD OF 'laws.FnTook'. -/
def fnTookCard : Claim7 := { stood := { row := fnTookRow, standIns := [], harness := (true, "18316729371ab978b6b5d142d2da3a39e0b06be0653368e150220f964c09e59d"), looks := false }, kinds := [], alts := [], laidByText := true, laidKinds := [.data], laidTests := true, laidLooks := .later }
def FnTookCardSaid : Prop := Claim7.holds Tryz.pinned (.plain (OpenSpec.ofChange fnTookSpec)) fnTookCard

/-- THE TIED CARD OF 'laws.FnImported'. -/
def fnImportedCard : Claim7 := { stood := { row := fnImportedRow, standIns := [], harness := (true, "18316729371ab978b6b5d142d2da3a39e0b06be0653368e150220f964c09e59d"), looks := false }, kinds := [], alts := [], laidByText := true, laidKinds := [.data], laidTests := true, laidLooks := .later }
def FnImportedCardSaid : Prop := Claim7.holds Tryz.pinned (.plain (OpenSpec.ofChange fnImportedSpec)) fnImportedCard

/-- THE SECOND FORM's CARD OF 'laws.FnExactTook'. -/
def fnExactTookUptoCard : Claim7 := { stood := { row := fnExactTookUptoRow, standIns := [], harness := (true, "18316729371ab978b6b5d142d2da3a39e0b06be0653368e150220f964c09e59d"), looks := false }, kinds := [], alts := [], laidByText := true, laidKinds := [.data], laidTests := true, laidLooks := .later }
def FnExactTookUptoCardSaid : Prop := Claim7.holds Tryz.pinned (.plain (OpenSpec.upto fnExactTookSpec)) fnExactTookUptoCard

/-- THE SECOND FORM's CARD OF 'laws.FnTook'. -/
def fnTookUptoCard : Claim7 := { stood := { row := fnTookUptoRow, standIns := [], harness := (true, "18316729371ab978b6b5d142d2da3a39e0b06be0653368e150220f964c09e59d"), looks := false }, kinds := [], alts := [], laidByText := true, laidKinds := [.data], laidTests := true, laidLooks := .later }
def FnTookUptoCardSaid : Prop := Claim7.holds Tryz.pinned (.plain (OpenSpec.upto fnTookSpec)) fnTookUptoCard

/-- THE SECOND FORM's CARD OF 'laws.FnImported'. -/
def fnImportedUptoCard : Claim7 := { stood := { row := fnImportedUptoRow, standIns := [], harness := (true, "18316729371ab978b6b5d142d2da3a39e0b06be0653368e150220f964c09e59d"), looks := false }, kinds := [], alts := [], laidByText := true, laidKinds := [.data], laidTests := true, laidLooks := .later }
def FnImportedUptoCardSaid : Prop := Claim7.holds Tryz.pinned (.plain (OpenSpec.upto fnImportedSpec)) fnImportedUptoCard
end Rows
end Go.Proofs.YtlknhcnfpkjpbaaGreatDoor
