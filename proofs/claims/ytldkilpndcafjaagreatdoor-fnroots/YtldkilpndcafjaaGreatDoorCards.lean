/-
  DERIVED. GIVEN WITH THE SEED: THE CARDS: each row of YtldkilpndcafjaaGreatDoorRows.lean that lists a variable, with what it lists TIED to the program's text (the seventh form; the later family's looks); each row that meets fmt, with fmt's text TOLD by the authors' own Lean function (tested against real Go, not proved from fmt's source: count such statements apart). THE CARD IS WHAT COUNTS. Prove the row's statement (the work); the ties are given (YtldkilpndcafjaaGreatDoorTie.lean); close each card by the builder's one call (the guide's Derived/Test/ToyasCard.lean, 'card_holds'). Laid BY PROGRAM, IN A SANDBOX (cutbox-door.mjs). By AI agents, Wed Nov 11 2026. No macro, syntax, notation, axiom, sorry.
-/
import Derived.Test.YtldkilpndcafjaaGreatDoorRows
import GoSem.ClaimSeven
namespace Go.Proofs.YtldkilpndcafjaaGreatDoor
namespace Rows

/-- THE TIED CARD OF 'laws.FnRoots'. -/
def fnRootsCard : Claim7 := { stood := { row := fnRootsRow, standIns := [], harness := (true, "ad6aaf43a8ed056a52e7494296b39cc10c2f14ff33fb32c475897aa5425391a0"), looks := false }, kinds := [], alts := [], laidByText := true, laidKinds := [.data], laidTests := true, laidLooks := .later }
def FnRootsCardSaid : Prop := Claim7.holds Tryz.pinned (.plain (OpenSpec.ofChange fnRootsSpec)) fnRootsCard

/-- THE TIED CARD OF 'laws.FnExactNodesOf'. -/
def fnExactNodesOfCard : Claim7 := { stood := { row := fnExactNodesOfRow, standIns := [], harness := (true, "ad6aaf43a8ed056a52e7494296b39cc10c2f14ff33fb32c475897aa5425391a0"), looks := false }, kinds := [], alts := [], laidByText := true, laidKinds := [.data], laidTests := true, laidLooks := .later }
def FnExactNodesOfCardSaid : Prop := Claim7.holds Tryz.pinned (.plain (OpenSpec.ofChange fnExactNodesOfSpec)) fnExactNodesOfCard

/-- THE TIED CARD OF 'laws.FnExactImportOk'. -/
def fnExactImportOkCard : Claim7 := { stood := { row := fnExactImportOkRow, standIns := [], harness := (true, "ad6aaf43a8ed056a52e7494296b39cc10c2f14ff33fb32c475897aa5425391a0"), looks := false }, kinds := [], alts := [], laidByText := true, laidKinds := [.data], laidTests := true, laidLooks := .later }
def FnExactImportOkCardSaid : Prop := Claim7.holds Tryz.pinned (.plain (OpenSpec.ofChange fnExactImportOkSpec)) fnExactImportOkCard

/-- THE TIED CARD OF 'laws.FnExactTook'. -/
def fnExactTookCard : Claim7 := { stood := { row := fnExactTookRow, standIns := [], harness := (true, "ad6aaf43a8ed056a52e7494296b39cc10c2f14ff33fb32c475897aa5425391a0"), looks := false }, kinds := [], alts := [], laidByText := true, laidKinds := [.data], laidTests := true, laidLooks := .later }
def FnExactTookCardSaid : Prop := Claim7.holds Tryz.pinned (.plain (OpenSpec.ofChange fnExactTookSpec)) fnExactTookCard

/-- THE TIED CARD OF 'laws.FnExactImported'. -/
def fnExactImportedCard : Claim7 := { stood := { row := fnExactImportedRow, standIns := [], harness := (true, "ad6aaf43a8ed056a52e7494296b39cc10c2f14ff33fb32c475897aa5425391a0"), looks := false }, kinds := [], alts := [], laidByText := true, laidKinds := [.data], laidTests := true, laidLooks := .later }
def FnExactImportedCardSaid : Prop := Claim7.holds Tryz.pinned (.plain (OpenSpec.ofChange fnExactImportedSpec)) fnExactImportedCard

/-- THE SECOND FORM's CARD OF 'laws.FnRoots'. -/
def fnRootsUptoCard : Claim7 := { stood := { row := fnRootsUptoRow, standIns := [], harness := (true, "ad6aaf43a8ed056a52e7494296b39cc10c2f14ff33fb32c475897aa5425391a0"), looks := false }, kinds := [], alts := [], laidByText := true, laidKinds := [.data], laidTests := true, laidLooks := .later }
def FnRootsUptoCardSaid : Prop := Claim7.holds Tryz.pinned (.plain (OpenSpec.upto fnRootsSpec)) fnRootsUptoCard

/-- THE SECOND FORM's CARD OF 'laws.FnExactNodesOf'. -/
def fnExactNodesOfUptoCard : Claim7 := { stood := { row := fnExactNodesOfUptoRow, standIns := [], harness := (true, "ad6aaf43a8ed056a52e7494296b39cc10c2f14ff33fb32c475897aa5425391a0"), looks := false }, kinds := [], alts := [], laidByText := true, laidKinds := [.data], laidTests := true, laidLooks := .later }
def FnExactNodesOfUptoCardSaid : Prop := Claim7.holds Tryz.pinned (.plain (OpenSpec.upto fnExactNodesOfSpec)) fnExactNodesOfUptoCard

/-- THE SECOND FORM's CARD OF 'laws.FnExactImportOk'. -/
def fnExactImportOkUptoCard : Claim7 := { stood := { row := fnExactImportOkUptoRow, standIns := [], harness := (true, "ad6aaf43a8ed056a52e7494296b39cc10c2f14ff33fb32c475897aa5425391a0"), looks := false }, kinds := [], alts := [], laidByText := true, laidKinds := [.data], laidTests := true, laidLooks := .later }
def FnExactImportOkUptoCardSaid : Prop := Claim7.holds Tryz.pinned (.plain (OpenSpec.upto fnExactImportOkSpec)) fnExactImportOkUptoCard

/-- THE SECOND FORM's CARD OF 'laws.FnExactTook'. -/
def fnExactTookUptoCard : Claim7 := { stood := { row := fnExactTookUptoRow, standIns := [], harness := (true, "ad6aaf43a8ed056a52e7494296b39cc10c2f14ff33fb32c475897aa5425391a0"), looks := false }, kinds := [], alts := [], laidByText := true, laidKinds := [.data], laidTests := true, laidLooks := .later }
def FnExactTookUptoCardSaid : Prop := Claim7.holds Tryz.pinned (.plain (OpenSpec.upto fnExactTookSpec)) fnExactTookUptoCard

/-- THE SECOND FORM's CARD OF 'laws.FnExactImported'. -/
def fnExactImportedUptoCard : Claim7 := { stood := { row := fnExactImportedUptoRow, standIns := [], harness := (true, "ad6aaf43a8ed056a52e7494296b39cc10c2f14ff33fb32c475897aa5425391a0"), looks := false }, kinds := [], alts := [], laidByText := true, laidKinds := [.data], laidTests := true, laidLooks := .later }
def FnExactImportedUptoCardSaid : Prop := Claim7.holds Tryz.pinned (.plain (OpenSpec.upto fnExactImportedSpec)) fnExactImportedUptoCard
end Rows
end Go.Proofs.YtldkilpndcafjaaGreatDoor
