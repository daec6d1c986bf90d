/-
  DERIVED. GIVEN WITH THE SEED: THE CARDS: each row of YtbpgpmchnjbclaaDoorRows.lean that lists a variable, with what it lists TIED to the program's text (the seventh form; the later family's looks); each row that meets fmt, with fmt's text TOLD by the authors' own Lean function (tested against real Go, not proved from fmt's source: count such statements apart). THE CARD IS WHAT COUNTS. Prove the row's statement (the work); the ties are given (YtbpgpmchnjbclaaDoorTie.lean); close each card by the builder's one call (the guide's Derived/Test/ToyasCard.lean, 'card_holds'). Laid BY PROGRAM, IN A SANDBOX (cutbox-door.mjs). By AI agents, Wed Nov 11 2026. No macro, syntax, notation, axiom, sorry.
-/
import Derived.Test.YtbpgpmchnjbclaaDoorRows
import GoSem.ClaimSeven
namespace Go.Proofs.YtbpgpmchnjbclaaDoor
namespace Rows

/-- THE TIED CARD OF 'laws.FnExactNextBatch'. -/
def fnExactNextBatchCard : Claim7 := { stood := { row := fnExactNextBatchRow, standIns := [], harness := (true, "8a0dcff94002b3b8996a8f046d01d5c612543d5440e23b5b4bac4725eece42c5"), looks := true }, kinds := [], alts := [], laidByText := true, laidKinds := [.sentinel, .sentinel, .sentinel], laidTests := true, laidLooks := .later }
def FnExactNextBatchCardSaid : Prop := Claim7.holds Tryd.pinned (.plain (OpenSpec.ofChange fnExactNextBatchSpec)) fnExactNextBatchCard

/-- THE TIED CARD OF 'laws.FnAsked'. -/
def fnAskedCard : Claim7 := { stood := { row := fnAskedRow, standIns := [], harness := (true, "8a0dcff94002b3b8996a8f046d01d5c612543d5440e23b5b4bac4725eece42c5"), looks := true }, kinds := [], alts := [], laidByText := true, laidKinds := [.sentinel, .sentinel, .sentinel], laidTests := true, laidLooks := .later }
def FnAskedCardSaid : Prop := Claim7.holds Tryd.pinned (.plain (OpenSpec.ofChange fnAskedSpec)) fnAskedCard

/-- THE SECOND FORM's CARD OF 'laws.FnExactNextBatch'. -/
def fnExactNextBatchUptoCard : Claim7 := { stood := { row := fnExactNextBatchUptoRow, standIns := [], harness := (true, "8a0dcff94002b3b8996a8f046d01d5c612543d5440e23b5b4bac4725eece42c5"), looks := true }, kinds := [], alts := [], laidByText := true, laidKinds := [.sentinel, .sentinel, .sentinel], laidTests := true, laidLooks := .later }
def FnExactNextBatchUptoCardSaid : Prop := Claim7.holds Tryd.pinned (.plain (OpenSpec.upto fnExactNextBatchSpec)) fnExactNextBatchUptoCard

/-- THE SECOND FORM's CARD OF 'laws.FnAsked'. -/
def fnAskedUptoCard : Claim7 := { stood := { row := fnAskedUptoRow, standIns := [], harness := (true, "8a0dcff94002b3b8996a8f046d01d5c612543d5440e23b5b4bac4725eece42c5"), looks := true }, kinds := [], alts := [], laidByText := true, laidKinds := [.sentinel, .sentinel, .sentinel], laidTests := true, laidLooks := .later }
def FnAskedUptoCardSaid : Prop := Claim7.holds Tryd.pinned (.plain (OpenSpec.upto fnAskedSpec)) fnAskedUptoCard
end Rows
end Go.Proofs.YtbpgpmchnjbclaaDoor
