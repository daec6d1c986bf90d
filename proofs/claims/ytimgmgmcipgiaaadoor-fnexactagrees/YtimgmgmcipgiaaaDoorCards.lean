/-
  DERIVED. GIVEN WITH THE SEED: THE CARDS: each row of YtimgmgmcipgiaaaDoorRows.lean that lists a variable, with what it lists TIED to the program's text (the seventh form; the later family's looks); each row that meets fmt, with fmt's text TOLD by the authors' own Lean function (tested against real Go, not proved from fmt's source: count such statements apart). THE CARD IS WHAT COUNTS. Prove the row's statement (the work); the ties are given (YtimgmgmcipgiaaaDoorTie.lean); close each card by the builder's one call (the guide's Derived/Test/ToyasCard.lean, 'card_holds'). Laid BY PROGRAM, IN A SANDBOX (cutbox-door.mjs). By AI agents, Wed Nov 11 2026. No macro, syntax, notation, axiom, sorry.
-/
import Derived.Test.YtimgmgmcipgiaaaDoorRows
import GoSem.ClaimSeven
namespace Go.Proofs.YtimgmgmcipgiaaaDoor
namespace Rows

/-- THE TIED CARD OF 'laws.FnExactAgrees'. -/
def fnExactAgreesCard : Claim7 := { stood := { row := fnExactAgreesRow, standIns := [], harness := (true, "62b2b6cb295c509c0adcd6c7b3a504199d86e7c25839a83cf83bae8bea6b7713"), looks := false }, kinds := [], alts := [], laidByText := true, laidKinds := [.data], laidTests := true, laidLooks := .later }
def FnExactAgreesCardSaid : Prop := Claim7.holds Tryd.pinned (.plain (OpenSpec.ofChange fnExactAgreesSpec)) fnExactAgreesCard

/-- THE SECOND FORM's CARD OF 'laws.FnExactAgrees'. -/
def fnExactAgreesUptoCard : Claim7 := { stood := { row := fnExactAgreesUptoRow, standIns := [], harness := (true, "62b2b6cb295c509c0adcd6c7b3a504199d86e7c25839a83cf83bae8bea6b7713"), looks := false }, kinds := [], alts := [], laidByText := true, laidKinds := [.data], laidTests := true, laidLooks := .later }
def FnExactAgreesUptoCardSaid : Prop := Claim7.holds Tryd.pinned (.plain (OpenSpec.upto fnExactAgreesSpec)) fnExactAgreesUptoCard
end Rows
end Go.Proofs.YtimgmgmcipgiaaaDoor
