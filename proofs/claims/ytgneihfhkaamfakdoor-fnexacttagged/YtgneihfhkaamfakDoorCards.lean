/-
  DERIVED. GIVEN WITH THE SEED: THE CARDS: each row of YtgneihfhkaamfakDoorRows.lean that lists a variable, with what it lists TIED to the program's text (the seventh form; the later family's looks); each row that meets fmt, with fmt's text TOLD by the authors' own Lean function (tested against real Go, not proved from fmt's source: count such statements apart). THE CARD IS WHAT COUNTS. Prove the row's statement (the work); the ties are given (YtgneihfhkaamfakDoorTie.lean); close each card by the builder's one call (the guide's Derived/Test/ToyasCard.lean, 'card_holds'). Laid BY PROGRAM, IN A SANDBOX (cutbox-door.mjs). By AI agents, Wed Nov 11 2026. No macro, syntax, notation, axiom, sorry.
-/
import Derived.Test.YtgneihfhkaamfakDoorRows
import GoSem.ClaimSeven
namespace Go.Proofs.YtgneihfhkaamfakDoor
namespace Rows

/-- THE TIED CARD OF 'laws.FnExactSum'. -/
def fnExactSumCard : Claim7 := { stood := { row := fnExactSumRow, standIns := [], harness := (true, "5994d8b35ba648bcb3850f79e7668751096e63996d50f5ef6ac5b599e2a76ed6"), looks := false }, kinds := [], alts := [], laidByText := true, laidKinds := [.data], laidTests := true, laidLooks := .later }
def FnExactSumCardSaid : Prop := Claim7.holds Tryd.pinned (.plain (OpenSpec.ofChange fnExactSumSpec)) fnExactSumCard

/-- THE TIED CARD OF 'laws.FnExactTagged'. -/
def fnExactTaggedCard : Claim7 := { stood := { row := fnExactTaggedRow, standIns := [], harness := (true, "5994d8b35ba648bcb3850f79e7668751096e63996d50f5ef6ac5b599e2a76ed6"), looks := false }, kinds := [], alts := [], laidByText := true, laidKinds := [.data], laidTests := true, laidLooks := .later }
def FnExactTaggedCardSaid : Prop := Claim7.holds Tryd.pinned (.plain (OpenSpec.ofChange fnExactTaggedSpec)) fnExactTaggedCard

/-- THE SECOND FORM's CARD OF 'laws.FnExactSum'. -/
def fnExactSumUptoCard : Claim7 := { stood := { row := fnExactSumUptoRow, standIns := [], harness := (true, "5994d8b35ba648bcb3850f79e7668751096e63996d50f5ef6ac5b599e2a76ed6"), looks := false }, kinds := [], alts := [], laidByText := true, laidKinds := [.data], laidTests := true, laidLooks := .later }
def FnExactSumUptoCardSaid : Prop := Claim7.holds Tryd.pinned (.plain (OpenSpec.upto fnExactSumSpec)) fnExactSumUptoCard

/-- THE SECOND FORM's CARD OF 'laws.FnExactTagged'. -/
def fnExactTaggedUptoCard : Claim7 := { stood := { row := fnExactTaggedUptoRow, standIns := [], harness := (true, "5994d8b35ba648bcb3850f79e7668751096e63996d50f5ef6ac5b599e2a76ed6"), looks := false }, kinds := [], alts := [], laidByText := true, laidKinds := [.data], laidTests := true, laidLooks := .later }
def FnExactTaggedUptoCardSaid : Prop := Claim7.holds Tryd.pinned (.plain (OpenSpec.upto fnExactTaggedSpec)) fnExactTaggedUptoCard
end Rows
end Go.Proofs.YtgneihfhkaamfakDoor
