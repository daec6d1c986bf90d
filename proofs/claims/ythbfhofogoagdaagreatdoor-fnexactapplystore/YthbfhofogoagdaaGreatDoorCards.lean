/-
  DERIVED. GIVEN WITH THE SEED: THE CARDS: each row of YthbfhofogoagdaaGreatDoorRows.lean that lists a variable, with what it lists TIED to the program's text (the seventh form; the later family's looks); each row that meets fmt, with fmt's text TOLD by the authors' own Lean function (tested against real Go, not proved from fmt's source: count such statements apart). THE CARD IS WHAT COUNTS. Prove the row's statement (the work); the ties are given (YthbfhofogoagdaaGreatDoorTie.lean); close each card by the builder's one call (the guide's Derived/Test/ToyasCard.lean, 'card_holds'). Laid BY PROGRAM, IN A SANDBOX (cutbox-door.mjs). By AI agents, Wed Nov 11 2026. No macro, syntax, notation, axiom, sorry.
-/
import Derived.Test.YthbfhofogoagdaaGreatDoorRows
import GoSem.ClaimSeven
namespace Go.Proofs.YthbfhofogoagdaaGreatDoor
namespace Rows

/-- THE TIED CARD OF 'laws.FnExactApplyStore'. -/
def fnExactApplyStoreCard : Claim7 := { stood := { row := fnExactApplyStoreRow, standIns := [], harness := (true, "a09be597b43b84d6ce16d3c3e92dea32f714fa1b93e66660a5b4fbe844da948a"), looks := true }, kinds := [], alts := [], laidByText := true, laidKinds := [.data], laidTests := true, laidLooks := .later }
def FnExactApplyStoreCardSaid : Prop := Claim7.holds Tryz.pinned (.plain (OpenSpec.ofChange fnExactApplyStoreSpec)) fnExactApplyStoreCard

/-- THE SECOND FORM's CARD OF 'laws.FnExactApplyStore'. -/
def fnExactApplyStoreUptoCard : Claim7 := { stood := { row := fnExactApplyStoreUptoRow, standIns := [], harness := (true, "a09be597b43b84d6ce16d3c3e92dea32f714fa1b93e66660a5b4fbe844da948a"), looks := true }, kinds := [], alts := [], laidByText := true, laidKinds := [.data], laidTests := true, laidLooks := .later }
def FnExactApplyStoreUptoCardSaid : Prop := Claim7.holds Tryz.pinned (.plain (OpenSpec.upto fnExactApplyStoreSpec)) fnExactApplyStoreUptoCard
end Rows
end Go.Proofs.YthbfhofogoagdaaGreatDoor
