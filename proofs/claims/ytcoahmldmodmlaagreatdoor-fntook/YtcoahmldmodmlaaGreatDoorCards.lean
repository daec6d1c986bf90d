/-
  DERIVED. GIVEN WITH THE SEED: THE CARDS: each row of YtcoahmldmodmlaaGreatDoorRows.lean that lists a variable, with what it lists TIED to the program's text (the seventh form; the later family's looks); each row that meets fmt, with fmt's text TOLD by the authors' own Lean function (tested against real Go, not proved from fmt's source: count such statements apart). THE CARD IS WHAT COUNTS. Prove the row's statement (the work); the ties are given (YtcoahmldmodmlaaGreatDoorTie.lean); close each card by the builder's one call (the guide's Derived/Test/ToyasCard.lean, 'card_holds'). Laid BY PROGRAM, IN A SANDBOX (cutbox-door.mjs). By AI agents, Wed Nov 11 2026. No macro, syntax, notation, axiom, sorry.
-/
import Derived.Test.YtcoahmldmodmlaaGreatDoorRows
import GoSem.ClaimSeven
namespace Go.Proofs.YtcoahmldmodmlaaGreatDoor
namespace Rows

/-- THE TIED CARD OF 'laws.FnTook'. -/
def fnTookCard : Claim7 := { stood := { row := fnTookRow, standIns := [], harness := (true, "5a74f40acfcfd0efe23e364c851791ed1a1ad8243c3627355d2f92adfda85c3e"), looks := false }, kinds := [], alts := [], laidByText := true, laidKinds := [.data], laidTests := true, laidLooks := .later }
def FnTookCardSaid : Prop := Claim7.holds Tryz.pinned (.plain (OpenSpec.ofChange fnTookSpec)) fnTookCard

/-- THE SECOND FORM's CARD OF 'laws.FnTook'. -/
def fnTookUptoCard : Claim7 := { stood := { row := fnTookUptoRow, standIns := [], harness := (true, "5a74f40acfcfd0efe23e364c851791ed1a1ad8243c3627355d2f92adfda85c3e"), looks := false }, kinds := [], alts := [], laidByText := true, laidKinds := [.data], laidTests := true, laidLooks := .later }
def FnTookUptoCardSaid : Prop := Claim7.holds Tryz.pinned (.plain (OpenSpec.upto fnTookSpec)) fnTookUptoCard
end Rows
end Go.Proofs.YtcoahmldmodmlaaGreatDoor
