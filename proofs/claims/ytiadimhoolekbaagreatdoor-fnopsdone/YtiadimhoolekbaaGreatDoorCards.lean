/-
  DERIVED. GIVEN WITH THE SEED: THE CARDS: each row of YtiadimhoolekbaaGreatDoorRows.lean that lists a variable, with what it lists TIED to the program's text (the seventh form; the later family's looks); each row that meets fmt, with fmt's text TOLD by the authors' own Lean function (tested against real Go, not proved from fmt's source: count such statements apart). THE CARD IS WHAT COUNTS. Prove the row's statement (the work); the ties are given (YtiadimhoolekbaaGreatDoorTie.lean); close each card by the builder's one call (the guide's Derived/Test/ToyasCard.lean, 'card_holds'). Laid BY PROGRAM, IN A SANDBOX (cutbox-door.mjs). By AI agents, Wed Nov 11 2026. No macro, syntax, notation, axiom, sorry.
-/
import Derived.Test.YtiadimhoolekbaaGreatDoorRows
import GoSem.ClaimSeven
namespace Go.Proofs.YtiadimhoolekbaaGreatDoor
namespace Rows

/-- THE TIED CARD OF 'laws.FnOpsDone'. -/
def fnOpsDoneCard : Claim7 := { stood := { row := fnOpsDoneRow, standIns := [], harness := (true, "01d94c3cfee44946b99ac0dbbb2f8f9390d4077da335ecd3bc26c82c5170e50b"), looks := true }, kinds := [], alts := [], laidByText := true, laidKinds := [.data], laidTests := true, laidLooks := .later }
def FnOpsDoneCardSaid : Prop := Claim7.holds Tryz.pinned (.plain (OpenSpec.ofChange fnOpsDoneSpec)) fnOpsDoneCard

/-- THE SECOND FORM's CARD OF 'laws.FnOpsDone'. -/
def fnOpsDoneUptoCard : Claim7 := { stood := { row := fnOpsDoneUptoRow, standIns := [], harness := (true, "01d94c3cfee44946b99ac0dbbb2f8f9390d4077da335ecd3bc26c82c5170e50b"), looks := true }, kinds := [], alts := [], laidByText := true, laidKinds := [.data], laidTests := true, laidLooks := .later }
def FnOpsDoneUptoCardSaid : Prop := Claim7.holds Tryz.pinned (.plain (OpenSpec.upto fnOpsDoneSpec)) fnOpsDoneUptoCard
end Rows
end Go.Proofs.YtiadimhoolekbaaGreatDoor
