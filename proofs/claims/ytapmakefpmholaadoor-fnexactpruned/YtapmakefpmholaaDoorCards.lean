/-
  DERIVED. GIVEN WITH THE SEED: THE CARDS: each row of YtapmakefpmholaaDoorRows.lean that lists a variable, with what it lists TIED to the program's text (the seventh form; the later family's looks); each row that meets fmt, with fmt's text TOLD by the authors' own Lean function (tested against real Go, not proved from fmt's source: count such statements apart). THE CARD IS WHAT COUNTS. Prove the row's statement (the work); the ties are given (YtapmakefpmholaaDoorTie.lean); close each card by the builder's one call (the guide's Derived/Test/ToyasCard.lean, 'card_holds'). Laid BY PROGRAM, IN A SANDBOX (cutbox-door.mjs). By AI agents, Wed Nov 11 2026. No macro, syntax, notation, axiom, sorry.
-/
import Derived.Test.YtapmakefpmholaaDoorRows
import GoSem.ClaimSeven
namespace Go.Proofs.YtapmakefpmholaaDoor
namespace Rows

/-- THE TIED CARD OF 'laws.FnExactPruned'. -/
def fnExactPrunedCard : Claim7 := { stood := { row := fnExactPrunedRow, standIns := [], harness := (true, "33b8d748e1ea1ceb6cd9eacb70aefb7b02e65420e2677c9636e826a79fe9bb60"), looks := false }, kinds := [], alts := [], laidByText := true, laidKinds := [.data], laidTests := true, laidLooks := .later }
def FnExactPrunedCardSaid : Prop := Claim7.holds Tryd.pinned (.plain (OpenSpec.ofChange fnExactPrunedSpec)) fnExactPrunedCard

/-- THE SECOND FORM's CARD OF 'laws.FnExactPruned'. -/
def fnExactPrunedUptoCard : Claim7 := { stood := { row := fnExactPrunedUptoRow, standIns := [], harness := (true, "33b8d748e1ea1ceb6cd9eacb70aefb7b02e65420e2677c9636e826a79fe9bb60"), looks := false }, kinds := [], alts := [], laidByText := true, laidKinds := [.data], laidTests := true, laidLooks := .later }
def FnExactPrunedUptoCardSaid : Prop := Claim7.holds Tryd.pinned (.plain (OpenSpec.upto fnExactPrunedSpec)) fnExactPrunedUptoCard
end Rows
end Go.Proofs.YtapmakefpmholaaDoor
