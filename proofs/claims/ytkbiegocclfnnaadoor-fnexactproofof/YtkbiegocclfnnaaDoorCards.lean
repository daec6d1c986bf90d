/-
  DERIVED. GIVEN WITH THE SEED: THE CARDS: each row of YtkbiegocclfnnaaDoorRows.lean that lists a variable, with what it lists TIED to the program's text (the seventh form; the later family's looks); each row that meets fmt, with fmt's text TOLD by the authors' own Lean function (tested against real Go, not proved from fmt's source: count such statements apart). THE CARD IS WHAT COUNTS. Prove the row's statement (the work); the ties are given (YtkbiegocclfnnaaDoorTie.lean); close each card by the builder's one call (the guide's Derived/Test/ToyasCard.lean, 'card_holds'). Laid BY PROGRAM, IN A SANDBOX (cutbox-door.mjs). By AI agents, Wed Nov 11 2026. No macro, syntax, notation, axiom, sorry.
-/
import Derived.Test.YtkbiegocclfnnaaDoorRows
import GoSem.ClaimSeven
namespace Go.Proofs.YtkbiegocclfnnaaDoor
namespace Rows

/-- THE TIED CARD OF 'laws.FnExactProofOf'. -/
def fnExactProofOfCard : Claim7 := { stood := { row := fnExactProofOfRow, standIns := [], harness := (true, "f3ae39876dd7af0069107918a80dc6c5a849aec701f8866d2115460476782907"), looks := false }, kinds := [], alts := [], laidByText := true, laidKinds := [.data], laidTests := true, laidLooks := .later }
def FnExactProofOfCardSaid : Prop := Claim7.holds Tryd.pinned (.plain (OpenSpec.ofChange fnExactProofOfSpec)) fnExactProofOfCard

/-- THE SECOND FORM's CARD OF 'laws.FnExactProofOf'. -/
def fnExactProofOfUptoCard : Claim7 := { stood := { row := fnExactProofOfUptoRow, standIns := [], harness := (true, "f3ae39876dd7af0069107918a80dc6c5a849aec701f8866d2115460476782907"), looks := false }, kinds := [], alts := [], laidByText := true, laidKinds := [.data], laidTests := true, laidLooks := .later }
def FnExactProofOfUptoCardSaid : Prop := Claim7.holds Tryd.pinned (.plain (OpenSpec.upto fnExactProofOfSpec)) fnExactProofOfUptoCard
end Rows
end Go.Proofs.YtkbiegocclfnnaaDoor
