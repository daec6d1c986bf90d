/-
  DERIVED. GIVEN WITH THE SEED: THE CARDS: each row of YtckoglgcjcmmkaaGreatDoorRows.lean that lists a variable, with what it lists TIED to the program's text (the seventh form; the later family's looks); each row that meets fmt, with fmt's text TOLD by the authors' own Lean function (tested against real Go, not proved from fmt's source: count such statements apart). THE CARD IS WHAT COUNTS. Prove the row's statement (the work); the ties are given (YtckoglgcjcmmkaaGreatDoorTie.lean); close each card by the builder's one call (the guide's Derived/Test/ToyasCard.lean, 'card_holds'). Laid BY PROGRAM, IN A SANDBOX (cutbox-door.mjs). By AI agents, Wed Nov 11 2026. No macro, syntax, notation, axiom, sorry.
-/
import Derived.Test.YtckoglgcjcmmkaaGreatDoorRows
import GoSem.ClaimSeven
namespace Go.Proofs.YtckoglgcjcmmkaaGreatDoor
namespace Rows

/-- THE TIED CARD OF 'laws.FnOtherProof'. -/
def fnOtherProofCard : Claim7 := { stood := { row := fnOtherProofRow, standIns := [], harness := (true, "864235f6b46df8e56353f307b40c1f7c3d2e3883713854a4af2dfa9544d8bef0"), looks := false }, kinds := [], alts := [], laidByText := true, laidKinds := [.data], laidTests := true, laidLooks := .later }
def FnOtherProofCardSaid : Prop := Claim7.holds Tryz.pinned (.plain (OpenSpec.ofChange fnOtherProofSpec)) fnOtherProofCard

/-- THE TIED CARD OF 'laws.FnShortProof'. -/
def fnShortProofCard : Claim7 := { stood := { row := fnShortProofRow, standIns := [], harness := (true, "864235f6b46df8e56353f307b40c1f7c3d2e3883713854a4af2dfa9544d8bef0"), looks := false }, kinds := [], alts := [], laidByText := true, laidKinds := [.data], laidTests := true, laidLooks := .later }
def FnShortProofCardSaid : Prop := Claim7.holds Tryz.pinned (.plain (OpenSpec.ofChange fnShortProofSpec)) fnShortProofCard

/-- THE TIED CARD OF 'laws.FnSound'. -/
def fnSoundCard : Claim7 := { stood := { row := fnSoundRow, standIns := [], harness := (true, "864235f6b46df8e56353f307b40c1f7c3d2e3883713854a4af2dfa9544d8bef0"), looks := false }, kinds := [], alts := [], laidByText := true, laidKinds := [.data], laidTests := true, laidLooks := .later }
def FnSoundCardSaid : Prop := Claim7.holds Tryz.pinned (.plain (OpenSpec.ofChange fnSoundSpec)) fnSoundCard

/-- THE SECOND FORM's CARD OF 'laws.FnOtherProof'. -/
def fnOtherProofUptoCard : Claim7 := { stood := { row := fnOtherProofUptoRow, standIns := [], harness := (true, "864235f6b46df8e56353f307b40c1f7c3d2e3883713854a4af2dfa9544d8bef0"), looks := false }, kinds := [], alts := [], laidByText := true, laidKinds := [.data], laidTests := true, laidLooks := .later }
def FnOtherProofUptoCardSaid : Prop := Claim7.holds Tryz.pinned (.plain (OpenSpec.upto fnOtherProofSpec)) fnOtherProofUptoCard

/-- THE SECOND FORM's CARD OF 'laws.FnShortProof'. -/
def fnShortProofUptoCard : Claim7 := { stood := { row := fnShortProofUptoRow, standIns := [], harness := (true, "864235f6b46df8e56353f307b40c1f7c3d2e3883713854a4af2dfa9544d8bef0"), looks := false }, kinds := [], alts := [], laidByText := true, laidKinds := [.data], laidTests := true, laidLooks := .later }
def FnShortProofUptoCardSaid : Prop := Claim7.holds Tryz.pinned (.plain (OpenSpec.upto fnShortProofSpec)) fnShortProofUptoCard

/-- THE SECOND FORM's CARD OF 'laws.FnSound'. -/
def fnSoundUptoCard : Claim7 := { stood := { row := fnSoundUptoRow, standIns := [], harness := (true, "864235f6b46df8e56353f307b40c1f7c3d2e3883713854a4af2dfa9544d8bef0"), looks := false }, kinds := [], alts := [], laidByText := true, laidKinds := [.data], laidTests := true, laidLooks := .later }
def FnSoundUptoCardSaid : Prop := Claim7.holds Tryz.pinned (.plain (OpenSpec.upto fnSoundSpec)) fnSoundUptoCard
end Rows
end Go.Proofs.YtckoglgcjcmmkaaGreatDoor
