/-
  DERIVED. GIVEN WITH THE SEED: THE CARDS: each row of YtjelmpmlkfdfiaaGreatDoorRows.lean that lists a variable, with what it lists TIED to the program's text (the seventh form; the later family's looks); each row that meets fmt, with fmt's text TOLD by the authors' own Lean function (tested against real Go, not proved from fmt's source: count such statements apart). THE CARD IS WHAT COUNTS. Prove the row's statement (the work); the ties are given (YtjelmpmlkfdfiaaGreatDoorTie.lean); close each card by the builder's one call (the guide's Derived/Test/ToyasCard.lean, 'card_holds'). Laid BY PROGRAM, IN A SANDBOX (cutbox-door.mjs). By AI agents, Wed Nov 11 2026. No macro, syntax, notation, axiom, sorry.
-/
import Derived.Test.YtjelmpmlkfdfiaaGreatDoorRows
import GoSem.ClaimSeven
namespace Go.Proofs.YtjelmpmlkfdfiaaGreatDoor
namespace Rows

/-- THE TIED CARD OF 'laws.FnProofSize'. -/
def fnProofSizeCard : Claim7 := { stood := { row := fnProofSizeRow, standIns := [], harness := (true, "69e9623a8da5ed3d39e65375ebd35bd6f20b414f87c53231217d7b6ffd8a70e8"), looks := false }, kinds := [], alts := [], laidByText := true, laidKinds := [.data], laidTests := true, laidLooks := .later }
def FnProofSizeCardSaid : Prop := Claim7.holds Tryz.pinned (.plain (OpenSpec.ofChange fnProofSizeSpec)) fnProofSizeCard

/-- THE TIED CARD OF 'laws.FnProved'. -/
def fnProvedCard : Claim7 := { stood := { row := fnProvedRow, standIns := [], harness := (true, "69e9623a8da5ed3d39e65375ebd35bd6f20b414f87c53231217d7b6ffd8a70e8"), looks := false }, kinds := [], alts := [], laidByText := true, laidKinds := [.data], laidTests := true, laidLooks := .later }
def FnProvedCardSaid : Prop := Claim7.holds Tryz.pinned (.plain (OpenSpec.ofChange fnProvedSpec)) fnProvedCard

/-- THE TIED CARD OF 'laws.FnShortProof'. -/
def fnShortProofCard : Claim7 := { stood := { row := fnShortProofRow, standIns := [], harness := (true, "69e9623a8da5ed3d39e65375ebd35bd6f20b414f87c53231217d7b6ffd8a70e8"), looks := false }, kinds := [], alts := [], laidByText := true, laidKinds := [.data], laidTests := true, laidLooks := .later }
def FnShortProofCardSaid : Prop := Claim7.holds Tryz.pinned (.plain (OpenSpec.ofChange fnShortProofSpec)) fnShortProofCard

/-- THE SECOND FORM's CARD OF 'laws.FnProofSize'. -/
def fnProofSizeUptoCard : Claim7 := { stood := { row := fnProofSizeUptoRow, standIns := [], harness := (true, "69e9623a8da5ed3d39e65375ebd35bd6f20b414f87c53231217d7b6ffd8a70e8"), looks := false }, kinds := [], alts := [], laidByText := true, laidKinds := [.data], laidTests := true, laidLooks := .later }
def FnProofSizeUptoCardSaid : Prop := Claim7.holds Tryz.pinned (.plain (OpenSpec.upto fnProofSizeSpec)) fnProofSizeUptoCard

/-- THE SECOND FORM's CARD OF 'laws.FnProved'. -/
def fnProvedUptoCard : Claim7 := { stood := { row := fnProvedUptoRow, standIns := [], harness := (true, "69e9623a8da5ed3d39e65375ebd35bd6f20b414f87c53231217d7b6ffd8a70e8"), looks := false }, kinds := [], alts := [], laidByText := true, laidKinds := [.data], laidTests := true, laidLooks := .later }
def FnProvedUptoCardSaid : Prop := Claim7.holds Tryz.pinned (.plain (OpenSpec.upto fnProvedSpec)) fnProvedUptoCard

/-- THE SECOND FORM's CARD OF 'laws.FnShortProof'. -/
def fnShortProofUptoCard : Claim7 := { stood := { row := fnShortProofUptoRow, standIns := [], harness := (true, "69e9623a8da5ed3d39e65375ebd35bd6f20b414f87c53231217d7b6ffd8a70e8"), looks := false }, kinds := [], alts := [], laidByText := true, laidKinds := [.data], laidTests := true, laidLooks := .later }
def FnShortProofUptoCardSaid : Prop := Claim7.holds Tryz.pinned (.plain (OpenSpec.upto fnShortProofSpec)) fnShortProofUptoCard
end Rows
end Go.Proofs.YtjelmpmlkfdfiaaGreatDoor
