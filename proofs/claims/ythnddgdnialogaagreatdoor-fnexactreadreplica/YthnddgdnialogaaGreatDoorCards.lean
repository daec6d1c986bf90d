/-
  DERIVED. GIVEN WITH THE SEED: THE CARDS: each row of YthnddgdnialogaaGreatDoorRows.lean that lists a variable, with what it lists TIED to the program's text (the seventh form; the later family's looks); each row that meets fmt, with fmt's text TOLD by the authors' own Lean function (tested against real Go, not proved from fmt's source: count such statements apart). THE CARD IS WHAT COUNTS. Prove the row's statement (the work); the ties are given (YthnddgdnialogaaGreatDoorTie.lean); close each card by the builder's one call (the guide's Derived/Test/ToyasCard.lean, 'card_holds'). Laid BY PROGRAM, IN A SANDBOX (cutbox-door.mjs). By AI agents, Wed Nov 11 2026. No macro, syntax, notation, axiom, sorry.
-/
import Derived.Test.YthnddgdnialogaaGreatDoorRows
import GoSem.ClaimSeven
namespace Go.Proofs.YthnddgdnialogaaGreatDoor
namespace Rows

/-- THE TIED CARD OF 'laws.FnExactReplicaOk'. -/
def fnExactReplicaOkCard : Claim7 := { stood := { row := fnExactReplicaOkRow, standIns := [], harness := (true, "3bb7862255e9bff3d418aa8628bbb0d00a7fc0a47a9571f41e303cc68924cf41"), looks := false }, kinds := [], alts := [], laidByText := true, laidKinds := [.data], laidTests := true, laidLooks := .later }
def FnExactReplicaOkCardSaid : Prop := Claim7.holds Tryz.pinned (.plain (OpenSpec.ofChange fnExactReplicaOkSpec)) fnExactReplicaOkCard

/-- THE TIED CARD OF 'laws.FnExactReplicaPairs'. -/
def fnExactReplicaPairsCard : Claim7 := { stood := { row := fnExactReplicaPairsRow, standIns := [], harness := (true, "3bb7862255e9bff3d418aa8628bbb0d00a7fc0a47a9571f41e303cc68924cf41"), looks := false }, kinds := [], alts := [], laidByText := true, laidKinds := [.data], laidTests := true, laidLooks := .later }
def FnExactReplicaPairsCardSaid : Prop := Claim7.holds Tryz.pinned (.plain (OpenSpec.ofChange fnExactReplicaPairsSpec)) fnExactReplicaPairsCard

/-- THE TIED CARD OF 'laws.FnExactReplicaText'. -/
def fnExactReplicaTextCard : Claim7 := { stood := { row := fnExactReplicaTextRow, standIns := [], harness := (true, "3bb7862255e9bff3d418aa8628bbb0d00a7fc0a47a9571f41e303cc68924cf41"), looks := false }, kinds := [], alts := [], laidByText := true, laidKinds := [.data], laidTests := true, laidLooks := .later }
def FnExactReplicaTextCardSaid : Prop := Claim7.holds Tryz.pinned (.plain (OpenSpec.ofChange fnExactReplicaTextSpec)) fnExactReplicaTextCard

/-- THE TIED CARD OF 'laws.FnExactReadReplica'. -/
def fnExactReadReplicaCard : Claim7 := { stood := { row := fnExactReadReplicaRow, standIns := [], harness := (true, "3bb7862255e9bff3d418aa8628bbb0d00a7fc0a47a9571f41e303cc68924cf41"), looks := false }, kinds := [], alts := [], laidByText := true, laidKinds := [.data], laidTests := true, laidLooks := .later }
def FnExactReadReplicaCardSaid : Prop := Claim7.holds Tryz.pinned (.plain (OpenSpec.ofChange fnExactReadReplicaSpec)) fnExactReadReplicaCard

/-- THE SECOND FORM's CARD OF 'laws.FnExactReplicaOk'. -/
def fnExactReplicaOkUptoCard : Claim7 := { stood := { row := fnExactReplicaOkUptoRow, standIns := [], harness := (true, "3bb7862255e9bff3d418aa8628bbb0d00a7fc0a47a9571f41e303cc68924cf41"), looks := false }, kinds := [], alts := [], laidByText := true, laidKinds := [.data], laidTests := true, laidLooks := .later }
def FnExactReplicaOkUptoCardSaid : Prop := Claim7.holds Tryz.pinned (.plain (OpenSpec.upto fnExactReplicaOkSpec)) fnExactReplicaOkUptoCard

/-- THE SECOND FORM's CARD OF 'laws.FnExactReplicaPairs'. -/
def fnExactReplicaPairsUptoCard : Claim7 := { stood := { row := fnExactReplicaPairsUptoRow, standIns := [], harness := (true, "3bb7862255e9bff3d418aa8628bbb0d00a7fc0a47a9571f41e303cc68924cf41"), looks := false }, kinds := [], alts := [], laidByText := true, laidKinds := [.data], laidTests := true, laidLooks := .later }
def FnExactReplicaPairsUptoCardSaid : Prop := Claim7.holds Tryz.pinned (.plain (OpenSpec.upto fnExactReplicaPairsSpec)) fnExactReplicaPairsUptoCard

/-- THE SECOND FORM's CARD OF 'laws.FnExactReplicaText'. -/
def fnExactReplicaTextUptoCard : Claim7 := { stood := { row := fnExactReplicaTextUptoRow, standIns := [], harness := (true, "3bb7862255e9bff3d418aa8628bbb0d00a7fc0a47a9571f41e303cc68924cf41"), looks := false }, kinds := [], alts := [], laidByText := true, laidKinds := [.data], laidTests := true, laidLooks := .later }
def FnExactReplicaTextUptoCardSaid : Prop := Claim7.holds Tryz.pinned (.plain (OpenSpec.upto fnExactReplicaTextSpec)) fnExactReplicaTextUptoCard

/-- THE SECOND FORM's CARD OF 'laws.FnExactReadReplica'. -/
def fnExactReadReplicaUptoCard : Claim7 := { stood := { row := fnExactReadReplicaUptoRow, standIns := [], harness := (true, "3bb7862255e9bff3d418aa8628bbb0d00a7fc0a47a9571f41e303cc68924cf41"), looks := false }, kinds := [], alts := [], laidByText := true, laidKinds := [.data], laidTests := true, laidLooks := .later }
def FnExactReadReplicaUptoCardSaid : Prop := Claim7.holds Tryz.pinned (.plain (OpenSpec.upto fnExactReadReplicaSpec)) fnExactReadReplicaUptoCard
end Rows
end Go.Proofs.YthnddgdnialogaaGreatDoor
