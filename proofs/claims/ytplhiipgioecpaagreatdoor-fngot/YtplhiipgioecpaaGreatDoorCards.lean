/-
  DERIVED. GIVEN WITH THE SEED: THE CARDS: each row of YtplhiipgioecpaaGreatDoorRows.lean that lists a variable, with what it lists TIED to the program's text (the seventh form; the later family's looks); each row that meets fmt, with fmt's text TOLD by the authors' own Lean function (tested against real Go, not proved from fmt's source: count such statements apart). THE CARD IS WHAT COUNTS. Prove the row's statement (the work); the ties are given (YtplhiipgioecpaaGreatDoorTie.lean); close each card by the builder's one call (the guide's Derived/Test/ToyasCard.lean, 'card_holds'). Laid BY PROGRAM, IN A SANDBOX (cutbox-door.mjs). By AI agents, Wed Nov 11 2026. No macro, syntax, notation, axiom, sorry.
-/
import Derived.Test.YtplhiipgioecpaaGreatDoorRows
import GoSem.ClaimSeven
namespace Go.Proofs.YtplhiipgioecpaaGreatDoor
namespace Rows

/-- THE TIED CARD OF 'laws.FnGot'. -/
def fnGotCard : Claim7 := { stood := { row := fnGotRow, standIns := [], harness := (true, "837a241e6fef21e4f8e67da91d1854e4946cb76095bda609d0c5b70146e01f23"), looks := false }, kinds := [], alts := [], laidByText := true, laidKinds := [.data], laidTests := true, laidLooks := .later }
def FnGotCardSaid : Prop := Claim7.holds Tryz.pinned (.plain (OpenSpec.ofChange fnGotSpec)) fnGotCard

/-- THE TIED CARD OF 'laws.FnGotAt'. -/
def fnGotAtCard : Claim7 := { stood := { row := fnGotAtRow, standIns := [], harness := (true, "837a241e6fef21e4f8e67da91d1854e4946cb76095bda609d0c5b70146e01f23"), looks := false }, kinds := [], alts := [], laidByText := true, laidKinds := [.data], laidTests := true, laidLooks := .later }
def FnGotAtCardSaid : Prop := Claim7.holds Tryz.pinned (.plain (OpenSpec.ofChange fnGotAtSpec)) fnGotAtCard

/-- THE SECOND FORM's CARD OF 'laws.FnGot'. -/
def fnGotUptoCard : Claim7 := { stood := { row := fnGotUptoRow, standIns := [], harness := (true, "837a241e6fef21e4f8e67da91d1854e4946cb76095bda609d0c5b70146e01f23"), looks := false }, kinds := [], alts := [], laidByText := true, laidKinds := [.data], laidTests := true, laidLooks := .later }
def FnGotUptoCardSaid : Prop := Claim7.holds Tryz.pinned (.plain (OpenSpec.upto fnGotSpec)) fnGotUptoCard

/-- THE SECOND FORM's CARD OF 'laws.FnGotAt'. -/
def fnGotAtUptoCard : Claim7 := { stood := { row := fnGotAtUptoRow, standIns := [], harness := (true, "837a241e6fef21e4f8e67da91d1854e4946cb76095bda609d0c5b70146e01f23"), looks := false }, kinds := [], alts := [], laidByText := true, laidKinds := [.data], laidTests := true, laidLooks := .later }
def FnGotAtUptoCardSaid : Prop := Claim7.holds Tryz.pinned (.plain (OpenSpec.upto fnGotAtSpec)) fnGotAtUptoCard
end Rows
end Go.Proofs.YtplhiipgioecpaaGreatDoor
