/-
  DERIVED. GIVEN WITH THE SEED: THE CARDS: each row of YtgcaofedhhkacaaDoorRows.lean that lists a variable, with what it lists TIED to the program's text (the seventh form; the later family's looks); each row that meets fmt, with fmt's text TOLD by the authors' own Lean function (tested against real Go, not proved from fmt's source: count such statements apart). THE CARD IS WHAT COUNTS. Prove the row's statement (the work); the ties are given (YtgcaofedhhkacaaDoorTie.lean); close each card by the builder's one call (the guide's Derived/Test/ToyasCard.lean, 'card_holds'). Laid BY PROGRAM, IN A SANDBOX (cutbox-door.mjs). By AI agents, Wed Nov 11 2026. No macro, syntax, notation, axiom, sorry.
-/
import Derived.Test.YtgcaofedhhkacaaDoorRows
import GoSem.ClaimSeven
namespace Go.Proofs.YtgcaofedhhkacaaDoor
namespace Rows

/-- THE TIED CARD OF 'laws.FnRootsTell'. -/
def fnRootsTellCard : Claim7 := { stood := { row := fnRootsTellRow, standIns := [], harness := (true, "5f615e3d3667da66bb6679dfa5cc0365fbe950338b771db1a72ef9497f489c66"), looks := false }, kinds := [], alts := [], laidByText := true, laidKinds := [.data], laidTests := true, laidLooks := .later }
def FnRootsTellCardSaid : Prop := Claim7.holds Tryd.pinned (.plain (OpenSpec.ofChange fnRootsTellSpec)) fnRootsTellCard

/-- THE TIED CARD OF 'laws.FnExactRootOf'. -/
def fnExactRootOfCard : Claim7 := { stood := { row := fnExactRootOfRow, standIns := [], harness := (true, "5f615e3d3667da66bb6679dfa5cc0365fbe950338b771db1a72ef9497f489c66"), looks := false }, kinds := [], alts := [], laidByText := true, laidKinds := [.data], laidTests := true, laidLooks := .later }
def FnExactRootOfCardSaid : Prop := Claim7.holds Tryd.pinned (.plain (OpenSpec.ofChange fnExactRootOfSpec)) fnExactRootOfCard

/-- THE TIED CARD OF 'laws.FnExactEmptyRoot'. -/
def fnExactEmptyRootCard : Claim7 := { stood := { row := fnExactEmptyRootRow, standIns := [], harness := (true, "5f615e3d3667da66bb6679dfa5cc0365fbe950338b771db1a72ef9497f489c66"), looks := false }, kinds := [], alts := [], laidByText := true, laidKinds := [.data], laidTests := true, laidLooks := .later }
def FnExactEmptyRootCardSaid : Prop := Claim7.holds Tryd.pinned (.plain (OpenSpec.ofChange fnExactEmptyRootSpec)) fnExactEmptyRootCard

/-- THE TIED CARD OF 'laws.FnExactStoreOk'. -/
def fnExactStoreOkCard : Claim7 := { stood := { row := fnExactStoreOkRow, standIns := [], harness := (true, "5f615e3d3667da66bb6679dfa5cc0365fbe950338b771db1a72ef9497f489c66"), looks := false }, kinds := [], alts := [], laidByText := true, laidKinds := [.data], laidTests := true, laidLooks := .later }
def FnExactStoreOkCardSaid : Prop := Claim7.holds Tryd.pinned (.plain (OpenSpec.ofChange fnExactStoreOkSpec)) fnExactStoreOkCard

/-- THE TIED CARD OF 'laws.FnExactStoreGet'. -/
def fnExactStoreGetCard : Claim7 := { stood := { row := fnExactStoreGetRow, standIns := [], harness := (true, "5f615e3d3667da66bb6679dfa5cc0365fbe950338b771db1a72ef9497f489c66"), looks := false }, kinds := [], alts := [], laidByText := true, laidKinds := [.data], laidTests := true, laidLooks := .later }
def FnExactStoreGetCardSaid : Prop := Claim7.holds Tryd.pinned (.plain (OpenSpec.ofChange fnExactStoreGetSpec)) fnExactStoreGetCard

/-- THE TIED CARD OF 'laws.FnExactGet'. -/
def fnExactGetCard : Claim7 := { stood := { row := fnExactGetRow, standIns := [], harness := (true, "5f615e3d3667da66bb6679dfa5cc0365fbe950338b771db1a72ef9497f489c66"), looks := false }, kinds := [], alts := [], laidByText := true, laidKinds := [.data], laidTests := true, laidLooks := .later }
def FnExactGetCardSaid : Prop := Claim7.holds Tryd.pinned (.plain (OpenSpec.ofChange fnExactGetSpec)) fnExactGetCard

/-- THE SECOND FORM's CARD OF 'laws.FnRootsTell'. -/
def fnRootsTellUptoCard : Claim7 := { stood := { row := fnRootsTellUptoRow, standIns := [], harness := (true, "5f615e3d3667da66bb6679dfa5cc0365fbe950338b771db1a72ef9497f489c66"), looks := false }, kinds := [], alts := [], laidByText := true, laidKinds := [.data], laidTests := true, laidLooks := .later }
def FnRootsTellUptoCardSaid : Prop := Claim7.holds Tryd.pinned (.plain (OpenSpec.upto fnRootsTellSpec)) fnRootsTellUptoCard

/-- THE SECOND FORM's CARD OF 'laws.FnExactRootOf'. -/
def fnExactRootOfUptoCard : Claim7 := { stood := { row := fnExactRootOfUptoRow, standIns := [], harness := (true, "5f615e3d3667da66bb6679dfa5cc0365fbe950338b771db1a72ef9497f489c66"), looks := false }, kinds := [], alts := [], laidByText := true, laidKinds := [.data], laidTests := true, laidLooks := .later }
def FnExactRootOfUptoCardSaid : Prop := Claim7.holds Tryd.pinned (.plain (OpenSpec.upto fnExactRootOfSpec)) fnExactRootOfUptoCard

/-- THE SECOND FORM's CARD OF 'laws.FnExactEmptyRoot'. -/
def fnExactEmptyRootUptoCard : Claim7 := { stood := { row := fnExactEmptyRootUptoRow, standIns := [], harness := (true, "5f615e3d3667da66bb6679dfa5cc0365fbe950338b771db1a72ef9497f489c66"), looks := false }, kinds := [], alts := [], laidByText := true, laidKinds := [.data], laidTests := true, laidLooks := .later }
def FnExactEmptyRootUptoCardSaid : Prop := Claim7.holds Tryd.pinned (.plain (OpenSpec.upto fnExactEmptyRootSpec)) fnExactEmptyRootUptoCard

/-- THE SECOND FORM's CARD OF 'laws.FnExactStoreOk'. -/
def fnExactStoreOkUptoCard : Claim7 := { stood := { row := fnExactStoreOkUptoRow, standIns := [], harness := (true, "5f615e3d3667da66bb6679dfa5cc0365fbe950338b771db1a72ef9497f489c66"), looks := false }, kinds := [], alts := [], laidByText := true, laidKinds := [.data], laidTests := true, laidLooks := .later }
def FnExactStoreOkUptoCardSaid : Prop := Claim7.holds Tryd.pinned (.plain (OpenSpec.upto fnExactStoreOkSpec)) fnExactStoreOkUptoCard

/-- THE SECOND FORM's CARD OF 'laws.FnExactStoreGet'. -/
def fnExactStoreGetUptoCard : Claim7 := { stood := { row := fnExactStoreGetUptoRow, standIns := [], harness := (true, "5f615e3d3667da66bb6679dfa5cc0365fbe950338b771db1a72ef9497f489c66"), looks := false }, kinds := [], alts := [], laidByText := true, laidKinds := [.data], laidTests := true, laidLooks := .later }
def FnExactStoreGetUptoCardSaid : Prop := Claim7.holds Tryd.pinned (.plain (OpenSpec.upto fnExactStoreGetSpec)) fnExactStoreGetUptoCard

/-- THE SECOND FORM's CARD OF 'laws.FnExactGet'. -/
def fnExactGetUptoCard : Claim7 := { stood := { row := fnExactGetUptoRow, standIns := [], harness := (true, "5f615e3d3667da66bb6679dfa5cc0365fbe950338b771db1a72ef9497f489c66"), looks := false }, kinds := [], alts := [], laidByText := true, laidKinds := [.data], laidTests := true, laidLooks := .later }
def FnExactGetUptoCardSaid : Prop := Claim7.holds Tryd.pinned (.plain (OpenSpec.upto fnExactGetSpec)) fnExactGetUptoCard
end Rows
end Go.Proofs.YtgcaofedhhkacaaDoor
