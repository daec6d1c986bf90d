/-
  DERIVED. GIVEN WITH THE SEED: THE CARDS: each row of YtpohjnghhdilaaaGreatDoorRows.lean that lists a variable, with what it lists TIED to the program's text (the seventh form; the later family's looks); each row that meets fmt, with fmt's text TOLD by the authors' own Lean function (tested against real Go, not proved from fmt's source: count such statements apart). THE CARD IS WHAT COUNTS. Prove the row's statement (the work); the ties are given (YtpohjnghhdilaaaGreatDoorTie.lean); close each card by the builder's one call (the guide's Derived/Test/ToyasCard.lean, 'card_holds'). Laid BY PROGRAM, IN A SANDBOX (cutbox-door.mjs). By AI agents, Wed Nov 11 2026. No macro, syntax, notation, axiom, sorry.
-/
import Derived.Test.YtpohjnghhdilaaaGreatDoorRows
import GoSem.ClaimSeven
namespace Go.Proofs.YtpohjnghhdilaaaGreatDoor
namespace Rows

/-- THE TIED CARD OF 'laws.FnExactStoreAdd'. -/
def fnExactStoreAddCard : Claim7 := { stood := { row := fnExactStoreAddRow, standIns := [], harness := (true, "8919bc24168aa62d11bfb5feca763c4de55ba6efaab8b462d2574ba5673f80cb"), looks := false }, kinds := [], alts := [], laidByText := true, laidKinds := [.data], laidTests := true, laidLooks := .later }
def FnExactStoreAddCardSaid : Prop := Claim7.holds Tryz.pinned (.plain (OpenSpec.ofChange fnExactStoreAddSpec)) fnExactStoreAddCard

/-- THE TIED CARD OF 'laws.FnExactPairsAt'. -/
def fnExactPairsAtCard : Claim7 := { stood := { row := fnExactPairsAtRow, standIns := [], harness := (true, "8919bc24168aa62d11bfb5feca763c4de55ba6efaab8b462d2574ba5673f80cb"), looks := false }, kinds := [], alts := [], laidByText := true, laidKinds := [.data], laidTests := true, laidLooks := .later }
def FnExactPairsAtCardSaid : Prop := Claim7.holds Tryz.pinned (.plain (OpenSpec.ofChange fnExactPairsAtSpec)) fnExactPairsAtCard

/-- THE TIED CARD OF 'laws.FnExactPut'. -/
def fnExactPutCard : Claim7 := { stood := { row := fnExactPutRow, standIns := [], harness := (true, "8919bc24168aa62d11bfb5feca763c4de55ba6efaab8b462d2574ba5673f80cb"), looks := false }, kinds := [], alts := [], laidByText := true, laidKinds := [.data], laidTests := true, laidLooks := .later }
def FnExactPutCardSaid : Prop := Claim7.holds Tryz.pinned (.plain (OpenSpec.ofChange fnExactPutSpec)) fnExactPutCard

/-- THE TIED CARD OF 'laws.FnExactCut'. -/
def fnExactCutCard : Claim7 := { stood := { row := fnExactCutRow, standIns := [], harness := (true, "8919bc24168aa62d11bfb5feca763c4de55ba6efaab8b462d2574ba5673f80cb"), looks := false }, kinds := [], alts := [], laidByText := true, laidKinds := [.data], laidTests := true, laidLooks := .later }
def FnExactCutCardSaid : Prop := Claim7.holds Tryz.pinned (.plain (OpenSpec.ofChange fnExactCutSpec)) fnExactCutCard

/-- THE TIED CARD OF 'laws.FnExactReached'. -/
def fnExactReachedCard : Claim7 := { stood := { row := fnExactReachedRow, standIns := [], harness := (true, "8919bc24168aa62d11bfb5feca763c4de55ba6efaab8b462d2574ba5673f80cb"), looks := false }, kinds := [], alts := [], laidByText := true, laidKinds := [.data], laidTests := true, laidLooks := .later }
def FnExactReachedCardSaid : Prop := Claim7.holds Tryz.pinned (.plain (OpenSpec.ofChange fnExactReachedSpec)) fnExactReachedCard

/-- THE TIED CARD OF 'laws.FnNodes'. -/
def fnNodesCard : Claim7 := { stood := { row := fnNodesRow, standIns := [], harness := (true, "8919bc24168aa62d11bfb5feca763c4de55ba6efaab8b462d2574ba5673f80cb"), looks := false }, kinds := [], alts := [], laidByText := true, laidKinds := [.data], laidTests := true, laidLooks := .later }
def FnNodesCardSaid : Prop := Claim7.holds Tryz.pinned (.plain (OpenSpec.ofChange fnNodesSpec)) fnNodesCard

/-- THE TIED CARD OF 'laws.FnStored'. -/
def fnStoredCard : Claim7 := { stood := { row := fnStoredRow, standIns := [], harness := (true, "8919bc24168aa62d11bfb5feca763c4de55ba6efaab8b462d2574ba5673f80cb"), looks := false }, kinds := [], alts := [], laidByText := true, laidKinds := [.data], laidTests := true, laidLooks := .later }
def FnStoredCardSaid : Prop := Claim7.holds Tryz.pinned (.plain (OpenSpec.ofChange fnStoredSpec)) fnStoredCard

/-- THE TIED CARD OF 'laws.FnGot'. -/
def fnGotCard : Claim7 := { stood := { row := fnGotRow, standIns := [], harness := (true, "8919bc24168aa62d11bfb5feca763c4de55ba6efaab8b462d2574ba5673f80cb"), looks := false }, kinds := [], alts := [], laidByText := true, laidKinds := [.data], laidTests := true, laidLooks := .later }
def FnGotCardSaid : Prop := Claim7.holds Tryz.pinned (.plain (OpenSpec.ofChange fnGotSpec)) fnGotCard

/-- THE TIED CARD OF 'laws.FnGotAt'. -/
def fnGotAtCard : Claim7 := { stood := { row := fnGotAtRow, standIns := [], harness := (true, "8919bc24168aa62d11bfb5feca763c4de55ba6efaab8b462d2574ba5673f80cb"), looks := false }, kinds := [], alts := [], laidByText := true, laidKinds := [.data], laidTests := true, laidLooks := .later }
def FnGotAtCardSaid : Prop := Claim7.holds Tryz.pinned (.plain (OpenSpec.ofChange fnGotAtSpec)) fnGotAtCard

/-- THE SECOND FORM's CARD OF 'laws.FnExactStoreAdd'. -/
def fnExactStoreAddUptoCard : Claim7 := { stood := { row := fnExactStoreAddUptoRow, standIns := [], harness := (true, "8919bc24168aa62d11bfb5feca763c4de55ba6efaab8b462d2574ba5673f80cb"), looks := false }, kinds := [], alts := [], laidByText := true, laidKinds := [.data], laidTests := true, laidLooks := .later }
def FnExactStoreAddUptoCardSaid : Prop := Claim7.holds Tryz.pinned (.plain (OpenSpec.upto fnExactStoreAddSpec)) fnExactStoreAddUptoCard

/-- THE SECOND FORM's CARD OF 'laws.FnExactPairsAt'. -/
def fnExactPairsAtUptoCard : Claim7 := { stood := { row := fnExactPairsAtUptoRow, standIns := [], harness := (true, "8919bc24168aa62d11bfb5feca763c4de55ba6efaab8b462d2574ba5673f80cb"), looks := false }, kinds := [], alts := [], laidByText := true, laidKinds := [.data], laidTests := true, laidLooks := .later }
def FnExactPairsAtUptoCardSaid : Prop := Claim7.holds Tryz.pinned (.plain (OpenSpec.upto fnExactPairsAtSpec)) fnExactPairsAtUptoCard

/-- THE SECOND FORM's CARD OF 'laws.FnExactPut'. -/
def fnExactPutUptoCard : Claim7 := { stood := { row := fnExactPutUptoRow, standIns := [], harness := (true, "8919bc24168aa62d11bfb5feca763c4de55ba6efaab8b462d2574ba5673f80cb"), looks := false }, kinds := [], alts := [], laidByText := true, laidKinds := [.data], laidTests := true, laidLooks := .later }
def FnExactPutUptoCardSaid : Prop := Claim7.holds Tryz.pinned (.plain (OpenSpec.upto fnExactPutSpec)) fnExactPutUptoCard

/-- THE SECOND FORM's CARD OF 'laws.FnExactCut'. -/
def fnExactCutUptoCard : Claim7 := { stood := { row := fnExactCutUptoRow, standIns := [], harness := (true, "8919bc24168aa62d11bfb5feca763c4de55ba6efaab8b462d2574ba5673f80cb"), looks := false }, kinds := [], alts := [], laidByText := true, laidKinds := [.data], laidTests := true, laidLooks := .later }
def FnExactCutUptoCardSaid : Prop := Claim7.holds Tryz.pinned (.plain (OpenSpec.upto fnExactCutSpec)) fnExactCutUptoCard

/-- THE SECOND FORM's CARD OF 'laws.FnExactReached'. -/
def fnExactReachedUptoCard : Claim7 := { stood := { row := fnExactReachedUptoRow, standIns := [], harness := (true, "8919bc24168aa62d11bfb5feca763c4de55ba6efaab8b462d2574ba5673f80cb"), looks := false }, kinds := [], alts := [], laidByText := true, laidKinds := [.data], laidTests := true, laidLooks := .later }
def FnExactReachedUptoCardSaid : Prop := Claim7.holds Tryz.pinned (.plain (OpenSpec.upto fnExactReachedSpec)) fnExactReachedUptoCard

/-- THE SECOND FORM's CARD OF 'laws.FnNodes'. -/
def fnNodesUptoCard : Claim7 := { stood := { row := fnNodesUptoRow, standIns := [], harness := (true, "8919bc24168aa62d11bfb5feca763c4de55ba6efaab8b462d2574ba5673f80cb"), looks := false }, kinds := [], alts := [], laidByText := true, laidKinds := [.data], laidTests := true, laidLooks := .later }
def FnNodesUptoCardSaid : Prop := Claim7.holds Tryz.pinned (.plain (OpenSpec.upto fnNodesSpec)) fnNodesUptoCard

/-- THE SECOND FORM's CARD OF 'laws.FnStored'. -/
def fnStoredUptoCard : Claim7 := { stood := { row := fnStoredUptoRow, standIns := [], harness := (true, "8919bc24168aa62d11bfb5feca763c4de55ba6efaab8b462d2574ba5673f80cb"), looks := false }, kinds := [], alts := [], laidByText := true, laidKinds := [.data], laidTests := true, laidLooks := .later }
def FnStoredUptoCardSaid : Prop := Claim7.holds Tryz.pinned (.plain (OpenSpec.upto fnStoredSpec)) fnStoredUptoCard

/-- THE SECOND FORM's CARD OF 'laws.FnGot'. -/
def fnGotUptoCard : Claim7 := { stood := { row := fnGotUptoRow, standIns := [], harness := (true, "8919bc24168aa62d11bfb5feca763c4de55ba6efaab8b462d2574ba5673f80cb"), looks := false }, kinds := [], alts := [], laidByText := true, laidKinds := [.data], laidTests := true, laidLooks := .later }
def FnGotUptoCardSaid : Prop := Claim7.holds Tryz.pinned (.plain (OpenSpec.upto fnGotSpec)) fnGotUptoCard

/-- THE SECOND FORM's CARD OF 'laws.FnGotAt'. -/
def fnGotAtUptoCard : Claim7 := { stood := { row := fnGotAtUptoRow, standIns := [], harness := (true, "8919bc24168aa62d11bfb5feca763c4de55ba6efaab8b462d2574ba5673f80cb"), looks := false }, kinds := [], alts := [], laidByText := true, laidKinds := [.data], laidTests := true, laidLooks := .later }
def FnGotAtUptoCardSaid : Prop := Claim7.holds Tryz.pinned (.plain (OpenSpec.upto fnGotAtSpec)) fnGotAtUptoCard
end Rows
end Go.Proofs.YtpohjnghhdilaaaGreatDoor
