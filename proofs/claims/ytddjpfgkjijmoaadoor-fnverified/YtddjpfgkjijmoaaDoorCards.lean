/-
  DERIVED. GIVEN WITH THE SEED: THE CARDS: each row of YtddjpfgkjijmoaaDoorRows.lean that lists a variable, with what it lists TIED to the program's text (the seventh form; the later family's looks); each row that meets fmt, with fmt's text TOLD by the authors' own Lean function (tested against real Go, not proved from fmt's source: count such statements apart). THE CARD IS WHAT COUNTS. Prove the row's statement (the work); the ties are given (YtddjpfgkjijmoaaDoorTie.lean); close each card by the builder's one call (the guide's Derived/Test/ToyasCard.lean, 'card_holds'). Laid BY PROGRAM, IN A SANDBOX (cutbox-door.mjs). By AI agents, Wed Nov 11 2026. No macro, syntax, notation, axiom, sorry.
-/
import Derived.Test.YtddjpfgkjijmoaaDoorRows
import GoSem.ClaimSeven
namespace Go.Proofs.YtddjpfgkjijmoaaDoor
namespace Rows

/-- THE TIED CARD OF 'laws.FnSigned'. -/
def fnSignedCard : Claim7 := { stood := { row := fnSignedRow, standIns := [], harness := (true, "5b0df4fc55409ee5cf007cb8a06a5f9aea22579b77a2d201c186350df0187603"), looks := false }, kinds := [], alts := [], laidByText := true, laidKinds := [.data], laidTests := true, laidLooks := .later }
def FnSignedCardSaid : Prop := Claim7.holds Tryd.pinned (.plain (OpenSpec.ofChange fnSignedSpec)) fnSignedCard

/-- THE TIED CARD OF 'laws.FnLeaves'. -/
def fnLeavesCard : Claim7 := { stood := { row := fnLeavesRow, standIns := [], harness := (true, "5b0df4fc55409ee5cf007cb8a06a5f9aea22579b77a2d201c186350df0187603"), looks := false }, kinds := [], alts := [], laidByText := true, laidKinds := [.data], laidTests := true, laidLooks := .later }
def FnLeavesCardSaid : Prop := Claim7.holds Tryd.pinned (.plain (OpenSpec.ofChange fnLeavesSpec)) fnLeavesCard

/-- THE TIED CARD OF 'laws.FnVerified'. -/
def fnVerifiedCard : Claim7 := { stood := { row := fnVerifiedRow, standIns := [], harness := (true, "5b0df4fc55409ee5cf007cb8a06a5f9aea22579b77a2d201c186350df0187603"), looks := false }, kinds := [], alts := [], laidByText := true, laidKinds := [.data], laidTests := true, laidLooks := .later }
def FnVerifiedCardSaid : Prop := Claim7.holds Tryd.pinned (.plain (OpenSpec.ofChange fnVerifiedSpec)) fnVerifiedCard

/-- THE TIED CARD OF 'laws.FnExactKeyRoot'. -/
def fnExactKeyRootCard : Claim7 := { stood := { row := fnExactKeyRootRow, standIns := [], harness := (true, "5b0df4fc55409ee5cf007cb8a06a5f9aea22579b77a2d201c186350df0187603"), looks := false }, kinds := [], alts := [], laidByText := true, laidKinds := [.data], laidTests := true, laidLooks := .later }
def FnExactKeyRootCardSaid : Prop := Claim7.holds Tryd.pinned (.plain (OpenSpec.ofChange fnExactKeyRootSpec)) fnExactKeyRootCard

/-- THE TIED CARD OF 'laws.FnExactSignNext'. -/
def fnExactSignNextCard : Claim7 := { stood := { row := fnExactSignNextRow, standIns := [], harness := (true, "5b0df4fc55409ee5cf007cb8a06a5f9aea22579b77a2d201c186350df0187603"), looks := false }, kinds := [], alts := [], laidByText := true, laidKinds := [.data], laidTests := true, laidLooks := .later }
def FnExactSignNextCardSaid : Prop := Claim7.holds Tryd.pinned (.plain (OpenSpec.ofChange fnExactSignNextSpec)) fnExactSignNextCard

/-- THE SECOND FORM's CARD OF 'laws.FnSigned'. -/
def fnSignedUptoCard : Claim7 := { stood := { row := fnSignedUptoRow, standIns := [], harness := (true, "5b0df4fc55409ee5cf007cb8a06a5f9aea22579b77a2d201c186350df0187603"), looks := false }, kinds := [], alts := [], laidByText := true, laidKinds := [.data], laidTests := true, laidLooks := .later }
def FnSignedUptoCardSaid : Prop := Claim7.holds Tryd.pinned (.plain (OpenSpec.upto fnSignedSpec)) fnSignedUptoCard

/-- THE SECOND FORM's CARD OF 'laws.FnLeaves'. -/
def fnLeavesUptoCard : Claim7 := { stood := { row := fnLeavesUptoRow, standIns := [], harness := (true, "5b0df4fc55409ee5cf007cb8a06a5f9aea22579b77a2d201c186350df0187603"), looks := false }, kinds := [], alts := [], laidByText := true, laidKinds := [.data], laidTests := true, laidLooks := .later }
def FnLeavesUptoCardSaid : Prop := Claim7.holds Tryd.pinned (.plain (OpenSpec.upto fnLeavesSpec)) fnLeavesUptoCard

/-- THE SECOND FORM's CARD OF 'laws.FnVerified'. -/
def fnVerifiedUptoCard : Claim7 := { stood := { row := fnVerifiedUptoRow, standIns := [], harness := (true, "5b0df4fc55409ee5cf007cb8a06a5f9aea22579b77a2d201c186350df0187603"), looks := false }, kinds := [], alts := [], laidByText := true, laidKinds := [.data], laidTests := true, laidLooks := .later }
def FnVerifiedUptoCardSaid : Prop := Claim7.holds Tryd.pinned (.plain (OpenSpec.upto fnVerifiedSpec)) fnVerifiedUptoCard

/-- THE SECOND FORM's CARD OF 'laws.FnExactKeyRoot'. -/
def fnExactKeyRootUptoCard : Claim7 := { stood := { row := fnExactKeyRootUptoRow, standIns := [], harness := (true, "5b0df4fc55409ee5cf007cb8a06a5f9aea22579b77a2d201c186350df0187603"), looks := false }, kinds := [], alts := [], laidByText := true, laidKinds := [.data], laidTests := true, laidLooks := .later }
def FnExactKeyRootUptoCardSaid : Prop := Claim7.holds Tryd.pinned (.plain (OpenSpec.upto fnExactKeyRootSpec)) fnExactKeyRootUptoCard

/-- THE SECOND FORM's CARD OF 'laws.FnExactSignNext'. -/
def fnExactSignNextUptoCard : Claim7 := { stood := { row := fnExactSignNextUptoRow, standIns := [], harness := (true, "5b0df4fc55409ee5cf007cb8a06a5f9aea22579b77a2d201c186350df0187603"), looks := false }, kinds := [], alts := [], laidByText := true, laidKinds := [.data], laidTests := true, laidLooks := .later }
def FnExactSignNextUptoCardSaid : Prop := Claim7.holds Tryd.pinned (.plain (OpenSpec.upto fnExactSignNextSpec)) fnExactSignNextUptoCard
end Rows
end Go.Proofs.YtddjpfgkjijmoaaDoor
