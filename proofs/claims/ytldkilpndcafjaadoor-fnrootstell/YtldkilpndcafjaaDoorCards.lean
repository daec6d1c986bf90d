/-
  DERIVED. GIVEN WITH THE SEED: THE CARDS: each row of YtldkilpndcafjaaDoorRows.lean that lists a variable, with what it lists TIED to the program's text (the seventh form; the later family's looks); each row that meets fmt, with fmt's text TOLD by the authors' own Lean function (tested against real Go, not proved from fmt's source: count such statements apart). THE CARD IS WHAT COUNTS. Prove the row's statement (the work); the ties are given (YtldkilpndcafjaaDoorTie.lean); close each card by the builder's one call (the guide's Derived/Test/ToyasCard.lean, 'card_holds'). Laid BY PROGRAM, IN A SANDBOX (cutbox-door.mjs). By AI agents, Wed Nov 11 2026. No macro, syntax, notation, axiom, sorry.
-/
import Derived.Test.YtldkilpndcafjaaDoorRows
import GoSem.ClaimSeven
namespace Go.Proofs.YtldkilpndcafjaaDoor
namespace Rows

/-- THE TIED CARD OF 'laws.FnRootsTell'. -/
def fnRootsTellCard : Claim7 := { stood := { row := fnRootsTellRow, standIns := [], harness := (true, "3290ed7fca2b11046854dacb7ecd64657daf480434e1aa3d7aa7d8f79debca2f"), looks := false }, kinds := [], alts := [], laidByText := true, laidKinds := [.data], laidTests := true, laidLooks := .later }
def FnRootsTellCardSaid : Prop := Claim7.holds Tryd.pinned (.plain (OpenSpec.ofChange fnRootsTellSpec)) fnRootsTellCard

/-- THE TIED CARD OF 'laws.FnExactRootOf'. -/
def fnExactRootOfCard : Claim7 := { stood := { row := fnExactRootOfRow, standIns := [], harness := (true, "3290ed7fca2b11046854dacb7ecd64657daf480434e1aa3d7aa7d8f79debca2f"), looks := false }, kinds := [], alts := [], laidByText := true, laidKinds := [.data], laidTests := true, laidLooks := .later }
def FnExactRootOfCardSaid : Prop := Claim7.holds Tryd.pinned (.plain (OpenSpec.ofChange fnExactRootOfSpec)) fnExactRootOfCard

/-- THE SECOND FORM's CARD OF 'laws.FnRootsTell'. -/
def fnRootsTellUptoCard : Claim7 := { stood := { row := fnRootsTellUptoRow, standIns := [], harness := (true, "3290ed7fca2b11046854dacb7ecd64657daf480434e1aa3d7aa7d8f79debca2f"), looks := false }, kinds := [], alts := [], laidByText := true, laidKinds := [.data], laidTests := true, laidLooks := .later }
def FnRootsTellUptoCardSaid : Prop := Claim7.holds Tryd.pinned (.plain (OpenSpec.upto fnRootsTellSpec)) fnRootsTellUptoCard

/-- THE SECOND FORM's CARD OF 'laws.FnExactRootOf'. -/
def fnExactRootOfUptoCard : Claim7 := { stood := { row := fnExactRootOfUptoRow, standIns := [], harness := (true, "3290ed7fca2b11046854dacb7ecd64657daf480434e1aa3d7aa7d8f79debca2f"), looks := false }, kinds := [], alts := [], laidByText := true, laidKinds := [.data], laidTests := true, laidLooks := .later }
def FnExactRootOfUptoCardSaid : Prop := Claim7.holds Tryd.pinned (.plain (OpenSpec.upto fnExactRootOfSpec)) fnExactRootOfUptoCard
end Rows
end Go.Proofs.YtldkilpndcafjaaDoor
