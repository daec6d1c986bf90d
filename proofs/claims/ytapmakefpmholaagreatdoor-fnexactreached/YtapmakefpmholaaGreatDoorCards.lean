/-
  DERIVED. GIVEN WITH THE SEED: THE CARDS: each row of YtapmakefpmholaaGreatDoorRows.lean that lists a variable, with what it lists TIED to the program's text (the seventh form; the later family's looks); each row that meets fmt, with fmt's text TOLD by the authors' own Lean function (tested against real Go, not proved from fmt's source: count such statements apart). THE CARD IS WHAT COUNTS. Prove the row's statement (the work); the ties are given (YtapmakefpmholaaGreatDoorTie.lean); close each card by the builder's one call (the guide's Derived/Test/ToyasCard.lean, 'card_holds'). Laid BY PROGRAM, IN A SANDBOX (cutbox-door.mjs). By AI agents, Wed Nov 11 2026. No macro, syntax, notation, axiom, sorry.
-/
import Derived.Test.YtapmakefpmholaaGreatDoorRows
import GoSem.ClaimSeven
namespace Go.Proofs.YtapmakefpmholaaGreatDoor
namespace Rows

/-- THE TIED CARD OF 'laws.FnExactStoreAdd'. -/
def fnExactStoreAddCard : Claim7 := { stood := { row := fnExactStoreAddRow, standIns := [], harness := (true, "6dd37bc782382a3a586b79afe4b38146002a05b4e44647bf49907c7867a8ef64"), looks := false }, kinds := [], alts := [], laidByText := true, laidKinds := [.data], laidTests := true, laidLooks := .later }
def FnExactStoreAddCardSaid : Prop := Claim7.holds Tryz.pinned (.plain (OpenSpec.ofChange fnExactStoreAddSpec)) fnExactStoreAddCard

/-- THE TIED CARD OF 'laws.FnExactReached'. -/
def fnExactReachedCard : Claim7 := { stood := { row := fnExactReachedRow, standIns := [], harness := (true, "6dd37bc782382a3a586b79afe4b38146002a05b4e44647bf49907c7867a8ef64"), looks := false }, kinds := [], alts := [], laidByText := true, laidKinds := [.data], laidTests := true, laidLooks := .later }
def FnExactReachedCardSaid : Prop := Claim7.holds Tryz.pinned (.plain (OpenSpec.ofChange fnExactReachedSpec)) fnExactReachedCard

/-- THE SECOND FORM's CARD OF 'laws.FnExactStoreAdd'. -/
def fnExactStoreAddUptoCard : Claim7 := { stood := { row := fnExactStoreAddUptoRow, standIns := [], harness := (true, "6dd37bc782382a3a586b79afe4b38146002a05b4e44647bf49907c7867a8ef64"), looks := false }, kinds := [], alts := [], laidByText := true, laidKinds := [.data], laidTests := true, laidLooks := .later }
def FnExactStoreAddUptoCardSaid : Prop := Claim7.holds Tryz.pinned (.plain (OpenSpec.upto fnExactStoreAddSpec)) fnExactStoreAddUptoCard

/-- THE SECOND FORM's CARD OF 'laws.FnExactReached'. -/
def fnExactReachedUptoCard : Claim7 := { stood := { row := fnExactReachedUptoRow, standIns := [], harness := (true, "6dd37bc782382a3a586b79afe4b38146002a05b4e44647bf49907c7867a8ef64"), looks := false }, kinds := [], alts := [], laidByText := true, laidKinds := [.data], laidTests := true, laidLooks := .later }
def FnExactReachedUptoCardSaid : Prop := Claim7.holds Tryz.pinned (.plain (OpenSpec.upto fnExactReachedSpec)) fnExactReachedUptoCard
end Rows
end Go.Proofs.YtapmakefpmholaaGreatDoor
