/-
  DERIVED. GIVEN WITH THE SEED: THE CARDS: each row of YtkagiehbjnfabaaDoorRows.lean that lists a variable, with what it lists TIED to the program's text (the seventh form; the later family's looks); each row that meets fmt, with fmt's text TOLD by the authors' own Lean function (tested against real Go, not proved from fmt's source: count such statements apart). THE CARD IS WHAT COUNTS. Prove the row's statement (the work); the ties are given (YtkagiehbjnfabaaDoorTie.lean); close each card by the builder's one call (the guide's Derived/Test/ToyasCard.lean, 'card_holds'). Laid BY PROGRAM, IN A SANDBOX (cutbox-door.mjs). By AI agents, Wed Nov 11 2026. No macro, syntax, notation, axiom, sorry.
-/
import Derived.Test.YtkagiehbjnfabaaDoorRows
import GoSem.ClaimSeven
namespace Go.Proofs.YtkagiehbjnfabaaDoor
namespace Rows

/-- THE TIED CARD OF 'laws.FnCertJudged'. -/
def fnCertJudgedCard : Claim7 := { stood := { row := fnCertJudgedRow, standIns := [], harness := (true, "35562b36cf906f43767888b5a10086c66ce17e42abfa29e1ab554242529dc763"), looks := false }, kinds := [], alts := [], laidByText := true, laidKinds := [.data], laidTests := true, laidLooks := .later }
def FnCertJudgedCardSaid : Prop := Claim7.holds Tryd.pinned (.plain (OpenSpec.ofChange fnCertJudgedSpec)) fnCertJudgedCard

/-- THE SECOND FORM's CARD OF 'laws.FnCertJudged'. -/
def fnCertJudgedUptoCard : Claim7 := { stood := { row := fnCertJudgedUptoRow, standIns := [], harness := (true, "35562b36cf906f43767888b5a10086c66ce17e42abfa29e1ab554242529dc763"), looks := false }, kinds := [], alts := [], laidByText := true, laidKinds := [.data], laidTests := true, laidLooks := .later }
def FnCertJudgedUptoCardSaid : Prop := Claim7.holds Tryd.pinned (.plain (OpenSpec.upto fnCertJudgedSpec)) fnCertJudgedUptoCard
end Rows
end Go.Proofs.YtkagiehbjnfabaaDoor
