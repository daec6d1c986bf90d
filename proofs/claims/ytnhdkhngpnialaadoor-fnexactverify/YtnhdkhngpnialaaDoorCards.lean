/-
  DERIVED. GIVEN WITH THE SEED: THE CARDS: each row of YtnhdkhngpnialaaDoorRows.lean that lists a variable, with what it lists TIED to the program's text (the seventh form; the later family's looks); each row that meets fmt, with fmt's text TOLD by the authors' own Lean function (tested against real Go, not proved from fmt's source: count such statements apart). THE CARD IS WHAT COUNTS. Prove the row's statement (the work); the ties are given (YtnhdkhngpnialaaDoorTie.lean); close each card by the builder's one call (the guide's Derived/Test/ToyasCard.lean, 'card_holds'). Laid BY PROGRAM, IN A SANDBOX (cutbox-door.mjs). By AI agents, Wed Nov 11 2026. No macro, syntax, notation, axiom, sorry.
-/
import Derived.Test.YtnhdkhngpnialaaDoorRows
import GoSem.ClaimSeven
namespace Go.Proofs.YtnhdkhngpnialaaDoor
namespace Rows

/-- THE TIED CARD OF 'laws.FnDigits'. -/
def fnDigitsCard : Claim7 := { stood := { row := fnDigitsRow, standIns := [], harness := (true, "9b344473284ef0762cd7f9b018c7fb03a5ea086cdbbc608368a2c84778d71369"), looks := false }, kinds := [], alts := [], laidByText := true, laidKinds := [.data], laidTests := true, laidLooks := .later }
def FnDigitsCardSaid : Prop := Claim7.holds Tryd.pinned (.plain (OpenSpec.ofChange fnDigitsSpec)) fnDigitsCard

/-- THE TIED CARD OF 'laws.FnChains'. -/
def fnChainsCard : Claim7 := { stood := { row := fnChainsRow, standIns := [], harness := (true, "9b344473284ef0762cd7f9b018c7fb03a5ea086cdbbc608368a2c84778d71369"), looks := false }, kinds := [], alts := [], laidByText := true, laidKinds := [.data], laidTests := true, laidLooks := .later }
def FnChainsCardSaid : Prop := Claim7.holds Tryd.pinned (.plain (OpenSpec.ofChange fnChainsSpec)) fnChainsCard

/-- THE TIED CARD OF 'laws.FnOnce'. -/
def fnOnceCard : Claim7 := { stood := { row := fnOnceRow, standIns := [], harness := (true, "9b344473284ef0762cd7f9b018c7fb03a5ea086cdbbc608368a2c84778d71369"), looks := false }, kinds := [], alts := [], laidByText := true, laidKinds := [.data], laidTests := true, laidLooks := .later }
def FnOnceCardSaid : Prop := Claim7.holds Tryd.pinned (.plain (OpenSpec.ofChange fnOnceSpec)) fnOnceCard

/-- THE TIED CARD OF 'laws.FnSigned'. -/
def fnSignedCard : Claim7 := { stood := { row := fnSignedRow, standIns := [], harness := (true, "9b344473284ef0762cd7f9b018c7fb03a5ea086cdbbc608368a2c84778d71369"), looks := false }, kinds := [], alts := [], laidByText := true, laidKinds := [.data], laidTests := true, laidLooks := .later }
def FnSignedCardSaid : Prop := Claim7.holds Tryd.pinned (.plain (OpenSpec.ofChange fnSignedSpec)) fnSignedCard

/-- THE TIED CARD OF 'laws.FnLeaves'. -/
def fnLeavesCard : Claim7 := { stood := { row := fnLeavesRow, standIns := [], harness := (true, "9b344473284ef0762cd7f9b018c7fb03a5ea086cdbbc608368a2c84778d71369"), looks := false }, kinds := [], alts := [], laidByText := true, laidKinds := [.data], laidTests := true, laidLooks := .later }
def FnLeavesCardSaid : Prop := Claim7.holds Tryd.pinned (.plain (OpenSpec.ofChange fnLeavesSpec)) fnLeavesCard

/-- THE TIED CARD OF 'laws.FnVerified'. -/
def fnVerifiedCard : Claim7 := { stood := { row := fnVerifiedRow, standIns := [], harness := (true, "9b344473284ef0762cd7f9b018c7fb03a5ea086cdbbc608368a2c84778d71369"), looks := false }, kinds := [], alts := [], laidByText := true, laidKinds := [.data], laidTests := true, laidLooks := .later }
def FnVerifiedCardSaid : Prop := Claim7.holds Tryd.pinned (.plain (OpenSpec.ofChange fnVerifiedSpec)) fnVerifiedCard

/-- THE TIED CARD OF 'laws.FnExactDigits'. -/
def fnExactDigitsCard : Claim7 := { stood := { row := fnExactDigitsRow, standIns := [], harness := (true, "9b344473284ef0762cd7f9b018c7fb03a5ea086cdbbc608368a2c84778d71369"), looks := false }, kinds := [], alts := [], laidByText := true, laidKinds := [.data], laidTests := true, laidLooks := .later }
def FnExactDigitsCardSaid : Prop := Claim7.holds Tryd.pinned (.plain (OpenSpec.ofChange fnExactDigitsSpec)) fnExactDigitsCard

/-- THE TIED CARD OF 'laws.FnExactChainOf'. -/
def fnExactChainOfCard : Claim7 := { stood := { row := fnExactChainOfRow, standIns := [], harness := (true, "9b344473284ef0762cd7f9b018c7fb03a5ea086cdbbc608368a2c84778d71369"), looks := false }, kinds := [], alts := [], laidByText := true, laidKinds := [.data], laidTests := true, laidLooks := .later }
def FnExactChainOfCardSaid : Prop := Claim7.holds Tryd.pinned (.plain (OpenSpec.ofChange fnExactChainOfSpec)) fnExactChainOfCard

/-- THE TIED CARD OF 'laws.FnExactOncePublic'. -/
def fnExactOncePublicCard : Claim7 := { stood := { row := fnExactOncePublicRow, standIns := [], harness := (true, "9b344473284ef0762cd7f9b018c7fb03a5ea086cdbbc608368a2c84778d71369"), looks := false }, kinds := [], alts := [], laidByText := true, laidKinds := [.data], laidTests := true, laidLooks := .later }
def FnExactOncePublicCardSaid : Prop := Claim7.holds Tryd.pinned (.plain (OpenSpec.ofChange fnExactOncePublicSpec)) fnExactOncePublicCard

/-- THE TIED CARD OF 'laws.FnExactOnceSign'. -/
def fnExactOnceSignCard : Claim7 := { stood := { row := fnExactOnceSignRow, standIns := [], harness := (true, "9b344473284ef0762cd7f9b018c7fb03a5ea086cdbbc608368a2c84778d71369"), looks := false }, kinds := [], alts := [], laidByText := true, laidKinds := [.data], laidTests := true, laidLooks := .later }
def FnExactOnceSignCardSaid : Prop := Claim7.holds Tryd.pinned (.plain (OpenSpec.ofChange fnExactOnceSignSpec)) fnExactOnceSignCard

/-- THE TIED CARD OF 'laws.FnExactOncePublicOf'. -/
def fnExactOncePublicOfCard : Claim7 := { stood := { row := fnExactOncePublicOfRow, standIns := [], harness := (true, "9b344473284ef0762cd7f9b018c7fb03a5ea086cdbbc608368a2c84778d71369"), looks := false }, kinds := [], alts := [], laidByText := true, laidKinds := [.data], laidTests := true, laidLooks := .later }
def FnExactOncePublicOfCardSaid : Prop := Claim7.holds Tryd.pinned (.plain (OpenSpec.ofChange fnExactOncePublicOfSpec)) fnExactOncePublicOfCard

/-- THE TIED CARD OF 'laws.FnExactLeafSeed'. -/
def fnExactLeafSeedCard : Claim7 := { stood := { row := fnExactLeafSeedRow, standIns := [], harness := (true, "9b344473284ef0762cd7f9b018c7fb03a5ea086cdbbc608368a2c84778d71369"), looks := false }, kinds := [], alts := [], laidByText := true, laidKinds := [.data], laidTests := true, laidLooks := .later }
def FnExactLeafSeedCardSaid : Prop := Claim7.holds Tryd.pinned (.plain (OpenSpec.ofChange fnExactLeafSeedSpec)) fnExactLeafSeedCard

/-- THE TIED CARD OF 'laws.FnExactKeyRoot'. -/
def fnExactKeyRootCard : Claim7 := { stood := { row := fnExactKeyRootRow, standIns := [], harness := (true, "9b344473284ef0762cd7f9b018c7fb03a5ea086cdbbc608368a2c84778d71369"), looks := false }, kinds := [], alts := [], laidByText := true, laidKinds := [.data], laidTests := true, laidLooks := .later }
def FnExactKeyRootCardSaid : Prop := Claim7.holds Tryd.pinned (.plain (OpenSpec.ofChange fnExactKeyRootSpec)) fnExactKeyRootCard

/-- THE TIED CARD OF 'laws.FnExactSignNext'. -/
def fnExactSignNextCard : Claim7 := { stood := { row := fnExactSignNextRow, standIns := [], harness := (true, "9b344473284ef0762cd7f9b018c7fb03a5ea086cdbbc608368a2c84778d71369"), looks := false }, kinds := [], alts := [], laidByText := true, laidKinds := [.data], laidTests := true, laidLooks := .later }
def FnExactSignNextCardSaid : Prop := Claim7.holds Tryd.pinned (.plain (OpenSpec.ofChange fnExactSignNextSpec)) fnExactSignNextCard

/-- THE TIED CARD OF 'laws.FnExactRootOfSignature'. -/
def fnExactRootOfSignatureCard : Claim7 := { stood := { row := fnExactRootOfSignatureRow, standIns := [], harness := (true, "9b344473284ef0762cd7f9b018c7fb03a5ea086cdbbc608368a2c84778d71369"), looks := false }, kinds := [], alts := [], laidByText := true, laidKinds := [.data], laidTests := true, laidLooks := .later }
def FnExactRootOfSignatureCardSaid : Prop := Claim7.holds Tryd.pinned (.plain (OpenSpec.ofChange fnExactRootOfSignatureSpec)) fnExactRootOfSignatureCard

/-- THE TIED CARD OF 'laws.FnExactVerify'. -/
def fnExactVerifyCard : Claim7 := { stood := { row := fnExactVerifyRow, standIns := [], harness := (true, "9b344473284ef0762cd7f9b018c7fb03a5ea086cdbbc608368a2c84778d71369"), looks := false }, kinds := [], alts := [], laidByText := true, laidKinds := [.data], laidTests := true, laidLooks := .later }
def FnExactVerifyCardSaid : Prop := Claim7.holds Tryd.pinned (.plain (OpenSpec.ofChange fnExactVerifySpec)) fnExactVerifyCard

/-- THE SECOND FORM's CARD OF 'laws.FnDigits'. -/
def fnDigitsUptoCard : Claim7 := { stood := { row := fnDigitsUptoRow, standIns := [], harness := (true, "9b344473284ef0762cd7f9b018c7fb03a5ea086cdbbc608368a2c84778d71369"), looks := false }, kinds := [], alts := [], laidByText := true, laidKinds := [.data], laidTests := true, laidLooks := .later }
def FnDigitsUptoCardSaid : Prop := Claim7.holds Tryd.pinned (.plain (OpenSpec.upto fnDigitsSpec)) fnDigitsUptoCard

/-- THE SECOND FORM's CARD OF 'laws.FnChains'. -/
def fnChainsUptoCard : Claim7 := { stood := { row := fnChainsUptoRow, standIns := [], harness := (true, "9b344473284ef0762cd7f9b018c7fb03a5ea086cdbbc608368a2c84778d71369"), looks := false }, kinds := [], alts := [], laidByText := true, laidKinds := [.data], laidTests := true, laidLooks := .later }
def FnChainsUptoCardSaid : Prop := Claim7.holds Tryd.pinned (.plain (OpenSpec.upto fnChainsSpec)) fnChainsUptoCard

/-- THE SECOND FORM's CARD OF 'laws.FnOnce'. -/
def fnOnceUptoCard : Claim7 := { stood := { row := fnOnceUptoRow, standIns := [], harness := (true, "9b344473284ef0762cd7f9b018c7fb03a5ea086cdbbc608368a2c84778d71369"), looks := false }, kinds := [], alts := [], laidByText := true, laidKinds := [.data], laidTests := true, laidLooks := .later }
def FnOnceUptoCardSaid : Prop := Claim7.holds Tryd.pinned (.plain (OpenSpec.upto fnOnceSpec)) fnOnceUptoCard

/-- THE SECOND FORM's CARD OF 'laws.FnSigned'. -/
def fnSignedUptoCard : Claim7 := { stood := { row := fnSignedUptoRow, standIns := [], harness := (true, "9b344473284ef0762cd7f9b018c7fb03a5ea086cdbbc608368a2c84778d71369"), looks := false }, kinds := [], alts := [], laidByText := true, laidKinds := [.data], laidTests := true, laidLooks := .later }
def FnSignedUptoCardSaid : Prop := Claim7.holds Tryd.pinned (.plain (OpenSpec.upto fnSignedSpec)) fnSignedUptoCard

/-- THE SECOND FORM's CARD OF 'laws.FnLeaves'. -/
def fnLeavesUptoCard : Claim7 := { stood := { row := fnLeavesUptoRow, standIns := [], harness := (true, "9b344473284ef0762cd7f9b018c7fb03a5ea086cdbbc608368a2c84778d71369"), looks := false }, kinds := [], alts := [], laidByText := true, laidKinds := [.data], laidTests := true, laidLooks := .later }
def FnLeavesUptoCardSaid : Prop := Claim7.holds Tryd.pinned (.plain (OpenSpec.upto fnLeavesSpec)) fnLeavesUptoCard

/-- THE SECOND FORM's CARD OF 'laws.FnVerified'. -/
def fnVerifiedUptoCard : Claim7 := { stood := { row := fnVerifiedUptoRow, standIns := [], harness := (true, "9b344473284ef0762cd7f9b018c7fb03a5ea086cdbbc608368a2c84778d71369"), looks := false }, kinds := [], alts := [], laidByText := true, laidKinds := [.data], laidTests := true, laidLooks := .later }
def FnVerifiedUptoCardSaid : Prop := Claim7.holds Tryd.pinned (.plain (OpenSpec.upto fnVerifiedSpec)) fnVerifiedUptoCard

/-- THE SECOND FORM's CARD OF 'laws.FnExactDigits'. -/
def fnExactDigitsUptoCard : Claim7 := { stood := { row := fnExactDigitsUptoRow, standIns := [], harness := (true, "9b344473284ef0762cd7f9b018c7fb03a5ea086cdbbc608368a2c84778d71369"), looks := false }, kinds := [], alts := [], laidByText := true, laidKinds := [.data], laidTests := true, laidLooks := .later }
def FnExactDigitsUptoCardSaid : Prop := Claim7.holds Tryd.pinned (.plain (OpenSpec.upto fnExactDigitsSpec)) fnExactDigitsUptoCard

/-- THE SECOND FORM's CARD OF 'laws.FnExactChainOf'. -/
def fnExactChainOfUptoCard : Claim7 := { stood := { row := fnExactChainOfUptoRow, standIns := [], harness := (true, "9b344473284ef0762cd7f9b018c7fb03a5ea086cdbbc608368a2c84778d71369"), looks := false }, kinds := [], alts := [], laidByText := true, laidKinds := [.data], laidTests := true, laidLooks := .later }
def FnExactChainOfUptoCardSaid : Prop := Claim7.holds Tryd.pinned (.plain (OpenSpec.upto fnExactChainOfSpec)) fnExactChainOfUptoCard

/-- THE SECOND FORM's CARD OF 'laws.FnExactOncePublic'. -/
def fnExactOncePublicUptoCard : Claim7 := { stood := { row := fnExactOncePublicUptoRow, standIns := [], harness := (true, "9b344473284ef0762cd7f9b018c7fb03a5ea086cdbbc608368a2c84778d71369"), looks := false }, kinds := [], alts := [], laidByText := true, laidKinds := [.data], laidTests := true, laidLooks := .later }
def FnExactOncePublicUptoCardSaid : Prop := Claim7.holds Tryd.pinned (.plain (OpenSpec.upto fnExactOncePublicSpec)) fnExactOncePublicUptoCard

/-- THE SECOND FORM's CARD OF 'laws.FnExactOnceSign'. -/
def fnExactOnceSignUptoCard : Claim7 := { stood := { row := fnExactOnceSignUptoRow, standIns := [], harness := (true, "9b344473284ef0762cd7f9b018c7fb03a5ea086cdbbc608368a2c84778d71369"), looks := false }, kinds := [], alts := [], laidByText := true, laidKinds := [.data], laidTests := true, laidLooks := .later }
def FnExactOnceSignUptoCardSaid : Prop := Claim7.holds Tryd.pinned (.plain (OpenSpec.upto fnExactOnceSignSpec)) fnExactOnceSignUptoCard

/-- THE SECOND FORM's CARD OF 'laws.FnExactOncePublicOf'. -/
def fnExactOncePublicOfUptoCard : Claim7 := { stood := { row := fnExactOncePublicOfUptoRow, standIns := [], harness := (true, "9b344473284ef0762cd7f9b018c7fb03a5ea086cdbbc608368a2c84778d71369"), looks := false }, kinds := [], alts := [], laidByText := true, laidKinds := [.data], laidTests := true, laidLooks := .later }
def FnExactOncePublicOfUptoCardSaid : Prop := Claim7.holds Tryd.pinned (.plain (OpenSpec.upto fnExactOncePublicOfSpec)) fnExactOncePublicOfUptoCard

/-- THE SECOND FORM's CARD OF 'laws.FnExactLeafSeed'. -/
def fnExactLeafSeedUptoCard : Claim7 := { stood := { row := fnExactLeafSeedUptoRow, standIns := [], harness := (true, "9b344473284ef0762cd7f9b018c7fb03a5ea086cdbbc608368a2c84778d71369"), looks := false }, kinds := [], alts := [], laidByText := true, laidKinds := [.data], laidTests := true, laidLooks := .later }
def FnExactLeafSeedUptoCardSaid : Prop := Claim7.holds Tryd.pinned (.plain (OpenSpec.upto fnExactLeafSeedSpec)) fnExactLeafSeedUptoCard

/-- THE SECOND FORM's CARD OF 'laws.FnExactKeyRoot'. -/
def fnExactKeyRootUptoCard : Claim7 := { stood := { row := fnExactKeyRootUptoRow, standIns := [], harness := (true, "9b344473284ef0762cd7f9b018c7fb03a5ea086cdbbc608368a2c84778d71369"), looks := false }, kinds := [], alts := [], laidByText := true, laidKinds := [.data], laidTests := true, laidLooks := .later }
def FnExactKeyRootUptoCardSaid : Prop := Claim7.holds Tryd.pinned (.plain (OpenSpec.upto fnExactKeyRootSpec)) fnExactKeyRootUptoCard

/-- THE SECOND FORM's CARD OF 'laws.FnExactSignNext'. -/
def fnExactSignNextUptoCard : Claim7 := { stood := { row := fnExactSignNextUptoRow, standIns := [], harness := (true, "9b344473284ef0762cd7f9b018c7fb03a5ea086cdbbc608368a2c84778d71369"), looks := false }, kinds := [], alts := [], laidByText := true, laidKinds := [.data], laidTests := true, laidLooks := .later }
def FnExactSignNextUptoCardSaid : Prop := Claim7.holds Tryd.pinned (.plain (OpenSpec.upto fnExactSignNextSpec)) fnExactSignNextUptoCard

/-- THE SECOND FORM's CARD OF 'laws.FnExactRootOfSignature'. -/
def fnExactRootOfSignatureUptoCard : Claim7 := { stood := { row := fnExactRootOfSignatureUptoRow, standIns := [], harness := (true, "9b344473284ef0762cd7f9b018c7fb03a5ea086cdbbc608368a2c84778d71369"), looks := false }, kinds := [], alts := [], laidByText := true, laidKinds := [.data], laidTests := true, laidLooks := .later }
def FnExactRootOfSignatureUptoCardSaid : Prop := Claim7.holds Tryd.pinned (.plain (OpenSpec.upto fnExactRootOfSignatureSpec)) fnExactRootOfSignatureUptoCard

/-- THE SECOND FORM's CARD OF 'laws.FnExactVerify'. -/
def fnExactVerifyUptoCard : Claim7 := { stood := { row := fnExactVerifyUptoRow, standIns := [], harness := (true, "9b344473284ef0762cd7f9b018c7fb03a5ea086cdbbc608368a2c84778d71369"), looks := false }, kinds := [], alts := [], laidByText := true, laidKinds := [.data], laidTests := true, laidLooks := .later }
def FnExactVerifyUptoCardSaid : Prop := Claim7.holds Tryd.pinned (.plain (OpenSpec.upto fnExactVerifySpec)) fnExactVerifyUptoCard
end Rows
end Go.Proofs.YtnhdkhngpnialaaDoor
