/-
  NARROWER THAN 'FOR EVERY INPUT', by the rows' own cells (each row's printed sentence says how): FnDigits: laid · FnChains: laid · FnOnce: laid · FnSigned: laid · FnLeaves: laid · FnVerified: laid · FnExactDigits: laid · FnExactChainOf: laid · FnExactOncePublic: laid · FnExactOnceSign: laid · FnExactOncePublicOf: laid · FnExactLeafSeed: laid · FnExactKeyRoot: laid · FnExactSignNext: laid · FnExactRootOfSignature: laid · FnExactVerify: laid.
  DERIVED. THE GIVEN ROWS OF THIS SEAT. 16 by the template 'for every input the law returns true; each argument reads behind the call as it read before'; 0 by the template 'total and deterministic' (their statements: YtnhdkhngpnialaaDoorTotals.lean).
  GIVEN WITH THE SEED: the statements are not yours to turn. If you find one false, say at which input.
  Laid BY PROGRAM, IN A SANDBOX (cutbox-rows.mjs): the forced cells as the released guide's own fill.sh prints them over the translation a77b210ccfd95006… (all of the seat's roots in one cut). By AI agents, Wed Nov 11 2026. No macro, syntax, notation, axiom, sorry.
-/
import Derived.Test.YtnhdkhngpnialaaDoorChecked
import GoSem.Claim
import GoSem.ClaimJoined
import GoSem.ClaimMapViews
import Derived.JoinedTies
import Derived.KernelRfl
namespace Go.Proofs.YtnhdkhngpnialaaDoor
/- THE CELL 'sum', in the pinned program and in every row, IS THE sha256 OF THE DUMP (.gsa) THAT YtnhdkhngpnialaaDoorProg.lean LOADS. Nothing in Lean hashes anything: it is a label: what it is worth is what the hold of that sum in a sandbox is worth. -/
noncomputable def Tryd.pinned : Pinned := { name := "ytnhdkhngpnialaadoor", sum := "a77b210ccfd950064ddb7d2a449f8b81518255f133b705657f5975d6333f43a8", checked := Tryd.checked }
namespace Rows
def none {H : Type} : Left H := { results := [], args := [] }

/- WHAT THE LISTED PACKAGE-LEVEL VARIABLES READ AS WHEN THE CALL BEGINS. Each datum BY PROGRAM (the guide's laid-datum.mjs) off the statement by which the dump's own 'gosem.cut.vars' lays the variable. In a bare row this is a premise. The card (YtnhdkhngpnialaaDoorCards.lean) ties it to the program's text. -/
def laid_loop_example_g00226_impl_roundWords {H : Type} : DataW H := .agg [.lit (.int .u32 1116352408), .lit (.int .u32 1899447441), .lit (.int .u32 3049323471), .lit (.int .u32 3921009573), .lit (.int .u32 961987163), .lit (.int .u32 1508970993), .lit (.int .u32 2453635748), .lit (.int .u32 2870763221), .lit (.int .u32 3624381080), .lit (.int .u32 310598401), .lit (.int .u32 607225278), .lit (.int .u32 1426881987), .lit (.int .u32 1925078388), .lit (.int .u32 2162078206), .lit (.int .u32 2614888103), .lit (.int .u32 3248222580), .lit (.int .u32 3835390401), .lit (.int .u32 4022224774), .lit (.int .u32 264347078), .lit (.int .u32 604807628), .lit (.int .u32 770255983), .lit (.int .u32 1249150122), .lit (.int .u32 1555081692), .lit (.int .u32 1996064986), .lit (.int .u32 2554220882), .lit (.int .u32 2821834349), .lit (.int .u32 2952996808), .lit (.int .u32 3210313671), .lit (.int .u32 3336571891), .lit (.int .u32 3584528711), .lit (.int .u32 113926993), .lit (.int .u32 338241895), .lit (.int .u32 666307205), .lit (.int .u32 773529912), .lit (.int .u32 1294757372), .lit (.int .u32 1396182291), .lit (.int .u32 1695183700), .lit (.int .u32 1986661051), .lit (.int .u32 2177026350), .lit (.int .u32 2456956037), .lit (.int .u32 2730485921), .lit (.int .u32 2820302411), .lit (.int .u32 3259730800), .lit (.int .u32 3345764771), .lit (.int .u32 3516065817), .lit (.int .u32 3600352804), .lit (.int .u32 4094571909), .lit (.int .u32 275423344), .lit (.int .u32 430227734), .lit (.int .u32 506948616), .lit (.int .u32 659060556), .lit (.int .u32 883997877), .lit (.int .u32 958139571), .lit (.int .u32 1322822218), .lit (.int .u32 1537002063), .lit (.int .u32 1747873779), .lit (.int .u32 1955562222), .lit (.int .u32 2024104815), .lit (.int .u32 2227730452), .lit (.int .u32 2361852424), .lit (.int .u32 2428436474), .lit (.int .u32 2756734187), .lit (.int .u32 3204031479), .lit (.int .u32 3329325298)]

/-- 'laws.FnDigits': WHATEVER THE INPUT: true; the input reads as it did. -/
def fnDigitsSpec : ChangeSpec := { name := "fnDigits", vars := ["loop.example/g00226/impl.roundWords"], fn := fun _ => fun
  | [d, g1] => { results := [.lit (.bool true)], args := [d], vars := [g1] }
  | _ => none }
def fnDigitsRow : OpenClaim := { program := "ytnhdkhngpnialaadoor", sum := "a77b210ccfd950064ddb7d2a449f8b81518255f133b705657f5975d6333f43a8", func := "loop.example/g00226/laws.FnDigits", spec := "fnDigits", inPlace := ["internal/abi.NoEscape", "internal/bytealg.MakeNoZero"], unfollowed := true, recurses := true, named := ["loop.example/g00226/impl.roundWords"], apart := false, laid := [("loop.example/g00226/impl.roundWords", laid_loop_example_g00226_impl_roundWords)] }
def FnDigitsSaid : Prop := fnDigitsRow.holds Tryd.pinned (OpenSpec.ofChange fnDigitsSpec)

/-- ITS FALSE NEIGHBOUR: 'it returns false'. Refute it at one input. -/
def fnDigitsWrong : ChangeSpec := { name := "fnDigits", vars := ["loop.example/g00226/impl.roundWords"], fn := fun _ => fun
  | [d, g1] => { results := [.lit (.bool false)], args := [d], vars := [g1] }
  | _ => none }
def FnDigitsWrongFalsely : Prop := fnDigitsRow.holds Tryd.pinned (OpenSpec.ofChange fnDigitsWrong)

/-- 'laws.FnChains': WHATEVER THE INPUT: true; the input reads as it did. -/
def fnChainsSpec : ChangeSpec := { name := "fnChains", vars := ["loop.example/g00226/impl.roundWords"], fn := fun _ => fun
  | [d, g1] => { results := [.lit (.bool true)], args := [d], vars := [g1] }
  | _ => none }
def fnChainsRow : OpenClaim := { program := "ytnhdkhngpnialaadoor", sum := "a77b210ccfd950064ddb7d2a449f8b81518255f133b705657f5975d6333f43a8", func := "loop.example/g00226/laws.FnChains", spec := "fnChains", inPlace := ["internal/abi.NoEscape", "internal/bytealg.MakeNoZero"], unfollowed := true, recurses := true, named := ["loop.example/g00226/impl.roundWords"], apart := false, laid := [("loop.example/g00226/impl.roundWords", laid_loop_example_g00226_impl_roundWords)] }
def FnChainsSaid : Prop := fnChainsRow.holds Tryd.pinned (OpenSpec.ofChange fnChainsSpec)

/-- ITS FALSE NEIGHBOUR: 'it returns false'. Refute it at one input. -/
def fnChainsWrong : ChangeSpec := { name := "fnChains", vars := ["loop.example/g00226/impl.roundWords"], fn := fun _ => fun
  | [d, g1] => { results := [.lit (.bool false)], args := [d], vars := [g1] }
  | _ => none }
def FnChainsWrongFalsely : Prop := fnChainsRow.holds Tryd.pinned (OpenSpec.ofChange fnChainsWrong)

/-- 'laws.FnOnce': WHATEVER THE INPUT: true; the input reads as it did. -/
def fnOnceSpec : ChangeSpec := { name := "fnOnce", vars := ["loop.example/g00226/impl.roundWords"], fn := fun _ => fun
  | [d, g1] => { results := [.lit (.bool true)], args := [d], vars := [g1] }
  | _ => none }
def fnOnceRow : OpenClaim := { program := "ytnhdkhngpnialaadoor", sum := "a77b210ccfd950064ddb7d2a449f8b81518255f133b705657f5975d6333f43a8", func := "loop.example/g00226/laws.FnOnce", spec := "fnOnce", inPlace := ["internal/abi.NoEscape", "internal/bytealg.MakeNoZero"], unfollowed := true, recurses := true, named := ["loop.example/g00226/impl.roundWords"], apart := false, laid := [("loop.example/g00226/impl.roundWords", laid_loop_example_g00226_impl_roundWords)] }
def FnOnceSaid : Prop := fnOnceRow.holds Tryd.pinned (OpenSpec.ofChange fnOnceSpec)

/-- ITS FALSE NEIGHBOUR: 'it returns false'. Refute it at one input. -/
def fnOnceWrong : ChangeSpec := { name := "fnOnce", vars := ["loop.example/g00226/impl.roundWords"], fn := fun _ => fun
  | [d, g1] => { results := [.lit (.bool false)], args := [d], vars := [g1] }
  | _ => none }
def FnOnceWrongFalsely : Prop := fnOnceRow.holds Tryd.pinned (OpenSpec.ofChange fnOnceWrong)

/-- 'laws.FnSigned': WHATEVER THE INPUT: true; the input reads as it did. -/
def fnSignedSpec : ChangeSpec := { name := "fnSigned", vars := ["loop.example/g00226/impl.roundWords"], fn := fun _ => fun
  | [d, g1] => { results := [.lit (.bool true)], args := [d], vars := [g1] }
  | _ => none }
def fnSignedRow : OpenClaim := { program := "ytnhdkhngpnialaadoor", sum := "a77b210ccfd950064ddb7d2a449f8b81518255f133b705657f5975d6333f43a8", func := "loop.example/g00226/laws.FnSigned", spec := "fnSigned", inPlace := ["internal/abi.NoEscape", "internal/bytealg.MakeNoZero"], unfollowed := true, recurses := true, named := ["loop.example/g00226/impl.roundWords"], apart := false, laid := [("loop.example/g00226/impl.roundWords", laid_loop_example_g00226_impl_roundWords)] }
def FnSignedSaid : Prop := fnSignedRow.holds Tryd.pinned (OpenSpec.ofChange fnSignedSpec)

/-- ITS FALSE NEIGHBOUR: 'it returns false'. Refute it at one input. -/
def fnSignedWrong : ChangeSpec := { name := "fnSigned", vars := ["loop.example/g00226/impl.roundWords"], fn := fun _ => fun
  | [d, g1] => { results := [.lit (.bool false)], args := [d], vars := [g1] }
  | _ => none }
def FnSignedWrongFalsely : Prop := fnSignedRow.holds Tryd.pinned (OpenSpec.ofChange fnSignedWrong)

/-- 'laws.FnLeaves': WHATEVER THE INPUT: true; the input reads as it did. -/
def fnLeavesSpec : ChangeSpec := { name := "fnLeaves", vars := ["loop.example/g00226/impl.roundWords"], fn := fun _ => fun
  | [d, g1] => { results := [.lit (.bool true)], args := [d], vars := [g1] }
  | _ => none }
def fnLeavesRow : OpenClaim := { program := "ytnhdkhngpnialaadoor", sum := "a77b210ccfd950064ddb7d2a449f8b81518255f133b705657f5975d6333f43a8", func := "loop.example/g00226/laws.FnLeaves", spec := "fnLeaves", inPlace := ["internal/abi.NoEscape", "internal/bytealg.MakeNoZero"], unfollowed := true, recurses := true, named := ["loop.example/g00226/impl.roundWords"], apart := false, laid := [("loop.example/g00226/impl.roundWords", laid_loop_example_g00226_impl_roundWords)] }
def FnLeavesSaid : Prop := fnLeavesRow.holds Tryd.pinned (OpenSpec.ofChange fnLeavesSpec)

/-- ITS FALSE NEIGHBOUR: 'it returns false'. Refute it at one input. -/
def fnLeavesWrong : ChangeSpec := { name := "fnLeaves", vars := ["loop.example/g00226/impl.roundWords"], fn := fun _ => fun
  | [d, g1] => { results := [.lit (.bool false)], args := [d], vars := [g1] }
  | _ => none }
def FnLeavesWrongFalsely : Prop := fnLeavesRow.holds Tryd.pinned (OpenSpec.ofChange fnLeavesWrong)

/-- 'laws.FnVerified': WHATEVER THE INPUT: true; the input reads as it did. -/
def fnVerifiedSpec : ChangeSpec := { name := "fnVerified", vars := ["loop.example/g00226/impl.roundWords"], fn := fun _ => fun
  | [d, g1] => { results := [.lit (.bool true)], args := [d], vars := [g1] }
  | _ => none }
def fnVerifiedRow : OpenClaim := { program := "ytnhdkhngpnialaadoor", sum := "a77b210ccfd950064ddb7d2a449f8b81518255f133b705657f5975d6333f43a8", func := "loop.example/g00226/laws.FnVerified", spec := "fnVerified", inPlace := ["internal/abi.NoEscape", "internal/bytealg.MakeNoZero"], unfollowed := true, recurses := true, named := ["loop.example/g00226/impl.roundWords"], apart := false, laid := [("loop.example/g00226/impl.roundWords", laid_loop_example_g00226_impl_roundWords)] }
def FnVerifiedSaid : Prop := fnVerifiedRow.holds Tryd.pinned (OpenSpec.ofChange fnVerifiedSpec)

/-- ITS FALSE NEIGHBOUR: 'it returns false'. Refute it at one input. -/
def fnVerifiedWrong : ChangeSpec := { name := "fnVerified", vars := ["loop.example/g00226/impl.roundWords"], fn := fun _ => fun
  | [d, g1] => { results := [.lit (.bool false)], args := [d], vars := [g1] }
  | _ => none }
def FnVerifiedWrongFalsely : Prop := fnVerifiedRow.holds Tryd.pinned (OpenSpec.ofChange fnVerifiedWrong)

/-- 'laws.FnExactDigits': WHATEVER THE INPUT: true; the input reads as it did. -/
def fnExactDigitsSpec : ChangeSpec := { name := "fnExactDigits", vars := ["loop.example/g00226/impl.roundWords"], fn := fun _ => fun
  | [d, g1] => { results := [.lit (.bool true)], args := [d], vars := [g1] }
  | _ => none }
def fnExactDigitsRow : OpenClaim := { program := "ytnhdkhngpnialaadoor", sum := "a77b210ccfd950064ddb7d2a449f8b81518255f133b705657f5975d6333f43a8", func := "loop.example/g00226/laws.FnExactDigits", spec := "fnExactDigits", inPlace := ["internal/abi.NoEscape", "internal/bytealg.MakeNoZero"], unfollowed := true, recurses := true, named := ["loop.example/g00226/impl.roundWords"], apart := false, laid := [("loop.example/g00226/impl.roundWords", laid_loop_example_g00226_impl_roundWords)] }
def FnExactDigitsSaid : Prop := fnExactDigitsRow.holds Tryd.pinned (OpenSpec.ofChange fnExactDigitsSpec)

/-- ITS FALSE NEIGHBOUR: 'it returns false'. Refute it at one input. -/
def fnExactDigitsWrong : ChangeSpec := { name := "fnExactDigits", vars := ["loop.example/g00226/impl.roundWords"], fn := fun _ => fun
  | [d, g1] => { results := [.lit (.bool false)], args := [d], vars := [g1] }
  | _ => none }
def FnExactDigitsWrongFalsely : Prop := fnExactDigitsRow.holds Tryd.pinned (OpenSpec.ofChange fnExactDigitsWrong)

/-- 'laws.FnExactChainOf': WHATEVER THE INPUT: true; the input reads as it did. -/
def fnExactChainOfSpec : ChangeSpec := { name := "fnExactChainOf", vars := ["loop.example/g00226/impl.roundWords"], fn := fun _ => fun
  | [d1, d2, d3, d4, g1] => { results := [.lit (.bool true)], args := [d1, d2, d3, d4], vars := [g1] }
  | _ => none }
def fnExactChainOfRow : OpenClaim := { program := "ytnhdkhngpnialaadoor", sum := "a77b210ccfd950064ddb7d2a449f8b81518255f133b705657f5975d6333f43a8", func := "loop.example/g00226/laws.FnExactChainOf", spec := "fnExactChainOf", inPlace := ["internal/abi.NoEscape", "internal/bytealg.MakeNoZero"], unfollowed := true, recurses := true, named := ["loop.example/g00226/impl.roundWords"], apart := false, laid := [("loop.example/g00226/impl.roundWords", laid_loop_example_g00226_impl_roundWords)] }
def FnExactChainOfSaid : Prop := fnExactChainOfRow.holds Tryd.pinned (OpenSpec.ofChange fnExactChainOfSpec)

/-- ITS FALSE NEIGHBOUR: 'it returns false'. Refute it at one input. -/
def fnExactChainOfWrong : ChangeSpec := { name := "fnExactChainOf", vars := ["loop.example/g00226/impl.roundWords"], fn := fun _ => fun
  | [d1, d2, d3, d4, g1] => { results := [.lit (.bool false)], args := [d1, d2, d3, d4], vars := [g1] }
  | _ => none }
def FnExactChainOfWrongFalsely : Prop := fnExactChainOfRow.holds Tryd.pinned (OpenSpec.ofChange fnExactChainOfWrong)

/-- 'laws.FnExactOncePublic': WHATEVER THE INPUT: true; the input reads as it did. -/
def fnExactOncePublicSpec : ChangeSpec := { name := "fnExactOncePublic", vars := ["loop.example/g00226/impl.roundWords"], fn := fun _ => fun
  | [d, g1] => { results := [.lit (.bool true)], args := [d], vars := [g1] }
  | _ => none }
def fnExactOncePublicRow : OpenClaim := { program := "ytnhdkhngpnialaadoor", sum := "a77b210ccfd950064ddb7d2a449f8b81518255f133b705657f5975d6333f43a8", func := "loop.example/g00226/laws.FnExactOncePublic", spec := "fnExactOncePublic", inPlace := ["internal/abi.NoEscape", "internal/bytealg.MakeNoZero"], unfollowed := true, recurses := true, named := ["loop.example/g00226/impl.roundWords"], apart := false, laid := [("loop.example/g00226/impl.roundWords", laid_loop_example_g00226_impl_roundWords)] }
def FnExactOncePublicSaid : Prop := fnExactOncePublicRow.holds Tryd.pinned (OpenSpec.ofChange fnExactOncePublicSpec)

/-- ITS FALSE NEIGHBOUR: 'it returns false'. Refute it at one input. -/
def fnExactOncePublicWrong : ChangeSpec := { name := "fnExactOncePublic", vars := ["loop.example/g00226/impl.roundWords"], fn := fun _ => fun
  | [d, g1] => { results := [.lit (.bool false)], args := [d], vars := [g1] }
  | _ => none }
def FnExactOncePublicWrongFalsely : Prop := fnExactOncePublicRow.holds Tryd.pinned (OpenSpec.ofChange fnExactOncePublicWrong)

/-- 'laws.FnExactOnceSign': WHATEVER THE INPUT: true; the input reads as it did. -/
def fnExactOnceSignSpec : ChangeSpec := { name := "fnExactOnceSign", vars := ["loop.example/g00226/impl.roundWords"], fn := fun _ => fun
  | [d1, d2, g1] => { results := [.lit (.bool true)], args := [d1, d2], vars := [g1] }
  | _ => none }
def fnExactOnceSignRow : OpenClaim := { program := "ytnhdkhngpnialaadoor", sum := "a77b210ccfd950064ddb7d2a449f8b81518255f133b705657f5975d6333f43a8", func := "loop.example/g00226/laws.FnExactOnceSign", spec := "fnExactOnceSign", inPlace := ["internal/abi.NoEscape", "internal/bytealg.MakeNoZero"], unfollowed := true, recurses := true, named := ["loop.example/g00226/impl.roundWords"], apart := false, laid := [("loop.example/g00226/impl.roundWords", laid_loop_example_g00226_impl_roundWords)] }
def FnExactOnceSignSaid : Prop := fnExactOnceSignRow.holds Tryd.pinned (OpenSpec.ofChange fnExactOnceSignSpec)

/-- ITS FALSE NEIGHBOUR: 'it returns false'. Refute it at one input. -/
def fnExactOnceSignWrong : ChangeSpec := { name := "fnExactOnceSign", vars := ["loop.example/g00226/impl.roundWords"], fn := fun _ => fun
  | [d1, d2, g1] => { results := [.lit (.bool false)], args := [d1, d2], vars := [g1] }
  | _ => none }
def FnExactOnceSignWrongFalsely : Prop := fnExactOnceSignRow.holds Tryd.pinned (OpenSpec.ofChange fnExactOnceSignWrong)

/-- 'laws.FnExactOncePublicOf': WHATEVER THE INPUT: true; the input reads as it did. -/
def fnExactOncePublicOfSpec : ChangeSpec := { name := "fnExactOncePublicOf", vars := ["loop.example/g00226/impl.roundWords"], fn := fun _ => fun
  | [d1, d2, g1] => { results := [.lit (.bool true)], args := [d1, d2], vars := [g1] }
  | _ => none }
def fnExactOncePublicOfRow : OpenClaim := { program := "ytnhdkhngpnialaadoor", sum := "a77b210ccfd950064ddb7d2a449f8b81518255f133b705657f5975d6333f43a8", func := "loop.example/g00226/laws.FnExactOncePublicOf", spec := "fnExactOncePublicOf", inPlace := ["internal/abi.NoEscape", "internal/bytealg.MakeNoZero"], unfollowed := true, recurses := true, named := ["loop.example/g00226/impl.roundWords"], apart := false, laid := [("loop.example/g00226/impl.roundWords", laid_loop_example_g00226_impl_roundWords)] }
def FnExactOncePublicOfSaid : Prop := fnExactOncePublicOfRow.holds Tryd.pinned (OpenSpec.ofChange fnExactOncePublicOfSpec)

/-- ITS FALSE NEIGHBOUR: 'it returns false'. Refute it at one input. -/
def fnExactOncePublicOfWrong : ChangeSpec := { name := "fnExactOncePublicOf", vars := ["loop.example/g00226/impl.roundWords"], fn := fun _ => fun
  | [d1, d2, g1] => { results := [.lit (.bool false)], args := [d1, d2], vars := [g1] }
  | _ => none }
def FnExactOncePublicOfWrongFalsely : Prop := fnExactOncePublicOfRow.holds Tryd.pinned (OpenSpec.ofChange fnExactOncePublicOfWrong)

/-- 'laws.FnExactLeafSeed': WHATEVER THE INPUT: true; the input reads as it did. -/
def fnExactLeafSeedSpec : ChangeSpec := { name := "fnExactLeafSeed", vars := ["loop.example/g00226/impl.roundWords"], fn := fun _ => fun
  | [d1, d2, g1] => { results := [.lit (.bool true)], args := [d1, d2], vars := [g1] }
  | _ => none }
def fnExactLeafSeedRow : OpenClaim := { program := "ytnhdkhngpnialaadoor", sum := "a77b210ccfd950064ddb7d2a449f8b81518255f133b705657f5975d6333f43a8", func := "loop.example/g00226/laws.FnExactLeafSeed", spec := "fnExactLeafSeed", inPlace := ["internal/abi.NoEscape", "internal/bytealg.MakeNoZero"], unfollowed := true, recurses := true, named := ["loop.example/g00226/impl.roundWords"], apart := false, laid := [("loop.example/g00226/impl.roundWords", laid_loop_example_g00226_impl_roundWords)] }
def FnExactLeafSeedSaid : Prop := fnExactLeafSeedRow.holds Tryd.pinned (OpenSpec.ofChange fnExactLeafSeedSpec)

/-- ITS FALSE NEIGHBOUR: 'it returns false'. Refute it at one input. -/
def fnExactLeafSeedWrong : ChangeSpec := { name := "fnExactLeafSeed", vars := ["loop.example/g00226/impl.roundWords"], fn := fun _ => fun
  | [d1, d2, g1] => { results := [.lit (.bool false)], args := [d1, d2], vars := [g1] }
  | _ => none }
def FnExactLeafSeedWrongFalsely : Prop := fnExactLeafSeedRow.holds Tryd.pinned (OpenSpec.ofChange fnExactLeafSeedWrong)

/-- 'laws.FnExactKeyRoot': WHATEVER THE INPUT: true; the input reads as it did. -/
def fnExactKeyRootSpec : ChangeSpec := { name := "fnExactKeyRoot", vars := ["loop.example/g00226/impl.roundWords"], fn := fun _ => fun
  | [d, g1] => { results := [.lit (.bool true)], args := [d], vars := [g1] }
  | _ => none }
def fnExactKeyRootRow : OpenClaim := { program := "ytnhdkhngpnialaadoor", sum := "a77b210ccfd950064ddb7d2a449f8b81518255f133b705657f5975d6333f43a8", func := "loop.example/g00226/laws.FnExactKeyRoot", spec := "fnExactKeyRoot", inPlace := ["internal/abi.NoEscape", "internal/bytealg.MakeNoZero"], unfollowed := true, recurses := true, named := ["loop.example/g00226/impl.roundWords"], apart := false, laid := [("loop.example/g00226/impl.roundWords", laid_loop_example_g00226_impl_roundWords)] }
def FnExactKeyRootSaid : Prop := fnExactKeyRootRow.holds Tryd.pinned (OpenSpec.ofChange fnExactKeyRootSpec)

/-- ITS FALSE NEIGHBOUR: 'it returns false'. Refute it at one input. -/
def fnExactKeyRootWrong : ChangeSpec := { name := "fnExactKeyRoot", vars := ["loop.example/g00226/impl.roundWords"], fn := fun _ => fun
  | [d, g1] => { results := [.lit (.bool false)], args := [d], vars := [g1] }
  | _ => none }
def FnExactKeyRootWrongFalsely : Prop := fnExactKeyRootRow.holds Tryd.pinned (OpenSpec.ofChange fnExactKeyRootWrong)

/-- 'laws.FnExactSignNext': WHATEVER THE INPUT: true; the input reads as it did. -/
def fnExactSignNextSpec : ChangeSpec := { name := "fnExactSignNext", vars := ["loop.example/g00226/impl.roundWords"], fn := fun _ => fun
  | [d1, d2, g1] => { results := [.lit (.bool true)], args := [d1, d2], vars := [g1] }
  | _ => none }
def fnExactSignNextRow : OpenClaim := { program := "ytnhdkhngpnialaadoor", sum := "a77b210ccfd950064ddb7d2a449f8b81518255f133b705657f5975d6333f43a8", func := "loop.example/g00226/laws.FnExactSignNext", spec := "fnExactSignNext", inPlace := ["internal/abi.NoEscape", "internal/bytealg.MakeNoZero"], unfollowed := true, recurses := true, named := ["loop.example/g00226/impl.roundWords"], apart := false, laid := [("loop.example/g00226/impl.roundWords", laid_loop_example_g00226_impl_roundWords)] }
def FnExactSignNextSaid : Prop := fnExactSignNextRow.holds Tryd.pinned (OpenSpec.ofChange fnExactSignNextSpec)

/-- ITS FALSE NEIGHBOUR: 'it returns false'. Refute it at one input. -/
def fnExactSignNextWrong : ChangeSpec := { name := "fnExactSignNext", vars := ["loop.example/g00226/impl.roundWords"], fn := fun _ => fun
  | [d1, d2, g1] => { results := [.lit (.bool false)], args := [d1, d2], vars := [g1] }
  | _ => none }
def FnExactSignNextWrongFalsely : Prop := fnExactSignNextRow.holds Tryd.pinned (OpenSpec.ofChange fnExactSignNextWrong)

/-- 'laws.FnExactRootOfSignature': WHATEVER THE INPUT: true; the input reads as it did. -/
def fnExactRootOfSignatureSpec : ChangeSpec := { name := "fnExactRootOfSignature", vars := ["loop.example/g00226/impl.roundWords"], fn := fun _ => fun
  | [d1, d2, g1] => { results := [.lit (.bool true)], args := [d1, d2], vars := [g1] }
  | _ => none }
def fnExactRootOfSignatureRow : OpenClaim := { program := "ytnhdkhngpnialaadoor", sum := "a77b210ccfd950064ddb7d2a449f8b81518255f133b705657f5975d6333f43a8", func := "loop.example/g00226/laws.FnExactRootOfSignature", spec := "fnExactRootOfSignature", inPlace := ["internal/abi.NoEscape", "internal/bytealg.MakeNoZero"], unfollowed := true, recurses := true, named := ["loop.example/g00226/impl.roundWords"], apart := false, laid := [("loop.example/g00226/impl.roundWords", laid_loop_example_g00226_impl_roundWords)] }
def FnExactRootOfSignatureSaid : Prop := fnExactRootOfSignatureRow.holds Tryd.pinned (OpenSpec.ofChange fnExactRootOfSignatureSpec)

/-- ITS FALSE NEIGHBOUR: 'it returns false'. Refute it at one input. -/
def fnExactRootOfSignatureWrong : ChangeSpec := { name := "fnExactRootOfSignature", vars := ["loop.example/g00226/impl.roundWords"], fn := fun _ => fun
  | [d1, d2, g1] => { results := [.lit (.bool false)], args := [d1, d2], vars := [g1] }
  | _ => none }
def FnExactRootOfSignatureWrongFalsely : Prop := fnExactRootOfSignatureRow.holds Tryd.pinned (OpenSpec.ofChange fnExactRootOfSignatureWrong)

/-- 'laws.FnExactVerify': WHATEVER THE INPUT: true; the input reads as it did. -/
def fnExactVerifySpec : ChangeSpec := { name := "fnExactVerify", vars := ["loop.example/g00226/impl.roundWords"], fn := fun _ => fun
  | [d1, d2, d3, g1] => { results := [.lit (.bool true)], args := [d1, d2, d3], vars := [g1] }
  | _ => none }
def fnExactVerifyRow : OpenClaim := { program := "ytnhdkhngpnialaadoor", sum := "a77b210ccfd950064ddb7d2a449f8b81518255f133b705657f5975d6333f43a8", func := "loop.example/g00226/laws.FnExactVerify", spec := "fnExactVerify", inPlace := ["internal/abi.NoEscape", "internal/bytealg.MakeNoZero"], unfollowed := true, recurses := true, named := ["loop.example/g00226/impl.roundWords"], apart := false, laid := [("loop.example/g00226/impl.roundWords", laid_loop_example_g00226_impl_roundWords)] }
def FnExactVerifySaid : Prop := fnExactVerifyRow.holds Tryd.pinned (OpenSpec.ofChange fnExactVerifySpec)

/-- ITS FALSE NEIGHBOUR: 'it returns false'. Refute it at one input. -/
def fnExactVerifyWrong : ChangeSpec := { name := "fnExactVerify", vars := ["loop.example/g00226/impl.roundWords"], fn := fun _ => fun
  | [d1, d2, d3, g1] => { results := [.lit (.bool false)], args := [d1, d2, d3], vars := [g1] }
  | _ => none }
def FnExactVerifyWrongFalsely : Prop := fnExactVerifyRow.holds Tryd.pinned (OpenSpec.ofChange fnExactVerifyWrong)

/- THE SECOND FORM. 'bulk': how many values and letters a reading holds, each counted each time it is reached (what is shared counts as often as it is met; a slice's spare places count too). A statement '..UptoSaid' is the law's where the arguments, and the package variables that the reading takes, are together of bulk at most 1048576: NARROWER than '..Said'. Prove '..Said' where nothing that the law and all that it calls make is longer than what came in: it says more and counts as full. Else prove '..UptoSaid'. A law counts once. -/
mutual
def uptoBulk {H : Type} : DataW H → Nat
  | .lit (.string bytes) => bytes.length + 1
  | .lit _ => 1
  | .nil => 1
  | .ptr d => uptoBulk d + 1
  | .slice elems spare => uptoBulkAll elems + uptoBulkAll spare + 1
  | .agg parts => uptoBulkAll parts + 1
  | .iface _ d => uptoBulk d + 1
  | .map entries => uptoBulkEntries entries + 1
  | .held _ => 1
def uptoBulkAll {H : Type} : List (DataW H) → Nat
  | [] => 0
  | d :: r => uptoBulk d + uptoBulkAll r
def uptoBulkEntries {H : Type} : List (Lit × DataW H) → Nat
  | [] => 0
  | x :: r => uptoBulkEntry x + uptoBulkEntries r
def uptoBulkEntry {H : Type} : Lit × DataW H → Nat
  | (.string bytes, d) => bytes.length + uptoBulk d + 1
  | (_, d) => uptoBulk d + 1
 end
def uptoSmall : (H : Type) → List (DataW H) → Bool := fun _ ds => decide (uptoBulkAll ds ≤ 1048576)
def OpenSpec.upto (s : _root_.Go.ChangeSpec) : _root_.Go.OpenSpec := { _root_.Go.OpenSpec.ofChange s with cond := some uptoSmall }

/-- 'laws.FnDigits', WHERE WHAT IT READS IS OF BULK AT MOST 1048576: true; the input reads as it did. -/
def fnDigitsUptoRow : OpenClaim := { program := "ytnhdkhngpnialaadoor", sum := "a77b210ccfd950064ddb7d2a449f8b81518255f133b705657f5975d6333f43a8", func := "loop.example/g00226/laws.FnDigits", spec := "fnDigits", inPlace := ["internal/abi.NoEscape", "internal/bytealg.MakeNoZero"], unfollowed := true, recurses := true, named := ["loop.example/g00226/impl.roundWords"], apart := false, laid := [("loop.example/g00226/impl.roundWords", laid_loop_example_g00226_impl_roundWords)], narrowed := true }
def FnDigitsUptoSaid : Prop := fnDigitsUptoRow.holds Tryd.pinned (OpenSpec.upto fnDigitsSpec)

/-- 'laws.FnChains', WHERE WHAT IT READS IS OF BULK AT MOST 1048576: true; the input reads as it did. -/
def fnChainsUptoRow : OpenClaim := { program := "ytnhdkhngpnialaadoor", sum := "a77b210ccfd950064ddb7d2a449f8b81518255f133b705657f5975d6333f43a8", func := "loop.example/g00226/laws.FnChains", spec := "fnChains", inPlace := ["internal/abi.NoEscape", "internal/bytealg.MakeNoZero"], unfollowed := true, recurses := true, named := ["loop.example/g00226/impl.roundWords"], apart := false, laid := [("loop.example/g00226/impl.roundWords", laid_loop_example_g00226_impl_roundWords)], narrowed := true }
def FnChainsUptoSaid : Prop := fnChainsUptoRow.holds Tryd.pinned (OpenSpec.upto fnChainsSpec)

/-- 'laws.FnOnce', WHERE WHAT IT READS IS OF BULK AT MOST 1048576: true; the input reads as it did. -/
def fnOnceUptoRow : OpenClaim := { program := "ytnhdkhngpnialaadoor", sum := "a77b210ccfd950064ddb7d2a449f8b81518255f133b705657f5975d6333f43a8", func := "loop.example/g00226/laws.FnOnce", spec := "fnOnce", inPlace := ["internal/abi.NoEscape", "internal/bytealg.MakeNoZero"], unfollowed := true, recurses := true, named := ["loop.example/g00226/impl.roundWords"], apart := false, laid := [("loop.example/g00226/impl.roundWords", laid_loop_example_g00226_impl_roundWords)], narrowed := true }
def FnOnceUptoSaid : Prop := fnOnceUptoRow.holds Tryd.pinned (OpenSpec.upto fnOnceSpec)

/-- 'laws.FnSigned', WHERE WHAT IT READS IS OF BULK AT MOST 1048576: true; the input reads as it did. -/
def fnSignedUptoRow : OpenClaim := { program := "ytnhdkhngpnialaadoor", sum := "a77b210ccfd950064ddb7d2a449f8b81518255f133b705657f5975d6333f43a8", func := "loop.example/g00226/laws.FnSigned", spec := "fnSigned", inPlace := ["internal/abi.NoEscape", "internal/bytealg.MakeNoZero"], unfollowed := true, recurses := true, named := ["loop.example/g00226/impl.roundWords"], apart := false, laid := [("loop.example/g00226/impl.roundWords", laid_loop_example_g00226_impl_roundWords)], narrowed := true }
def FnSignedUptoSaid : Prop := fnSignedUptoRow.holds Tryd.pinned (OpenSpec.upto fnSignedSpec)

/-- 'laws.FnLeaves', WHERE WHAT IT READS IS OF BULK AT MOST 1048576: true; the input reads as it did. -/
def fnLeavesUptoRow : OpenClaim := { program := "ytnhdkhngpnialaadoor", sum := "a77b210ccfd950064ddb7d2a449f8b81518255f133b705657f5975d6333f43a8", func := "loop.example/g00226/laws.FnLeaves", spec := "fnLeaves", inPlace := ["internal/abi.NoEscape", "internal/bytealg.MakeNoZero"], unfollowed := true, recurses := true, named := ["loop.example/g00226/impl.roundWords"], apart := false, laid := [("loop.example/g00226/impl.roundWords", laid_loop_example_g00226_impl_roundWords)], narrowed := true }
def FnLeavesUptoSaid : Prop := fnLeavesUptoRow.holds Tryd.pinned (OpenSpec.upto fnLeavesSpec)

/-- 'laws.FnVerified', WHERE WHAT IT READS IS OF BULK AT MOST 1048576: true; the input reads as it did. -/
def fnVerifiedUptoRow : OpenClaim := { program := "ytnhdkhngpnialaadoor", sum := "a77b210ccfd950064ddb7d2a449f8b81518255f133b705657f5975d6333f43a8", func := "loop.example/g00226/laws.FnVerified", spec := "fnVerified", inPlace := ["internal/abi.NoEscape", "internal/bytealg.MakeNoZero"], unfollowed := true, recurses := true, named := ["loop.example/g00226/impl.roundWords"], apart := false, laid := [("loop.example/g00226/impl.roundWords", laid_loop_example_g00226_impl_roundWords)], narrowed := true }
def FnVerifiedUptoSaid : Prop := fnVerifiedUptoRow.holds Tryd.pinned (OpenSpec.upto fnVerifiedSpec)

/-- 'laws.FnExactDigits', WHERE WHAT IT READS IS OF BULK AT MOST 1048576: true; the input reads as it did. -/
def fnExactDigitsUptoRow : OpenClaim := { program := "ytnhdkhngpnialaadoor", sum := "a77b210ccfd950064ddb7d2a449f8b81518255f133b705657f5975d6333f43a8", func := "loop.example/g00226/laws.FnExactDigits", spec := "fnExactDigits", inPlace := ["internal/abi.NoEscape", "internal/bytealg.MakeNoZero"], unfollowed := true, recurses := true, named := ["loop.example/g00226/impl.roundWords"], apart := false, laid := [("loop.example/g00226/impl.roundWords", laid_loop_example_g00226_impl_roundWords)], narrowed := true }
def FnExactDigitsUptoSaid : Prop := fnExactDigitsUptoRow.holds Tryd.pinned (OpenSpec.upto fnExactDigitsSpec)

/-- 'laws.FnExactChainOf', WHERE WHAT IT READS IS OF BULK AT MOST 1048576: true; the input reads as it did. -/
def fnExactChainOfUptoRow : OpenClaim := { program := "ytnhdkhngpnialaadoor", sum := "a77b210ccfd950064ddb7d2a449f8b81518255f133b705657f5975d6333f43a8", func := "loop.example/g00226/laws.FnExactChainOf", spec := "fnExactChainOf", inPlace := ["internal/abi.NoEscape", "internal/bytealg.MakeNoZero"], unfollowed := true, recurses := true, named := ["loop.example/g00226/impl.roundWords"], apart := false, laid := [("loop.example/g00226/impl.roundWords", laid_loop_example_g00226_impl_roundWords)], narrowed := true }
def FnExactChainOfUptoSaid : Prop := fnExactChainOfUptoRow.holds Tryd.pinned (OpenSpec.upto fnExactChainOfSpec)

/-- 'laws.FnExactOncePublic', WHERE WHAT IT READS IS OF BULK AT MOST 1048576: true; the input reads as it did. -/
def fnExactOncePublicUptoRow : OpenClaim := { program := "ytnhdkhngpnialaadoor", sum := "a77b210ccfd950064ddb7d2a449f8b81518255f133b705657f5975d6333f43a8", func := "loop.example/g00226/laws.FnExactOncePublic", spec := "fnExactOncePublic", inPlace := ["internal/abi.NoEscape", "internal/bytealg.MakeNoZero"], unfollowed := true, recurses := true, named := ["loop.example/g00226/impl.roundWords"], apart := false, laid := [("loop.example/g00226/impl.roundWords", laid_loop_example_g00226_impl_roundWords)], narrowed := true }
def FnExactOncePublicUptoSaid : Prop := fnExactOncePublicUptoRow.holds Tryd.pinned (OpenSpec.upto fnExactOncePublicSpec)

/-- 'laws.FnExactOnceSign', WHERE WHAT IT READS IS OF BULK AT MOST 1048576: true; the input reads as it did. -/
def fnExactOnceSignUptoRow : OpenClaim := { program := "ytnhdkhngpnialaadoor", sum := "a77b210ccfd950064ddb7d2a449f8b81518255f133b705657f5975d6333f43a8", func := "loop.example/g00226/laws.FnExactOnceSign", spec := "fnExactOnceSign", inPlace := ["internal/abi.NoEscape", "internal/bytealg.MakeNoZero"], unfollowed := true, recurses := true, named := ["loop.example/g00226/impl.roundWords"], apart := false, laid := [("loop.example/g00226/impl.roundWords", laid_loop_example_g00226_impl_roundWords)], narrowed := true }
def FnExactOnceSignUptoSaid : Prop := fnExactOnceSignUptoRow.holds Tryd.pinned (OpenSpec.upto fnExactOnceSignSpec)

/-- 'laws.FnExactOncePublicOf', WHERE WHAT IT READS IS OF BULK AT MOST 1048576: true; the input reads as it did. -/
def fnExactOncePublicOfUptoRow : OpenClaim := { program := "ytnhdkhngpnialaadoor", sum := "a77b210ccfd950064ddb7d2a449f8b81518255f133b705657f5975d6333f43a8", func := "loop.example/g00226/laws.FnExactOncePublicOf", spec := "fnExactOncePublicOf", inPlace := ["internal/abi.NoEscape", "internal/bytealg.MakeNoZero"], unfollowed := true, recurses := true, named := ["loop.example/g00226/impl.roundWords"], apart := false, laid := [("loop.example/g00226/impl.roundWords", laid_loop_example_g00226_impl_roundWords)], narrowed := true }
def FnExactOncePublicOfUptoSaid : Prop := fnExactOncePublicOfUptoRow.holds Tryd.pinned (OpenSpec.upto fnExactOncePublicOfSpec)

/-- 'laws.FnExactLeafSeed', WHERE WHAT IT READS IS OF BULK AT MOST 1048576: true; the input reads as it did. -/
def fnExactLeafSeedUptoRow : OpenClaim := { program := "ytnhdkhngpnialaadoor", sum := "a77b210ccfd950064ddb7d2a449f8b81518255f133b705657f5975d6333f43a8", func := "loop.example/g00226/laws.FnExactLeafSeed", spec := "fnExactLeafSeed", inPlace := ["internal/abi.NoEscape", "internal/bytealg.MakeNoZero"], unfollowed := true, recurses := true, named := ["loop.example/g00226/impl.roundWords"], apart := false, laid := [("loop.example/g00226/impl.roundWords", laid_loop_example_g00226_impl_roundWords)], narrowed := true }
def FnExactLeafSeedUptoSaid : Prop := fnExactLeafSeedUptoRow.holds Tryd.pinned (OpenSpec.upto fnExactLeafSeedSpec)

/-- 'laws.FnExactKeyRoot', WHERE WHAT IT READS IS OF BULK AT MOST 1048576: true; the input reads as it did. -/
def fnExactKeyRootUptoRow : OpenClaim := { program := "ytnhdkhngpnialaadoor", sum := "a77b210ccfd950064ddb7d2a449f8b81518255f133b705657f5975d6333f43a8", func := "loop.example/g00226/laws.FnExactKeyRoot", spec := "fnExactKeyRoot", inPlace := ["internal/abi.NoEscape", "internal/bytealg.MakeNoZero"], unfollowed := true, recurses := true, named := ["loop.example/g00226/impl.roundWords"], apart := false, laid := [("loop.example/g00226/impl.roundWords", laid_loop_example_g00226_impl_roundWords)], narrowed := true }
def FnExactKeyRootUptoSaid : Prop := fnExactKeyRootUptoRow.holds Tryd.pinned (OpenSpec.upto fnExactKeyRootSpec)

/-- 'laws.FnExactSignNext', WHERE WHAT IT READS IS OF BULK AT MOST 1048576: true; the input reads as it did. -/
def fnExactSignNextUptoRow : OpenClaim := { program := "ytnhdkhngpnialaadoor", sum := "a77b210ccfd950064ddb7d2a449f8b81518255f133b705657f5975d6333f43a8", func := "loop.example/g00226/laws.FnExactSignNext", spec := "fnExactSignNext", inPlace := ["internal/abi.NoEscape", "internal/bytealg.MakeNoZero"], unfollowed := true, recurses := true, named := ["loop.example/g00226/impl.roundWords"], apart := false, laid := [("loop.example/g00226/impl.roundWords", laid_loop_example_g00226_impl_roundWords)], narrowed := true }
def FnExactSignNextUptoSaid : Prop := fnExactSignNextUptoRow.holds Tryd.pinned (OpenSpec.upto fnExactSignNextSpec)

/-- 'laws.FnExactRootOfSignature', WHERE WHAT IT READS IS OF BULK AT MOST 1048576: true; the input reads as it did. -/
def fnExactRootOfSignatureUptoRow : OpenClaim := { program := "ytnhdkhngpnialaadoor", sum := "a77b210ccfd950064ddb7d2a449f8b81518255f133b705657f5975d6333f43a8", func := "loop.example/g00226/laws.FnExactRootOfSignature", spec := "fnExactRootOfSignature", inPlace := ["internal/abi.NoEscape", "internal/bytealg.MakeNoZero"], unfollowed := true, recurses := true, named := ["loop.example/g00226/impl.roundWords"], apart := false, laid := [("loop.example/g00226/impl.roundWords", laid_loop_example_g00226_impl_roundWords)], narrowed := true }
def FnExactRootOfSignatureUptoSaid : Prop := fnExactRootOfSignatureUptoRow.holds Tryd.pinned (OpenSpec.upto fnExactRootOfSignatureSpec)

/-- 'laws.FnExactVerify', WHERE WHAT IT READS IS OF BULK AT MOST 1048576: true; the input reads as it did. -/
def fnExactVerifyUptoRow : OpenClaim := { program := "ytnhdkhngpnialaadoor", sum := "a77b210ccfd950064ddb7d2a449f8b81518255f133b705657f5975d6333f43a8", func := "loop.example/g00226/laws.FnExactVerify", spec := "fnExactVerify", inPlace := ["internal/abi.NoEscape", "internal/bytealg.MakeNoZero"], unfollowed := true, recurses := true, named := ["loop.example/g00226/impl.roundWords"], apart := false, laid := [("loop.example/g00226/impl.roundWords", laid_loop_example_g00226_impl_roundWords)], narrowed := true }
def FnExactVerifyUptoSaid : Prop := fnExactVerifyUptoRow.holds Tryd.pinned (OpenSpec.upto fnExactVerifySpec)

end Rows
end Go.Proofs.YtnhdkhngpnialaaDoor
