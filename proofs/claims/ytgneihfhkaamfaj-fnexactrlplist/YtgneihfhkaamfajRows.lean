/-
  No cell of these rows narrows 'for every input' (looked for: loops, veiled, ifaces, maps, wideKeys, modest, calm, conditions, laid).
  DERIVED. THE GIVEN ROWS OF THIS SEAT. 6 by the template 'for every input the law returns true; each argument reads behind the call as it read before'; 0 by the template 'total and deterministic' (their statements: YtgneihfhkaamfajTotals.lean).
  GIVEN WITH THE SEED: the statements are not yours to turn. If you find one false, say at which input.
  Laid BY PROGRAM, IN A SANDBOX (cutbox-rows.mjs): the forced cells as the released guide's own fill.sh prints them over the translation 53715cff583732aa… (all of the seat's roots in one cut). By AI agents, Wed Nov 11 2026. No macro, syntax, notation, axiom, sorry.
-/
import Derived.Test.YtgneihfhkaamfajChecked
import GoSem.Claim
import GoSem.ClaimJoined
import GoSem.ClaimMapViews
import Derived.JoinedTies
import Derived.KernelRfl
namespace Go.Proofs.Ytgneihfhkaamfaj
/- THE CELL 'sum', in the pinned program and in every row, IS THE sha256 OF THE DUMP (.gsa) THAT YtgneihfhkaamfajProg.lean LOADS. Nothing in Lean hashes anything: it is a label: what it is worth is what the hold of that sum in a sandbox is worth. -/
noncomputable def Try.pinned : Pinned := { name := "ytgneihfhkaamfaj", sum := "53715cff583732aaceeeb26dce4c1c1185dd119ceff1d7cf955eee6d1b406b4e", checked := Try.checked }
namespace Rows
def none {H : Type} : Left H := { results := [], args := [] }

/-- 'laws.FnExactRlpList': WHATEVER THE INPUT: true; the input reads as it did. -/
def fnExactRlpListSpec : ChangeSpec := { name := "fnExactRlpList", fn := fun _ => fun
  | [d] => { results := [.lit (.bool true)], args := [d] }
  | _ => none }
def fnExactRlpListRow : OpenClaim := { program := "ytgneihfhkaamfaj", sum := "53715cff583732aaceeeb26dce4c1c1185dd119ceff1d7cf955eee6d1b406b4e", func := "loop.example/g00226/laws.FnExactRlpList", spec := "fnExactRlpList", inPlace := ["internal/abi.NoEscape", "internal/bytealg.MakeNoZero"], unfollowed := true, recurses := true, apart := false }
def FnExactRlpListSaid : Prop := fnExactRlpListRow.holds Try.pinned (OpenSpec.ofChange fnExactRlpListSpec)

/-- ITS FALSE NEIGHBOUR: 'it returns false'. Refute it at one input. -/
def fnExactRlpListWrong : ChangeSpec := { name := "fnExactRlpList", fn := fun _ => fun
  | [d] => { results := [.lit (.bool false)], args := [d] }
  | _ => none }
def FnExactRlpListWrongFalsely : Prop := fnExactRlpListRow.holds Try.pinned (OpenSpec.ofChange fnExactRlpListWrong)

/-- 'laws.FnExactTakeRlp': WHATEVER THE INPUT: true; the input reads as it did. -/
def fnExactTakeRlpSpec : ChangeSpec := { name := "fnExactTakeRlp", fn := fun _ => fun
  | [d] => { results := [.lit (.bool true)], args := [d] }
  | _ => none }
def fnExactTakeRlpRow : OpenClaim := { program := "ytgneihfhkaamfaj", sum := "53715cff583732aaceeeb26dce4c1c1185dd119ceff1d7cf955eee6d1b406b4e", func := "loop.example/g00226/laws.FnExactTakeRlp", spec := "fnExactTakeRlp", unfollowed := true, recurses := true, apart := false }
def FnExactTakeRlpSaid : Prop := fnExactTakeRlpRow.holds Try.pinned (OpenSpec.ofChange fnExactTakeRlpSpec)

/-- ITS FALSE NEIGHBOUR: 'it returns false'. Refute it at one input. -/
def fnExactTakeRlpWrong : ChangeSpec := { name := "fnExactTakeRlp", fn := fun _ => fun
  | [d] => { results := [.lit (.bool false)], args := [d] }
  | _ => none }
def FnExactTakeRlpWrongFalsely : Prop := fnExactTakeRlpRow.holds Try.pinned (OpenSpec.ofChange fnExactTakeRlpWrong)

/-- 'laws.FnExactRlpItems': WHATEVER THE INPUT: true; the input reads as it did. -/
def fnExactRlpItemsSpec : ChangeSpec := { name := "fnExactRlpItems", fn := fun _ => fun
  | [d] => { results := [.lit (.bool true)], args := [d] }
  | _ => none }
def fnExactRlpItemsRow : OpenClaim := { program := "ytgneihfhkaamfaj", sum := "53715cff583732aaceeeb26dce4c1c1185dd119ceff1d7cf955eee6d1b406b4e", func := "loop.example/g00226/laws.FnExactRlpItems", spec := "fnExactRlpItems", unfollowed := true, recurses := true, apart := false }
def FnExactRlpItemsSaid : Prop := fnExactRlpItemsRow.holds Try.pinned (OpenSpec.ofChange fnExactRlpItemsSpec)

/-- ITS FALSE NEIGHBOUR: 'it returns false'. Refute it at one input. -/
def fnExactRlpItemsWrong : ChangeSpec := { name := "fnExactRlpItems", fn := fun _ => fun
  | [d] => { results := [.lit (.bool false)], args := [d] }
  | _ => none }
def FnExactRlpItemsWrongFalsely : Prop := fnExactRlpItemsRow.holds Try.pinned (OpenSpec.ofChange fnExactRlpItemsWrong)

/-- 'laws.FnExactHexPrefix': WHATEVER THE INPUT: true; the input reads as it did. -/
def fnExactHexPrefixSpec : ChangeSpec := { name := "fnExactHexPrefix", fn := fun _ => fun
  | [d1, d2] => { results := [.lit (.bool true)], args := [d1, d2] }
  | _ => none }
def fnExactHexPrefixRow : OpenClaim := { program := "ytgneihfhkaamfaj", sum := "53715cff583732aaceeeb26dce4c1c1185dd119ceff1d7cf955eee6d1b406b4e", func := "loop.example/g00226/laws.FnExactHexPrefix", spec := "fnExactHexPrefix", apart := false }
def FnExactHexPrefixSaid : Prop := fnExactHexPrefixRow.holds Try.pinned (OpenSpec.ofChange fnExactHexPrefixSpec)

/-- ITS FALSE NEIGHBOUR: 'it returns false'. Refute it at one input. -/
def fnExactHexPrefixWrong : ChangeSpec := { name := "fnExactHexPrefix", fn := fun _ => fun
  | [d1, d2] => { results := [.lit (.bool false)], args := [d1, d2] }
  | _ => none }
def FnExactHexPrefixWrongFalsely : Prop := fnExactHexPrefixRow.holds Try.pinned (OpenSpec.ofChange fnExactHexPrefixWrong)

/-- 'laws.FnExactReadHexPrefix': WHATEVER THE INPUT: true; the input reads as it did. -/
def fnExactReadHexPrefixSpec : ChangeSpec := { name := "fnExactReadHexPrefix", fn := fun _ => fun
  | [d] => { results := [.lit (.bool true)], args := [d] }
  | _ => none }
def fnExactReadHexPrefixRow : OpenClaim := { program := "ytgneihfhkaamfaj", sum := "53715cff583732aaceeeb26dce4c1c1185dd119ceff1d7cf955eee6d1b406b4e", func := "loop.example/g00226/laws.FnExactReadHexPrefix", spec := "fnExactReadHexPrefix", apart := false }
def FnExactReadHexPrefixSaid : Prop := fnExactReadHexPrefixRow.holds Try.pinned (OpenSpec.ofChange fnExactReadHexPrefixSpec)

/-- ITS FALSE NEIGHBOUR: 'it returns false'. Refute it at one input. -/
def fnExactReadHexPrefixWrong : ChangeSpec := { name := "fnExactReadHexPrefix", fn := fun _ => fun
  | [d] => { results := [.lit (.bool false)], args := [d] }
  | _ => none }
def FnExactReadHexPrefixWrongFalsely : Prop := fnExactReadHexPrefixRow.holds Try.pinned (OpenSpec.ofChange fnExactReadHexPrefixWrong)

/-- 'laws.FnExactNibbles': WHATEVER THE INPUT: true; the input reads as it did. -/
def fnExactNibblesSpec : ChangeSpec := { name := "fnExactNibbles", fn := fun _ => fun
  | [d] => { results := [.lit (.bool true)], args := [d] }
  | _ => none }
def fnExactNibblesRow : OpenClaim := { program := "ytgneihfhkaamfaj", sum := "53715cff583732aaceeeb26dce4c1c1185dd119ceff1d7cf955eee6d1b406b4e", func := "loop.example/g00226/laws.FnExactNibbles", spec := "fnExactNibbles", apart := false }
def FnExactNibblesSaid : Prop := fnExactNibblesRow.holds Try.pinned (OpenSpec.ofChange fnExactNibblesSpec)

/-- ITS FALSE NEIGHBOUR: 'it returns false'. Refute it at one input. -/
def fnExactNibblesWrong : ChangeSpec := { name := "fnExactNibbles", fn := fun _ => fun
  | [d] => { results := [.lit (.bool false)], args := [d] }
  | _ => none }
def FnExactNibblesWrongFalsely : Prop := fnExactNibblesRow.holds Try.pinned (OpenSpec.ofChange fnExactNibblesWrong)

/- THE SECOND FORM. 'bulk': how many values and letters a reading holds, each counted each time it is reached (what is shared counts as often as it is met; a slice's spare places count too). A statement '..UptoSaid' is the law's where the arguments, and the package variables that the reading takes, are together of bulk at most 1048576: NARROWER than '..Said'. Prove '..Said' where nothing that the law and all that it calls make is longer than what came in: it says more and counts as full. Else prove '..UptoSaid'. A law counts once. -/
mutual
def uptoBulk {H : Type} : DataW H → Nat
  | .lit (.string bytes) => bytes.length + 1
  | .lit _ => 1
  | .nil => 1
  | .ptr d => uptoBulk d + 1
  | .slice elems spare => uptoBulkAll elems + uptoBulkAll spare + 1
  | .agg parts => uptoBulkAll parts + 1
  | .iface _ d => uptoBulk d + 1
  | .map entries => uptoBulkEntries entries + 1
  | .held _ => 1
def uptoBulkAll {H : Type} : List (DataW H) → Nat
  | [] => 0
  | d :: r => uptoBulk d + uptoBulkAll r
def uptoBulkEntries {H : Type} : List (Lit × DataW H) → Nat
  | [] => 0
  | x :: r => uptoBulkEntry x + uptoBulkEntries r
def uptoBulkEntry {H : Type} : Lit × DataW H → Nat
  | (.string bytes, d) => bytes.length + uptoBulk d + 1
  | (_, d) => uptoBulk d + 1
 end
def uptoSmall : (H : Type) → List (DataW H) → Bool := fun _ ds => decide (uptoBulkAll ds ≤ 1048576)
def OpenSpec.upto (s : _root_.Go.ChangeSpec) : _root_.Go.OpenSpec := { _root_.Go.OpenSpec.ofChange s with cond := some uptoSmall }

/-- 'laws.FnExactRlpList', WHERE WHAT IT READS IS OF BULK AT MOST 1048576: true; the input reads as it did. -/
def fnExactRlpListUptoRow : OpenClaim := { program := "ytgneihfhkaamfaj", sum := "53715cff583732aaceeeb26dce4c1c1185dd119ceff1d7cf955eee6d1b406b4e", func := "loop.example/g00226/laws.FnExactRlpList", spec := "fnExactRlpList", inPlace := ["internal/abi.NoEscape", "internal/bytealg.MakeNoZero"], unfollowed := true, recurses := true, apart := false, narrowed := true }
def FnExactRlpListUptoSaid : Prop := fnExactRlpListUptoRow.holds Try.pinned (OpenSpec.upto fnExactRlpListSpec)

/-- 'laws.FnExactTakeRlp', WHERE WHAT IT READS IS OF BULK AT MOST 1048576: true; the input reads as it did. -/
def fnExactTakeRlpUptoRow : OpenClaim := { program := "ytgneihfhkaamfaj", sum := "53715cff583732aaceeeb26dce4c1c1185dd119ceff1d7cf955eee6d1b406b4e", func := "loop.example/g00226/laws.FnExactTakeRlp", spec := "fnExactTakeRlp", unfollowed := true, recurses := true, apart := false, narrowed := true }
def FnExactTakeRlpUptoSaid : Prop := fnExactTakeRlpUptoRow.holds Try.pinned (OpenSpec.upto fnExactTakeRlpSpec)

/-- 'laws.FnExactRlpItems', WHERE WHAT IT READS IS OF BULK AT MOST 1048576: true; the input reads as it did. -/
def fnExactRlpItemsUptoRow : OpenClaim := { program := "ytgneihfhkaamfaj", sum := "53715cff583732aaceeeb26dce4c1c1185dd119ceff1d7cf955eee6d1b406b4e", func := "loop.example/g00226/laws.FnExactRlpItems", spec := "fnExactRlpItems", unfollowed := true, recurses := true, apart := false, narrowed := true }
def FnExactRlpItemsUptoSaid : Prop := fnExactRlpItemsUptoRow.holds Try.pinned (OpenSpec.upto fnExactRlpItemsSpec)

/-- 'laws.FnExactHexPrefix', WHERE WHAT IT READS IS OF BULK AT MOST 1048576: true; the input reads as it did. -/
def fnExactHexPrefixUptoRow : OpenClaim := { program := "ytgneihfhkaamfaj", sum := "53715cff583732aaceeeb26dce4c1c1185dd119ceff1d7cf955eee6d1b406b4e", func := "loop.example/g00226/laws.FnExactHexPrefix", spec := "fnExactHexPrefix", apart := false, narrowed := true }
def FnExactHexPrefixUptoSaid : Prop := fnExactHexPrefixUptoRow.holds Try.pinned (OpenSpec.upto fnExactHexPrefixSpec)

/-- 'laws.FnExactReadHexPrefix', WHERE WHAT IT READS IS OF BULK AT MOST 1048576: true; the input reads as it did. -/
def fnExactReadHexPrefixUptoRow : OpenClaim := { program := "ytgneihfhkaamfaj", sum := "53715cff583732aaceeeb26dce4c1c1185dd119ceff1d7cf955eee6d1b406b4e", func := "loop.example/g00226/laws.FnExactReadHexPrefix", spec := "fnExactReadHexPrefix", apart := false, narrowed := true }
def FnExactReadHexPrefixUptoSaid : Prop := fnExactReadHexPrefixUptoRow.holds Try.pinned (OpenSpec.upto fnExactReadHexPrefixSpec)

/-- 'laws.FnExactNibbles', WHERE WHAT IT READS IS OF BULK AT MOST 1048576: true; the input reads as it did. -/
def fnExactNibblesUptoRow : OpenClaim := { program := "ytgneihfhkaamfaj", sum := "53715cff583732aaceeeb26dce4c1c1185dd119ceff1d7cf955eee6d1b406b4e", func := "loop.example/g00226/laws.FnExactNibbles", spec := "fnExactNibbles", apart := false, narrowed := true }
def FnExactNibblesUptoSaid : Prop := fnExactNibblesUptoRow.holds Try.pinned (OpenSpec.upto fnExactNibblesSpec)

end Rows
end Go.Proofs.Ytgneihfhkaamfaj
