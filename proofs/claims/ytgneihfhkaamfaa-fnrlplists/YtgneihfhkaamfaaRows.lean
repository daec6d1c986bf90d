/-
  No cell of these rows narrows 'for every input' (looked for: loops, veiled, ifaces, maps, wideKeys, modest, calm, conditions, laid).
  DERIVED. THE GIVEN ROWS OF THIS SEAT. 3 by the template 'for every input the law returns true; each argument reads behind the call as it read before'; 0 by the template 'total and deterministic' (their statements: YtgneihfhkaamfaaTotals.lean).
  GIVEN WITH THE SEED: the statements are not yours to turn. If you find one false, say at which input.
  Laid BY PROGRAM, IN A SANDBOX (cutbox-rows.mjs): the forced cells as the released guide's own fill.sh prints them over the translation ffd98f8ec295e224… (all of the seat's roots in one cut). By AI agents, Wed Nov 11 2026. No macro, syntax, notation, axiom, sorry.
-/
import Derived.Test.YtgneihfhkaamfaaChecked
import GoSem.Claim
import GoSem.ClaimJoined
import GoSem.ClaimMapViews
import Derived.JoinedTies
import Derived.KernelRfl
namespace Go.Proofs.Ytgneihfhkaamfaa
/- THE CELL 'sum', in the pinned program and in every row, IS THE sha256 OF THE DUMP (.gsa) THAT YtgneihfhkaamfaaProg.lean LOADS. Nothing in Lean hashes anything: it is a label: what it is worth is what the hold of that sum in a sandbox is worth. -/
noncomputable def Try.pinned : Pinned := { name := "ytgneihfhkaamfaa", sum := "ffd98f8ec295e224d157fcc9ecfcbbcd4ca2e5ca52cba37838945352a6361b03", checked := Try.checked }
namespace Rows
def none {H : Type} : Left H := { results := [], args := [] }

/-- 'laws.FnRlpTexts': WHATEVER THE INPUT: true; the input reads as it did. -/
def fnRlpTextsSpec : ChangeSpec := { name := "fnRlpTexts", fn := fun _ => fun
  | [d] => { results := [.lit (.bool true)], args := [d] }
  | _ => none }
def fnRlpTextsRow : OpenClaim := { program := "ytgneihfhkaamfaa", sum := "ffd98f8ec295e224d157fcc9ecfcbbcd4ca2e5ca52cba37838945352a6361b03", func := "loop.example/g00226/laws.FnRlpTexts", spec := "fnRlpTexts", unfollowed := true, recurses := true, apart := false }
def FnRlpTextsSaid : Prop := fnRlpTextsRow.holds Try.pinned (OpenSpec.ofChange fnRlpTextsSpec)

/-- ITS FALSE NEIGHBOUR: 'it returns false'. Refute it at one input. -/
def fnRlpTextsWrong : ChangeSpec := { name := "fnRlpTexts", fn := fun _ => fun
  | [d] => { results := [.lit (.bool false)], args := [d] }
  | _ => none }
def FnRlpTextsWrongFalsely : Prop := fnRlpTextsRow.holds Try.pinned (OpenSpec.ofChange fnRlpTextsWrong)

/-- 'laws.FnRlpLists': WHATEVER THE INPUT: true; the input reads as it did. -/
def fnRlpListsSpec : ChangeSpec := { name := "fnRlpLists", fn := fun _ => fun
  | [d] => { results := [.lit (.bool true)], args := [d] }
  | _ => none }
def fnRlpListsRow : OpenClaim := { program := "ytgneihfhkaamfaa", sum := "ffd98f8ec295e224d157fcc9ecfcbbcd4ca2e5ca52cba37838945352a6361b03", func := "loop.example/g00226/laws.FnRlpLists", spec := "fnRlpLists", inPlace := ["internal/abi.NoEscape", "internal/bytealg.MakeNoZero"], unfollowed := true, recurses := true, apart := false }
def FnRlpListsSaid : Prop := fnRlpListsRow.holds Try.pinned (OpenSpec.ofChange fnRlpListsSpec)

/-- ITS FALSE NEIGHBOUR: 'it returns false'. Refute it at one input. -/
def fnRlpListsWrong : ChangeSpec := { name := "fnRlpLists", fn := fun _ => fun
  | [d] => { results := [.lit (.bool false)], args := [d] }
  | _ => none }
def FnRlpListsWrongFalsely : Prop := fnRlpListsRow.holds Try.pinned (OpenSpec.ofChange fnRlpListsWrong)

/-- 'laws.FnPrefixes': WHATEVER THE INPUT: true; the input reads as it did. -/
def fnPrefixesSpec : ChangeSpec := { name := "fnPrefixes", fn := fun _ => fun
  | [d] => { results := [.lit (.bool true)], args := [d] }
  | _ => none }
def fnPrefixesRow : OpenClaim := { program := "ytgneihfhkaamfaa", sum := "ffd98f8ec295e224d157fcc9ecfcbbcd4ca2e5ca52cba37838945352a6361b03", func := "loop.example/g00226/laws.FnPrefixes", spec := "fnPrefixes", apart := false }
def FnPrefixesSaid : Prop := fnPrefixesRow.holds Try.pinned (OpenSpec.ofChange fnPrefixesSpec)

/-- ITS FALSE NEIGHBOUR: 'it returns false'. Refute it at one input. -/
def fnPrefixesWrong : ChangeSpec := { name := "fnPrefixes", fn := fun _ => fun
  | [d] => { results := [.lit (.bool false)], args := [d] }
  | _ => none }
def FnPrefixesWrongFalsely : Prop := fnPrefixesRow.holds Try.pinned (OpenSpec.ofChange fnPrefixesWrong)

/- THE SECOND FORM. 'bulk': how many values and letters a reading holds, each counted each time it is reached (what is shared counts as often as it is met; a slice's spare places count too). A statement '..UptoSaid' is the law's where the arguments, and the package variables that the reading takes, are together of bulk at most 1048576: NARROWER than '..Said'. Prove '..Said' where nothing that the law and all that it calls make is longer than what came in: it says more and counts as full. Else prove '..UptoSaid'. A law counts once. -/
mutual
def uptoBulk {H : Type} : DataW H → Nat
  | .lit (.string bytes) => bytes.length + 1
  | .lit _ => 1
  | .nil => 1
  | .ptr d => uptoBulk d + 1
  | .slice elems spare => uptoBulkAll elems + uptoBulkAll spare + 1
  | .agg parts => uptoBulkAll parts + 1
  | .iface _ d => uptoBulk d + 1
  | .map entries => uptoBulkEntries entries + 1
  | .held _ => 1
def uptoBulkAll {H : Type} : List (DataW H) → Nat
  | [] => 0
  | d :: r => uptoBulk d + uptoBulkAll r
def uptoBulkEntries {H : Type} : List (Lit × DataW H) → Nat
  | [] => 0
  | x :: r => uptoBulkEntry x + uptoBulkEntries r
def uptoBulkEntry {H : Type} : Lit × DataW H → Nat
  | (.string bytes, d) => bytes.length + uptoBulk d + 1
  | (_, d) => uptoBulk d + 1
 end
def uptoSmall : (H : Type) → List (DataW H) → Bool := fun _ ds => decide (uptoBulkAll ds ≤ 1048576)
def OpenSpec.upto (s : _root_.Go.ChangeSpec) : _root_.Go.OpenSpec := { _root_.Go.OpenSpec.ofChange s with cond := some uptoSmall }

/-- 'laws.FnRlpTexts', WHERE WHAT IT READS IS OF BULK AT MOST 1048576: true; the input reads as it did. -/
def fnRlpTextsUptoRow : OpenClaim := { program := "ytgneihfhkaamfaa", sum := "ffd98f8ec295e224d157fcc9ecfcbbcd4ca2e5ca52cba37838945352a6361b03", func := "loop.example/g00226/laws.FnRlpTexts", spec := "fnRlpTexts", unfollowed := true, recurses := true, apart := false, narrowed := true }
def FnRlpTextsUptoSaid : Prop := fnRlpTextsUptoRow.holds Try.pinned (OpenSpec.upto fnRlpTextsSpec)

/-- 'laws.FnRlpLists', WHERE WHAT IT READS IS OF BULK AT MOST 1048576: true; the input reads as it did. -/
def fnRlpListsUptoRow : OpenClaim := { program := "ytgneihfhkaamfaa", sum := "ffd98f8ec295e224d157fcc9ecfcbbcd4ca2e5ca52cba37838945352a6361b03", func := "loop.example/g00226/laws.FnRlpLists", spec := "fnRlpLists", inPlace := ["internal/abi.NoEscape", "internal/bytealg.MakeNoZero"], unfollowed := true, recurses := true, apart := false, narrowed := true }
def FnRlpListsUptoSaid : Prop := fnRlpListsUptoRow.holds Try.pinned (OpenSpec.upto fnRlpListsSpec)

/-- 'laws.FnPrefixes', WHERE WHAT IT READS IS OF BULK AT MOST 1048576: true; the input reads as it did. -/
def fnPrefixesUptoRow : OpenClaim := { program := "ytgneihfhkaamfaa", sum := "ffd98f8ec295e224d157fcc9ecfcbbcd4ca2e5ca52cba37838945352a6361b03", func := "loop.example/g00226/laws.FnPrefixes", spec := "fnPrefixes", apart := false, narrowed := true }
def FnPrefixesUptoSaid : Prop := fnPrefixesUptoRow.holds Try.pinned (OpenSpec.upto fnPrefixesSpec)

end Rows
end Go.Proofs.Ytgneihfhkaamfaa
