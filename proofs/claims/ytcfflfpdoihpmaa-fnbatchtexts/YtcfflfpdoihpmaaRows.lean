/-
  No cell of these rows narrows 'for every input' (looked for: loops, veiled, ifaces, maps, wideKeys, modest, calm, conditions, laid).
  DERIVED. THE GIVEN ROWS OF THIS SEAT. 8 by the template 'for every input the law returns true; each argument reads behind the call as it read before'; 0 by the template 'total and deterministic' (their statements: YtcfflfpdoihpmaaTotals.lean).
  GIVEN WITH THE SEED: the statements are not yours to turn. If you find one false, say at which input.
  Laid BY PROGRAM, IN A SANDBOX (cutbox-rows.mjs): the forced cells as the released guide's own fill.sh prints them over the translation 25f237fec4d5eb8d… (all of the seat's roots in one cut). By AI agents, Wed Nov 11 2026. No macro, syntax, notation, axiom, sorry.
-/
import Derived.Test.YtcfflfpdoihpmaaChecked
import GoSem.Claim
import GoSem.ClaimJoined
import GoSem.ClaimMapViews
import Derived.JoinedTies
import Derived.KernelRfl
namespace Go.Proofs.Ytcfflfpdoihpmaa
/- THE CELL 'sum', in the pinned program and in every row, IS THE sha256 OF THE DUMP (.gsa) THAT YtcfflfpdoihpmaaProg.lean LOADS. Nothing in Lean hashes anything: it is a label: what it is worth is what the hold of that sum in a sandbox is worth. -/
noncomputable def Try.pinned : Pinned := { name := "ytcfflfpdoihpmaa", sum := "25f237fec4d5eb8d7e7f1760fda8a5065c41ed75ab68baac94320da31368ffe7", checked := Try.checked }
namespace Rows
def none {H : Type} : Left H := { results := [], args := [] }

/-- 'laws.FnNodeTexts': WHATEVER THE INPUT: true; the input reads as it did. -/
def fnNodeTextsSpec : ChangeSpec := { name := "fnNodeTexts", fn := fun _ => fun
  | [d] => { results := [.lit (.bool true)], args := [d] }
  | _ => none }
def fnNodeTextsRow : OpenClaim := { program := "ytcfflfpdoihpmaa", sum := "25f237fec4d5eb8d7e7f1760fda8a5065c41ed75ab68baac94320da31368ffe7", func := "loop.example/g00226/laws.FnNodeTexts", spec := "fnNodeTexts", inPlace := ["internal/abi.NoEscape", "internal/bytealg.MakeNoZero"], unfollowed := true, recurses := true, apart := false }
def FnNodeTextsSaid : Prop := fnNodeTextsRow.holds Try.pinned (OpenSpec.ofChange fnNodeTextsSpec)

/-- ITS FALSE NEIGHBOUR: 'it returns false'. Refute it at one input. -/
def fnNodeTextsWrong : ChangeSpec := { name := "fnNodeTexts", fn := fun _ => fun
  | [d] => { results := [.lit (.bool false)], args := [d] }
  | _ => none }
def FnNodeTextsWrongFalsely : Prop := fnNodeTextsRow.holds Try.pinned (OpenSpec.ofChange fnNodeTextsWrong)

/-- 'laws.FnExactReadNode': WHATEVER THE INPUT: true; the input reads as it did. -/
def fnExactReadNodeSpec : ChangeSpec := { name := "fnExactReadNode", fn := fun _ => fun
  | [d] => { results := [.lit (.bool true)], args := [d] }
  | _ => none }
def fnExactReadNodeRow : OpenClaim := { program := "ytcfflfpdoihpmaa", sum := "25f237fec4d5eb8d7e7f1760fda8a5065c41ed75ab68baac94320da31368ffe7", func := "loop.example/g00226/laws.FnExactReadNode", spec := "fnExactReadNode", inPlace := ["internal/abi.NoEscape", "internal/bytealg.MakeNoZero"], unfollowed := true, recurses := true, apart := false }
def FnExactReadNodeSaid : Prop := fnExactReadNodeRow.holds Try.pinned (OpenSpec.ofChange fnExactReadNodeSpec)

/-- ITS FALSE NEIGHBOUR: 'it returns false'. Refute it at one input. -/
def fnExactReadNodeWrong : ChangeSpec := { name := "fnExactReadNode", fn := fun _ => fun
  | [d] => { results := [.lit (.bool false)], args := [d] }
  | _ => none }
def FnExactReadNodeWrongFalsely : Prop := fnExactReadNodeRow.holds Try.pinned (OpenSpec.ofChange fnExactReadNodeWrong)

/-- 'laws.FnExactBatchOk': WHATEVER THE INPUT: true; the input reads as it did. -/
def fnExactBatchOkSpec : ChangeSpec := { name := "fnExactBatchOk", fn := fun _ => fun
  | [d] => { results := [.lit (.bool true)], args := [d] }
  | _ => none }
def fnExactBatchOkRow : OpenClaim := { program := "ytcfflfpdoihpmaa", sum := "25f237fec4d5eb8d7e7f1760fda8a5065c41ed75ab68baac94320da31368ffe7", func := "loop.example/g00226/laws.FnExactBatchOk", spec := "fnExactBatchOk", apart := false }
def FnExactBatchOkSaid : Prop := fnExactBatchOkRow.holds Try.pinned (OpenSpec.ofChange fnExactBatchOkSpec)

/-- ITS FALSE NEIGHBOUR: 'it returns false'. Refute it at one input. -/
def fnExactBatchOkWrong : ChangeSpec := { name := "fnExactBatchOk", fn := fun _ => fun
  | [d] => { results := [.lit (.bool false)], args := [d] }
  | _ => none }
def FnExactBatchOkWrongFalsely : Prop := fnExactBatchOkRow.holds Try.pinned (OpenSpec.ofChange fnExactBatchOkWrong)

/-- 'laws.FnExactBatchText': WHATEVER THE INPUT: true; the input reads as it did. -/
def fnExactBatchTextSpec : ChangeSpec := { name := "fnExactBatchText", fn := fun _ => fun
  | [d] => { results := [.lit (.bool true)], args := [d] }
  | _ => none }
def fnExactBatchTextRow : OpenClaim := { program := "ytcfflfpdoihpmaa", sum := "25f237fec4d5eb8d7e7f1760fda8a5065c41ed75ab68baac94320da31368ffe7", func := "loop.example/g00226/laws.FnExactBatchText", spec := "fnExactBatchText", inPlace := ["internal/abi.NoEscape", "internal/bytealg.MakeNoZero"], unfollowed := true, recurses := true, apart := false }
def FnExactBatchTextSaid : Prop := fnExactBatchTextRow.holds Try.pinned (OpenSpec.ofChange fnExactBatchTextSpec)

/-- ITS FALSE NEIGHBOUR: 'it returns false'. Refute it at one input. -/
def fnExactBatchTextWrong : ChangeSpec := { name := "fnExactBatchText", fn := fun _ => fun
  | [d] => { results := [.lit (.bool false)], args := [d] }
  | _ => none }
def FnExactBatchTextWrongFalsely : Prop := fnExactBatchTextRow.holds Try.pinned (OpenSpec.ofChange fnExactBatchTextWrong)

/-- 'laws.FnExactReadBatch': WHATEVER THE INPUT: true; the input reads as it did. -/
def fnExactReadBatchSpec : ChangeSpec := { name := "fnExactReadBatch", fn := fun _ => fun
  | [d] => { results := [.lit (.bool true)], args := [d] }
  | _ => none }
def fnExactReadBatchRow : OpenClaim := { program := "ytcfflfpdoihpmaa", sum := "25f237fec4d5eb8d7e7f1760fda8a5065c41ed75ab68baac94320da31368ffe7", func := "loop.example/g00226/laws.FnExactReadBatch", spec := "fnExactReadBatch", unfollowed := true, recurses := true, apart := false }
def FnExactReadBatchSaid : Prop := fnExactReadBatchRow.holds Try.pinned (OpenSpec.ofChange fnExactReadBatchSpec)

/-- ITS FALSE NEIGHBOUR: 'it returns false'. Refute it at one input. -/
def fnExactReadBatchWrong : ChangeSpec := { name := "fnExactReadBatch", fn := fun _ => fun
  | [d] => { results := [.lit (.bool false)], args := [d] }
  | _ => none }
def FnExactReadBatchWrongFalsely : Prop := fnExactReadBatchRow.holds Try.pinned (OpenSpec.ofChange fnExactReadBatchWrong)

/-- 'laws.FnBatchTexts': WHATEVER THE INPUT: true; the input reads as it did. -/
def fnBatchTextsSpec : ChangeSpec := { name := "fnBatchTexts", fn := fun _ => fun
  | [d] => { results := [.lit (.bool true)], args := [d] }
  | _ => none }
def fnBatchTextsRow : OpenClaim := { program := "ytcfflfpdoihpmaa", sum := "25f237fec4d5eb8d7e7f1760fda8a5065c41ed75ab68baac94320da31368ffe7", func := "loop.example/g00226/laws.FnBatchTexts", spec := "fnBatchTexts", inPlace := ["internal/abi.NoEscape", "internal/bytealg.MakeNoZero"], unfollowed := true, recurses := true, apart := false }
def FnBatchTextsSaid : Prop := fnBatchTextsRow.holds Try.pinned (OpenSpec.ofChange fnBatchTextsSpec)

/-- ITS FALSE NEIGHBOUR: 'it returns false'. Refute it at one input. -/
def fnBatchTextsWrong : ChangeSpec := { name := "fnBatchTexts", fn := fun _ => fun
  | [d] => { results := [.lit (.bool false)], args := [d] }
  | _ => none }
def FnBatchTextsWrongFalsely : Prop := fnBatchTextsRow.holds Try.pinned (OpenSpec.ofChange fnBatchTextsWrong)

/-- 'laws.FnExactApplyPairs': WHATEVER THE INPUT: true; the input reads as it did. -/
def fnExactApplyPairsSpec : ChangeSpec := { name := "fnExactApplyPairs", fn := fun _ => fun
  | [d1, d2] => { results := [.lit (.bool true)], args := [d1, d2] }
  | _ => none }
def fnExactApplyPairsRow : OpenClaim := { program := "ytcfflfpdoihpmaa", sum := "25f237fec4d5eb8d7e7f1760fda8a5065c41ed75ab68baac94320da31368ffe7", func := "loop.example/g00226/laws.FnExactApplyPairs", spec := "fnExactApplyPairs", unfollowed := true, recurses := true, apart := false }
def FnExactApplyPairsSaid : Prop := fnExactApplyPairsRow.holds Try.pinned (OpenSpec.ofChange fnExactApplyPairsSpec)

/-- ITS FALSE NEIGHBOUR: 'it returns false'. Refute it at one input. -/
def fnExactApplyPairsWrong : ChangeSpec := { name := "fnExactApplyPairs", fn := fun _ => fun
  | [d1, d2] => { results := [.lit (.bool false)], args := [d1, d2] }
  | _ => none }
def FnExactApplyPairsWrongFalsely : Prop := fnExactApplyPairsRow.holds Try.pinned (OpenSpec.ofChange fnExactApplyPairsWrong)

/-- 'laws.FnParted': WHATEVER THE INPUT: true; the input reads as it did. -/
def fnPartedSpec : ChangeSpec := { name := "fnParted", fn := fun _ => fun
  | [d] => { results := [.lit (.bool true)], args := [d] }
  | _ => none }
def fnPartedRow : OpenClaim := { program := "ytcfflfpdoihpmaa", sum := "25f237fec4d5eb8d7e7f1760fda8a5065c41ed75ab68baac94320da31368ffe7", func := "loop.example/g00226/laws.FnParted", spec := "fnParted", unfollowed := true, recurses := true, apart := false }
def FnPartedSaid : Prop := fnPartedRow.holds Try.pinned (OpenSpec.ofChange fnPartedSpec)

/-- ITS FALSE NEIGHBOUR: 'it returns false'. Refute it at one input. -/
def fnPartedWrong : ChangeSpec := { name := "fnParted", fn := fun _ => fun
  | [d] => { results := [.lit (.bool false)], args := [d] }
  | _ => none }
def FnPartedWrongFalsely : Prop := fnPartedRow.holds Try.pinned (OpenSpec.ofChange fnPartedWrong)

/- THE SECOND FORM. 'bulk': how many values and letters a reading holds, each counted each time it is reached (what is shared counts as often as it is met; a slice's spare places count too). A statement '..UptoSaid' is the law's where the arguments, and the package variables that the reading takes, are together of bulk at most 1048576: NARROWER than '..Said'. Prove '..Said' where nothing that the law and all that it calls make is longer than what came in: it says more and counts as full. Else prove '..UptoSaid'. A law counts once. -/
mutual
def uptoBulk {H : Type} : DataW H → Nat
  | .lit (.string bytes) => bytes.length + 1
  | .lit _ => 1
  | .nil => 1
  | .ptr d => uptoBulk d + 1
  | .slice elems spare => uptoBulkAll elems + uptoBulkAll spare + 1
  | .agg parts => uptoBulkAll parts + 1
  | .iface _ d => uptoBulk d + 1
  | .map entries => uptoBulkEntries entries + 1
  | .held _ => 1
def uptoBulkAll {H : Type} : List (DataW H) → Nat
  | [] => 0
  | d :: r => uptoBulk d + uptoBulkAll r
def uptoBulkEntries {H : Type} : List (Lit × DataW H) → Nat
  | [] => 0
  | x :: r => uptoBulkEntry x + uptoBulkEntries r
def uptoBulkEntry {H : Type} : Lit × DataW H → Nat
  | (.string bytes, d) => bytes.length + uptoBulk d + 1
  | (_, d) => uptoBulk d + 1
 end
def uptoSmall : (H : Type) → List (DataW H) → Bool := fun _ ds => decide (uptoBulkAll ds ≤ 1048576)
def OpenSpec.upto (s : _root_.Go.ChangeSpec) : _root_.Go.OpenSpec := { _root_.Go.OpenSpec.ofChange s with cond := some uptoSmall }

/-- 'laws.FnNodeTexts', WHERE WHAT IT READS IS OF BULK AT MOST 1048576: true; the input reads as it did. -/
def fnNodeTextsUptoRow : OpenClaim := { program := "ytcfflfpdoihpmaa", sum := "25f237fec4d5eb8d7e7f1760fda8a5065c41ed75ab68baac94320da31368ffe7", func := "loop.example/g00226/laws.FnNodeTexts", spec := "fnNodeTexts", inPlace := ["internal/abi.NoEscape", "internal/bytealg.MakeNoZero"], unfollowed := true, recurses := true, apart := false, narrowed := true }
def FnNodeTextsUptoSaid : Prop := fnNodeTextsUptoRow.holds Try.pinned (OpenSpec.upto fnNodeTextsSpec)

/-- 'laws.FnExactReadNode', WHERE WHAT IT READS IS OF BULK AT MOST 1048576: true; the input reads as it did. -/
def fnExactReadNodeUptoRow : OpenClaim := { program := "ytcfflfpdoihpmaa", sum := "25f237fec4d5eb8d7e7f1760fda8a5065c41ed75ab68baac94320da31368ffe7", func := "loop.example/g00226/laws.FnExactReadNode", spec := "fnExactReadNode", inPlace := ["internal/abi.NoEscape", "internal/bytealg.MakeNoZero"], unfollowed := true, recurses := true, apart := false, narrowed := true }
def FnExactReadNodeUptoSaid : Prop := fnExactReadNodeUptoRow.holds Try.pinned (OpenSpec.upto fnExactReadNodeSpec)

/-- 'laws.FnExactBatchOk', WHERE WHAT IT READS IS OF BULK AT MOST 1048576: true; the input reads as it did. -/
def fnExactBatchOkUptoRow : OpenClaim := { program := "ytcfflfpdoihpmaa", sum := "25f237fec4d5eb8d7e7f1760fda8a5065c41ed75ab68baac94320da31368ffe7", func := "loop.example/g00226/laws.FnExactBatchOk", spec := "fnExactBatchOk", apart := false, narrowed := true }
def FnExactBatchOkUptoSaid : Prop := fnExactBatchOkUptoRow.holds Try.pinned (OpenSpec.upto fnExactBatchOkSpec)

/-- 'laws.FnExactBatchText', WHERE WHAT IT READS IS OF BULK AT MOST 1048576: true; the input reads as it did. -/
def fnExactBatchTextUptoRow : OpenClaim := { program := "ytcfflfpdoihpmaa", sum := "25f237fec4d5eb8d7e7f1760fda8a5065c41ed75ab68baac94320da31368ffe7", func := "loop.example/g00226/laws.FnExactBatchText", spec := "fnExactBatchText", inPlace := ["internal/abi.NoEscape", "internal/bytealg.MakeNoZero"], unfollowed := true, recurses := true, apart := false, narrowed := true }
def FnExactBatchTextUptoSaid : Prop := fnExactBatchTextUptoRow.holds Try.pinned (OpenSpec.upto fnExactBatchTextSpec)

/-- 'laws.FnExactReadBatch', WHERE WHAT IT READS IS OF BULK AT MOST 1048576: true; the input reads as it did. -/
def fnExactReadBatchUptoRow : OpenClaim := { program := "ytcfflfpdoihpmaa", sum := "25f237fec4d5eb8d7e7f1760fda8a5065c41ed75ab68baac94320da31368ffe7", func := "loop.example/g00226/laws.FnExactReadBatch", spec := "fnExactReadBatch", unfollowed := true, recurses := true, apart := false, narrowed := true }
def FnExactReadBatchUptoSaid : Prop := fnExactReadBatchUptoRow.holds Try.pinned (OpenSpec.upto fnExactReadBatchSpec)

/-- 'laws.FnBatchTexts', WHERE WHAT IT READS IS OF BULK AT MOST 1048576: true; the input reads as it did. -/
def fnBatchTextsUptoRow : OpenClaim := { program := "ytcfflfpdoihpmaa", sum := "25f237fec4d5eb8d7e7f1760fda8a5065c41ed75ab68baac94320da31368ffe7", func := "loop.example/g00226/laws.FnBatchTexts", spec := "fnBatchTexts", inPlace := ["internal/abi.NoEscape", "internal/bytealg.MakeNoZero"], unfollowed := true, recurses := true, apart := false, narrowed := true }
def FnBatchTextsUptoSaid : Prop := fnBatchTextsUptoRow.holds Try.pinned (OpenSpec.upto fnBatchTextsSpec)

/-- 'laws.FnExactApplyPairs', WHERE WHAT IT READS IS OF BULK AT MOST 1048576: true; the input reads as it did. -/
def fnExactApplyPairsUptoRow : OpenClaim := { program := "ytcfflfpdoihpmaa", sum := "25f237fec4d5eb8d7e7f1760fda8a5065c41ed75ab68baac94320da31368ffe7", func := "loop.example/g00226/laws.FnExactApplyPairs", spec := "fnExactApplyPairs", unfollowed := true, recurses := true, apart := false, narrowed := true }
def FnExactApplyPairsUptoSaid : Prop := fnExactApplyPairsUptoRow.holds Try.pinned (OpenSpec.upto fnExactApplyPairsSpec)

/-- 'laws.FnParted', WHERE WHAT IT READS IS OF BULK AT MOST 1048576: true; the input reads as it did. -/
def fnPartedUptoRow : OpenClaim := { program := "ytcfflfpdoihpmaa", sum := "25f237fec4d5eb8d7e7f1760fda8a5065c41ed75ab68baac94320da31368ffe7", func := "loop.example/g00226/laws.FnParted", spec := "fnParted", unfollowed := true, recurses := true, apart := false, narrowed := true }
def FnPartedUptoSaid : Prop := fnPartedUptoRow.holds Try.pinned (OpenSpec.upto fnPartedSpec)

end Rows
end Go.Proofs.Ytcfflfpdoihpmaa
