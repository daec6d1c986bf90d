/-
  No cell of these rows narrows 'for every input' (looked for: loops, veiled, ifaces, maps, wideKeys, modest, calm, conditions, laid).
  DERIVED. THE GIVEN ROWS OF THIS SEAT. 3 by the template 'for every input the law returns true; each argument reads behind the call as it read before'; 0 by the template 'total and deterministic' (their statements: YtcgodnmbehjfaaaTotals.lean).
  GIVEN WITH THE SEED: the statements are not yours to turn. If you find one false, say at which input.
  Laid BY PROGRAM, IN A SANDBOX (cutbox-rows.mjs): the forced cells as the released guide's own fill.sh prints them over the translation bbe44fb1dcf42af2… (all of the seat's roots in one cut). By AI agents, Wed Nov 11 2026. No macro, syntax, notation, axiom, sorry.
-/
import Derived.Test.YtcgodnmbehjfaaaChecked
import GoSem.Claim
import GoSem.ClaimJoined
import GoSem.ClaimMapViews
import Derived.JoinedTies
import Derived.KernelRfl
namespace Go.Proofs.Ytcgodnmbehjfaaa
/- THE CELL 'sum', in the pinned program and in every row, IS THE sha256 OF THE DUMP (.gsa) THAT YtcgodnmbehjfaaaProg.lean LOADS. Nothing in Lean hashes anything: it is a label: what it is worth is what the hold of that sum in a sandbox is worth. -/
noncomputable def Try.pinned : Pinned := { name := "ytcgodnmbehjfaaa", sum := "bbe44fb1dcf42af2c57279283debb88c11b1a03427d3d69e714298bb47f955f8", checked := Try.checked }
namespace Rows
def none {H : Type} : Left H := { results := [], args := [] }

/-- 'laws.FnExactImportNew': WHATEVER THE INPUT: true; the input reads as it did. -/
def fnExactImportNewSpec : ChangeSpec := { name := "fnExactImportNew", fn := fun _ => fun
  | [d] => { results := [.lit (.bool true)], args := [d] }
  | _ => none }
def fnExactImportNewRow : OpenClaim := { program := "ytcgodnmbehjfaaa", sum := "bbe44fb1dcf42af2c57279283debb88c11b1a03427d3d69e714298bb47f955f8", func := "loop.example/g00226/laws.FnExactImportNew", spec := "fnExactImportNew", apart := false }
def FnExactImportNewSaid : Prop := fnExactImportNewRow.holds Try.pinned (OpenSpec.ofChange fnExactImportNewSpec)

/-- ITS FALSE NEIGHBOUR: 'it returns false'. Refute it at one input. -/
def fnExactImportNewWrong : ChangeSpec := { name := "fnExactImportNew", fn := fun _ => fun
  | [d] => { results := [.lit (.bool false)], args := [d] }
  | _ => none }
def FnExactImportNewWrongFalsely : Prop := fnExactImportNewRow.holds Try.pinned (OpenSpec.ofChange fnExactImportNewWrong)

/-- 'laws.FnExactChunksOf': WHATEVER THE INPUT: true; the input reads as it did. -/
def fnExactChunksOfSpec : ChangeSpec := { name := "fnExactChunksOf", fn := fun _ => fun
  | [d1, d2] => { results := [.lit (.bool true)], args := [d1, d2] }
  | _ => none }
def fnExactChunksOfRow : OpenClaim := { program := "ytcgodnmbehjfaaa", sum := "bbe44fb1dcf42af2c57279283debb88c11b1a03427d3d69e714298bb47f955f8", func := "loop.example/g00226/laws.FnExactChunksOf", spec := "fnExactChunksOf", apart := false }
def FnExactChunksOfSaid : Prop := fnExactChunksOfRow.holds Try.pinned (OpenSpec.ofChange fnExactChunksOfSpec)

/-- ITS FALSE NEIGHBOUR: 'it returns false'. Refute it at one input. -/
def fnExactChunksOfWrong : ChangeSpec := { name := "fnExactChunksOf", fn := fun _ => fun
  | [d1, d2] => { results := [.lit (.bool false)], args := [d1, d2] }
  | _ => none }
def FnExactChunksOfWrongFalsely : Prop := fnExactChunksOfRow.holds Try.pinned (OpenSpec.ofChange fnExactChunksOfWrong)

/-- 'laws.FnChunkSizes': WHATEVER THE INPUT: true; the input reads as it did. -/
def fnChunkSizesSpec : ChangeSpec := { name := "fnChunkSizes", fn := fun _ => fun
  | [d] => { results := [.lit (.bool true)], args := [d] }
  | _ => none }
def fnChunkSizesRow : OpenClaim := { program := "ytcgodnmbehjfaaa", sum := "bbe44fb1dcf42af2c57279283debb88c11b1a03427d3d69e714298bb47f955f8", func := "loop.example/g00226/laws.FnChunkSizes", spec := "fnChunkSizes", apart := false }
def FnChunkSizesSaid : Prop := fnChunkSizesRow.holds Try.pinned (OpenSpec.ofChange fnChunkSizesSpec)

/-- ITS FALSE NEIGHBOUR: 'it returns false'. Refute it at one input. -/
def fnChunkSizesWrong : ChangeSpec := { name := "fnChunkSizes", fn := fun _ => fun
  | [d] => { results := [.lit (.bool false)], args := [d] }
  | _ => none }
def FnChunkSizesWrongFalsely : Prop := fnChunkSizesRow.holds Try.pinned (OpenSpec.ofChange fnChunkSizesWrong)

/- THE SECOND FORM. 'bulk': how many values and letters a reading holds, each counted each time it is reached (what is shared counts as often as it is met; a slice's spare places count too). A statement '..UptoSaid' is the law's where the arguments, and the package variables that the reading takes, are together of bulk at most 1048576: NARROWER than '..Said'. Prove '..Said' where nothing that the law and all that it calls make is longer than what came in: it says more and counts as full. Else prove '..UptoSaid'. A law counts once. -/
mutual
def uptoBulk {H : Type} : DataW H → Nat
  | .lit (.string bytes) => bytes.length + 1
  | .lit _ => 1
  | .nil => 1
  | .ptr d => uptoBulk d + 1
  | .slice elems spare => uptoBulkAll elems + uptoBulkAll spare + 1
  | .agg parts => uptoBulkAll parts + 1
  | .iface _ d => uptoBulk d + 1
  | .map entries => uptoBulkEntries entries + 1
  | .held _ => 1
def uptoBulkAll {H : Type} : List (DataW H) → Nat
  | [] => 0
  | d :: r => uptoBulk d + uptoBulkAll r
def uptoBulkEntries {H : Type} : List (Lit × DataW H) → Nat
  | [] => 0
  | x :: r => uptoBulkEntry x + uptoBulkEntries r
def uptoBulkEntry {H : Type} : Lit × DataW H → Nat
  | (.string bytes, d) => bytes.length + uptoBulk d + 1
  | (_, d) => uptoBulk d + 1
 end
def uptoSmall : (H : Type) → List (DataW H) → Bool := fun _ ds => decide (uptoBulkAll ds ≤ 1048576)
def OpenSpec.upto (s : _root_.Go.ChangeSpec) : _root_.Go.OpenSpec := { _root_.Go.OpenSpec.ofChange s with cond := some uptoSmall }

/-- 'laws.FnExactImportNew', WHERE WHAT IT READS IS OF BULK AT MOST 1048576: true; the input reads as it did. -/
def fnExactImportNewUptoRow : OpenClaim := { program := "ytcgodnmbehjfaaa", sum := "bbe44fb1dcf42af2c57279283debb88c11b1a03427d3d69e714298bb47f955f8", func := "loop.example/g00226/laws.FnExactImportNew", spec := "fnExactImportNew", apart := false, narrowed := true }
def FnExactImportNewUptoSaid : Prop := fnExactImportNewUptoRow.holds Try.pinned (OpenSpec.upto fnExactImportNewSpec)

/-- 'laws.FnExactChunksOf', WHERE WHAT IT READS IS OF BULK AT MOST 1048576: true; the input reads as it did. -/
def fnExactChunksOfUptoRow : OpenClaim := { program := "ytcgodnmbehjfaaa", sum := "bbe44fb1dcf42af2c57279283debb88c11b1a03427d3d69e714298bb47f955f8", func := "loop.example/g00226/laws.FnExactChunksOf", spec := "fnExactChunksOf", apart := false, narrowed := true }
def FnExactChunksOfUptoSaid : Prop := fnExactChunksOfUptoRow.holds Try.pinned (OpenSpec.upto fnExactChunksOfSpec)

/-- 'laws.FnChunkSizes', WHERE WHAT IT READS IS OF BULK AT MOST 1048576: true; the input reads as it did. -/
def fnChunkSizesUptoRow : OpenClaim := { program := "ytcgodnmbehjfaaa", sum := "bbe44fb1dcf42af2c57279283debb88c11b1a03427d3d69e714298bb47f955f8", func := "loop.example/g00226/laws.FnChunkSizes", spec := "fnChunkSizes", apart := false, narrowed := true }
def FnChunkSizesUptoSaid : Prop := fnChunkSizesUptoRow.holds Try.pinned (OpenSpec.upto fnChunkSizesSpec)

end Rows
end Go.Proofs.Ytcgodnmbehjfaaa
