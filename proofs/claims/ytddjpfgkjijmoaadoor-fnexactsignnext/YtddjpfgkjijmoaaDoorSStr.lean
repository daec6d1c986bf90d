
/-
  Contracts: the laws' copies and sizes of a row of texts.
-/
import Derived.Test.YtddjpfgkjijmoaaDoorBase
import Derived.Test.YtddjpfgkjijmoaaDoorMathAll
namespace Go.Proofs.YtddjpfgkjijmoaaDoor
open Go.RowKit
set_option linter.unusedVariables false

theorem info9a : (Tryd.prog.info? 9).map (fun i => (i.zero, i.size, i.bytes)) = some (some (.string ⟨#[]⟩), 1, 16) := by kernel_rfl

/-- What the walk is told of a slice of strings that came in. -/
def IsStrs (w : World) (a : Option Addr) (ls : List (List UInt8)) : Prop :=
  ls = [] ∨ ∃ b off, a = some ⟨b, off, none⟩ ∧ ∀ j (h : j < ls.length), w.cell? ⟨b, off + j, none⟩ = some (.string ⟨ls[j].toArray⟩)

end Go.Proofs.YtddjpfgkjijmoaaDoor
