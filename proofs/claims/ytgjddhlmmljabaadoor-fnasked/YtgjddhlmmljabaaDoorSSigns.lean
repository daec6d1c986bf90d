import Derived.Test.YtgjddhlmmljabaaDoorSOnce
import Derived.Test.YtgjddhlmmljabaaDoorStrsAll
namespace Go.Proofs.YtgjddhlmmljabaaDoor
open Go.RowKit
set_option linter.unusedVariables false
theorem below_drewS {b:Nat} {w w1:World} (h:Below b w w1):Below b w w1.drew:=⟨h.os,h.tape,h.output,h.size,h.block⟩
theorem below_undrewS {b:Nat} {w w1:World} (h:Below b w.drew w1):Below b w w1:=⟨h.os,h.tape,h.output,h.size,h.block⟩
end Go.Proofs.YtgjddhlmmljabaaDoor
