import Derived.Test.YtkagiehbjnfabaaDoorStrsAll
namespace Go.Proofs.YtkagiehbjnfabaaDoor
open Go.RowKit
set_option linter.unusedVariables false
end Go.Proofs.YtkagiehbjnfabaaDoor
