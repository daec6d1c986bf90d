import Derived.Test.YtlllkdioojjaeaaMath2
namespace Go.Proofs.Ytlllkdioojjaeaa
open Go.RowKit
end Go.Proofs.Ytlllkdioojjaeaa
