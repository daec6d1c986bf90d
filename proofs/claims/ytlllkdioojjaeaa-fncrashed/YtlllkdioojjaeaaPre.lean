import Derived.Test.YtlllkdioojjaeaaNib
import Derived.Test.YtlllkdioojjaeaaMathAll
namespace Go.Proofs.Ytlllkdioojjaeaa
open Go.RowKit
def hexPre (l:List UInt8) (leaf:Bool):List UInt8:=if l.length≤60000∧isNibs l=true then pack (withFlag l leaf) else []
def hexOk (l:List UInt8):Bool:=decide (l.length≤60000) && isNibs l
end Go.Proofs.Ytlllkdioojjaeaa
