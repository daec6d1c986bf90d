import Derived.Test.YtdcmncjoppmlhaaMath2
namespace Go.Proofs.Ytdcmncjoppmlhaa
open Go.RowKit
end Go.Proofs.Ytdcmncjoppmlhaa
