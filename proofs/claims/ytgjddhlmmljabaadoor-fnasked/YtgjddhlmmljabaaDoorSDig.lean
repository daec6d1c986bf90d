import Derived.Test.YtgjddhlmmljabaaDoorSChain
namespace Go.Proofs.YtgjddhlmmljabaaDoor
open Go.RowKit
set_option linter.unusedVariables false
theorem info2s:(Tryd.prog.info? 2).map (fun i=>(i.zero,i.size,i.bytes))=some (some (.int .i64 0),1,8):=by kernel_rfl
theorem dig4_take (b:UInt8) (j:Nat) (h:j<4):(dig4 b).take (j+1)=(dig4 b).take j ++ [b.toNat / 2 ^ (6 - 2*j) % 4]:=by
 have:=b.toNat_lt
 match j,h with
 | 0,_=>simp[dig4];omega
 | 1,_=>simp[dig4]
 | 2,_=>simp[dig4]
 | 3,_=>simp[dig4]
theorem u8_shr (b:UInt8) (e:Nat) (h:e≤6):IntKind.u8.wrap ((b.toNat:Int) / 2 ^ e)=(b.toNat:Int) / 2 ^ e:=by
 have:=b.toNat_lt
 have h0:(0:Int)≤(b.toNat:Int) / 2 ^ e:=Int.ediv_nonneg (by omega) (by exact Int.le_of_lt (Int.pow_pos (by decide)))
 have h1:(b.toNat:Int) / 2 ^ e≤(b.toNat:Int):=Int.ediv_le_self _ (by omega)
 exact u8_wrap_small _ h0 (by omega)
end Go.Proofs.YtgjddhlmmljabaaDoor
