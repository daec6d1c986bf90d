import Derived.Test.YtdcmncjoppmlhaaBatchS
namespace Go.Proofs.Ytdcmncjoppmlhaa
open Go.RowKit
set_option linter.unusedVariables false
theorem grown_alloc (w:World) (o:Obj) (x:Option Nat):w.grownBy (w.alloc o) x:=grown_of_below ((Below.refl _ _).alloc (Nat.le_refl _) _) x
set_option maxRecDepth 100000 in
set_option maxHeartbeats 400000 in
theorem markBatch_one (c n:Int) (ps:List OpL) (a:Option Addr) (m cap b1:Nat) (w:World) (hl:ps.length≤4000000) (hv:w.ownsRow b1 53 3 (.slice a m cap) ps.length (ocells ps)) :
 Calls Try.prog 14 #[.agg #[.int .i64 c,.int .i64 n,(.slice a m cap)],.int .i64 1] w fun e w'=>e=.returned (.int .i64 (1+3*(ps.length:Int)))∧w'.ownsRow b1 53 3 (.slice a m cap) ps.length (ocells (marksO 1 ps.length))∧w.grownBy w' (Value.slice a m cap).ownBlock:=by
 have K:=markOpS_any ps a m cap b1 1 (w.alloc (.cells #[.int .i64 c,.int .i64 n,(.slice a m cap)] 34)) hl (by omega) (by omega) (hv.alloc _)
 have G:Hid (w.grownBy (w.alloc (.cells #[.int .i64 c,.int .i64 n,(.slice a m cap)] 34)) (Value.slice a m cap).ownBlock):=grown_alloc _ _ _
 have h1:((1:Nat):Int)=1:=rfl
 rw[h1] at K
 clear hv h1
 go_enter Try.func14,Try.ntmps14
 go_wp2_with fail
 refine K.mono ?_
 rintro e w1 ⟨rfl,o1,g1⟩
 have O1:=hidOwn o1
 have G1:Hid (w.grownBy w1 (Value.slice a m cap).ownBlock):=G.out.trans g1
 clear K o1 g1
 go_wp2
 go_ret
 exact⟨rfl,O1.out,G1.out⟩
end Go.Proofs.Ytdcmncjoppmlhaa
