/-
 Contracts of the laws' own helpers on batches: marks laid and held (written by mkrbown.py).
-/
import Derived.Test.YtbpgpmchnjbclaaDoorBatchS
namespace Go.Proofs.YtbpgpmchnjbclaaDoor
open Go.RowKit
set_option linter.unusedVariables false
theorem grown_alloc (w:World) (o:Obj) (x:Option Nat):w.grownBy (w.alloc o) x:=grown_of_below ((Below.refl _ _).alloc (Nat.le_refl _) _) x
set_option maxRecDepth 100000 in
set_option maxHeartbeats 400000 in
theorem markBatch_one (c n:Int) (ps:List OpL) (a:Option Addr) (m cap b1:Nat) (w:World) (hl:ps.length≤4000000) (hv:w.ownsRow b1 55 3 (.slice a m cap) ps.length (ocells ps)) :
 Calls Tryd.prog 16 #[.agg #[.int .i64 c,.int .i64 n,(.slice a m cap)],.int .i64 1] w fun e w'=>e=.returned (.int .i64 (1+3*(ps.length:Int)))∧w'.ownsRow b1 55 3 (.slice a m cap) ps.length (ocells (marksO 1 ps.length))∧w.grownBy w' (Value.slice a m cap).ownBlock:=by
 have K:=markOpS_any ps a m cap b1 1 (w.alloc (.cells #[.int .i64 c,.int .i64 n,(.slice a m cap)] 31)) hl (by omega) (by omega) (hv.alloc _)
 have G:Hid (w.grownBy (w.alloc (.cells #[.int .i64 c,.int .i64 n,(.slice a m cap)] 31)) (Value.slice a m cap).ownBlock):=grown_alloc _ _ _
 have h1:((1:Nat):Int)=1:=rfl
 rw[h1] at K
 clear hv h1
 go_enter Tryd.func16,Tryd.ntmps16
 go_wp2_with fail
 refine K.mono ?_
 rintro e w1 ⟨rfl,o1,g1⟩
 have O1:=hidOwn o1
 have G1:Hid (w.grownBy w1 (Value.slice a m cap).ownBlock):=G.out.trans g1
 clear K o1 g1
 go_wp2
 go_ret
 exact⟨rfl,O1.out,G1.out⟩
set_option maxRecDepth 100000 in
set_option maxHeartbeats 400000 in
theorem heldBatch_one (c n:Int) (k:Nat) (a:Option Addr) (m cap b1:Nat) (w:World) (hl:k≤4000000) (hv:w.ownsRow b1 55 3 (.slice a m cap) k (ocells (marksO 1 k))) :
 Calls Tryd.prog 18 #[.agg #[.int .i64 c,.int .i64 n,(.slice a m cap)],.int .i64 1] w fun e w'=>e=.returned (.int .i64 (1+3*(k:Int)))∧w.grownBy w' none:=by
 have K:=heldOpS_any k a m cap b1 1 (w.alloc (.cells #[.int .i64 c,.int .i64 n,(.slice a m cap)] 31)) hl (by omega) (by omega) (hv.alloc _)
 have G:Hid (w.grownBy (w.alloc (.cells #[.int .i64 c,.int .i64 n,(.slice a m cap)] 31)) none):=grown_alloc _ _ _
 have h1:((1:Nat):Int)=1:=rfl
 rw[h1] at K
 have hk0:¬ (1:Int)+3*(k:Int)<0:=by omega
 have hkb:decide ((1:Int)+3*(k:Int)<0)=false:=decide_eq_false hk0
 clear hv h1
 go_enter Tryd.func18,Tryd.ntmps18
 go_wp2_with fail
 refine K.mono ?_
 rintro e w1 ⟨rfl,g1⟩
 have G1:Hid (w.grownBy w1 none):=G.out.trans g1
 clear K g1
 go_wp2
 go_ret
 exact⟨rfl,G1.out⟩
end Go.Proofs.YtbpgpmchnjbclaaDoor
