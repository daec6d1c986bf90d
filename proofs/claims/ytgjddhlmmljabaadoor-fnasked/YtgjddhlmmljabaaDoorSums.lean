import Derived.Test.YtgjddhlmmljabaaDoorTurnAll
import Derived.Deep.RegionWith
import Derived.Test.YtgjddhlmmljabaaDoorMathAll
namespace Go.Proofs.YtgjddhlmmljabaaDoor
open Go.RowKit
set_option linter.unusedVariables false
structure Same (W w:World):Prop where
 heap:w.heap=W.heap
 os:w.os=W.os
 tape:w.tape=W.tape
 output:w.output=W.output
theorem Same.refl (W:World):Same W W:=⟨rfl,rfl,rfl,rfl⟩
theorem Same.drewN {W w:World} (h:Same W w) (q:Nat):Same W (w.drewN q):=⟨h.heap,h.os,h.tape,h.output⟩
theorem Same.cell {W w:World} (h:Same W w) (a:Addr):w.cell? a=W.cell? a:=by simp only[World.cell?,h.heap]
theorem Same.below {W w w0:World} {B:Nat} (h:Same W w) (hb:Below B w0 W):Below B w0 w:=⟨h.os.trans hb.os,h.tape.trans hb.tape,h.output.trans hb.output,by rw[h.heap];exact hb.size,fun k hk=>by rw[h.heap];exact hb.block k hk⟩
theorem bcells_append (a b:List UInt8):bcells (a ++ b)=bcells a ++ bcells b:=by simp[bcells]
theorem RowX.drew {w:World} {base g n cap:Nat} {xs:List Value} (h:RowX w base g n cap xs):RowX w.drew base g n cap xs:=⟨h.len,h.low,h.lt,h.fit,h.cells,h.spare⟩
end Go.Proofs.YtgjddhlmmljabaaDoor
