/-
 Contract: the model's KeyRoot.
-/
import Derived.Test.YtkagiehbjnfabaaDoorSLev
namespace Go.Proofs.YtkagiehbjnfabaaDoor
open Go.RowKit
set_option linter.unusedVariables false
set_option maxRecDepth 100000 in
set_option maxHeartbeats 400000 in
theorem spec_keyRoot (seed:List UInt8) (w:World) (hs:seed.length=32) :
 Calls Tryd.prog 26 #[.string ⟨seed.toArray⟩] w fun e w'=>e=.returned (.tuple #[.string ⟨(rootL seed).toArray⟩,.bool true])∧Below w.heap.size w w':=by
 have hs':(seed.length:Int)=32:=by omega
 have K:=l4Levels_any seed w hs
 obtain⟨rt,hrt⟩:∃ rt,rt=rootL seed:=⟨_,rfl⟩
 rw[←hrt] at K ⊢
 clear hrt
 go_enter Tryd.func26,Tryd.ntmps26
 go_wp2_with fail
 refine K.mono ?_
 rintro e w1 ⟨go,co,g0,c0,g1,c1,g2,c2,rfl,ob,l0,l1,l2,b1⟩
 have d2:w1.cell? ⟨go,2,none⟩=some (.slice (some ⟨g2,0,none⟩) 1 c2):=by rw[ob.cellAt 2 (by omega)];rfl
 have d0:w1.cell? ⟨g2,0,none⟩=some (.string ⟨rt.toArray⟩):=by rw[l2.cellAt 0 (by omega)];rfl
 clear K ob l0 l1 l2
 go_wp2
 go_ret2
 exact⟨rfl,b1⟩
set_option maxRecDepth 100000 in
theorem spec_keyRoot_no (seed:List UInt8) (w:World) (hl:seed.length≤1048576) (hs:seed.length≠32) :
 Calls Tryd.prog 26 #[.string ⟨seed.toArray⟩] w fun e w'=>e=.returned (.tuple #[.string ⟨#[]⟩,.bool false])∧w'=w:=by
 have hs':¬ (seed.length:Int)=32:=by omega
 go_enter Tryd.func26,Tryd.ntmps26
 go_wp2
 go_ret2
 exact⟨rfl,rfl⟩
end Go.Proofs.YtkagiehbjnfabaaDoor
