/-
 Contract: a drawn store with a root, of the draws of Reached.
-/
import Derived.Test.YtglkmlfhcggckaaGreatDoorDrawSt
namespace Go.Proofs.YtglkmlfhcggckaaGreatDoor
open Go.RowKit
set_option linter.unusedVariables false
set_option maxRecDepth 100000 in
set_option maxHeartbeats 1000000 in
theorem drawReached (n cap:Nat) (a:Option Addr) (w:World) (hn:n≤1048576) (h:Code w a n) :
 Calls Tryz.prog 5 #[.slice a n cap] w fun e w'=>∃ (ps:List PairL) (a1:Option Addr) (c1:Nat) (rt:List UInt8),e=.returned (.tuple #[.slice a1 ps.length c1,.string ⟨rt.toArray⟩])∧ps.length≤3601∧rt.length≤1048576∧(∀ p∈ps,p.1.length≤1048576∧p.2.length≤1048576)∧w'.ownsRow w.heap.size 67 2 (.slice a1 ps.length c1) ps.length (pcells ps)∧Below w.heap.size w w':=by
 have H1:=open_any n cap a w h
 clear h
 go_enter Tryz.func5,Tryz.ntmps5
 go_wp2_with fail
 refine H1.mono ?_
 rintro e w1 ⟨rfl,hR1,b1⟩
 have HR1:Hid (Rd w.heap.size a n cap w1):=hR1
 have hlt1:=hR1.lt
 clear hR1 H1
 go_wp2_with fail
 refine (store_any w.heap.size n cap a w1 hn HR1.out).mono ?_
 rintro e w2 ⟨v2,rt,rfl,hrt,ps,a1,c1,rfl,hpl,HPS,HO2,HR2,HG2⟩
 have B2:Below w.heap.size w w2:=below_rd b1 HG2.out
 have HO3:=hidOwn (HO2.out.mono (Nat.le_of_lt hlt1))
 clear HR1 b1 HG2 HR2 HO2
 go_wp2
 go_ret2
 exact⟨ps,a1,c1,rt,rfl,hpl,hrt,HPS.out,HO3.out,B2⟩
end Go.Proofs.YtglkmlfhcggckaaGreatDoor
