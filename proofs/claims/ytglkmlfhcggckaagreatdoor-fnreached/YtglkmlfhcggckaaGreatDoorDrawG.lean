/-
 Contracts: drawn texts and seeds, a drawn store with a root and a key.
-/
import Derived.Test.YtglkmlfhcggckaaGreatDoorDrawSt
namespace Go.Proofs.YtglkmlfhcggckaaGreatDoor
open Go.RowKit
set_option linter.unusedVariables false
set_option maxRecDepth 100000 in
set_option maxHeartbeats 1000000 in
theorem drawNodesOf (n cap:Nat) (a:Option Addr) (w:World) (hn:n≤1048576) (h:Code w a n) :
 Calls Tryz.prog 11 #[.slice a n cap] w fun e w'=>∃ (ps:List PairL) (g c:Nat),ps.length≤9∧smallP ps∧e=.returned (.slice (some ⟨g,0,none⟩) ps.length c)∧w'.ownsRow w.heap.size 87 2 (.slice (some ⟨g,0,none⟩) ps.length c) ps.length (pcells ps)∧Below w.heap.size w w':=by
 have H1:=open_any n cap a w h
 clear h
 go_enter Tryz.func11,Tryz.ntmps11
 go_wp2_with fail
 refine H1.mono ?_
 rintro e w1 ⟨rfl,hR1,b1⟩
 have HR1:Hid (Rd w.heap.size a n cap w1):=hR1
 have hlt1:=hR1.lt
 clear hR1 H1
 go_wp2_with fail
 refine (pairs_any w.heap.size n cap 8 8 a w1 rfl (by omega) (by omega) hn HR1.out).mono ?_
 rintro e w2 ⟨ps,g,c,hpl,hsm,rfl,o2,hR2,hG2⟩
 have B2:=below_rd b1 hG2
 have HO2:=hidOwn (o2.mono (Nat.le_of_lt hlt1))
 have HSM:Hid (smallP ps):=hsm
 clear hR2 hG2 HR1 o2 hsm b1
 go_wp2
 go_ret
 exact⟨ps,g,c,hpl,HSM.out,rfl,HO2.out,B2⟩
end Go.Proofs.YtglkmlfhcggckaaGreatDoor
