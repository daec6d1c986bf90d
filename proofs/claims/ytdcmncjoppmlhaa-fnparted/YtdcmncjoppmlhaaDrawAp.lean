/-
 Contract: drawn pairs and a batch.
-/
import Derived.Test.YtdcmncjoppmlhaaDrawPr
import Derived.Test.YtdcmncjoppmlhaaDrawO
namespace Go.Proofs.Ytdcmncjoppmlhaa
open Go.RowKit
set_option linter.unusedVariables false
theorem results_sc {P:Program} {fn:Func} {p r:Tmp} {ty:TypeId} (h:fn.results=#[.tmp r,.cell p ty]) (tmps:Array Value) (w:World) (g:Nat) (t:TypeId) (cs:Array Value) (d:TypeDesc)
 (hp:tmps.getD p undef=.pointer (some ⟨g,0,none⟩)) (hg:w.heap[g]? = some (.cells cs t (0,0))) (hu:P.underlying ty=some d) (hd:(match d with | .struct _ | .array _ _=>true | _=>false)=true) (hi:(P.info? ty).map (·.size)=some cs.size) (vb:Value) (hb:tmps.getD r undef=vb) :
 (results fn tmps).run P w=.ok (.tuple #[vb,.agg cs]) w:=by
 subst hb
 have hp':tmps[p]?.getD undef=.pointer (some ⟨g,0,none⟩):=by simpa using hp
 simp[results,h,hp',asAddr,run_loadVar_row w g t ty cs (0,0) d hg hu hd hi]
theorem triS_belowA {B b:Nat} {w0 w:World} (h:Below B w0 w) (hb:B≤b) (z0 z1 z2:Value):Below B w0 (((w.setCell ⟨b,0,none⟩ z0).setCell ⟨b,1,none⟩ z1).setCell ⟨b,2,none⟩ z2):=((h.setCell hb _).setCell hb _).setCell hb _
set_option maxRecDepth 100000 in
set_option maxHeartbeats 1000000 in
theorem drawApplyPairs (n cap:Nat) (a:Option Addr) (w:World) (hn:n≤1048576) (h:Code w a n) :
 Calls Try.prog 17 #[.slice a n cap] w fun e w'=>∃ (ps:List PairL) (g c:Nat) (x y:Int) (os:List OpL) (a2:Option Addr) (c2:Nat),e=.returned (.tuple #[.slice (some ⟨g,0,none⟩) ps.length c,.agg #[.int .i64 x,.int .i64 y,.slice a2 os.length c2]])∧ps.length≤9∧os.length≤4∧smallP ps∧smallO os∧w'.ownsRow w.heap.size 54 2 (.slice (some ⟨g,0,none⟩) ps.length c) ps.length (pcells ps)∧w'.ownsRow w.heap.size 53 3 (.slice a2 os.length c2) os.length (ocells os)∧Below w.heap.size w w':=by
 have B0:Below w.heap.size w (w.alloc (.cells #[.int .i64 0,.int .i64 0,.slice none 0 0] 34)):=(Below.refl _ _).alloc (Nat.le_refl _) _
 have X0:=heap_alloc_new w (.cells #[.int .i64 0,.int .i64 0,.slice none 0 0] 34)
 have H1:=open_any n cap a (w.alloc (.cells #[.int .i64 0,.int .i64 0,.slice none 0 0] 34)) (h.later B0)
 have s0:(w.alloc (.cells #[.int .i64 0,.int .i64 0,.slice none 0 0] 34)).heap.size=w.heap.size+1:=by simp
 clear h
 go_enter Try.func17,Try.ntmps17
 go_wp2_with fail
 refine H1.mono ?_
 rintro e w1 ⟨rfl,hR1,b1⟩
 rw[s0] at hR1 b1
 have HR1:Hid (Rd (w.heap.size+1) a n cap w1):=hR1
 have hlt1:=hR1.lt
 have HX1:Hid (w1.heap[w.heap.size]? = some (.cells #[.int .i64 0,.int .i64 0,.slice none 0 0] 34 (0,0))):=(b1.block w.heap.size (by omega)).trans X0
 have HB1:Hid (Below w.heap.size w w1):=B0.trans (b1.mono (by omega))
 clear hR1 H1 X0 B0 b1
 simp only[s0]
 go_wp2_with fail
 refine (pairs_any (w.heap.size+1) n cap 8 8 a w1 rfl (by omega) (by omega) hn HR1.out).mono ?_
 rintro e w2 ⟨ps,g,c,hpl,hsm,rfl,o2,hR2,hG2⟩
 have HX2:Hid (w2.heap[w.heap.size]? = some (.cells #[.int .i64 0,.int .i64 0,.slice none 0 0] 34 (0,0))):=(hG2.block w.heap.size (by omega) (by simp)).trans HX1.out
 have HB2:Hid (Below w.heap.size w w2):=HB1.out.grown hG2 HB1.out.size (fun q hq=>by simp at hq;omega)
 have HO2:=hidOwn o2
 have HSM:Hid (smallP ps):=hsm
 have hlt2:=Nat.lt_of_lt_of_le hlt1 hG2.size
 have K3:=batch_any (w.heap.size+1) n cap a w2 hn hR2
 clear hR2 hG2 HR1 o2 hsm HX1 HB1
 go_wp2_with fail
 refine K3.mono ?_
 rintro e w3 ⟨x,y,os,a2,c2,hol,hso,rfl,o3,R3,G3⟩
 have HX3:Hid (w3.heap[w.heap.size]? = some (.cells #[.int .i64 0,.int .i64 0,.slice none 0 0] 34 (0,0))):=(G3.block w.heap.size (by omega) (by simp)).trans HX2.out
 have B3:Below w.heap.size w w3:=HB2.out.grown G3 HB2.out.size (fun q hq=>by simp at hq;omega)
 have P3:=keptR HO2.out G3 (rd_far HO2.out hlt1)
 have F1:Hid ((((w3.setCell ⟨w.heap.size,0,none⟩ (.int .i64 x)).setCell ⟨w.heap.size,1,none⟩ (.int .i64 y)).setCell ⟨w.heap.size,2,none⟩ (.slice a2 os.length c2)).heap[w.heap.size]? = some (.cells #[.int .i64 x,.int .i64 y,.slice a2 os.length c2] 34 (0,0))):=tri_setB _ _ _ HX3.out
 have F2:Hid ((((w3.setCell ⟨w.heap.size,0,none⟩ (.int .i64 x)).setCell ⟨w.heap.size,1,none⟩ (.int .i64 y)).setCell ⟨w.heap.size,2,none⟩ (.slice a2 os.length c2)).ownsRow w.heap.size 54 2 (.slice (some ⟨g,0,none⟩) ps.length c) ps.length (pcells ps)):=tri_own (P3.mono (by omega)) (fun e=>by have:=(P3.lt _ e).1;omega) _ _ _
 have F3:Hid ((((w3.setCell ⟨w.heap.size,0,none⟩ (.int .i64 x)).setCell ⟨w.heap.size,1,none⟩ (.int .i64 y)).setCell ⟨w.heap.size,2,none⟩ (.slice a2 os.length c2)).ownsRow w.heap.size 53 3 (.slice a2 os.length c2) os.length (ocells os)):=tri_own (o3.mono (by omega)) (fun e=>by have:=(o3.lt _ e).1;omega) _ _ _
 have F4:Hid (Below w.heap.size w (((w3.setCell ⟨w.heap.size,0,none⟩ (.int .i64 x)).setCell ⟨w.heap.size,1,none⟩ (.int .i64 y)).setCell ⟨w.heap.size,2,none⟩ (.slice a2 os.length c2))):=triS_belowA B3 (Nat.le_refl _) _ _ _
 have HSO:Hid (smallO os):=hso
 obtain⟨p0,p1,p2,pf⟩:=bat_cells HX3.out
 have pf0:=pf 0
 have pf1:=pf 1
 have pf2:=pf 2
 clear K3 R3 G3 o3 hso HO2 P3 B3 HB2 HX2 HX3 pf
 go_wp2
 exact bodyPost_ret (v:=.tuple #[.slice (some ⟨g,0,none⟩) ps.length c,.agg #[.int .i64 x,.int .i64 y,.slice a2 os.length c2]]) (results_sc rfl _ _ w.heap.size 34 _ _ rfl F1.out Try.underlying34 rfl (by kernel_rfl) _ rfl) rfl ⟨ps,g,c,x,y,os,a2,c2,rfl,hpl,hol,HSM.out,HSO.out,F2.out,F3.out,F4.out⟩
end Go.Proofs.Ytdcmncjoppmlhaa
