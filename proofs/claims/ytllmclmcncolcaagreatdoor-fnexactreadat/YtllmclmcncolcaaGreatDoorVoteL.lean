/-
 Contracts of the laws' own helpers on votes: sizes, copies, equal ones; a vote that came in (written by mkvotel.py).
-/
import Derived.Test.YtllmclmcncolcaaGreatDoorILaw4
namespace Go.Proofs.YtllmclmcncolcaaGreatDoor
open Go.RowKit
set_option linter.unusedVariables false
theorem vq_cells {w:World} {b:Nat} {u v x y:Value} {t:TypeId} (h:w.heap[b]? = some (.cells #[u,v,x,y] t (0,0))) :
 w.cell? ⟨b,0,none⟩=some u∧w.cell? ⟨b,1,none⟩=some v∧w.cell? ⟨b,2,none⟩=some x∧w.cell? ⟨b,3,none⟩=some y∧∀ j,w.frozen? ⟨b,j,none⟩=false:=by
 refine⟨?_,?_,?_,?_,fun j=>frozen_of_row w b j _ t h⟩ <;> simp only[World.cell?,h] <;> rfl
theorem new_atV (w:World) {n:Nat} (h:w.heap.size=n) (o:Obj):(w.alloc o).heap[n]? = some o:=by rw[←h];exact heap_alloc_new w o
theorem vq_set {w:World} {b j:Nat} {u v x z y:Value} {t:TypeId} (h:w.heap[b]? = some (.cells #[u,v,x,z] t (0,0))):(w.setCell ⟨b,j,none⟩ y).heap[b]? = some (.cells (#[u,v,x,z].setIfInBounds j y) t (0,0)):=by
 have hlt:=lt_of_block h
 have h':w.heap[b]=.cells #[u,v,x,z] t (0,0):=by simpa [Array.getElem?_eq_getElem hlt] using h
 show (w.heap.modify b _)[b]? = _
 rw[Array.getElem?_eq_getElem (by simpa using hlt),Array.getElem_modify_self,h']
 rfl
set_option maxRecDepth 100000 in
set_option maxHeartbeats 400000 in
theorem szSig_gen (i:Int) (ao ap:Option Addr) (co cp:Nat) (os ps:List (List UInt8)) (L:Nat) (w:World) (hL:L≤1048576) (ho:os.length≤9223372036854775807) (hom:∀ l∈os,l.length≤9223372036854775807) (hp:ps.length≤9223372036854775807) (hpm:∀ l∈ps,l.length≤9223372036854775807) (hs:IsStrs w ao os) (hq:IsStrs w ap ps) :
 Calls Tryz.prog 53 #[.agg #[.int .i64 i,.slice ao os.length co,.slice ap ps.length cp],.int .i64 (L:Int)] w fun e w'=>(e=.returned (.int .i64 (-1))∨(os.length+os.flatten.length+ps.length+ps.flatten.length≤L∧∃ n:Nat,n≤L∧n+(os.length+os.flatten.length+ps.length+ps.flatten.length)=L∧e=.returned (.int .i64 (n:Int))))∧Below w.heap.size w w':=by
 obtain⟨c0,c1,c2⟩:=three_cells (w:=w) (.int .i64 i) (.slice ao os.length co) (.slice ap ps.length cp) 67
 have B1:Below w.heap.size w (w.alloc (.cells #[.int .i64 i,.slice ao os.length co,.slice ap ps.length cp] 67)):=(Below.refl _ _).alloc (Nat.le_refl _) _
 have K1:=szS_gen ao co os L (w.alloc (.cells #[.int .i64 i,.slice ao os.length co,.slice ap ps.length cp] 67)) hL ho hom (hs.later B1)
 have K2:=fun n hn=>szS_gen ap cp ps n (w.alloc (.cells #[.int .i64 i,.slice ao os.length co,.slice ap ps.length cp] 67)) hn hp hpm (hq.later B1)
 clear hs hq hom hpm
 go_enter Tryz.func53,Tryz.ntmps53
 go_wp2_with fail
 refine K1.mono ?_
 rintro e w1 ⟨he,rfl⟩
 clear K1
 rcases he with rfl | ⟨hb,n,hn,hnn,rfl⟩
 · go_wp2
   go_ret
   exact⟨.inl rfl,B1⟩
 · have HN:Hid (n+(os.length+os.flatten.length)=L):=hnn
   have K3:=K2 n (by omega)
   clear K2 hnn hb
   go_wp2_with fail
   refine K3.mono ?_
   rintro e w1 ⟨he,rfl⟩
   clear K3
   rcases he with rfl | ⟨hb,k,hk,hkk,rfl⟩
   · go_wp2
     go_ret
     exact⟨.inl rfl,B1⟩
   · have HB:Hid (os.length+os.flatten.length+ps.length+ps.flatten.length≤L∧k≤L∧k+(os.length+os.flatten.length+ps.length+ps.flatten.length)=L):=by rw[Hid];have:=HN.out;omega
     clear hb hkk
     go_wp2
     go_ret
     exact⟨.inr ⟨HB.out.1,k,HB.out.2.1,HB.out.2.2,rfl⟩,B1⟩
set_option maxRecDepth 100000 in
set_option maxHeartbeats 400000 in
theorem szVote_gen (nd i:Int) (ao ap:Option Addr) (co cp:Nat) (os ps:List (List UInt8)) (L:Nat) (w:World) (hL:L≤1048576) (ho:os.length≤9223372036854775807) (hom:∀ l∈os,l.length≤9223372036854775807) (hp:ps.length≤9223372036854775807) (hpm:∀ l∈ps,l.length≤9223372036854775807) (hs:IsStrs w ao os) (hq:IsStrs w ap ps) :
 Calls Tryz.prog 32 #[.agg #[.int .i64 nd,.int .i64 i,.slice ao os.length co,.slice ap ps.length cp],.int .i64 (L:Int)] w fun e w'=>(e=.returned (.int .i64 (-1))∨(os.length+os.flatten.length+ps.length+ps.flatten.length≤L∧∃ n:Nat,n≤L∧n+(os.length+os.flatten.length+ps.length+ps.flatten.length)=L∧e=.returned (.int .i64 (n:Int))))∧Below w.heap.size w w':=by
 obtain⟨c0,c1,c2,c3,_⟩:=vq_cells (heap_alloc_new w (.cells #[.int .i64 nd,.int .i64 i,.slice ao os.length co,.slice ap ps.length cp] 69))
 have B1:Below w.heap.size w (w.alloc (.cells #[.int .i64 nd,.int .i64 i,.slice ao os.length co,.slice ap ps.length cp] 69)):=(Below.refl _ _).alloc (Nat.le_refl _) _
 have K1:=szSig_gen i ao ap co cp os ps L (w.alloc (.cells #[.int .i64 nd,.int .i64 i,.slice ao os.length co,.slice ap ps.length cp] 69)) hL ho hom hp hpm (hs.later B1) (hq.later B1)
 clear hs hq hom hpm
 go_enter Tryz.func32,Tryz.ntmps32
 go_wp2_with fail
 refine K1.mono ?_
 rintro e w1 ⟨he,b1⟩
 have B2:=B1.trans (b1.mono (by simp))
 clear K1 b1
 rcases he with rfl | ⟨hb,n,hn,hnn,rfl⟩
 · go_wp2
   go_ret
   exact⟨.inl rfl,B2⟩
 · have HN:Hid (os.length+os.flatten.length+ps.length+ps.flatten.length≤L∧n+(os.length+os.flatten.length+ps.length+ps.flatten.length)=L):=⟨hb,hnn⟩
   clear hnn hb
   go_wp2
   go_ret
   exact⟨.inr ⟨HN.out.1,n,hn,HN.out.2,rfl⟩,B2⟩
set_option maxRecDepth 100000 in
set_option maxHeartbeats 1000000 in
theorem toVote_any (nd i:Int) (ao ap:Option Addr) (co cp:Nat) (os ps:List (List UInt8)) (w:World) (ho:os.length≤1048576) (hp:ps.length≤1048576) (hs:IsStrs w ao os) (hq:IsStrs w ap ps) :
 Calls Tryz.prog 42 #[.agg #[.int .i64 nd,.int .i64 i,.slice ao os.length co,.slice ap ps.length cp]] w fun e w'=>∃ g1 g2:Nat,e=.returned (.agg #[.int .i64 nd,.int .i64 i,.slice (some ⟨g1,0,none⟩) os.length os.length,.slice (some ⟨g2,0,none⟩) ps.length ps.length])∧w'.ownsRow w.heap.size 9 1 (.slice (some ⟨g1,0,none⟩) os.length os.length) os.length (scells os)∧w'.ownsRow w.heap.size 9 1 (.slice (some ⟨g2,0,none⟩) ps.length ps.length) ps.length (scells ps)∧Below w.heap.size w w':=by
 obtain⟨wa,hwa⟩:∃ wa,wa=((w.alloc (.cells #[.int .i64 nd,.int .i64 i,.slice ao os.length co,.slice ap ps.length cp] 69)).alloc (.cells #[.int .i64 0,.int .i64 0,.slice none 0 0,.slice none 0 0] 74)).alloc (.cells #[.int .i64 nd,.int .i64 0,.slice none 0 0,.slice none 0 0] 74):=⟨_,rfl⟩
 have Ba:Below w.heap.size w wa:=by rw[hwa];exact (((Below.refl _ _).alloc (Nat.le_refl _) _).alloc (by simp) _).alloc (by simp;omega) _
 have sa:wa.heap.size=w.heap.size+3:=by rw[hwa];simp
 have a0:wa.heap[w.heap.size]? = some (.cells #[.int .i64 nd,.int .i64 i,.slice ao os.length co,.slice ap ps.length cp] 69 (0,0)):=by rw[hwa,Below.heap_alloc _ _ _ (by simp;omega),Below.heap_alloc _ _ _ (by simp)];exact heap_alloc_new w _
 have a1:wa.heap[w.heap.size+1]? = some (.cells #[.int .i64 0,.int .i64 0,.slice none 0 0,.slice none 0 0] 74 (0,0)):=by rw[hwa,Below.heap_alloc _ _ _ (by simp)];exact new_atV _ (by simp) _
 have a2:wa.heap[w.heap.size+2]? = some (.cells #[.int .i64 nd,.int .i64 0,.slice none 0 0,.slice none 0 0] 74 (0,0)):=by rw[hwa];exact new_atV _ (by simp) _
 have K1:=toSig_any i ao ap co cp os ps wa ho hp (hs.later Ba) (hq.later Ba)
 have HWA:Hid (wa=((w.alloc (.cells #[.int .i64 nd,.int .i64 i,.slice ao os.length co,.slice ap ps.length cp] 69)).alloc (.cells #[.int .i64 0,.int .i64 0,.slice none 0 0,.slice none 0 0] 74)).alloc (.cells #[.int .i64 nd,.int .i64 0,.slice none 0 0,.slice none 0 0] 74)):=hwa
 clear hs hq hwa
 go_enter Tryz.func42,Tryz.ntmps42
 go_wp2_with fail
 rw[←HWA.out]
 refine K1.mono ?_
 rintro e w1 ⟨g1,g2,rfl,o1,o2,b1⟩
 rw[sa] at o1 o2
 have B1:=Ba.trans (b1.mono (by omega))
 have e0:=(b1.block (w.heap.size) (by omega)).trans a0
 have e1:=(b1.block (w.heap.size+1) (by omega)).trans a1
 have e2:=(b1.block (w.heap.size+2) (by omega)).trans a2
 have s1:=b1.size
 have O1:=hidOwn o1
 have O2:=hidOwn o2
 obtain⟨p0,p1,p2,p3,pf⟩:=vq_cells e2
 obtain⟨q0,q1,q2,q3,qf⟩:=vq_cells e1
 have pf1:=pf 1
 have pf2:=pf 2
 have pf3:=pf 3
 have qf0:=qf 0
 have qf1:=qf 1
 have qf2:=qf 2
 have qf3:=qf 3
 clear K1 a0 a1 a2 b1 Ba o1 o2 sa pf qf HWA
 go_wp2
 have lo1:w.heap.size+2<g1:=by have:=own_base O1.out;omega
 have lo2:w.heap.size+2<g2:=by have:=own_base O2.out;omega
 have y1:(((w1.setCell ⟨w.heap.size+1+1,1,none⟩ (.int .i64 i)).setCell ⟨w.heap.size+1+1,2,none⟩ (.slice (some ⟨g1,0,none⟩) os.length os.length)).setCell ⟨w.heap.size+1+1,3,none⟩ (.slice (some ⟨g2,0,none⟩) ps.length ps.length)).heap[w.heap.size+1]? = _:=(Below.heap_setCell _ _ _ _ (by simp)).trans ((Below.heap_setCell _ _ _ _ (by simp)).trans ((Below.heap_setCell _ _ _ _ (by simp)).trans e1))
 have y5:=vq_set (j:=3) (y:=(.slice (some ⟨g2,0,none⟩) ps.length ps.length)) (vq_set (j:=2) (y:=(.slice (some ⟨g1,0,none⟩) os.length os.length)) (vq_set (j:=1) (y:=.int .i64 i) (vq_set (j:=0) (y:=.int .i64 nd) y1)))
 have rows:∀ {g m c base:Nat} {xs:List Value},w1.ownsRow base 9 1 (.slice (some ⟨g,0,none⟩) m c) m xs→w.heap.size+2<g→(((((((w1.setCell ⟨w.heap.size+1+1,1,none⟩ (.int .i64 i)).setCell ⟨w.heap.size+1+1,2,none⟩ (.slice (some ⟨g1,0,none⟩) os.length os.length)).setCell ⟨w.heap.size+1+1,3,none⟩ (.slice (some ⟨g2,0,none⟩) ps.length ps.length)).setCell ⟨w.heap.size+1,0,none⟩ (.int .i64 nd)).setCell ⟨w.heap.size+1,1,none⟩ (.int .i64 i)).setCell ⟨w.heap.size+1,2,none⟩ (.slice (some ⟨g1,0,none⟩) os.length os.length)).setCell ⟨w.heap.size+1,3,none⟩ (.slice (some ⟨g2,0,none⟩) ps.length ps.length)).ownsRow base 9 1 (.slice (some ⟨g,0,none⟩) m c) m xs:=fun h hg =>
  ownsRow_setCell_other (ownsRow_setCell_other (ownsRow_setCell_other (ownsRow_setCell_other (ownsRow_setCell_other (ownsRow_setCell_other (ownsRow_setCell_other h (by simp[Value.ownBlock];omega) _) (by simp[Value.ownBlock];omega) _) (by simp[Value.ownBlock];omega) _) (by simp[Value.ownBlock];omega) _) (by simp[Value.ownBlock];omega) _) (by simp[Value.ownBlock];omega) _) (by simp[Value.ownBlock];omega) _
 exact bodyPost_ret (v:=.agg #[.int .i64 nd,.int .i64 i,(.slice (some ⟨g1,0,none⟩) os.length os.length),(.slice (some ⟨g2,0,none⟩) ps.length ps.length)]) (results_cell_row rfl _ _ (w.heap.size+1) 74 _ (0,0) _ rfl y5 Tryz.underlying74 rfl (by kernel_rfl)) rfl ⟨g1,g2,rfl,(rows O1.out lo1).mono (by omega),(rows O2.out lo2).mono (by omega),((((((B1.setCell (by simp;omega) _).setCell (by simp;omega) _).setCell (by simp;omega) _).setCell (by simp) _).setCell (by simp) _).setCell (by simp) _).setCell (by simp) _⟩
end Go.Proofs.YtllmclmcncolcaaGreatDoor
