/-
 Contracts: a drawn size, a drawn op on a disk.
-/
import Derived.Test.YtlllkdioojjaeaaDrawH
import Derived.Test.YtlllkdioojjaeaaGrowEs
import Derived.Test.YtlllkdioojjaeaaSActGs
namespace Go.Proofs.Ytlllkdioojjaeaa
open Go.RowKit
set_option linter.unusedVariables false
def shortB (m:Nat):Value→Bool
 | .string s=>decide (s.size≤m)
 | _=>false
theorem shortB_is (m:Nat) (v:Value) (h:shortB m v=true):∃ l:List UInt8,l.length≤m∧v=.string ⟨l.toArray⟩:=by
 match v,h with
 | .string s,h=>exact⟨s.data.toList,by simpa [shortB] using h,by rw[←ba_eq]⟩
theorem tabB_any {w w1:World} {rd m k:Nat} {cs:Array Value} {t:TypeId} (hrd:rd<w.heap.size) (hG:(w.alloc (.cells cs t)).grownBy w1 (some rd)) (hall:cs.all (shortB m)=true) (hk:k<cs.size) :
 ∃ l:List UInt8,l.length≤m∧w1.cell? ⟨w.heap.size,k,none⟩=some (.string ⟨l.toArray⟩):=by
 have hb:w1.heap[w.heap.size]? = some (.cells cs t):=by rw[hG.block _ (by simp) (by simp;omega)];exact heap_alloc_new w _
 have hv:=(Array.all_eq_true.1 hall) k hk
 obtain⟨l,hl,e⟩:=shortB_is m _ hv
 refine⟨l,hl,?_⟩
 rw[←e]
 simp[World.cell?,hb,hk]
theorem grown_setC {w w':World} {row:Option Nat} (h:w.grownBy w' row) (p:Addr) (v:Value) (hp:w.heap.size≤p.block):w.grownBy (w'.setCell p v) row :=
 ⟨h.os,h.tape,h.output,by simpa [World.setCell] using h.size,fun k hk hne=>(Below.heap_setCell _ _ _ _ (fun e=>by rw[e] at hk;omega)).trans (h.block k hk hne)⟩
set_option maxRecDepth 100000 in
set_option maxHeartbeats 400000 in
theorem wordE_any (rd n cap:Nat) (a:Option Addr) (w:World) (hn:n≤1048576) (h:Rd rd a n cap w) :
 Calls Try.prog 96 #[.pointer (some ⟨rd,0,none⟩)] w fun e w'=>∃ x:Int,e=.returned (.int .u64 x)∧Rd rd a n cap w'∧w.grownBy w' (some rd):=by
 go_enter Try.func96,Try.ntmps96
 go_wp2
 go_loopw [3,4] (fun v i wr=>∃ j:Nat,∃ x:Int,j≤8∧i=.int .i64 (j:Int)∧v=.int .u64 x∧Rd rd a n cap wr∧w.grownBy wr (some rd)) (fun _ i _=>8 - (intOf i).toNat)
 case atStart=>exact⟨0,0,by omega,rfl,rfl,h,World.grownBy.refl _ _⟩
 case round =>
  obtain⟨j,x,hj,rfl,rfl,hRr,hgr⟩:=hrel
  clear h
  by_cases hlt:j<8
  · have hlt':(j:Int)<8:=by omega
    have K:=next_any rd n cap a wr hn hRr
    have HG:Hid (w.grownBy wr (some rd)):=hgr
    clear hRr hgr
    go_wp2_with fail
    refine K.mono ?_
    rintro e w1 ⟨y,hy,rfl,hR1,hG1⟩
    have HR1:Hid (Rd rd a n cap w1):=hR1
    have HG1:Hid (w.grownBy w1 (some rd)):=grown_more HG.out hG1 (by simp)
    clear K hR1 hG1 HG
    go_wp2
    go_roundw
    case rel=>exact⟨j+1,_,by omega,by go_num,rfl,HR1.out,HG1.out⟩
    case measure=>simp[intOf];omega
  · have HRr:Hid (Rd rd a n cap wr):=hRr
    have HG:Hid (w.grownBy wr (some rd)):=hgr
    clear hRr hgr
    go_wp2
    go_ret
    exact⟨x,rfl,HRr.out,HG.out⟩
set_option maxRecDepth 100000 in
set_option maxHeartbeats 400000 in
theorem nearE_any (rd n cap:Nat) (a:Option Addr) (w:World) (hn:n≤1048576) (h:Rd rd a n cap w) :
 Calls Try.prog 91 #[.pointer (some ⟨rd,0,none⟩),.int .i64 1,.int .i64 3] w fun e w'=>∃ x:Int,e=.returned (.int .i64 x)∧Rd rd a n cap w'∧w.grownBy w' (some rd):=by
 have K1:=below_any rd n cap 8 8 a w rfl (by omega) (by omega) hn h
 clear h
 go_enter Try.func91,Try.ntmps91
 go_wp2_with fail
 refine K1.mono ?_
 rintro e w1 ⟨y,hy,rfl,hR1,hG1⟩
 have HR1:Hid (Rd rd a n cap w1):=hR1
 have HG1:Hid (w.grownBy w1 (some rd)):=hG1
 clear K1 hR1 hG1
 by_cases y0:y=0
 · subst y0
   go_wp2
   go_ret
   exact⟨_,rfl,HR1.out,HG1.out⟩
 · have y0':((y:Int) == 0)=false:=by simp only[beq_eq_false_iff_ne,ne_eq];omega
   by_cases y1:y=1
   · subst y1
     go_wp2
     go_ret
     exact⟨_,rfl,HR1.out,HG1.out⟩
   · have y1':((y:Int) == 1)=false:=by simp only[beq_eq_false_iff_ne,ne_eq];omega
     have K2:=wordE_any rd n cap a w1 hn HR1.out
     clear HR1
     go_wp2_with fail
     refine K2.mono ?_
     rintro e w2 ⟨z,rfl,hR2,hG2⟩
     have HR2:Hid (Rd rd a n cap w2):=hR2
     have HG2:Hid (w.grownBy w2 (some rd)):=grown_more HG1.out hG2 (by simp)
     clear K2 hR2 hG2 HG1
     go_wp2
     go_ret
     exact⟨_,rfl,HR2.out,HG2.out⟩
def isI64E:Value→Bool
 | .int .i64 _=>true
 | _=>false
theorem isI64E_is (v:Value) (h:isI64E v=true):∃ x,v=.int .i64 x:=by
 match v,h with
 | .int .i64 x,_=>exact⟨x,rfl⟩
theorem tabIE_any {w w1:World} {rd k:Nat} {cs:Array Value} {t:TypeId} (hrd:rd<w.heap.size) (hG:(w.alloc (.cells cs t)).grownBy w1 (some rd)) (hall:cs.all isI64E=true) (hk:k<cs.size) :
 ∃ x:Int,w1.cell? ⟨w.heap.size,k,none⟩=some (.int .i64 x):=by
 have hb:w1.heap[w.heap.size]? = some (.cells cs t):=by rw[hG.block _ (by simp) (by simp;omega)];exact heap_alloc_new w _
 have hv:=(Array.all_eq_true.1 hall) k hk
 obtain⟨x,e⟩:=isI64E_is _ hv
 refine⟨x,?_⟩
 rw[←e]
 simp[World.cell?,hb,hk]
set_option maxRecDepth 100000 in
set_option maxHeartbeats 400000 in
theorem offE_any (rd n cap:Nat) (a:Option Addr) (w:World) (hn:n≤1048576) (h:Rd rd a n cap w) :
 Calls Try.prog 71 #[.pointer (some ⟨rd,0,none⟩),.int .i64 1,.int .i64 3] w fun e w'=>∃ x:Int,e=.returned (.int .i64 x)∧Rd rd a n cap w'∧w.grownBy w' (some rd):=by
 have K1:=once_any rd n cap 24 24 a w rfl (by omega) (by omega) hn h
 clear h
 go_enter Try.func71,Try.ntmps71
 go_wp2_with fail
 refine K1.mono ?_
 rintro e w1 ⟨t,rfl,hR1,hG1⟩
 have HR1:Hid (Rd rd a n cap w1):=hR1
 have HG1:Hid (w.grownBy w1 (some rd)):=hG1
 have hrd:=hR1.lt
 clear K1 hR1 hG1
 cases t
 · have K2:=nearE_any rd n cap a w1 hn HR1.out
   clear HR1
   go_wp2_with fail
   refine K2.mono ?_
   rintro e w2 ⟨z,rfl,hR2,hG2⟩
   have HR2:Hid (Rd rd a n cap w2):=hR2
   have HG2:Hid (w.grownBy w2 (some rd)):=grown_more HG1.out hG2 (by simp)
   clear K2 hR2 hG2 HG1
   go_wp2
   go_ret
   exact⟨z,rfl,HR2.out,HG2.out⟩
 · go_wp2_with fail
   refine (below_any rd n cap 4 4 a _ rfl (by omega) (by omega) hn (HR1.out.keptNone ((Below.refl _ _).alloc (Nat.le_refl _) _))).mono ?_
   rintro e w2 ⟨k,hk,rfl,hR2,hG2⟩
   obtain⟨z,hc⟩:=tabIE_any (k:=k) hrd hG2 (by simp[isI64E]) (by simpa using hk)
   have HR2:Hid (Rd rd a n cap w2):=hR2
   have HG2:Hid (w.grownBy w2 (some rd)):=grown_more HG1.out ((World.grownBy_alloc w1 _ (some rd)).trans hG2) (by simp)
   have hk':(k:Int)<4:=by omega
   have hk0:(0:Int)≤(k:Int):=by omega
   clear hR2 hG2 HG1 HR1
   go_wp2
   go_ret
   exact⟨z,rfl,HR2.out,HG2.out⟩
set_option maxRecDepth 100000 in
set_option maxHeartbeats 1000000 in
theorem textD_any (rd n cap:Nat) (a:Option Addr) (w:World) (hn:n≤1048576) (h:Rd rd a n cap w) :
 Calls Try.prog 73 #[.pointer (some ⟨rd,0,none⟩)] w fun e w'=>∃ l:List UInt8,l.length≤56∧e=.returned (.string ⟨l.toArray⟩)∧Rd rd a n cap w'∧w.grownBy w' (some rd):=by
 have hrd:=h.lt
 have HR0:Hid (Rd rd a n cap w):=h
 clear h
 go_enter Try.func73,Try.ntmps73
 go_wp2_with fail
 refine (below_any rd n cap 12 12 a _ rfl (by omega) (by omega) hn (HR0.out.keptNone ((Below.refl _ _).alloc (Nat.le_refl _) _))).mono ?_
 rintro e w1 ⟨k,hk,rfl,hR,hG⟩
 obtain⟨l,hl,hc⟩:=tabB_any (m:=56) (k:=k) hrd hG (by decide +kernel) hk
 have HR:Hid (Rd rd a n cap w1):=hR
 have HG:Hid (w.grownBy w1 (some rd)):=(World.grownBy_alloc w _ (some rd)).trans hG
 have hk':(k:Int)<12:=by omega
 clear hR hG HR0
 go_wp2
 go_ret
 exact⟨l,hl,rfl,HR.out,HG.out⟩
set_option maxRecDepth 100000 in
set_option maxHeartbeats 1000000 in
theorem size_any (rd n cap:Nat) (a:Option Addr) (w:World) (hn:n≤1048576) (h:Rd rd a n cap w) :
 Calls Try.prog 89 #[.pointer (some ⟨rd,0,none⟩),.int .i64 3,.int .i64 10] w fun e w'=>∃ x:Nat,1≤x∧x≤10∧e=.returned (.int .i64 (x:Int))∧Rd rd a n cap w'∧w.grownBy w' (some rd):=by
 have HR0:Hid (Rd rd a n cap w):=h
 obtain⟨⟨p,hp,hb⟩,hz⟩:=h
 obtain⟨c0,c1,f1⟩:=two_cells hb
 clear hb hz
 obtain⟨q,hq⟩:∃ q:Nat,q=n / 3:=⟨_,rfl⟩
 have hq3:(n:Int).tdiv 3=(q:Int):=by rw[hq,Int.tdiv_eq_ediv_of_nonneg (by omega)];omega
 have hq4:(n:Int) / 3=(q:Int):=by rw[hq];omega
 have HQ:Hid (q=n / 3):=hq
 clear hq
 by_cases hbig:10<1+q
 · have hb1:(10:Int)<1+(q:Int):=by omega
   go_enter Try.func89,Try.ntmps89
   go_wp2_with fail
   refine (below_gen rd n cap 10 10 a _ rfl (by omega) (by omega) hn HR0.out).mono ?_
   rintro e w1 ⟨x,hx,rfl,hR,hG⟩
   have HR:Hid (Rd rd a n cap w1):=hR
   have HG:Hid (w.grownBy w1 (some rd)):=hG
   clear hR hG HR0 c0 c1 f1
   go_wp2
   go_ret
   exact⟨x+1,by omega,by omega,by rw[show ((x+1:Nat):Int)=1+(x:Int) by omega];rfl,HR.out,HG.out⟩
 · have hb1:¬ (10:Int)<1+(q:Int):=by omega
   go_enter Try.func89,Try.ntmps89
   go_wp2_with fail
   refine (below_gen rd n cap (1+q) (1+(q:Int)) a _ (by omega) (by omega) (by omega) hn HR0.out).mono ?_
   rintro e w1 ⟨x,hx,rfl,hR,hG⟩
   have HR:Hid (Rd rd a n cap w1):=hR
   have HG:Hid (w.grownBy w1 (some rd)):=hG
   clear hR hG HR0 c0 c1 f1
   go_wp2
   go_ret
   exact⟨x+1,by omega,by omega,by rw[show ((x+1:Nat):Int)=1+(x:Int) by omega];rfl,HR.out,HG.out⟩
theorem four_set {w:World} {b:Nat} {u v x y u' v' x' y':Value} {t:TypeId} (h:w.heap[b]? = some (.cells #[u,v,x,y] t (0,0))):((((w.setCell ⟨b,0,none⟩ u').setCell ⟨b,1,none⟩ v').setCell ⟨b,2,none⟩ x').setCell ⟨b,3,none⟩ y').heap[b]? = some (.cells #[u',v',x',y'] t (0,0)):=by
 have st:∀ {w:World} {cs:Array Value} (j:Nat) (z:Value),w.heap[b]? = some (.cells cs t (0,0))→(w.setCell ⟨b,j,none⟩ z).heap[b]? = some (.cells (cs.setIfInBounds j z) t (0,0)):=by
  intro w cs j z h
  have hlt:=lt_of_block h
  have h':w.heap[b]=.cells cs t (0,0):=by simpa [Array.getElem?_eq_getElem hlt] using h
  show (w.heap.modify b _)[b]? = _
  rw[Array.getElem?_eq_getElem (by simpa using hlt),Array.getElem_modify_self,h']
  rfl
 have:=st 3 y' (st 2 x' (st 1 v' (st 0 u' h)))
 simpa using this
theorem grown_set4 {w w':World} {row:Option Nat} (h:w.grownBy w' row) (b:Nat) (u v x y:Value) (hp:w.heap.size≤b):w.grownBy ((((w'.setCell ⟨b,0,none⟩ u).setCell ⟨b,1,none⟩ v).setCell ⟨b,2,none⟩ x).setCell ⟨b,3,none⟩ y) row:=grown_setC (grown_setC (grown_setC (grown_setC h _ _ hp) _ _ hp) _ _ hp) _ _ hp
theorem rd_set4 {w:World} {rd n cap:Nat} {a:Option Addr} (h:Rd rd a n cap w) (b:Nat) (u v x y:Value) (hb:rd≠b) (hc:∀ cb off,a=some ⟨cb,off,none⟩→n≠0→cb≠b):Rd rd a n cap ((((w.setCell ⟨b,0,none⟩ u).setCell ⟨b,1,none⟩ v).setCell ⟨b,2,none⟩ x).setCell ⟨b,3,none⟩ y) :=
 h.kept (row:=some b) ⟨rfl,rfl,rfl,by simp[World.setCell],fun k _ hk=>by
  have hk':k≠b:=fun e=>hk (by rw[e])
  rw[Below.heap_setCell _ _ _ _ hk',Below.heap_setCell _ _ _ _ hk',Below.heap_setCell _ _ _ _ hk',Below.heap_setCell _ _ _ _ hk']⟩ (fun e=>hb (by simpa using e.symm)) (fun cb off h1 h2 e=>hc cb off h1 h2 (by simpa using e))
set_option maxRecDepth 100000 in
set_option maxHeartbeats 2000000 in
theorem dop_any (rd n cap:Nat) (a:Option Addr) (w:World) (hn:n≤1048576) (h:Rd rd a n cap w) :
 Calls Try.prog 69 #[.pointer (some ⟨rd,0,none⟩)] w fun e w'=>∃ (k:Int) (nm tt dd:List UInt8),nm.length≤56∧tt.length≤56∧dd.length≤56∧e=.returned (.agg #[.int .i64 k,.string ⟨nm.toArray⟩,.string ⟨tt.toArray⟩,.string ⟨dd.toArray⟩])∧Rd rd a n cap w'∧w.grownBy w' (some rd):=by
 have hrd:=h.lt
 have hcd:=h.code
 have HCD:Hid (∀ cb off,a=some ⟨cb,off,none⟩→n≠0→cb≠w.heap.size):=fun cb off h1 h2=>by have:=hcd cb off h1 h2;omega
 obtain⟨wa,hwa⟩:∃ wa,wa=w.alloc (.cells #[.int .i64 0,.string ⟨#[]⟩,.string ⟨#[]⟩,.string ⟨#[]⟩] 40):=⟨_,rfl⟩
 have Ba:Below w.heap.size w wa:=by rw[hwa];exact (Below.refl _ _).alloc (Nat.le_refl _) _
 have Xa:Hid (wa.heap[w.heap.size]? = some (.cells #[.int .i64 0,.string ⟨#[]⟩,.string ⟨#[]⟩,.string ⟨#[]⟩] 40 (0,0))):=by rw[hwa];exact heap_alloc_new w _
 have Ga:Hid (w.grownBy wa (some rd)):=grown_of_below Ba _
 have Ra:Hid (Rd rd a n cap wa):=h.keptNone Ba
 have sa:w.heap.size<wa.heap.size:=lt_of_block Xa.out
 have hrda:rd<wa.heap.size:=by omega
 clear h hcd Ba
 go_enter Try.func69,Try.ntmps69
 go_wp2_with fail
 rw[←hwa]
 refine (below_any rd n cap 4 4 a _ rfl (by omega) (by omega) hn (Ra.out.keptNone ((Below.refl _ _).alloc (Nat.le_refl _) _))).mono ?_
 rintro e w1 ⟨k1,hk1,rfl,hR1,hG1⟩
 obtain⟨nm,hnm,hc1⟩:=tabB_any (m:=56) (k:=k1) hrda hG1 (by decide +kernel) hk1
 have X1:Hid (w1.heap[w.heap.size]? = some (.cells #[.int .i64 0,.string ⟨#[]⟩,.string ⟨#[]⟩,.string ⟨#[]⟩] 40 (0,0))):=(hG1.block w.heap.size (by simp;omega) (by simp;omega)).trans ((Below.heap_alloc _ _ _ (by omega)).trans Xa.out)
 have G1:Hid (w.grownBy w1 (some rd)):=Ga.out.trans ((World.grownBy_alloc wa _ (some rd)).trans hG1)
 have R1:Hid (Rd rd a n cap w1):=hR1
 have hk1':(k1:Int)<4:=by omega
 have hz1:wa.heap.size=w.heap.size+1:=by rw[hwa];simp
 rw[hz1] at hc1
 have HNM:Hid (nm.length≤56):=hnm
 have K2:=below_any rd n cap 5 5 a w1 rfl (by omega) (by omega) hn hR1
 clear hR1 hG1 Ga Ra Xa hwa hnm
 go_wp2_with fail
 refine K2.mono ?_
 rintro e w2 ⟨k2,hk2,rfl,hR2,hG2⟩
 have X2:Hid (w2.heap[w.heap.size]? = some (.cells #[.int .i64 0,.string ⟨#[]⟩,.string ⟨#[]⟩,.string ⟨#[]⟩] 40 (0,0))):=(hG2.block w.heap.size (lt_of_block X1.out) (by simp;omega)).trans X1.out
 have G2:Hid (w.grownBy w2 (some rd)):=G1.out.trans hG2
 have R2:Hid (Rd rd a n cap w2):=hR2
 clear hR2 hG2 K2 G1 X1 R1 hc1
 by_cases y0:k2=0
 · subst y0
   go_wp2_with fail
   refine (below_any rd n cap 3 3 a _ rfl (by omega) (by omega) hn (R2.out.keptNone ((Below.refl _ _).alloc (Nat.le_refl _) _))).mono ?_
   rintro e w3 ⟨k3,hk3,rfl,hR3,hG3⟩
   have hrd2:rd<w2.heap.size:=R2.out.lt
   obtain⟨tt,htt,hc3⟩:=tabB_any (m:=56) (k:=k3) hrd2 hG3 (by decide +kernel) hk3
   have X3:Hid (w3.heap[w.heap.size]? = some (.cells #[.int .i64 0,.string ⟨#[]⟩,.string ⟨#[]⟩,.string ⟨#[]⟩] 40 (0,0))):=(hG3.block w.heap.size (by have:=lt_of_block X2.out;simp;omega) (by simp;omega)).trans ((Below.heap_alloc _ _ _ (by have:=lt_of_block X2.out;omega)).trans X2.out)
   have G3:Hid (w.grownBy w3 (some rd)):=G2.out.trans ((World.grownBy_alloc w2 _ (some rd)).trans hG3)
   have hk3':(k3:Int)<3:=by omega
   have HTT:Hid (tt.length≤56):=htt
   have hsz:w.heap.size≤w.heap.size:=Nat.le_refl _
   have FX:Hid (((((w3.setCell ⟨w.heap.size,0,none⟩ (.int .i64 2)).setCell ⟨w.heap.size,1,none⟩ (.string ⟨nm.toArray⟩)).setCell ⟨w.heap.size,2,none⟩ (.string ⟨tt.toArray⟩)).setCell ⟨w.heap.size,3,none⟩ (.string ⟨#[]⟩)).heap[w.heap.size]? = some (.cells #[.int .i64 2,.string ⟨nm.toArray⟩,.string ⟨tt.toArray⟩,.string ⟨#[]⟩] 40 (0,0))):=four_set X3.out
   have FG:Hid (w.grownBy ((((w3.setCell ⟨w.heap.size,0,none⟩ (.int .i64 2)).setCell ⟨w.heap.size,1,none⟩ (.string ⟨nm.toArray⟩)).setCell ⟨w.heap.size,2,none⟩ (.string ⟨tt.toArray⟩)).setCell ⟨w.heap.size,3,none⟩ (.string ⟨#[]⟩)) (some rd)):=grown_set4 G3.out _ _ _ _ _ hsz
   have FR:Hid (Rd rd a n cap ((((w3.setCell ⟨w.heap.size,0,none⟩ (.int .i64 2)).setCell ⟨w.heap.size,1,none⟩ (.string ⟨nm.toArray⟩)).setCell ⟨w.heap.size,2,none⟩ (.string ⟨tt.toArray⟩)).setCell ⟨w.heap.size,3,none⟩ (.string ⟨#[]⟩))):=rd_set4 hR3 _ _ _ _ _ (by omega) HCD.out
   obtain⟨r0,r1,r2,r3,rf⟩:=four_cells X3.out
   have rf0:=rf 0
   have rf1:=rf 1
   have rf2:=rf 2
   have rf3:=rf 3
   clear rf hR3 hG3 G3 X3 R2 G2 X2 htt HCD
   go_wp2
   exact bodyPost_ret (v:=.agg #[.int .i64 2,.string ⟨nm.toArray⟩,.string ⟨tt.toArray⟩,.string ⟨#[]⟩]) (results_cell_row rfl _ _ w.heap.size 40 _ (0,0) _ rfl FX.out Try.underlying40 rfl (by kernel_rfl)) rfl ⟨2,nm,tt,[],HNM.out,HTT.out,by simp,rfl,FR.out,FG.out⟩
 · have y0':((k2:Int) == 0)=false:=by simp only[beq_eq_false_iff_ne,ne_eq];omega
   by_cases y1:k2=1
   · subst y1
     have FX:Hid (((((w2.setCell ⟨w.heap.size,0,none⟩ (.int .i64 3)).setCell ⟨w.heap.size,1,none⟩ (.string ⟨nm.toArray⟩)).setCell ⟨w.heap.size,2,none⟩ (.string ⟨#[]⟩)).setCell ⟨w.heap.size,3,none⟩ (.string ⟨#[]⟩)).heap[w.heap.size]? = some (.cells #[.int .i64 3,.string ⟨nm.toArray⟩,.string ⟨#[]⟩,.string ⟨#[]⟩] 40 (0,0))):=four_set X2.out
     have FG:Hid (w.grownBy ((((w2.setCell ⟨w.heap.size,0,none⟩ (.int .i64 3)).setCell ⟨w.heap.size,1,none⟩ (.string ⟨nm.toArray⟩)).setCell ⟨w.heap.size,2,none⟩ (.string ⟨#[]⟩)).setCell ⟨w.heap.size,3,none⟩ (.string ⟨#[]⟩)) (some rd)):=grown_set4 G2.out _ _ _ _ _ (Nat.le_refl _)
     have FR:Hid (Rd rd a n cap ((((w2.setCell ⟨w.heap.size,0,none⟩ (.int .i64 3)).setCell ⟨w.heap.size,1,none⟩ (.string ⟨nm.toArray⟩)).setCell ⟨w.heap.size,2,none⟩ (.string ⟨#[]⟩)).setCell ⟨w.heap.size,3,none⟩ (.string ⟨#[]⟩))):=rd_set4 R2.out _ _ _ _ _ (by omega) HCD.out
     obtain⟨r0,r1,r2,r3,rf⟩:=four_cells X2.out
     have rf0:=rf 0
     have rf1:=rf 1
     have rf2:=rf 2
     have rf3:=rf 3
     clear rf R2 G2 X2 HCD
     go_wp2
     exact bodyPost_ret (v:=.agg #[.int .i64 3,.string ⟨nm.toArray⟩,.string ⟨#[]⟩,.string ⟨#[]⟩]) (results_cell_row rfl _ _ w.heap.size 40 _ (0,0) _ rfl FX.out Try.underlying40 rfl (by kernel_rfl)) rfl ⟨3,nm,[],[],HNM.out,by simp,by simp,rfl,FR.out,FG.out⟩
   · have y1':((k2:Int) == 1)=false:=by simp only[beq_eq_false_iff_ne,ne_eq];omega
     have K3:=textD_any rd n cap a w2 hn R2.out
     go_wp2_with fail
     refine K3.mono ?_
     rintro e w3 ⟨dd,hdd,rfl,hR3,hG3⟩
     have X3:Hid (w3.heap[w.heap.size]? = some (.cells #[.int .i64 0,.string ⟨#[]⟩,.string ⟨#[]⟩,.string ⟨#[]⟩] 40 (0,0))):=(hG3.block w.heap.size (lt_of_block X2.out) (by simp;omega)).trans X2.out
     have G3:Hid (w.grownBy w3 (some rd)):=G2.out.trans hG3
     have HDD:Hid (dd.length≤56):=hdd
     have FX:Hid (((((w3.setCell ⟨w.heap.size,0,none⟩ (.int .i64 1)).setCell ⟨w.heap.size,1,none⟩ (.string ⟨nm.toArray⟩)).setCell ⟨w.heap.size,2,none⟩ (.string ⟨#[]⟩)).setCell ⟨w.heap.size,3,none⟩ (.string ⟨dd.toArray⟩)).heap[w.heap.size]? = some (.cells #[.int .i64 1,.string ⟨nm.toArray⟩,.string ⟨#[]⟩,.string ⟨dd.toArray⟩] 40 (0,0))):=four_set X3.out
     have FG:Hid (w.grownBy ((((w3.setCell ⟨w.heap.size,0,none⟩ (.int .i64 1)).setCell ⟨w.heap.size,1,none⟩ (.string ⟨nm.toArray⟩)).setCell ⟨w.heap.size,2,none⟩ (.string ⟨#[]⟩)).setCell ⟨w.heap.size,3,none⟩ (.string ⟨dd.toArray⟩)) (some rd)):=grown_set4 G3.out _ _ _ _ _ (Nat.le_refl _)
     have FR:Hid (Rd rd a n cap ((((w3.setCell ⟨w.heap.size,0,none⟩ (.int .i64 1)).setCell ⟨w.heap.size,1,none⟩ (.string ⟨nm.toArray⟩)).setCell ⟨w.heap.size,2,none⟩ (.string ⟨#[]⟩)).setCell ⟨w.heap.size,3,none⟩ (.string ⟨dd.toArray⟩))):=rd_set4 hR3 _ _ _ _ _ (by omega) HCD.out
     obtain⟨r0,r1,r2,r3,rf⟩:=four_cells X3.out
     have rf0:=rf 0
     have rf1:=rf 1
     have rf2:=rf 2
     have rf3:=rf 3
     clear rf hR3 hG3 G3 X3 R2 G2 X2 hdd K3 HCD
     go_wp2
     exact bodyPost_ret (v:=.agg #[.int .i64 1,.string ⟨nm.toArray⟩,.string ⟨#[]⟩,.string ⟨dd.toArray⟩]) (results_cell_row rfl _ _ w.heap.size 40 _ (0,0) _ rfl FX.out Try.underlying40 rfl (by kernel_rfl)) rfl ⟨1,nm,[],dd,HNM.out,by simp,HDD.out,rfl,FR.out,FG.out⟩
end Go.Proofs.Ytlllkdioojjaeaa
