import Derived.Test.YtkagiehbjnfabaaDoorMath2
import Derived.Test.YtkagiehbjnfabaaDoorMathAll
import Derived.Deep.QuietTactic
import Derived.BigQuiet
import Derived.OneCell
import Derived.Test.YtkagiehbjnfabaaDoorSSum
import Derived.Test.YtkagiehbjnfabaaDoorNextX
import Derived.Deep.RegionHeld3
namespace Go.Proofs.YtkagiehbjnfabaaDoor
open Go.RowKit
set_option linter.unusedVariables false
def Rd (rd:Nat) (a:Option Addr) (n cap:Nat) (w:World):Prop :=
 (∃ p:Nat,p≤n∧w.heap[rd]? = some (.cells #[.slice a n cap,.int .i64 (p:Int)] 49 (0,0))) ∧
 (n=0∨∃ cb off,a=some ⟨cb,off,none⟩∧cb≠rd∧cb<w.heap.size∧∀ i,i<n→∃ z:UInt8,w.cell? ⟨cb,off+i,none⟩=some (.int .u8 (z.toNat:Int)))
theorem two_cells {w:World} {b:Nat} {u v:Value} {t:TypeId} (h:w.heap[b]? = some (.cells #[u,v] t (0,0))) :
 w.cell? ⟨b,0,none⟩=some u∧w.cell? ⟨b,1,none⟩=some v∧w.frozen? ⟨b,1,none⟩=false:=by
 refine⟨by simp[World.cell?,h],by simp[World.cell?,h],by simp[World.frozen?,h]⟩
theorem two_set {w:World} {b:Nat} {u v x:Value} {t:TypeId} (h:w.heap[b]? = some (.cells #[u,v] t (0,0))):(w.setCell ⟨b,1,none⟩ x).heap[b]? = some (.cells #[u,x] t (0,0)):=by
 have hlt:=lt_of_block h
 have h':w.heap[b]=.cells #[u,v] t (0,0):=by simpa [Array.getElem?_eq_getElem hlt] using h
 show (w.heap.modify b _)[b]? = _
 rw[Array.getElem?_eq_getElem (by simpa using hlt),Array.getElem_modify_self,h']
 rfl
theorem Rd.code {rd n cap:Nat} {a:Option Addr} {w:World} (h:Rd rd a n cap w):∀ cb off,a=some ⟨cb,off,none⟩→n≠0→cb<w.heap.size:=by
 intro cb off ha hn
 rcases h.2 with h0 | ⟨cb',off',ha',_,hlt,_⟩
 · exact absurd h0 hn
 · rw[ha] at ha'
   simp only[Option.some.injEq,Addr.mk.injEq,and_true] at ha'
   rw[ha'.1];exact hlt
theorem Rd.kept {rd n cap:Nat} {a:Option Addr} {w w':World} {row:Option Nat} (h:Rd rd a n cap w) (hg:w.grownBy w' row) (hr:row≠some rd) (hc:∀ cb off,a=some ⟨cb,off,none⟩→n≠0→some cb≠row):Rd rd a n cap w':=by
 obtain⟨⟨p,hp,hb⟩,hz⟩:=h
 refine⟨⟨p,hp,by rw[hg.block rd (lt_of_block hb) (fun e=>hr e.symm)];exact hb⟩,?_⟩
 by_cases hn:n=0
 · exact .inl hn
 · rcases hz with h0 | ⟨cb,off,ha,hne,hlt,hcell⟩
   · exact .inl h0
   · refine .inr ⟨cb,off,ha,hne,Nat.lt_of_lt_of_le hlt hg.size,fun i hi=>?_⟩
     obtain⟨z,hz⟩:=hcell i hi
     refine⟨z,?_⟩
     rw[hg.cell_far ⟨cb,off+i,none⟩ hlt (hc cb off ha hn)]
     exact hz
theorem Rd.keptNone {rd n cap:Nat} {a:Option Addr} {w w':World} (h:Rd rd a n cap w) (hb:Below w.heap.size w w'):Rd rd a n cap w' :=
 h.kept (row:=none) ⟨hb.os,hb.tape,hb.output,hb.size,fun k hk _=>hb.block k hk⟩ (by simp) (by simp)
theorem Rd.lt {rd n cap:Nat} {a:Option Addr} {w:World} (h:Rd rd a n cap w):rd<w.heap.size:=lt_of_block h.1.choose_spec.2
theorem grown_more {w w1 w2:World} {row row':Option Nat} (h:w.grownBy w1 row) (k:w1.grownBy w2 row') (hr:∀ j,row'=some j→w.heap.size≤j∨row=some j):w.grownBy w2 row :=
 ⟨k.os.trans h.os, k.tape.trans h.tape, k.output.trans h.output, Nat.le_trans h.size k.size, fun i hi hn => by
  rw[k.block i (Nat.lt_of_lt_of_le hi h.size) (fun e=>by rcases hr i e.symm with h' | h';omega;exact hn h'.symm)];exact h.block i hi hn⟩
theorem grown_drewN2 {w w':World} {row:Option Nat} (h:w.grownBy w' row) (q:Nat):w.grownBy (w'.drewN q) row:=⟨h.os,h.tape,h.output,h.size,h.block⟩
set_option maxRecDepth 100000 in
set_option maxHeartbeats 400000 in
theorem next_any (rd n cap:Nat) (a:Option Addr) (w:World) (hn:n≤1048576) (h:Rd rd a n cap w) :
 Calls Tryd.prog 21 #[.pointer (some ⟨rd,0,none⟩)] w fun e w'=>∃ x:Nat,x≤255∧e=.returned (.int .i64 (x:Int))∧Rd rd a n cap w'∧w.grownBy w' (some rd):=by
 have h0:=h
 obtain⟨⟨p,hp,hb⟩,hz⟩:=h
 obtain⟨c0,c1,f1⟩:=two_cells hb
 by_cases hlt:p<n
 · have hlt':(p:Int)<(n:Int):=by omega
   rcases hz with rfl | ⟨cb,off,rfl,hne,hcl,hcell⟩
   · omega
   · obtain⟨z,hzc⟩:=hcell p hlt
     have hzl:=z.toNat_lt
     have hb2:=two_set (x:=.int .i64 ((p:Int)+1)) hb
     obtain⟨d0,d1,_⟩:=two_cells hb2
     have d2:(w.setCell ⟨rd,1,none⟩ (.int .i64 ((p:Int)+1))).cell? ⟨cb,off+p,none⟩=some (.int .u8 (z.toNat:Int)):=by
      rw[World.cell?_of_block (w:=w) (Below.heap_setCell _ _ _ _ (by simpa using hne))];exact hzc
     have HG:w.grownBy (w.setCell ⟨rd,1,none⟩ (.int .i64 ((p:Int)+1))) (some rd):=⟨rfl,rfl,rfl,by simp[World.setCell],fun k _ hk=>Below.heap_setCell _ _ _ _ (fun e=>hk (by rw[e]))⟩
     have HR:Hid (Rd rd (some ⟨cb,off,none⟩) n cap (w.setCell ⟨rd,1,none⟩ (.int .i64 ((p:Int)+1)))):=by
      refine⟨⟨p+1,by omega,hb2⟩,.inr ⟨cb,off,rfl,hne,by simpa [World.setCell] using hcl,fun i hi=>?_⟩⟩
      obtain⟨y,hy⟩:=hcell i hi
      exact⟨y,by rw[World.cell?_of_block (w:=w) (Below.heap_setCell _ _ _ _ (by simpa using hne))];exact hy⟩
     have HGG:Hid (w.grownBy (w.setCell ⟨rd,1,none⟩ (.int .i64 ((p:Int)+1))) (some rd)):=HG
     clear hb hb2 hcell h0 HG
     go_enter Tryd.func21,Tryd.ntmps21
     go_wp2
     go_quiet (fail)
     go_wp2
     go_quiet (fail)
     go_wp2
     go_ret
     exact⟨z.toNat,by omega,rfl,HR.out,HGG.out.os,HGG.out.tape,HGG.out.output,HGG.out.size,HGG.out.block⟩
 · have hlt':¬ (p:Int)<(n:Int):=by omega
   have HR:Hid (Rd rd a n cap w):=h0
   clear h0 hz hb
   go_enter Tryd.func21,Tryd.ntmps21
   go_wp2
   go_quiet (fail)
   go_wp2
   go_ret
   exact⟨0,by omega,rfl,HR.out,rfl,rfl,rfl,Nat.le_refl _,fun _ _ _=>rfl⟩
set_option maxRecDepth 100000 in
set_option maxHeartbeats 400000 in
theorem below_any (rd n cap m:Nat) (x:Int) (a:Option Addr) (w:World) (hx:x=(m:Int)) (hm:2≤m) (hm2:m≤256) (hn:n≤1048576) (h:Rd rd a n cap w) :
 Calls Tryd.prog 10 #[.pointer (some ⟨rd,0,none⟩),.int .i64 x] w fun e w'=>∃ x:Nat,x<m∧e=.returned (.int .i64 (x:Int))∧Rd rd a n cap w'∧w.grownBy w' (some rd):=by
 subst hx
 have HK:=next_any rd n cap a w hn h
 have h1:¬ (m:Int)≤1:=by omega
 have h2:(m:Int)≤256:=by omega
 clear h
 go_enter Tryd.func10,Tryd.ntmps10
 go_wp2_with fail
 refine HK.mono ?_
 rintro e w1 ⟨y,hy,rfl,hR,hG⟩
 have HR:Hid (Rd rd a n cap w1):=hR
 have HG:Hid (w.grownBy w1 (some rd)):=hG
 clear hR hG HK
 go_wp2
 go_ret
 exact⟨y % m,Nat.mod_lt _ (by omega),by simp,HR.out,HG.out⟩
set_option maxRecDepth 100000 in
set_option maxHeartbeats 400000 in
theorem once_any (rd n cap m:Nat) (x:Int) (a:Option Addr) (w:World) (hx:x=(m:Int)) (hm:2≤m) (hm2:m≤256) (hn:n≤1048576) (h:Rd rd a n cap w) :
 Calls Tryd.prog 27 #[.pointer (some ⟨rd,0,none⟩),.int .i64 x] w fun e w'=>∃ t:Bool,e=.returned (.bool t)∧Rd rd a n cap w'∧w.grownBy w' (some rd):=by
 subst hx
 have HK:=below_any rd n cap m m a w rfl hm hm2 hn h
 clear h
 go_enter Tryd.func27,Tryd.ntmps27
 go_wp2_with fail
 refine HK.mono ?_
 rintro e w1 ⟨y,hy,rfl,hR,hG⟩
 have HR:Hid (Rd rd a n cap w1):=hR
 have HG:Hid (w.grownBy w1 (some rd)):=hG
 clear hR hG HK
 go_wp2
 go_ret
 exact⟨_,rfl,HR.out,HG.out⟩
theorem ba_app2 (a b:List UInt8):ByteArray.mk a.toArray ++ ByteArray.mk b.toArray=⟨(a ++ b).toArray⟩:=by
 apply ByteArray.ext;simp
def Code (w:World) (a:Option Addr) (n:Nat):Prop:=n=0∨∃ cb off,a=some ⟨cb,off,none⟩∧cb<w.heap.size∧∀ i,i<n→∃ z:UInt8,w.cell? ⟨cb,off+i,none⟩=some (.int .u8 (z.toNat:Int))
theorem Code.later {w w':World} {a:Option Addr} {n:Nat} (h:Code w a n) (hb:Below w.heap.size w w'):Code w' a n:=by
 rcases h with h | ⟨cb,off,h1,h2,h3⟩
 · exact .inl h
 · exact .inr ⟨cb,off,h1,Nat.lt_of_lt_of_le h2 hb.size,fun i hi=>by obtain⟨z,hz⟩:=h3 i hi;exact⟨z,by rw[hb.cell (p:=⟨cb,off+i,none⟩) h2];exact hz⟩⟩
set_option maxRecDepth 100000 in
set_option maxHeartbeats 400000 in
theorem open_any (n cap:Nat) (a:Option Addr) (w:World) (h:Code w a n) :
 Calls Tryd.prog 9 #[.slice a n cap] w fun e w'=>e=.returned (.pointer (some ⟨w.heap.size,0,none⟩))∧Rd w.heap.size a n cap w'∧Below w.heap.size w w':=by
 have HR:Hid (Rd w.heap.size a n cap (w.alloc (.cells #[.slice a n cap,.int .i64 0] 49))):=by
  refine⟨⟨0,Nat.zero_le _,heap_alloc_new w _⟩,?_⟩
  rcases h with h | ⟨cb,off,h1,h2,h3⟩
  · exact .inl h
  · exact .inr ⟨cb,off,h1,by omega,by simp;omega,fun i hi=>by obtain⟨z,hz⟩:=h3 i hi;exact⟨z,by rw[World.cell?_of_block (w:=w) (Below.heap_alloc _ _ _ h2)];exact hz⟩⟩
 clear h
 go_enter Tryd.func9,Tryd.ntmps9
 go_wp2
 go_ret
 exact⟨rfl,HR.out,(Below.refl _ _).alloc (Nat.le_refl _) _⟩
theorem below_rd {w w1 w2:World} (h:Below w.heap.size w w1) (hg:w1.grownBy w2 (some w.heap.size)):Below w.heap.size w w2 :=
 h.grown hg h.size (fun k hk=>by simp at hk;omega)
def shortV (m:Nat):Value→Bool
 | .string s=>decide (s.size≤m)
 | _=>false
theorem short_is (m:Nat) (v:Value) (h:shortV m v=true):∃ l:List UInt8,l.length≤m∧v=.string ⟨l.toArray⟩:=by
 match v,h with
 | .string s,h=>exact⟨s.data.toList,by simpa [shortV] using h,by rw[←ba_eq]⟩
theorem tab_any {w w1:World} {rd m k:Nat} {cs:Array Value} {t:TypeId} (hrd:rd<w.heap.size) (hG:(w.alloc (.cells cs t)).grownBy w1 (some rd)) (hall:cs.all (shortV m)=true) (hk:k<cs.size) :
 ∃ l:List UInt8,l.length≤m∧w1.cell? ⟨w.heap.size,k,none⟩=some (.string ⟨l.toArray⟩):=by
 have hb:w1.heap[w.heap.size]? = some (.cells cs t):=by rw[hG.block _ (by simp) (by simp;omega)];exact heap_alloc_new w _
 have hv:=(Array.all_eq_true.1 hall) k hk
 obtain⟨l,hl,e⟩:=short_is m _ hv
 refine⟨l,hl,?_⟩
 rw[←e]
 simp[World.cell?,hb,hk]
set_option maxRecDepth 100000 in
set_option maxHeartbeats 400000 in
theorem text_any (rd n cap:Nat) (a:Option Addr) (w:World) (hn:n≤1048576) (h:Rd rd a n cap w) :
 Calls Tryd.prog 12 #[.pointer (some ⟨rd,0,none⟩)] w fun e w'=>∃ l:List UInt8,l.length≤56∧e=.returned (.string ⟨l.toArray⟩)∧Rd rd a n cap w'∧w.grownBy w' (some rd):=by
 have hrd:=h.lt
 have HR0:Hid (Rd rd a n cap w):=h
 clear h
 go_enter Tryd.func12,Tryd.ntmps12
 go_wp2_with fail
 refine (below_any rd n cap 12 12 a _ rfl (by omega) (by omega) hn (HR0.out.keptNone ((Below.refl _ _).alloc (Nat.le_refl _) _))).mono ?_
 rintro e w1 ⟨k,hk,rfl,hR,hG⟩
 obtain⟨l,hl,hc⟩:=tab_any (m:=56) (k:=k) hrd hG (by decide +kernel) hk
 have HR:Hid (Rd rd a n cap w1):=hR
 have HG:Hid (w.grownBy w1 (some rd)):=(World.grownBy_alloc w _ (some rd)).trans hG
 have hk':(k:Int)<12:=by omega
 clear hR hG HR0
 go_wp2
 go_ret
 exact⟨l,hl,rfl,HR.out,HG.out⟩
theorem bigNo (n cap:Nat) (a:Option Addr) (w:World) (h:n≤1048576) :
 Calls Tryd.prog 4 #[.slice a n cap] w fun e w'=>e=.returned (.bool false)∧w'=w:=by
 have h':¬ (1048576:Int)<(n:Int):=by omega
 go_enter Tryd.func4,Tryd.ntmps4
 go_wp2
 go_ret
 exact⟨by simp,rfl⟩
theorem bigYes (n cap:Nat) (a:Option Addr) (w:World) (h:¬ n≤1048576) :
 Calls Tryd.prog 4 #[.slice a n cap] w fun e w'=>e=.returned (.bool true)∧w'=w:=by
 have h':(1048576:Int)<(n:Int):=by omega
 go_enter Tryd.func4,Tryd.ntmps4
 go_wp2
 go_ret
 exact⟨by simp,rfl⟩
theorem codeOf (W:World) (x:Addr) (len cap:Nat) (zs:List Int) (hl:len≤cap) (hz:zs.length=cap) (hcell:∀ i,i<zs.length→W.cell? (x.add i)=some (.int .u8 (zs.getD i 0))) (hwz:∀ n∈zs,(Lit.int .u8 n).wf=true):Code W (some x) len:=by
 by_cases h0:len=0
 · exact .inl h0
 · obtain⟨b,o,sp⟩:=x
   have h00:=hcell 0 (by omega)
   have hsp:sp=none:=World.cell?_spot (a:=⟨b,o,sp⟩) (by simpa [Addr.add] using h00)
   subst hsp
   have hlt:b<W.heap.size:=by
    rcases Nat.lt_or_ge b W.heap.size with h | h
    · exact h
    · simp[Addr.add,World.cell?,Array.getElem?_eq_none h] at h00
   refine .inr ⟨b,o,rfl,hlt,fun i hi=>?_⟩
   have hc:=hcell i (by omega)
   have ha:(Addr.add ⟨b,o,none⟩ i)=⟨b,o+i,none⟩:=by unfold Addr.add;split <;> simp_all
   rw[ha] at hc
   have hi':i<zs.length:=by omega
   have hm:zs.getD i 0∈zs:=by simp[List.getD,List.getElem?_eq_getElem hi']
   have hwf:=hwz _ hm
   obtain⟨z,hz⟩:∃ z,z=zs.getD i 0:=⟨_,rfl⟩
   rw[←hz] at hc hwf
   have hr:0≤z∧z≤255:=by simp only[Lit.wf,Bool.and_eq_true,decide_eq_true_eq] at hwf;exact hwf
   refine⟨UInt8.ofNat z.toNat,?_⟩
   rw[byte_of,hc]
   congr 2
   omega
theorem results_tmp4 {fn:Func} {t u v x:Tmp} (h:fn.results=#[.tmp t,.tmp u,.tmp v,.tmp x]) (tmps:Array Value) (P:Program) (w:World) :
 (results fn tmps).run P w=.ok (.tuple #[tmps.getD t undef,tmps.getD u undef,tmps.getD v undef,tmps.getD x undef]) w:=by
 simp[results,h]
set_option maxRecDepth 100000 in
theorem below_one (rd:Nat) (w:World) :
 Calls Tryd.prog 10 #[.pointer (some ⟨rd,0,none⟩),.int .i64 1] w fun e w'=>e=.returned (.int .i64 0)∧w'=w:=by
 go_enter Tryd.func10,Tryd.ntmps10
 go_wp2
 go_ret
 exact⟨rfl,rfl⟩
set_option maxRecDepth 100000 in
set_option maxHeartbeats 400000 in
theorem word_any (rd n cap:Nat) (a:Option Addr) (w:World) (hn:n≤1048576) (h:Rd rd a n cap w) :
 Calls Tryd.prog 54 #[.pointer (some ⟨rd,0,none⟩)] w fun e w'=>∃ x:Int,e=.returned (.int .u64 x)∧Rd rd a n cap w'∧w.grownBy w' (some rd):=by
 go_enter Tryd.func54,Tryd.ntmps54
 go_wp2
 go_loopw [3,4] (fun v i wr=>∃ j:Nat,∃ x:Int,j≤8∧i=.int .i64 (j:Int)∧v=.int .u64 x∧Rd rd a n cap wr∧w.grownBy wr (some rd)) (fun _ i _=>8 - (intOf i).toNat)
 case atStart=>exact⟨0,0,by omega,rfl,rfl,h,World.grownBy.refl _ _⟩
 case round =>
  obtain⟨j,x,hj,rfl,rfl,hRr,hgr⟩:=hrel
  clear h
  by_cases hlt:j<8
  · have hlt':(j:Int)<8:=by omega
    have K:=next_any rd n cap a wr hn hRr
    have HG:Hid (w.grownBy wr (some rd)):=hgr
    clear hRr hgr
    go_wp2_with fail
    refine K.mono ?_
    rintro e w1 ⟨y,hy,rfl,hR1,hG1⟩
    have HR1:Hid (Rd rd a n cap w1):=hR1
    have HG1:Hid (w.grownBy w1 (some rd)):=grown_more HG.out hG1 (by simp)
    clear K hR1 hG1 HG
    go_wp2
    go_roundw
    case rel=>exact⟨j+1,_,by omega,by go_num,rfl,HR1.out,HG1.out⟩
    case measure=>simp[intOf];omega
  · have HRr:Hid (Rd rd a n cap wr):=hRr
    have HG:Hid (w.grownBy wr (some rd)):=hgr
    clear hRr hgr
    go_wp2
    go_ret
    exact⟨x,rfl,HRr.out,HG.out⟩
set_option maxRecDepth 100000 in
set_option maxHeartbeats 400000 in
theorem near_any (rd n cap hi:Nat) (x:Int) (a:Option Addr) (w:World) (hx:x=(hi:Int)) (hh:hi≤1000) (hn:n≤1048576) (h:Rd rd a n cap w) :
 Calls Tryd.prog 39 #[.pointer (some ⟨rd,0,none⟩),.int .i64 0,.int .i64 x] w fun e w'=>∃ x:Int,e=.returned (.int .i64 x)∧Rd rd a n cap w'∧w.grownBy w' (some rd):=by
 subst hx
 have K1:=below_any rd n cap 8 8 a w rfl (by omega) (by omega) hn h
 clear h
 go_enter Tryd.func39,Tryd.ntmps39
 go_wp2_with fail
 refine K1.mono ?_
 rintro e w1 ⟨y,hy,rfl,hR1,hG1⟩
 have HR1:Hid (Rd rd a n cap w1):=hR1
 have HG1:Hid (w.grownBy w1 (some rd)):=hG1
 clear K1 hR1 hG1
 by_cases y0:y=0
 · subst y0
   go_wp2
   go_ret
   exact⟨_,rfl,HR1.out,HG1.out⟩
 · have y0':((y:Int) == 0)=false:=by simp only[beq_eq_false_iff_ne,ne_eq];omega
   by_cases y1:y=1
   · subst y1
     go_wp2
     go_ret
     exact⟨_,rfl,HR1.out,HG1.out⟩
   · have y1':((y:Int) == 1)=false:=by simp only[beq_eq_false_iff_ne,ne_eq];omega
     have K2:=word_any rd n cap a w1 hn HR1.out
     have hp:¬ (hi:Int)<0:=by omega
     have hp1:(hi:Int)+1≠0:=by omega
     clear HR1
     go_wp2_with fail
     refine K2.mono ?_
     rintro e w2 ⟨z,rfl,hR2,hG2⟩
     have HR2:Hid (Rd rd a n cap w2):=hR2
     have HG2:Hid (w.grownBy w2 (some rd)):=grown_more HG1.out hG2 (by simp)
     clear K2 hR2 hG2 HG1
     go_wp2
     go_ret
     exact⟨_,rfl,HR2.out,HG2.out⟩
def isI64:Value→Bool
 | .int .i64 _=>true
 | _=>false
theorem isI64_is (v:Value) (h:isI64 v=true):∃ x,v=.int .i64 x:=by
 match v,h with
 | .int .i64 x,_=>exact⟨x,rfl⟩
theorem tabI_any {w w1:World} {rd k:Nat} {cs:Array Value} {t:TypeId} (hrd:rd<w.heap.size) (hG:(w.alloc (.cells cs t)).grownBy w1 (some rd)) (hall:cs.all isI64=true) (hk:k<cs.size) :
 ∃ x:Int,w1.cell? ⟨w.heap.size,k,none⟩=some (.int .i64 x):=by
 have hb:w1.heap[w.heap.size]? = some (.cells cs t):=by rw[hG.block _ (by simp) (by simp;omega)];exact heap_alloc_new w _
 have hv:=(Array.all_eq_true.1 hall) k hk
 obtain⟨x,e⟩:=isI64_is _ hv
 refine⟨x,?_⟩
 rw[←e]
 simp[World.cell?,hb,hk]
set_option maxRecDepth 100000 in
set_option maxHeartbeats 400000 in
theorem off_any (rd n cap hi:Nat) (x:Int) (a:Option Addr) (w:World) (hx:x=(hi:Int)) (hh:hi≤1000) (hn:n≤1048576) (h:Rd rd a n cap w) :
 Calls Tryd.prog 29 #[.pointer (some ⟨rd,0,none⟩),.int .i64 0,.int .i64 x] w fun e w'=>∃ x:Int,e=.returned (.int .i64 x)∧Rd rd a n cap w'∧w.grownBy w' (some rd):=by
 subst hx
 have K1:=once_any rd n cap 24 24 a w rfl (by omega) (by omega) hn h
 clear h
 go_enter Tryd.func29,Tryd.ntmps29
 go_wp2_with fail
 refine K1.mono ?_
 rintro e w1 ⟨t,rfl,hR1,hG1⟩
 have HR1:Hid (Rd rd a n cap w1):=hR1
 have HG1:Hid (w.grownBy w1 (some rd)):=hG1
 have hrd:=hR1.lt
 clear K1 hR1 hG1
 cases t
 · have K2:=near_any rd n cap hi hi a w1 rfl hh hn HR1.out
   clear HR1
   go_wp2_with fail
   refine K2.mono ?_
   rintro e w2 ⟨z,rfl,hR2,hG2⟩
   have HR2:Hid (Rd rd a n cap w2):=hR2
   have HG2:Hid (w.grownBy w2 (some rd)):=grown_more HG1.out hG2 (by simp)
   clear K2 hR2 hG2 HG1
   go_wp2
   go_ret
   exact⟨z,rfl,HR2.out,HG2.out⟩
 · go_wp2_with fail
   refine (below_any rd n cap 4 4 a _ rfl (by omega) (by omega) hn (HR1.out.keptNone ((Below.refl _ _).alloc (Nat.le_refl _) _))).mono ?_
   rintro e w2 ⟨k,hk,rfl,hR2,hG2⟩
   obtain⟨z,hc⟩:=tabI_any (k:=k) hrd hG2 (by simp[isI64]) (by simpa using hk)
   have HR2:Hid (Rd rd a n cap w2):=hR2
   have HG2:Hid (w.grownBy w2 (some rd)):=grown_more HG1.out ((World.grownBy_alloc w1 _ (some rd)).trans hG2) (by simp)
   have hk':(k:Int)<4:=by omega
   have hk0:(0:Int)≤(k:Int):=by omega
   clear hR2 hG2 HG1 HR1
   go_wp2
   go_ret
   exact⟨z,rfl,HR2.out,HG2.out⟩
theorem grown_new {w w1:World} {row:Option Nat} (h:w.grownBy w1 row) {p:Addr} (hp:w.heap.size≤p.block) (u:Value):w.grownBy (w1.setCell p u) row :=
 ⟨h.os,h.tape,h.output,by simpa [World.setCell] using h.size,fun k hk hne=>(Below.heap_setCell _ _ _ _ (by omega)).trans (h.block k hk hne)⟩
theorem grown_alloc {w w1:World} {row:Option Nat} (h:w.grownBy w1 row) (o:Obj):w.grownBy (w1.alloc o) row :=
 ⟨h.os,h.tape,h.output,by have:=h.size;simp;omega,fun k hk hne=>(Below.heap_alloc _ _ _ (by have:=h.size;omega)).trans (h.block k hk hne)⟩
theorem rd_set {rd n cap:Nat} {a:Option Addr} {w:World} (h:Rd rd a n cap w) {p:Addr} (hp:p.block≠rd) (hc:∀ cb off,a=some ⟨cb,off,none⟩→n≠0→cb≠p.block) (u:Value):Rd rd a n cap (w.setCell p u) :=
 h.kept (row:=some p.block) ⟨rfl,rfl,rfl,by simp[World.setCell],fun k hk hne=>Below.heap_setCell _ _ _ _ (fun e=>hne (by rw[e]))⟩ (by simpa using hp) (fun cb off h1 h2=>by simpa using hc cb off h1 h2)
theorem duo_set_cellN {w:World} {b i j:Nat} {x y:Value} {a:Addr} (h:a.block≠b):((w.setCell ⟨b,i,none⟩ x).setCell ⟨b,j,none⟩ y).cell? a=w.cell? a :=
 World.cell?_of_block ((Below.heap_setCell _ _ _ _ (by simpa using h)).trans (Below.heap_setCell _ _ _ _ (by simpa using h)))
theorem results_cs {P:Program} {fn:Func} {p r:Tmp} {ty:TypeId} (h:fn.results=#[.cell p ty,.tmp r]) (tmps:Array Value) (w:World) (g:Nat) (t:TypeId) (cs:Array Value) (d:TypeDesc)
 (hp:tmps.getD p undef=.pointer (some ⟨g,0,none⟩)) (hg:w.heap[g]? = some (.cells cs t (0,0))) (hu:P.underlying ty=some d) (hd:(match d with | .struct _ | .array _ _=>true | _=>false)=true) (hi:(P.info? ty).map (·.size)=some cs.size) (vb:Value) (hb:tmps.getD r undef=vb) :
 (results fn tmps).run P w=.ok (.tuple #[.agg cs,vb]) w:=by
 subst hb
 have hp':tmps[p]?.getD undef=.pointer (some ⟨g,0,none⟩):=by simpa using hp
 simp[results,h,hp',asAddr,run_loadVar_row w g t ty cs (0,0) d hg hu hd hi]
end Go.Proofs.YtkagiehbjnfabaaDoor
