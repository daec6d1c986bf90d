/-
 Contracts: readBy and ReadAt of the program (written by mkrdi.py).
-/
import Derived.Test.YtllmclmcncolcaaGreatDoorClis
import Derived.Test.YtllmclmcncolcaaGreatDoorCert
import Derived.Test.YtllmclmcncolcaaGreatDoorIChks
namespace Go.Proofs.YtllmclmcncolcaaGreatDoor
open Go.RowKit
set_option linter.unusedVariables false
structure Errs4 (w:World) (e0 e1 e2 e3:Addr):Prop where
 g0:w.cell? ⟨0,0,none⟩=some (.iface 203 (.pointer (some e0)))
 g1:w.cell? ⟨1,0,none⟩=some (.iface 203 (.pointer (some e1)))
 g2:w.cell? ⟨2,0,none⟩=some (.iface 203 (.pointer (some e2)))
 g3:w.cell? ⟨3,0,none⟩=some (.iface 203 (.pointer (some e3)))
 r0:∃ cs t,w.heap[e0.block]? = some (.cells cs t (0,0))
 r1:∃ cs t,w.heap[e1.block]? = some (.cells cs t (0,0))
 r2:∃ cs t,w.heap[e2.block]? = some (.cells cs t (0,0))
 r3:∃ cs t,w.heap[e3.block]? = some (.cells cs t (0,0))
 n1:e1≠e0
 n2:e2≠e0
 n3:e3≠e0
 gt:w.cell? ⟨4,0,none⟩=some (.iface 132 (.agg #[.pointer (some ⟨7,54,none⟩)]))
theorem Errs4.later {w w':World} {e0 e1 e2 e3:Addr} (h:Errs4 w e0 e1 e2 e3) (hb:Below w.heap.size w w'):Errs4 w' e0 e1 e2 e3:=by
 obtain⟨g0,g1,g2,g3,⟨c0,t0,r0⟩,⟨c1,t1,r1⟩,⟨c2,t2,r2⟩,⟨c3,t3,r3⟩,n1,n2,n3,gt⟩:=h
 have f:∀ {p:Addr} {v:Value},w.cell? p=some v→w'.cell? p=some v:=fun h=>(hb.cell (World.block_lt_of_cell? w _ h)).trans h
 have g:∀ {q:Nat} {o:Obj},w.heap[q]? = some o→w'.heap[q]? = some o:=fun h=>(hb.block _ (lt_of_block h)).trans h
 exact⟨f g0,f g1,f g2,f g3,⟨c0,t0,g r0⟩,⟨c1,t1,g r1⟩,⟨c2,t2,g r2⟩,⟨c3,t3,g r3⟩,n1,n2,n3,f gt⟩
noncomputable def rdCode (ks:List (List UInt8)) (sn nx n:Int) (root:List UInt8) (vs:List VoteV) (key:List UInt8) (ts:List (List UInt8)):Nat × Int × List UInt8 :=
 if clientOk ks sn nx=false then (1,0,[]) else if certOk ks n root vs=false then (2,0,[]) else if n<sn then (3,1,[]) else if (chkR root key ts).1=2 then (0,3,(chkR root key ts).2) else if (chkR root key ts).1=1 then (0,2,[]) else (4,0,[])
def RbPost (w w':World) (e:Ending) (e0 e1 e2 e3:Addr) (r:Nat × Int × List UInt8):Prop :=
 (r.1=0∧e=.returned (.tuple #[.int .i64 r.2.1,.string ⟨r.2.2.toArray⟩,.nilIface])∧Below w.heap.size w w') ∨
 ∃ er,((r.1=1∧er=e0)∨(r.1=2∧er=e1)∨(r.1=3∧er=e2)∨(r.1=4∧er=e3))∧e=.returned (.tuple #[.int .i64 0,.string ⟨#[]⟩,.iface 59 (.agg #[.int .i64 r.2.1,.iface 203 (.pointer (some er))])])∧Below w.heap.size w w'
set_option maxRecDepth 100000 in
set_option maxHeartbeats 4000000 in
theorem impl_readBy (a : Option Addr) (cap : Nat) (ks : List (List UInt8)) (sn nx n : Int) (root : List UInt8) (b : Option Addr) (cb : Nat) (vs : List VoteV) (key : List UInt8) (bp : Option Addr) (cp : Nat) (ts : List (List UInt8)) (w : World) (e0 e1 e2 e3 : Addr) (hE : Errs4 w e0 e1 e2 e3) (hT : Tab w) (hl : ks.length ≤ 1048576) (hm : ∀ l ∈ ks, l.length ≤ 1048576) (hs : IsStrs w a ks) (hr : root.length ≤ 1048576) (hvl : vs.length ≤ 1048576) (hvm : ∀ v ∈ vs, smallV v ∧ (∀ l ∈ v.os, l.length ≤ 1048576) ∧ (∀ l ∈ v.ps, l.length ≤ 1048576)) (hv : IsVotes w b vs) (hk : key.length ≤ 1048576) (htl : ts.length ≤ 1048576) (htm : ∀ l ∈ ts, l.length ≤ 1048576) (hts : IsStrs w bp ts) (hcp : ts.length ≤ cp) :
 Calls Tryz.prog 25 #[.agg #[.slice a ks.length cap,.int .i64 sn,.int .i64 nx],.agg #[.int .i64 n,.string ⟨root.toArray⟩,.slice b vs.length cb],.string ⟨key.toArray⟩,.slice bp ts.length cp] w fun e w'=>RbPost w w' e e0 e1 e2 e3 (rdCode ks sn nx n root vs key ts):=by
 obtain⟨wa,hwa⟩:∃ wa,wa=((w.alloc (.cells #[.slice a ks.length cap,.int .i64 sn,.int .i64 nx] 31)).alloc (.cells #[.int .i64 n,.string ⟨root.toArray⟩,.slice b vs.length cb] 37)):=⟨_,rfl⟩
 have B0:Below w.heap.size w wa:=by rw[hwa];exact ((Below.refl _ _).alloc (Nat.le_refl _) _).alloc (by simp) _
 have H0:Hid (wa.heap[w.heap.size]? = some (.cells #[.slice a ks.length cap,.int .i64 sn,.int .i64 nx] 31 (0,0))):=by rw[hwa,Hid,Below.heap_alloc _ _ _ (by simp)];exact heap_alloc_new w _
 have R0:Hid (wa.heap[w.heap.size+1]? = some (.cells #[.int .i64 n,.string ⟨root.toArray⟩,.slice b vs.length cb] 37 (0,0))):=by
  rw[hwa,Hid]
  have:=heap_alloc_new (w.alloc (.cells #[.slice a ks.length cap,.int .i64 sn,.int .i64 nx] 31)) (.cells #[.int .i64 n,.string ⟨root.toArray⟩,.slice b vs.length cb] 37)
  simpa using this
 obtain⟨p0,p1,p2,_⟩:=cli_cells H0.out
 have K1:=impl_clientOk a cap ks sn nx wa hl hm (strs_later hs B0)
 have HK2:Hid (∀ W,Below w.heap.size w W→_):=fun W hW=>impl_certOk a cap ks n root b cb vs W hl hm hr hvl hvm (strs_later hs hW) (hv.later hW) (hT.later hW)
 have HK3:Hid (∀ W,Below w.heap.size w W→_):=fun W hW=>impl_checkProof root key bp cp ts W (hT.later hW) hcp hr hk htl htm (strs_later hts hW)
 have HE:Hid (Errs4 w e0 e1 e2 e3):=hE
 obtain⟨rr,hrr⟩:∃ x,x=rdCode ks sn nx n root vs key ts:=⟨_,rfl⟩
 have HR0:Hid (rr=if clientOk ks sn nx=false then (1,0,[]) else if certOk ks n root vs=false then (2,0,[]) else if n<sn then (3,1,[]) else if (chkR root key ts).1=2 then (0,3,(chkR root key ts).2) else if (chkR root key ts).1=1 then (0,2,[]) else (4,0,[])):=hrr
 rw[←hrr]
 obtain⟨ck,hck⟩:∃ x,x=clientOk ks sn nx:=⟨_,rfl⟩
 rw[←hck] at HR0 K1
 obtain⟨bk,hbk⟩:∃ x,x=certOk ks n root vs:=⟨_,rfl⟩
 rw[←hbk] at HR0 HK2
 obtain⟨⟨pc,pv⟩,hpr⟩:∃ x,x=chkR root key ts:=⟨_,rfl⟩
 rw[←hpr] at HR0 HK3
 dsimp only at HR0 HK3
 clear hrr hck hbk hpr hs hm hvm hv htm hts hE hT hl hr hvl hk htl hcp
 rw[hwa] at K1 p0 p1 p2
 go_enter Tryz.func25,Tryz.ntmps25
 go_wp2_with fail
 refine K1.mono ?_
 rintro e w1 ⟨rfl,b1⟩
 rw[←hwa] at b1
 have B1:Hid (Below w.heap.size w w1):=B0.trans (b1.mono B0.size)
 have H1:Hid (w1.heap[w.heap.size]? = some (.cells #[.slice a ks.length cap,.int .i64 sn,.int .i64 nx] 31 (0,0))):=(b1.block _ (lt_of_block H0.out)).trans H0.out
 have R1:Hid (w1.heap[w.heap.size+1]? = some (.cells #[.int .i64 n,.string ⟨root.toArray⟩,.slice b vs.length cb] 37 (0,0))):=(b1.block _ (lt_of_block R0.out)).trans R0.out
 clear p0 p1 p2 K1 b1 H0 R0 B0 hwa
 cases ck with
 | false =>
   have HC:Hid (rr=(1,0,[])):=by rw[Hid,HR0.out];rfl
   have c0:=(HE.out.later B1.out).g0
   have hgl:=World.block_lt_of_cell? w _ HE.out.g0
   have HBD:Hid (Below w.heap.size w w1.drew):=⟨B1.out.os,B1.out.tape,B1.out.output,B1.out.size,B1.out.block⟩
   clear HK2 HK3 HR0 H1 R1
   go_wp2
   go_region
   all_goals
    go_wp2
    go_ret3
    exact .inr ⟨e0,.inl ⟨by rw[HC.out],rfl⟩,by rw[HC.out];rfl,HBD.out⟩
 | true =>
   replace HR0:Hid (rr=if bk=false then (2,0,[]) else if n<sn then (3,1,[]) else if pc=2 then (0,3,pv) else if pc=1 then (0,2,[]) else (4,0,[])):=HR0
   obtain⟨p0,p1,p2,_⟩:=cli_cells H1.out
   obtain⟨q0,q1,q2,_⟩:=cli_cells R1.out
   have K2:=HK2.out w1 B1.out
   clear HK2
   go_wp2_with fail
   refine K2.mono ?_
   rintro e w2 ⟨rfl,b2⟩
   have B2:Hid (Below w.heap.size w w2):=B1.out.trans (b2.mono B1.out.size)
   have H2:Hid (w2.heap[w.heap.size]? = some (.cells #[.slice a ks.length cap,.int .i64 sn,.int .i64 nx] 31 (0,0))):=(b2.block _ (lt_of_block H1.out)).trans H1.out
   have R2:Hid (w2.heap[w.heap.size+1]? = some (.cells #[.int .i64 n,.string ⟨root.toArray⟩,.slice b vs.length cb] 37 (0,0))):=(b2.block _ (lt_of_block R1.out)).trans R1.out
   clear p0 p1 p2 q0 q1 q2 K2 b2 H1 R1 B1
   cases bk with
   | false =>
     have HC:Hid (rr=(2,0,[])):=by rw[Hid,HR0.out];rfl
     have c0:=(HE.out.later B2.out).g1
     have hgl:=World.block_lt_of_cell? w _ HE.out.g1
     have HBD:Hid (Below w.heap.size w w2.drew):=⟨B2.out.os,B2.out.tape,B2.out.output,B2.out.size,B2.out.block⟩
     clear HK3 HR0 H2 R2
     go_wp2
     go_region
     all_goals
      go_wp2
      go_ret3
      exact .inr ⟨e1,.inr (.inl ⟨by rw[HC.out],rfl⟩),by rw[HC.out];rfl,HBD.out⟩
   | true =>
     replace HR0:Hid (rr=if n<sn then (3,1,[]) else if pc=2 then (0,3,pv) else if pc=1 then (0,2,[]) else (4,0,[])):=HR0
     obtain⟨p0,p1,p2,_⟩:=cli_cells H2.out
     obtain⟨q0,q1,q2,_⟩:=cli_cells R2.out
     by_cases hn:n<sn
     · have HC:Hid (rr=(3,1,[])):=by rw[Hid,HR0.out,if_pos hn]
       have c0:=(HE.out.later B2.out).g2
       have hgl:=World.block_lt_of_cell? w _ HE.out.g2
       have HBD:Hid (Below w.heap.size w w2.drew):=⟨B2.out.os,B2.out.tape,B2.out.output,B2.out.size,B2.out.block⟩
       clear HK3 HR0
       go_wp2
       go_region
       all_goals
        go_wp2
        go_ret3
        exact .inr ⟨e2,.inr (.inr (.inl ⟨by rw[HC.out],rfl⟩)),by rw[HC.out];rfl,HBD.out⟩
     · replace HR0:Hid (rr=if pc=2 then (0,3,pv) else if pc=1 then (0,2,[]) else (4,0,[])):=by rw[Hid,HR0.out,if_neg hn]
       have K3:=HK3.out w2 B2.out
       clear HK3
       go_wp2_with fail
       refine K3.mono ?_
       rintro e w3 ⟨rfl,b3⟩
       have B3:Hid (Below w.heap.size w w3):=B2.out.trans (b3.mono B2.out.size)
       clear p0 p1 p2 q0 q1 q2 K3 b3 B2 H2 R2 hn
       by_cases h2:pc=2
       · have HC:Hid (rr=(0,3,pv)):=by rw[Hid,HR0.out,if_pos h2]
         subst h2
         go_wp2
         go_ret3
         exact .inl (by rw[HC.out];exact⟨rfl,rfl,B3.out⟩)
       · have h2b:(pc == 2)=false:=beq_eq_false_iff_ne.2 h2
         replace HR0:Hid (rr=if pc=1 then (0,2,[]) else (4,0,[])):=by rw[Hid,HR0.out,if_neg h2]
         clear h2
         by_cases h1:pc=1
         · have HC:Hid (rr=(0,2,[])):=by rw[Hid,HR0.out,if_pos h1]
           subst h1
           go_wp2
           go_ret3
           exact .inl (by rw[HC.out];exact⟨rfl,rfl,B3.out⟩)
         · have h1b:(pc == 1)=false:=beq_eq_false_iff_ne.2 h1
           have HC:Hid (rr=(4,0,[])):=by rw[Hid,HR0.out,if_neg h1]
           clear h1
           have c0:=(HE.out.later B3.out).g3
           have hgl:=World.block_lt_of_cell? w _ HE.out.g3
           have HBD:Hid (Below w.heap.size w w3.drew):=⟨B3.out.os,B3.out.tape,B3.out.output,B3.out.size,B3.out.block⟩
           clear HR0
           go_wp2
           go_region
           all_goals
            go_wp2
            go_ret3
            exact .inr ⟨e3,.inr (.inr (.inr ⟨by rw[HC.out],rfl⟩)),by rw[HC.out];rfl,HBD.out⟩
abbrev RdL:=List (List UInt8) × Int × Int × Int × List UInt8
noncomputable def rdR (ks:List (List UInt8)) (sn nx n:Int) (root:List UInt8) (vs:List VoteV) (key:List UInt8) (ts:List (List UInt8)):RdL :=
 if (rdCode ks sn nx n root vs key ts).1=0 then (ks,n,nx,(rdCode ks sn nx n root vs key ts).2.1,(rdCode ks sn nx n root vs key ts).2.2) else if (rdCode ks sn nx n root vs key ts).1=1 then ([],0,0,0,[]) else (ks,sn,nx,(rdCode ks sn nx n root vs key ts).2.1,[])
def RaPost (w w':World) (e:Ending) (r:RdL):Prop:=∃ (x:Option Addr) (c:Nat),e=.returned (.tuple #[.agg #[.slice x r.1.length c,.int .i64 r.2.1,.int .i64 r.2.2.1],.int .i64 r.2.2.2.1,.string ⟨r.2.2.2.2.toArray⟩])∧w'.ownsRow w.heap.size 9 1 (.slice x r.1.length c) r.1.length (scells r.1)∧Below w.heap.size w w'
theorem results_c2 {P:Program} {fn:Func} {p q r:Tmp} {ty:TypeId} (h:fn.results=#[.cell p ty,.tmp q,.tmp r]) (tmps:Array Value) (w:World) (g:Nat) (t:TypeId) (cs:Array Value) (d:TypeDesc)
 (hp:tmps.getD p undef=.pointer (some ⟨g,0,none⟩)) (hg:w.heap[g]? = some (.cells cs t (0,0))) (hu:P.underlying ty=some d) (hd:(match d with | .struct _ | .array _ _=>true | _=>false)=true) (hi:(P.info? ty).map (·.size)=some cs.size) (vq vr:Value) (hq:tmps.getD q undef=vq) (hr:tmps.getD r undef=vr) :
 (results fn tmps).run P w=.ok (.tuple #[.agg cs,vq,vr]) w:=by
 subst hq hr
 have hp':tmps[p]?.getD undef=.pointer (some ⟨g,0,none⟩):=by simpa using hp
 simp[results,h,hp',asAddr,run_loadVar_row w g t ty cs (0,0) d hg hu hd hi]
theorem cli_cells4 {w:World} {b:Nat} {u v x:Value} {t:TypeId} (h:w.heap[b]? = some (.cells #[u,v,x] t (0,0))) :
 w.cell? ⟨b,0,none⟩=some u∧w.cell? ⟨b,1,none⟩=some v∧w.cell? ⟨b,2,none⟩=some x∧∀ j,w.frozen? ⟨b,j,none⟩=false:=cli_cells h
theorem two_cellsR {w:World} {b:Nat} {u v:Value} {t:TypeId} (h:w.heap[b]? = some (.cells #[u,v] t (0,0))) :
 w.cell? ⟨b,0,none⟩=some u∧w.cell? ⟨b,1,none⟩=some v∧∀ j,w.frozen? ⟨b,j,none⟩=false:=by
 simp[World.cell?,World.frozen?,h]
theorem own_far {w:World} {base e size n:Nat} {v:Value} {xs:List Value} (h:w.ownsRow base e size v n xs) (p:Addr) (hp:v.ownBlock≠some p.block) (u:Value):(w.setCell p u).ownsRow base e size v n xs:=ownsRow_setCell_other h hp u
theorem own_atQ {w w':World} {base e size n:Nat} {v:Value} {xs:List Value} (h:w.ownsRow base e size v n xs) (hb:∀ q,v.ownBlock=some q→w'.heap[q]? = w.heap[q]?):w'.ownsRow base e size v n xs:=by
 obtain⟨h1,h2 | ⟨g,c,cur,hv,h3,h4,h5⟩⟩:=h
 · exact⟨h1,.inl h2⟩
 · exact⟨h1,.inr ⟨g,c,cur,hv,h3,(hb g (by rw[hv];rfl)).trans h4,h5⟩⟩
theorem own_drewR {w:World} {base e size n:Nat} {v:Value} {xs:List Value} (h:w.ownsRow base e size v n xs):w.drew.ownsRow base e size v n xs:=h
theorem two_setR {w:World} {b j:Nat} {u v y:Value} {t:TypeId} (h:w.heap[b]? = some (.cells #[u,v] t (0,0))):(w.setCell ⟨b,j,none⟩ y).heap[b]? = some (.cells (#[u,v].setIfInBounds j y) t (0,0)):=by
 have hlt:=lt_of_block h
 have h':w.heap[b]=.cells #[u,v] t (0,0):=by simpa [Array.getElem?_eq_getElem hlt] using h
 show (w.heap.modify b _)[b]? = _
 rw[Array.getElem?_eq_getElem (by simpa using hlt),Array.getElem_modify_self,h']
 rfl
theorem hit_at {W:World} {b:Nat} {u v:Value} {t:TypeId} (o1 o2 o3 o4:Obj) (x y:Value) (hb:W.heap[b]? = some (.cells #[u,v] t (0,0))) (hl:b<W.heap.size) :
 ((((((W.alloc o1).alloc o2).alloc o3).alloc o4).setCell ⟨b, 0, none⟩ x).setCell ⟨b, 1, none⟩ y).heap[b]? = some (.cells #[x, y] t (0, 0)) ∧ (∀ q, q < W.heap.size → q ≠ b → ((((((W.alloc o1).alloc o2).alloc o3).alloc o4).setCell ⟨b, 0, none⟩ x).setCell ⟨b, 1, none⟩ y).heap[q]? = W.heap[q]?) ∧
   ∀ m,m≤b→m≤W.heap.size→Below m W ((((((W.alloc o1).alloc o2).alloc o3).alloc o4).setCell ⟨b,0,none⟩ x).setCell ⟨b,1,none⟩ y):=by
 have e4:∀ q,q<W.heap.size→((((W.alloc o1).alloc o2).alloc o3).alloc o4).heap[q]? = W.heap[q]? := fun q hq=>by
  rw[Below.heap_alloc _ _ _ (by simp;omega),Below.heap_alloc _ _ _ (by simp;omega),Below.heap_alloc _ _ _ (by simp;omega),Below.heap_alloc _ _ _ hq]
 refine⟨?_,fun q hq hne=>?_,fun m hm hw=>?_⟩
 · have h0:=(e4 b hl).trans hb
   exact two_setR (j:=1) (two_setR (j:=0) h0)
 · rw[Below.heap_setCell _ _ _ _ hne,Below.heap_setCell _ _ _ _ hne];exact e4 q hq
 · exact ((((((Below.refl m W).alloc hw _).alloc (by simp;omega) _).alloc (by simp;omega) _).alloc (by simp;omega) _).setCell hm _).setCell hm _
theorem three_far {w:World} {g b i:Nat} {x y q v:Value} (hne:b≠g) (h:w.cell? ⟨b,i,none⟩=some v):(((w.setCell ⟨g,0,none⟩ x).setCell ⟨g,1,none⟩ y).setCell ⟨g,2,none⟩ q).drew.cell? ⟨b,i,none⟩=some v :=
 (World.cell?_of_block (a:=⟨b,i,none⟩) ((Below.heap_setCell _ _ _ _ hne).trans ((Below.heap_setCell _ _ _ _ hne).trans (Below.heap_setCell _ _ _ _ hne)))).trans h
theorem rdCode_one {ks:List (List UInt8)} {sn nx n:Int} {root:List UInt8} {vs:List VoteV} {key:List UInt8} {ts:List (List UInt8)} {k:Nat} {z:Int} {v:List UInt8} (h:(k,z,v)=rdCode ks sn nx n root vs key ts):k=1→z=0:=by
 intro hk
 subst hk
 unfold rdCode at h
 split at h
 · cases h;rfl
 · split at h
   · cases h
   · split at h
     · cases h
     · split at h
       · cases h
       · split at h <;> cases h
set_option maxRecDepth 100000 in
set_option maxHeartbeats 2000000 in
theorem impl_readAt (a:Option Addr) (cap:Nat) (ks:List (List UInt8)) (sn nx n:Int) (root:List UInt8) (b:Option Addr) (cb:Nat) (vs:List VoteV) (key:List UInt8) (bp:Option Addr) (cp:Nat) (ts:List (List UInt8)) (w:World) (e0 e1 e2 e3:Addr) (hE:Errs4 w e0 e1 e2 e3) (hT:Tab w) (hl:ks.length≤1048576) (hm:∀ l∈ks,l.length≤1048576) (hs:IsStrs w a ks) (hr:root.length≤1048576) (hvl:vs.length≤1048576) (hvm:∀ v∈vs,smallV v∧(∀ l∈v.os,l.length≤1048576)∧(∀ l∈v.ps,l.length≤1048576)) (hv:IsVotes w b vs) (hk:key.length≤1048576) (htl:ts.length≤1048576) (htm:∀ l∈ts,l.length≤1048576) (hts:IsStrs w bp ts) (hcp:ts.length≤cp) (hca:a=none→cap=0) (haa:a=none∨∃ g off,a=some ⟨g,off,none⟩) :
 Calls Tryz.prog 11 #[.agg #[.slice a ks.length cap,.int .i64 sn,.int .i64 nx],.agg #[.int .i64 n,.string ⟨root.toArray⟩,.slice b vs.length cb],.string ⟨key.toArray⟩,.slice bp ts.length cp] w fun e w'=>RaPost w w' e (rdR ks sn nx n root vs key ts):=by
 obtain⟨wa,hwa⟩:∃ wa,wa=(((w.alloc (.cells #[.slice a ks.length cap,.int .i64 sn,.int .i64 nx] 31)).alloc (.cells #[.int .i64 n,.string ⟨root.toArray⟩,.slice b vs.length cb] 37)).alloc (.cells #[.slice none 0 0,.int .i64 0,.int .i64 0] 31)):=⟨_,rfl⟩
 have B0:Below w.heap.size w wa:=by rw[hwa];exact (((Below.refl _ _).alloc (Nat.le_refl _) _).alloc (by simp) _).alloc (by simp <;> omega) _
 have H0:Hid (wa.heap[w.heap.size]? = some (.cells #[.slice a ks.length cap,.int .i64 sn,.int .i64 nx] 31 (0,0))):=by rw[hwa,Hid,Below.heap_alloc _ _ _ (by simp <;> omega),Below.heap_alloc _ _ _ (by simp)];exact heap_alloc_new w _
 have R0:Hid (wa.heap[w.heap.size+1]? = some (.cells #[.int .i64 n,.string ⟨root.toArray⟩,.slice b vs.length cb] 37 (0,0))):=by
  rw[hwa,Hid,Below.heap_alloc _ _ _ (by simp)]
  have:=heap_alloc_new (w.alloc (.cells #[.slice a ks.length cap,.int .i64 sn,.int .i64 nx] 31)) (.cells #[.int .i64 n,.string ⟨root.toArray⟩,.slice b vs.length cb] 37)
  simpa using this
 have Q0:Hid (wa.heap[w.heap.size+1+1]? = some (.cells #[.slice none 0 0,.int .i64 0,.int .i64 0] 31 (0,0))):=by
  rw[hwa,Hid]
  have:=heap_alloc_new ((w.alloc (.cells #[.slice a ks.length cap,.int .i64 sn,.int .i64 nx] 31)).alloc (.cells #[.int .i64 n,.string ⟨root.toArray⟩,.slice b vs.length cb] 37)) (.cells #[.slice none 0 0,.int .i64 0,.int .i64 0] 31)
  simpa using this
 obtain⟨p0,p1,p2,_⟩:=cli_cells H0.out
 obtain⟨q0,q1,q2,_⟩:=cli_cells R0.out
 have K1:=impl_readBy a cap ks sn nx n root b cb vs key bp cp ts wa e0 e1 e2 e3 (hE.later B0) (hT.later B0) hl hm (strs_later hs B0) hr hvl hvm (hv.later B0) hk htl htm (strs_later hts B0) hcp
 have HE:Hid (Errs4 w e0 e1 e2 e3):=hE
 have HKN:Hid (∀ W,Below w.heap.size w W→_):=fun W hW=>impl_behind_not a cap ks sn nx W .nilIface e0 (hE.later hW).g0 (fun W' _=>(is_nilE e0 W').mono fun e w' h=>⟨h.1,by rw[h.2];exact Below.refl _ _⟩) hl hca haa (strs_later hs hW)
 have HKR:Hid (∀ (z:Int) (er:Addr) W,Below w.heap.size w W→er≠e0→(∃ cs t,W.heap[er.block]? = some (.cells cs t (0,0)))→_):=fun z er W hW hne hre=>impl_behind_not a cap ks sn nx W (.iface 59 (.agg #[.int .i64 z,.iface 203 (.pointer (some er))])) e0 (hE.later hW).g0 (fun W' hW'=>by
  obtain⟨cs,t,hr⟩:=hre
  obtain⟨cs0,t0,hr0⟩:=(hE.later hW).r0
  refine (is_refOther z er e0 cs cs0 t t0 W' hne ((hW'.block _ (lt_of_block hr)).trans hr) ((hW'.block _ (lt_of_block hr0)).trans hr0)).mono fun e w' h=>⟨h.1,by rw[h.2];exact (Below.refl _ _).alloc (Nat.le_refl _) _⟩) hl hca haa (strs_later hs hW)
 have HKC:Hid (∀ (z:Int) W,Below w.heap.size w W→_):=fun z W hW=>impl_behind_is a cap ks sn nx W (.iface 59 (.agg #[.int .i64 z,.iface 203 (.pointer (some e0))])) e0 (hE.later hW).g0 (fun W' hW'=>(is_refSame z e0 W').mono fun e w' h=>⟨h.1,by rw[h.2];exact (Below.refl _ _).alloc (Nat.le_refl _) _⟩)
 obtain⟨rr,hrr⟩:∃ x,x=rdR ks sn nx n root vs key ts:=⟨_,rfl⟩
 have HR0:Hid (rr=if (rdCode ks sn nx n root vs key ts).1=0 then (ks,n,nx,(rdCode ks sn nx n root vs key ts).2.1,(rdCode ks sn nx n root vs key ts).2.2) else if (rdCode ks sn nx n root vs key ts).1=1 then ([],0,0,0,[]) else (ks,sn,nx,(rdCode ks sn nx n root vs key ts).2.1,[])):=hrr
 rw[←hrr]
 obtain⟨⟨kk,z,pv⟩,hkk⟩:∃ x,x=rdCode ks sn nx n root vs key ts:=⟨_,rfl⟩
 rw[←hkk] at HR0 K1
 have HZ0:Hid (kk=1→z=0):=rdCode_one hkk
 unfold RbPost at K1
 dsimp only at HR0 K1
 clear hrr hkk hs hm hvm hv htm hts hE hT hl hr hvl hk htl hcp hca haa
 rw[hwa] at K1 p0 p1 p2 q0 q1 q2
 go_enter Tryz.func11,Tryz.ntmps11
 go_wp2_with fail
 refine K1.mono ?_
 rw[←hwa]
 intro e w1 hres
 have hb1:Below wa.heap.size wa w1:=by
  rcases hres with ⟨_,_,h⟩ | ⟨_,_,_,h⟩
  · exact h
  · exact h
 have B1:Hid (Below w.heap.size w w1):=B0.trans (hb1.mono B0.size)
 have H1:Hid (w1.heap[w.heap.size]? = some (.cells #[.slice a ks.length cap,.int .i64 sn,.int .i64 nx] 31 (0,0))):=(hb1.block _ (lt_of_block H0.out)).trans H0.out
 have R1:Hid (w1.heap[w.heap.size+1]? = some (.cells #[.int .i64 n,.string ⟨root.toArray⟩,.slice b vs.length cb] 37 (0,0))):=(hb1.block _ (lt_of_block R0.out)).trans R0.out
 have Q1:Hid (w1.heap[w.heap.size+1+1]? = some (.cells #[.slice none 0 0,.int .i64 0,.int .i64 0] 31 (0,0))):=(hb1.block _ (lt_of_block Q0.out)).trans Q0.out
 clear p0 p1 p2 q0 q1 q2 K1 H0 R0 Q0 B0 hwa hb1
 rcases hres with ⟨hk0,rfl,_⟩ | ⟨er,her,rfl,_⟩
 · obtain⟨pc,hpc⟩:∃ x,x=z:=⟨_,rfl⟩
   rw[←hpc] at HR0 ⊢
   have HR:Hid (rr=(ks,n,nx,pc,pv)):=by rw[Hid,HR0.out,if_pos hk0]
   clear hk0 hpc HR0 HKR HKC
   have KB:=HKN.out w1 B1.out
   obtain⟨p0,p1,p2,_⟩:=cli_cells H1.out
   go_wp2_with fail
   refine KB.mono ?_
   rintro e w3 ⟨x,c,rfl,o3,b3⟩
   have B3:Hid (Below w.heap.size w w3):=B1.out.trans (b3.mono B1.out.size)
   have L1:Hid (w.heap.size+1+1<w1.heap.size∧w1.heap.size≤w3.heap.size):=⟨lt_of_block Q1.out,b3.size⟩
   obtain⟨w5,hw5⟩:∃ W,W=((w3.alloc (.cells #[.slice x ks.length c,.int .i64 sn,.int .i64 nx] 31)).alloc (.cells #[.int .i64 0,.nilIface] 59)):=⟨_,rfl⟩
   have X5:Below w3.heap.size w3 w5:=by rw[hw5];exact ((Below.refl _ _).alloc (Nat.le_refl _) _).alloc (by simp) _
   have B5:Hid (Below w.heap.size w w5):=B3.out.trans (X5.mono B3.out.size)
   have R5:Hid (w5.heap[w.heap.size+1]? = some (.cells #[.int .i64 n,.string ⟨root.toArray⟩,.slice b vs.length cb] 37 (0,0))):=(X5.block _ (by have:=L1.out;omega)).trans ((b3.block _ (by have:=L1.out;omega)).trans R1.out)
   have Q5:Hid (w5.heap[w.heap.size+1+1]? = some (.cells #[.slice none 0 0,.int .i64 0,.int .i64 0] 31 (0,0))):=(X5.block _ (by have:=L1.out;omega)).trans ((b3.block _ (by have:=L1.out;omega)).trans Q1.out)
   have C5:Hid (w5.heap[w3.heap.size]? = some (.cells #[.slice x ks.length c,.int .i64 sn,.int .i64 nx] 31 (0,0))):=by rw[hw5,Hid,Below.heap_alloc _ _ _ (by simp)];exact heap_alloc_new w3 _
   have Z5:Hid (w5.heap[w3.heap.size+1]? = some (.cells #[.int .i64 0,.nilIface] 59 (0,0))):=by
    rw[hw5,Hid]
    have:=heap_alloc_new (w3.alloc (.cells #[.slice x ks.length c,.int .i64 sn,.int .i64 nx] 31)) (.cells #[.int .i64 0,.nilIface] 59)
    simpa using this
   have O5:Hid (w5.ownsRow w1.heap.size 9 1 (.slice x ks.length c) ks.length (scells ks)):=by rw[hw5];exact (o3.alloc _).alloc _
   have OL:Hid (∀ q,(Value.slice x ks.length c).ownBlock=some q→w1.heap.size≤q∧q<w3.heap.size):=fun q hq=>o3.lt q hq
   clear KB p0 p1 p2 b3 X5 o3 H1 R1 Q1 B3
   have KA:=as_nil (.iface 61 (.pointer (some ⟨w3.heap.size+1,0,none⟩))) w5
   rw[hw5] at KA
   go_wp2_with fail
   refine KA.mono ?_
   rintro e w6 ⟨rfl,rfl⟩
   rw[←hw5]
   clear KA
   obtain⟨q0,q1,q2,_⟩:=cli_cells R5.out
   obtain⟨d0,d1,d2,df⟩:=cli_cells4 C5.out
   have df1:=df 1
   obtain⟨w7,hw7⟩:∃ W,W=((((w5.setCell ⟨w3.heap.size,1,none⟩ (.int .i64 n)).setCell ⟨w.heap.size+1+1,0,none⟩ (.slice x ks.length c)).setCell ⟨w.heap.size+1+1,1,none⟩ (.int .i64 n)).setCell ⟨w.heap.size+1+1,2,none⟩ (.int .i64 nx)):=⟨_,rfl⟩
   have C6:(w5.setCell ⟨w3.heap.size,1,none⟩ (.int .i64 n)).heap[w3.heap.size]? = some (.cells #[.slice x ks.length c,.int .i64 n,.int .i64 nx] 31 (0,0)):=cli_set (j:=1) C5.out
   have Q6:(w5.setCell ⟨w3.heap.size,1,none⟩ (.int .i64 n)).heap[w.heap.size+1+1]? = some (.cells #[.slice none 0 0,.int .i64 0,.int .i64 0] 31 (0,0)):=(Below.heap_setCell _ _ _ _ (by have:=L1.out;simp;omega)).trans Q5.out
   obtain⟨s0,s1,s2,_⟩:=cli_cells C6
   obtain⟨z0,z1,z2,zf⟩:=cli_cells4 Q6
   have zf0:=zf 0
   have zf1:=zf 1
   have zf2:=zf 2
   have F7:Hid (w7.heap[w.heap.size+1+1]? = some (.cells #[.slice x ks.length c,.int .i64 n,.int .i64 nx] 31 (0,0))):=by rw[hw7];exact cli_set (j:=2) (cli_set (j:=1) (cli_set (j:=0) Q6))
   have B7:Hid (Below w.heap.size w w7):=by
    have h1:=L1.out
    rw[hw7]
    exact (((B5.out.setCell (by simp only;omega) _).setCell (by simp only;omega) _).setCell (by simp only;omega) _).setCell (by simp only;omega) _
   have HO:Hid (w7.ownsRow w.heap.size 9 1 (.slice x ks.length c) ks.length (scells ks)):=by
    have h1:=L1.out
    have h2:=OL.out
    rw[hw7]
    exact (own_far (own_far (own_far (own_far O5.out _ (fun e=>by have:=h2 _ e;dsimp only at this;omega) _) _ (fun e=>by have:=h2 _ e;dsimp only at this;omega) _) _ (fun e=>by have:=h2 _ e;dsimp only at this;omega) _) _ (fun e=>by have:=h2 _ e;dsimp only at this;omega) _).mono (by omega)
   clear df zf C6 Q6 C5 Z5 Q5 R5 B5 O5 OL hw5
   go_wp2
   rw[←hw7]
   refine bodyPost_ret (v:=.tuple #[.agg #[.slice x ks.length c,.int .i64 n,.int .i64 nx],.int .i64 pc,.string ⟨pv.toArray⟩]) (results_c2 rfl _ _ (w.heap.size+1+1) 31 _ _ rfl F7.out Tryz.underlying31 rfl (by kernel_rfl) _ _ rfl rfl) rfl ?_
   rw[HR.out]
   exact⟨x,c,rfl,HO.out,B7.out⟩
 · rcases her with ⟨hk0,rfl⟩ | her
   · have HR:Hid (rr=([],0,0,z,[])):=by rw[Hid,HR0.out,hk0,HZ0.out hk0];rfl
     clear hk0 HR0 HKR HKN
     have KB:=HKC.out z w1 B1.out
     obtain⟨p0,p1,p2,_⟩:=cli_cells H1.out
     go_wp2_with fail
     refine KB.mono ?_
     rintro e w3 ⟨rfl,b3⟩
     have B3:Hid (Below w.heap.size w w3):=B1.out.trans (b3.mono B1.out.size)
     have L1:Hid (w.heap.size+1+1<w1.heap.size∧w1.heap.size≤w3.heap.size):=⟨lt_of_block Q1.out,b3.size⟩
     obtain⟨w5,hw5⟩:∃ W,W=((w3.alloc (.cells #[.slice none 0 0,.int .i64 0,.int .i64 0] 31)).alloc (.cells #[.int .i64 0,.nilIface] 59)):=⟨_,rfl⟩
     have X5:Below w3.heap.size w3 w5:=by rw[hw5];exact ((Below.refl _ _).alloc (Nat.le_refl _) _).alloc (by simp) _
     have B5:Hid (Below w.heap.size w w5):=B3.out.trans (X5.mono B3.out.size)
     have R5:Hid (w5.heap[w.heap.size+1]? = some (.cells #[.int .i64 n,.string ⟨root.toArray⟩,.slice b vs.length cb] 37 (0,0))):=(X5.block _ (by have:=L1.out;omega)).trans ((b3.block _ (by have:=L1.out;omega)).trans R1.out)
     have Q5:Hid (w5.heap[w.heap.size+1+1]? = some (.cells #[.slice none 0 0,.int .i64 0,.int .i64 0] 31 (0,0))):=(X5.block _ (by have:=L1.out;omega)).trans ((b3.block _ (by have:=L1.out;omega)).trans Q1.out)
     have C5:Hid (w5.heap[w3.heap.size]? = some (.cells #[.slice none 0 0,.int .i64 0,.int .i64 0] 31 (0,0))):=by rw[hw5,Hid,Below.heap_alloc _ _ _ (by simp)];exact heap_alloc_new w3 _
     have Z5:Hid (w5.heap[w3.heap.size+1]? = some (.cells #[.int .i64 0,.nilIface] 59 (0,0))):=by
      rw[hw5,Hid]
      have:=heap_alloc_new (w3.alloc (.cells #[.slice none 0 0,.int .i64 0,.int .i64 0] 31)) (.cells #[.int .i64 0,.nilIface] 59)
      simpa using this
     clear KB p0 p1 p2 b3 X5 H1 R1 Q1 B3
     obtain⟨u0,u1,uf⟩:=two_cellsR Z5.out
     have KA:=as_hit (w3.heap.size+1) (.int .i64 z) (.iface 203 (.pointer (some er))) _ _ w5 (HE.out.later B5.out).gt u0 u1 (uf 0) (uf 1) rfl rfl
     have HS5:Hid (w5.heap.size=w3.heap.size+2):=by rw[Hid,hw5];simp
     have K6':=hit_at (b:=w3.heap.size+1) (W:=w5) (.cells #[.pointer (some ⟨w3.heap.size+1,0,none⟩)] 61) (.cells #[.pointer (some ⟨7,61,none⟩),.pointer (some ⟨w5.heap.size,0,none⟩),.int .u64 150] 90) (.cells #[.pointer (some ⟨7,61,none⟩),.pointer (some ⟨w5.heap.size,0,none⟩),.int .u64 150] 90) (.cells #[.int .i64 z,.iface 203 (.pointer (some er))] 59) (.int .i64 z) (.iface 203 (.pointer (some er))) Z5.out (by rw[HS5.out];omega)
     obtain⟨w6,hw6⟩:∃ W,W=((((((w5.alloc (.cells #[.pointer (some ⟨w3.heap.size+1,0,none⟩)] 61)).alloc (.cells #[.pointer (some ⟨7,61,none⟩),.pointer (some ⟨w5.heap.size,0,none⟩),.int .u64 150] 90)).alloc (.cells #[.pointer (some ⟨7,61,none⟩),.pointer (some ⟨w5.heap.size,0,none⟩),.int .u64 150] 90)).alloc (.cells #[.int .i64 z,.iface 203 (.pointer (some er))] 59)).setCell ⟨w3.heap.size+1,0,none⟩ (.int .i64 z)).setCell ⟨w3.heap.size+1,1,none⟩ (.iface 203 (.pointer (some er)))):=⟨_,rfl⟩
     rw[←hw6] at KA K6'
     have K6:Hid (∀ q,q<w3.heap.size+1→w6.heap[q]? = w5.heap[q]?):=fun q hq=>K6'.2.1 q (by rw[HS5.out];omega) (by omega)
     have Z6:Hid (w6.heap[w3.heap.size+1]? = some (.cells #[.int .i64 z,.iface 203 (.pointer (some er))] 59 (0,0))):=K6'.1
     have B6:Hid (Below w.heap.size w w6):=B5.out.trans (K6'.2.2 w.heap.size (by have:=L1.out;omega) (by have:=L1.out;rw[HS5.out];omega))
     clear K6' uf u0 u1 hw6
     rw[hw5] at KA
     go_wp2_with fail
     refine KA.mono ?_
     rintro e w9 ⟨rfl,rfl⟩
     clear KA hw5 HS5
     have Q6:Hid (w9.heap[w.heap.size+1+1]? = some (.cells #[.slice none 0 0,.int .i64 0,.int .i64 0] 31 (0,0))):=(K6.out _ (by have:=L1.out;omega)).trans Q5.out
     have C6:Hid (w9.heap[w3.heap.size]? = some (.cells #[.slice none 0 0,.int .i64 0,.int .i64 0] 31 (0,0))):=(K6.out _ (by omega)).trans C5.out
     obtain⟨s0,s1,s2,_⟩:=cli_cells C6.out
     obtain⟨u0,u1,_⟩:=two_cellsR Z6.out
     obtain⟨z0,z1,z2,zf⟩:=cli_cells4 Q6.out
     have zf0:=zf 0
     have zf1:=zf 1
     have zf2:=zf 2
     have F7:Hid ((((w9.setCell ⟨w.heap.size+1+1,0,none⟩ (.slice none 0 0)).setCell ⟨w.heap.size+1+1,1,none⟩ (.int .i64 0)).setCell ⟨w.heap.size+1+1,2,none⟩ (.int .i64 0)).drew.heap[w.heap.size+1+1]? = some (.cells #[.slice none 0 0,.int .i64 0,.int .i64 0] 31 (0,0))):=cli_set (j:=2) (cli_set (j:=1) (cli_set (j:=0) Q6.out))
     have B7:Hid (Below w.heap.size w (((w9.setCell ⟨w.heap.size+1+1,0,none⟩ (.slice none 0 0)).setCell ⟨w.heap.size+1+1,1,none⟩ (.int .i64 0)).setCell ⟨w.heap.size+1+1,2,none⟩ (.int .i64 0)).drew):=by
      have h1:Below w.heap.size w (((w9.setCell ⟨w.heap.size+1+1,0,none⟩ (.slice none 0 0)).setCell ⟨w.heap.size+1+1,1,none⟩ (.int .i64 0)).setCell ⟨w.heap.size+1+1,2,none⟩ (.int .i64 0)):=((B6.out.setCell (by simp only;omega) _).setCell (by simp only;omega) _).setCell (by simp only;omega) _
      exact⟨h1.os,h1.tape,h1.output,h1.size,h1.block⟩
     have U9:=three_far (g:=w.heap.size+1+1) (x:=.slice none 0 0) (y:=.int .i64 0) (q:=.int .i64 0) (show w3.heap.size+1≠w.heap.size+1+1 by have:=L1.out;omega) u0
     clear zf Q6 C6 Z6 C5 Z5 Q5 R5 B5 B6 K6
     go_wp2
     go_region
     all_goals
      go_wp2
      refine bodyPost_ret (v:=.tuple #[.agg #[.slice none 0 0,.int .i64 0,.int .i64 0],.int .i64 z,.string ⟨#[]⟩]) (results_c2 rfl _ _ (w.heap.size+1+1) 31 _ _ rfl F7.out Tryz.underlying31 rfl (by kernel_rfl) _ _ rfl rfl) rfl ?_
      rw[HR.out]
      exact⟨none,0,rfl,World.ownsRow_nil _ _ _ _,B7.out⟩
   · have hne:er≠e0∧(∃ cs t,w1.heap[er.block]? = some (.cells cs t (0,0)))∧kk≠0∧kk≠1:=by
      have h1:=HE.out.later B1.out
      rcases her with ⟨hk0,rfl⟩ | ⟨hk0,rfl⟩ | ⟨hk0,rfl⟩
      · exact⟨h1.n1,h1.r1,by omega,by omega⟩
      · exact⟨h1.n2,h1.r2,by omega,by omega⟩
      · exact⟨h1.n3,h1.r3,by omega,by omega⟩
     have HR:Hid (rr=(ks,sn,nx,z,[])):=by rw[Hid,HR0.out,if_neg hne.2.2.1,if_neg hne.2.2.2]
     have KB0:=HKR.out z er w1 B1.out hne.1 hne.2.1
     clear her hne HR0 HKR HKN HKC
     have KB:=KB0
     obtain⟨p0,p1,p2,_⟩:=cli_cells H1.out
     go_wp2_with fail
     refine KB.mono ?_
     rintro e w3 ⟨x,c,rfl,o3,b3⟩
     have B3:Hid (Below w.heap.size w w3):=B1.out.trans (b3.mono B1.out.size)
     have L1:Hid (w.heap.size+1+1<w1.heap.size∧w1.heap.size≤w3.heap.size):=⟨lt_of_block Q1.out,b3.size⟩
     obtain⟨w5,hw5⟩:∃ W,W=((w3.alloc (.cells #[.slice x ks.length c,.int .i64 sn,.int .i64 nx] 31)).alloc (.cells #[.int .i64 0,.nilIface] 59)):=⟨_,rfl⟩
     have X5:Below w3.heap.size w3 w5:=by rw[hw5];exact ((Below.refl _ _).alloc (Nat.le_refl _) _).alloc (by simp) _
     have B5:Hid (Below w.heap.size w w5):=B3.out.trans (X5.mono B3.out.size)
     have R5:Hid (w5.heap[w.heap.size+1]? = some (.cells #[.int .i64 n,.string ⟨root.toArray⟩,.slice b vs.length cb] 37 (0,0))):=(X5.block _ (by have:=L1.out;omega)).trans ((b3.block _ (by have:=L1.out;omega)).trans R1.out)
     have Q5:Hid (w5.heap[w.heap.size+1+1]? = some (.cells #[.slice none 0 0,.int .i64 0,.int .i64 0] 31 (0,0))):=(X5.block _ (by have:=L1.out;omega)).trans ((b3.block _ (by have:=L1.out;omega)).trans Q1.out)
     have C5:Hid (w5.heap[w3.heap.size]? = some (.cells #[.slice x ks.length c,.int .i64 sn,.int .i64 nx] 31 (0,0))):=by rw[hw5,Hid,Below.heap_alloc _ _ _ (by simp)];exact heap_alloc_new w3 _
     have Z5:Hid (w5.heap[w3.heap.size+1]? = some (.cells #[.int .i64 0,.nilIface] 59 (0,0))):=by
      rw[hw5,Hid]
      have:=heap_alloc_new (w3.alloc (.cells #[.slice x ks.length c,.int .i64 sn,.int .i64 nx] 31)) (.cells #[.int .i64 0,.nilIface] 59)
      simpa using this
     have O5:Hid (w5.ownsRow w1.heap.size 9 1 (.slice x ks.length c) ks.length (scells ks)):=by rw[hw5];exact (o3.alloc _).alloc _
     have OL:Hid (∀ q,(Value.slice x ks.length c).ownBlock=some q→w1.heap.size≤q∧q<w3.heap.size):=fun q hq=>o3.lt q hq
     clear KB p0 p1 p2 b3 X5 o3 H1 R1 Q1 B3
     obtain⟨u0,u1,uf⟩:=two_cellsR Z5.out
     have KA:=as_hit (w3.heap.size+1) (.int .i64 z) (.iface 203 (.pointer (some er))) _ _ w5 (HE.out.later B5.out).gt u0 u1 (uf 0) (uf 1) rfl rfl
     have HS5:Hid (w5.heap.size=w3.heap.size+2):=by rw[Hid,hw5];simp
     have K6':=hit_at (b:=w3.heap.size+1) (W:=w5) (.cells #[.pointer (some ⟨w3.heap.size+1,0,none⟩)] 61) (.cells #[.pointer (some ⟨7,61,none⟩),.pointer (some ⟨w5.heap.size,0,none⟩),.int .u64 150] 90) (.cells #[.pointer (some ⟨7,61,none⟩),.pointer (some ⟨w5.heap.size,0,none⟩),.int .u64 150] 90) (.cells #[.int .i64 z,.iface 203 (.pointer (some er))] 59) (.int .i64 z) (.iface 203 (.pointer (some er))) Z5.out (by rw[HS5.out];omega)
     obtain⟨w6,hw6⟩:∃ W,W=((((((w5.alloc (.cells #[.pointer (some ⟨w3.heap.size+1,0,none⟩)] 61)).alloc (.cells #[.pointer (some ⟨7,61,none⟩),.pointer (some ⟨w5.heap.size,0,none⟩),.int .u64 150] 90)).alloc (.cells #[.pointer (some ⟨7,61,none⟩),.pointer (some ⟨w5.heap.size,0,none⟩),.int .u64 150] 90)).alloc (.cells #[.int .i64 z,.iface 203 (.pointer (some er))] 59)).setCell ⟨w3.heap.size+1,0,none⟩ (.int .i64 z)).setCell ⟨w3.heap.size+1,1,none⟩ (.iface 203 (.pointer (some er)))):=⟨_,rfl⟩
     rw[←hw6] at KA K6'
     have K6:Hid (∀ q,q<w3.heap.size+1→w6.heap[q]? = w5.heap[q]?):=fun q hq=>K6'.2.1 q (by rw[HS5.out];omega) (by omega)
     have Z6:Hid (w6.heap[w3.heap.size+1]? = some (.cells #[.int .i64 z,.iface 203 (.pointer (some er))] 59 (0,0))):=K6'.1
     have B6:Hid (Below w.heap.size w w6):=B5.out.trans (K6'.2.2 w.heap.size (by have:=L1.out;omega) (by have:=L1.out;rw[HS5.out];omega))
     clear K6' uf u0 u1 hw6
     rw[hw5] at KA
     go_wp2_with fail
     refine KA.mono ?_
     rintro e w9 ⟨rfl,rfl⟩
     clear KA hw5 HS5
     have Q6:Hid (w9.heap[w.heap.size+1+1]? = some (.cells #[.slice none 0 0,.int .i64 0,.int .i64 0] 31 (0,0))):=(K6.out _ (by have:=L1.out;omega)).trans Q5.out
     have C6:Hid (w9.heap[w3.heap.size]? = some (.cells #[.slice x ks.length c,.int .i64 sn,.int .i64 nx] 31 (0,0))):=(K6.out _ (by omega)).trans C5.out
     obtain⟨s0,s1,s2,_⟩:=cli_cells C6.out
     obtain⟨u0,u1,_⟩:=two_cellsR Z6.out
     obtain⟨z0,z1,z2,zf⟩:=cli_cells4 Q6.out
     have zf0:=zf 0
     have zf1:=zf 1
     have zf2:=zf 2
     have F7:Hid ((((w9.setCell ⟨w.heap.size+1+1,0,none⟩ (.slice x ks.length c)).setCell ⟨w.heap.size+1+1,1,none⟩ (.int .i64 sn)).setCell ⟨w.heap.size+1+1,2,none⟩ (.int .i64 nx)).drew.heap[w.heap.size+1+1]? = some (.cells #[.slice x ks.length c,.int .i64 sn,.int .i64 nx] 31 (0,0))):=cli_set (j:=2) (cli_set (j:=1) (cli_set (j:=0) Q6.out))
     have B7:Hid (Below w.heap.size w (((w9.setCell ⟨w.heap.size+1+1,0,none⟩ (.slice x ks.length c)).setCell ⟨w.heap.size+1+1,1,none⟩ (.int .i64 sn)).setCell ⟨w.heap.size+1+1,2,none⟩ (.int .i64 nx)).drew):=by
      have h1:Below w.heap.size w (((w9.setCell ⟨w.heap.size+1+1,0,none⟩ (.slice x ks.length c)).setCell ⟨w.heap.size+1+1,1,none⟩ (.int .i64 sn)).setCell ⟨w.heap.size+1+1,2,none⟩ (.int .i64 nx)):=((B6.out.setCell (by simp only;omega) _).setCell (by simp only;omega) _).setCell (by simp only;omega) _
      exact⟨h1.os,h1.tape,h1.output,h1.size,h1.block⟩
     have HO:Hid ((((w9.setCell ⟨w.heap.size+1+1,0,none⟩ (.slice x ks.length c)).setCell ⟨w.heap.size+1+1,1,none⟩ (.int .i64 sn)).setCell ⟨w.heap.size+1+1,2,none⟩ (.int .i64 nx)).drew.ownsRow w.heap.size 9 1 (.slice x ks.length c) ks.length (scells ks)):=by
      have h1:=L1.out
      have h2:=OL.out
      exact own_drewR ((own_far (own_far (own_far (own_atQ O5.out fun q hq=>by have:=h2 q hq;exact K6.out q (by omega)) _ (fun e=>by have:=h2 _ e;dsimp only at this;omega) _) _ (fun e=>by have:=h2 _ e;dsimp only at this;omega) _) _ (fun e=>by have:=h2 _ e;dsimp only at this;omega) _).mono (by omega))
     have U9:=three_far (g:=w.heap.size+1+1) (x:=.slice x ks.length c) (y:=.int .i64 sn) (q:=.int .i64 nx) (show w3.heap.size+1≠w.heap.size+1+1 by have:=L1.out;omega) u0
     clear zf Q6 C6 Z6 C5 Z5 Q5 R5 B5 B6 K6 O5 OL
     go_wp2
     go_region
     all_goals
      go_wp2
      refine bodyPost_ret (v:=.tuple #[.agg #[.slice x ks.length c,.int .i64 sn,.int .i64 nx],.int .i64 z,.string ⟨#[]⟩]) (results_c2 rfl _ _ (w.heap.size+1+1) 31 _ _ rfl F7.out Tryz.underlying31 rfl (by kernel_rfl) _ _ rfl rfl) rfl ?_
      rw[HR.out]
      exact⟨x,c,rfl,HO.out,B7.out⟩
end Go.Proofs.YtllmclmcncolcaaGreatDoor
