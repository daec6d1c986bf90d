/-
 Texts that are laid as one: NbB, NbN, NbP, NbM.
-/
import Derived.Test.YtgjddhlmmljabaaDoorNbX
import Derived.Deep.AppendSrc
import Derived.Deep.Upon
import Derived.Deep.RegionHeld3
import Derived.Deep.Cut
namespace Go.Proofs.YtgjddhlmmljabaaDoor
open Go.RowKit
set_option linter.unusedVariables false
theorem results_csE {P:Program} {fn:Func} {p r:Tmp} {ty:TypeId} (h:fn.results=#[.cell p ty,.tmp r]) (tmps:Array Value) (w:World) (g:Nat) (t:TypeId) (cs:Array Value) (d:TypeDesc)
 (hp:tmps.getD p undef=.pointer (some ⟨g,0,none⟩)) (hg:w.heap[g]? = some (.cells cs t (0,0))) (hu:P.underlying ty=some d) (hd:(match d with | .struct _ | .array _ _=>true | _=>false)=true) (hi:(P.info? ty).map (·.size)=some cs.size) (vb:Value) (hb:tmps.getD r undef=vb) :
 (results fn tmps).run P w=.ok (.tuple #[.agg cs,vb]) w:=by
 subst hb
 have hp':tmps[p]?.getD undef=.pointer (some ⟨g,0,none⟩):=by simpa using hp
 simp[results,h,hp',asAddr,run_loadVar_row w g t ty cs (0,0) d hg hu hd hi]
def nbCode (ks:List (List UInt8)) (sn nx id:Int) (os:List OpL):Nat:=if clientOk ks sn nx=false then 1 else if batchOk id nx os=false then 2 else if nx=1000000000000 then 3 else 0
def NbPost (w w':World) (e:Ending) (e0 e1 e2:Addr) (k:Nat) (id nx:Int) (os:List OpL):Prop :=
 (∃ (x:Option Addr) (c:Nat),k=0∧e=.returned (.tuple #[.agg #[.int .i64 id,.int .i64 nx,.slice x os.length c],.nilIface])∧w'.ownsRow (w.heap.size+2) 52 3 (.slice x os.length c) os.length (ocells os)∧Below w.heap.size w w') ∨
 (∃ er,((k=1∧er=e0)∨(k=2∧er=e1)∨(k=3∧er=e2))∧e=.returned (.tuple #[.agg #[.int .i64 0,.int .i64 0,.slice none 0 0],.iface 113 (.pointer (some er))])∧Below w.heap.size w w')
theorem own_setN {w:World} {base e size n:Nat} {v:Value} {xs:List Value} (h:w.ownsRow base e size v n xs) (p:Addr) (hp:p.block<base) (u:Value):(w.setCell p u).ownsRow base e size v n xs:=by
 refine ownsRow_setCell_other h (fun e=>?_) u
 have:=(h.lt _ e).1
 omega
set_option maxRecDepth 100000 in
set_option maxHeartbeats 4000000 in
theorem impl_batchBy (a : Option Addr) (cap : Nat) (ks : List (List UInt8)) (sn nx id : Int) (b : Option Addr) (cb : Nat) (os : List OpL) (w : World) (e0 e1 e2 : Addr) (hE : Errs w e0 e1 e2) (hl : ks.length ≤ 1048576) (hm : ∀ l ∈ ks, l.length ≤ 1048576) (hs : IsStrs w a ks) (hl2 : os.length ≤ 1048576) (hm2 : ∀ p ∈ os, p.1.length ≤ 1048576 ∧ p.2.1.length ≤ 1048576) (hcb : b = none → cb = 0) (hbb : b = none ∨ ∃ g off, b = some ⟨g, off, none⟩) (hs2 : IsOps w b os) :
 Calls Tryd.prog 14 #[.agg #[.slice a ks.length cap,.int .i64 sn,.int .i64 nx],.int .i64 id,.slice b os.length cb] w fun e w'=>NbPost w w' e e0 e1 e2 (nbCode ks sn nx id os) id nx os:=by
 obtain⟨wa,hwa⟩:∃ wa,wa=((w.alloc (.cells #[.slice a ks.length cap,.int .i64 sn,.int .i64 nx] 26)).alloc (.cells #[.int .i64 0,.int .i64 0,.slice none 0 0] 31)):=⟨_,rfl⟩
 have B0:Below w.heap.size w wa:=by rw[hwa];exact ((Below.refl _ _).alloc (Nat.le_refl _) _).alloc (by simp) _
 have H0:Hid (wa.heap[w.heap.size]? = some (.cells #[.slice a ks.length cap,.int .i64 sn,.int .i64 nx] 26 (0,0))):=by rw[hwa,Hid,Below.heap_alloc _ _ _ (by simp)];exact heap_alloc_new w _
 have R0:Hid (wa.heap[w.heap.size+1]? = some (.cells #[.int .i64 0,.int .i64 0,.slice none 0 0] 31 (0,0))):=by
  rw[hwa,Hid]
  have:=heap_alloc_new (w.alloc (.cells #[.slice a ks.length cap,.int .i64 sn,.int .i64 nx] 26)) (.cells #[.int .i64 0,.int .i64 0,.slice none 0 0] 31)
  simpa using this
 obtain⟨p0,p1,p2,_⟩:=bat_cells H0.out
 have K1:=impl_clientOk a cap ks sn nx wa hl hm (strs_later hs B0)
 have HK2:Hid (∀ W,Below w.heap.size w W→_):=fun W hW=>impl_batchOk id nx b cb os W hl2 hm2 (hs2.later hW)
 have HK3:Hid (∀ W,Below w.heap.size w W→_):=fun W hW=>clone_opsN b cb os W hl2 hcb hbb (hs2.later hW)
 have HE:Hid (Errs w e0 e1 e2):=hE
 have HC0:Hid (nbCode ks sn nx id os=if clientOk ks sn nx=false then 1 else if batchOk id nx os=false then 2 else if nx=1000000000000 then 3 else 0):=rfl
 obtain⟨kk,hkk⟩:∃ x,x=nbCode ks sn nx id os:=⟨_,rfl⟩
 rw[←hkk] at HC0 ⊢
 obtain⟨ck,hck⟩:∃ x,x=clientOk ks sn nx:=⟨_,rfl⟩
 rw[←hck] at HC0 K1
 obtain⟨bk,hbk⟩:∃ x,x=batchOk id nx os:=⟨_,rfl⟩
 rw[←hbk] at HC0 HK2
 clear hkk hck hbk hs hm hs2 hm2 hE hcb hbb hl hl2
 rw[hwa] at K1 p0 p1 p2
 go_enter Tryd.func14,Tryd.ntmps14
 go_wp2_with fail
 refine K1.mono ?_
 rintro e w1 ⟨rfl,b1⟩
 rw[←hwa] at b1
 have B1:Hid (Below w.heap.size w w1):=B0.trans (b1.mono B0.size)
 have H1:Hid (w1.heap[w.heap.size]? = some (.cells #[.slice a ks.length cap,.int .i64 sn,.int .i64 nx] 26 (0,0))):=(b1.block _ (lt_of_block H0.out)).trans H0.out
 have R1:Hid (w1.heap[w.heap.size+1]? = some (.cells #[.int .i64 0,.int .i64 0,.slice none 0 0] 31 (0,0))):=(b1.block _ (lt_of_block R0.out)).trans R0.out
 clear p0 p1 p2 K1 b1 H0 R0 B0 hwa
 cases ck with
 | false =>
   have HC:Hid (kk=1):=by rw[Hid,HC0.out];rfl
   have c0:=(HE.out.later B1.out).g0
   have HBZ:Hid (Below w.heap.size w (((w1.setCell ⟨w.heap.size+1,0,none⟩ (.int .i64 0)).setCell ⟨w.heap.size+1,1,none⟩ (.int .i64 0)).setCell ⟨w.heap.size+1,2,none⟩ (.slice none 0 0)).drew):=by
    have hz:Below w.heap.size w (((w1.setCell ⟨w.heap.size+1,0,none⟩ (.int .i64 0)).setCell ⟨w.heap.size+1,1,none⟩ (.int .i64 0)).setCell ⟨w.heap.size+1,2,none⟩ (.slice none 0 0)):=((B1.out.setCell (by simp) _).setCell (by simp) _).setCell (by simp) _
    exact⟨hz.os,hz.tape,hz.output,hz.size,hz.block⟩
   have HFZ:Hid ((((w1.setCell ⟨w.heap.size+1,0,none⟩ (.int .i64 0)).setCell ⟨w.heap.size+1,1,none⟩ (.int .i64 0)).setCell ⟨w.heap.size+1,2,none⟩ (.slice none 0 0)).drew.heap[w.heap.size+1]? = some (.cells #[.int .i64 0,.int .i64 0,.slice none 0 0] 31 (0,0))):=bat_set (j:=2) (bat_set (j:=1) (bat_set (j:=0) R1.out))
   have hgl:=World.block_lt_of_cell? w _ HE.out.g0
   obtain⟨y0,y1,y2,yf⟩:=bat_cells R1.out
   have yf0:=yf 0
   have yf1:=yf 1
   have yf2:=yf 2
   clear yf HK2 HK3 HC0 H1
   go_wp2
   go_region
   all_goals
    go_wp2
    refine bodyPost_ret (v:=.tuple #[.agg #[.int .i64 0,.int .i64 0,.slice none 0 0],.iface 113 (.pointer (some e0))]) (results_csE rfl _ _ (w.heap.size+1) 31 _ _ rfl HFZ.out Tryd.underlying31 rfl (by kernel_rfl) _ rfl) rfl ?_
    exact .inr ⟨e0,.inl ⟨HC.out,rfl⟩,rfl,HBZ.out⟩
 | true =>
   replace HC0:Hid (kk=if bk=false then 2 else if nx=1000000000000 then 3 else 0):=by rw[Hid,HC0.out];rfl
   obtain⟨p0,p1,p2,_⟩:=bat_cells H1.out
   have XB:Below w1.heap.size w1 (w1.alloc (.cells #[.int .i64 id,.int .i64 nx,.slice b os.length cb] 31)):=(Below.refl _ _).alloc (Nat.le_refl _) _
   have K2:=HK2.out (w1.alloc (.cells #[.int .i64 id,.int .i64 nx,.slice b os.length cb] 31)) (B1.out.trans (XB.mono B1.out.size))
   have HS1:Hid (w.heap.size+1<w1.heap.size):=lt_of_block R1.out
   obtain⟨t0,t1,t2,_⟩:=bat_cells (heap_alloc_new w1 (.cells #[.int .i64 id,.int .i64 nx,.slice b os.length cb] 31))
   have HXB:Hid (Below w1.heap.size w1 (w1.alloc (.cells #[.int .i64 id,.int .i64 nx,.slice b os.length cb] 31))):=XB
   clear XB
   go_wp2_with fail
   refine K2.mono ?_
   rintro e w3 ⟨rfl,b3⟩
   dsimp only
   obtain⟨bq,hbq⟩:∃ q,q=w1.heap.size:=⟨_,rfl⟩
   have T3:Hid (w3.heap[bq]? = some (.cells #[.int .i64 id,.int .i64 nx,.slice b os.length cb] 31 (0,0))):=by rw[hbq];exact (b3.block _ (by simp)).trans (heap_alloc_new w1 _)
   have B13:Below w1.heap.size w1 w3:=HXB.out.trans (b3.mono HXB.out.size)
   have B3:Hid (Below w.heap.size w w3):=B1.out.trans (B13.mono B1.out.size)
   have H3:Hid (w3.heap[w.heap.size]? = some (.cells #[.slice a ks.length cap,.int .i64 sn,.int .i64 nx] 26 (0,0))):=(B13.block _ (lt_of_block H1.out)).trans H1.out
   have R3:Hid (w3.heap[w.heap.size+1]? = some (.cells #[.int .i64 0,.int .i64 0,.slice none 0 0] 31 (0,0))):=(B13.block _ (lt_of_block R1.out)).trans R1.out
   have HQ:Hid (w.heap.size+1<bq):=by rw[hbq];exact HS1.out
   rw[←hbq]
   clear K2 b3 t0 t1 t2 p0 p1 p2 H1 R1 HXB B13 hbq HK2 HS1 B1
   cases bk with
   | false =>
     have HC:Hid (kk=2):=by rw[Hid,HC0.out];rfl
     have c0:=(HE.out.later B3.out).g1
     have HBZ:Hid (Below w.heap.size w (((w3.setCell ⟨w.heap.size+1,0,none⟩ (.int .i64 0)).setCell ⟨w.heap.size+1,1,none⟩ (.int .i64 0)).setCell ⟨w.heap.size+1,2,none⟩ (.slice none 0 0)).drew):=by
      have hz:Below w.heap.size w (((w3.setCell ⟨w.heap.size+1,0,none⟩ (.int .i64 0)).setCell ⟨w.heap.size+1,1,none⟩ (.int .i64 0)).setCell ⟨w.heap.size+1,2,none⟩ (.slice none 0 0)):=((B3.out.setCell (by simp) _).setCell (by simp) _).setCell (by simp) _
      exact⟨hz.os,hz.tape,hz.output,hz.size,hz.block⟩
     have HFZ:Hid ((((w3.setCell ⟨w.heap.size+1,0,none⟩ (.int .i64 0)).setCell ⟨w.heap.size+1,1,none⟩ (.int .i64 0)).setCell ⟨w.heap.size+1,2,none⟩ (.slice none 0 0)).drew.heap[w.heap.size+1]? = some (.cells #[.int .i64 0,.int .i64 0,.slice none 0 0] 31 (0,0))):=bat_set (j:=2) (bat_set (j:=1) (bat_set (j:=0) R3.out))
     have hgl:=World.block_lt_of_cell? w _ HE.out.g1
     obtain⟨y0,y1,y2,yf⟩:=bat_cells R3.out
     have yf0:=yf 0
     have yf1:=yf 1
     have yf2:=yf 2
     clear yf HK3 HC0 H3 T3 HQ
     go_wp2
     go_region
     all_goals
      go_wp2
      refine bodyPost_ret (v:=.tuple #[.agg #[.int .i64 0,.int .i64 0,.slice none 0 0],.iface 113 (.pointer (some e1))]) (results_csE rfl _ _ (w.heap.size+1) 31 _ _ rfl HFZ.out Tryd.underlying31 rfl (by kernel_rfl) _ rfl) rfl ?_
      exact .inr ⟨e1,.inr (.inl ⟨HC.out,rfl⟩),rfl,HBZ.out⟩
   | true =>
     by_cases hn:nx=1000000000000
     · have hnb:(nx == 1000000000000)=true:=by rw[hn];rfl
       have HC:Hid (kk=3):=by rw[Hid,HC0.out,if_neg (by simp),if_pos hn]
       clear hn
       obtain⟨p0,p1,p2,_⟩:=bat_cells H3.out
       have c0:=(HE.out.later B3.out).g2
       have HBZ:Hid (Below w.heap.size w (((w3.setCell ⟨w.heap.size+1,0,none⟩ (.int .i64 0)).setCell ⟨w.heap.size+1,1,none⟩ (.int .i64 0)).setCell ⟨w.heap.size+1,2,none⟩ (.slice none 0 0)).drew):=by
        have hz:Below w.heap.size w (((w3.setCell ⟨w.heap.size+1,0,none⟩ (.int .i64 0)).setCell ⟨w.heap.size+1,1,none⟩ (.int .i64 0)).setCell ⟨w.heap.size+1,2,none⟩ (.slice none 0 0)):=((B3.out.setCell (by simp) _).setCell (by simp) _).setCell (by simp) _
        exact⟨hz.os,hz.tape,hz.output,hz.size,hz.block⟩
       have HFZ:Hid ((((w3.setCell ⟨w.heap.size+1,0,none⟩ (.int .i64 0)).setCell ⟨w.heap.size+1,1,none⟩ (.int .i64 0)).setCell ⟨w.heap.size+1,2,none⟩ (.slice none 0 0)).drew.heap[w.heap.size+1]? = some (.cells #[.int .i64 0,.int .i64 0,.slice none 0 0] 31 (0,0))):=bat_set (j:=2) (bat_set (j:=1) (bat_set (j:=0) R3.out))
       have hgl:=World.block_lt_of_cell? w _ HE.out.g2
       obtain⟨y0,y1,y2,yf⟩:=bat_cells R3.out
       have yf0:=yf 0
       have yf1:=yf 1
       have yf2:=yf 2
       clear yf HK3 HC0 T3 HQ
       go_wp2
       go_region
       all_goals
        go_wp2
        refine bodyPost_ret (v:=.tuple #[.agg #[.int .i64 0,.int .i64 0,.slice none 0 0],.iface 113 (.pointer (some e2))]) (results_csE rfl _ _ (w.heap.size+1) 31 _ _ rfl HFZ.out Tryd.underlying31 rfl (by kernel_rfl) _ rfl) rfl ?_
        exact .inr ⟨e2,.inr (.inr ⟨HC.out,rfl⟩),rfl,HBZ.out⟩
     · have hnb:(nx == 1000000000000)=false:=by rw[beq_eq_false_iff_ne];exact hn
       have HC:Hid (kk=0):=by rw[Hid,HC0.out,if_neg (by simp),if_neg hn]
       obtain⟨p0,p1,p2,_⟩:=bat_cells H3.out
       have K3:=HK3.out w3 B3.out
       clear HC0 HK3 hn
       go_wp2_with fail
       refine K3.mono ?_
       rintro e w4 ⟨x,c,rfl,o4,b4⟩
       dsimp only
       have B4:Hid (Below w.heap.size w w4):=B3.out.trans (b4.mono B3.out.size)
       have T4:Hid (w4.heap[bq]? = some (.cells #[.int .i64 id,.int .i64 nx,.slice b os.length cb] 31 (0,0))):=(b4.block _ (lt_of_block T3.out)).trans T3.out
       have R4:Hid (w4.heap[w.heap.size+1]? = some (.cells #[.int .i64 0,.int .i64 0,.slice none 0 0] 31 (0,0))):=(b4.block _ (lt_of_block R3.out)).trans R3.out
       have HL:Hid (bq<w3.heap.size):=lt_of_block T3.out
       have T5:Hid ((w4.setCell ⟨bq,2,none⟩ (.slice x os.length c)).heap[bq]? = some (.cells #[.int .i64 id,.int .i64 nx,.slice x os.length c] 31 (0,0))):=bat_set (j:=2) T4.out
       have R5:Hid ((w4.setCell ⟨bq,2,none⟩ (.slice x os.length c)).heap[w.heap.size+1]? = some (.cells #[.int .i64 0,.int .i64 0,.slice none 0 0] 31 (0,0))):=(Below.heap_setCell _ _ _ _ (by have:=HQ.out;simp only;omega)).trans R4.out
       have HO5:Hid (((((w4.setCell ⟨bq,2,none⟩ (.slice x os.length c)).setCell ⟨w.heap.size+1,0,none⟩ (.int .i64 id)).setCell ⟨w.heap.size+1,1,none⟩ (.int .i64 nx)).setCell ⟨w.heap.size+1,2,none⟩ (.slice x os.length c)).ownsRow (w.heap.size+2) 52 3 (.slice x os.length c) os.length (ocells os)):=by
        have h1:=HL.out
        have h2:=HQ.out
        exact (own_setN (own_setN (own_setN (own_setN o4 _ (by simp only;omega) _) _ (by simp only;omega) _) _ (by simp only;omega) _) _ (by simp only;omega) _).mono (by omega)
       have HB5:Hid (Below w.heap.size w ((((w4.setCell ⟨bq,2,none⟩ (.slice x os.length c)).setCell ⟨w.heap.size+1,0,none⟩ (.int .i64 id)).setCell ⟨w.heap.size+1,1,none⟩ (.int .i64 nx)).setCell ⟨w.heap.size+1,2,none⟩ (.slice x os.length c))):=by
        have h2:=HQ.out
        exact (((B4.out.setCell (by simp only;omega) _).setCell (by simp only;omega) _).setCell (by simp only;omega) _).setCell (by simp only;omega) _
       have HFZ:Hid (((((w4.setCell ⟨bq,2,none⟩ (.slice x os.length c)).setCell ⟨w.heap.size+1,0,none⟩ (.int .i64 id)).setCell ⟨w.heap.size+1,1,none⟩ (.int .i64 nx)).setCell ⟨w.heap.size+1,2,none⟩ (.slice x os.length c)).heap[w.heap.size+1]? = some (.cells #[.int .i64 id,.int .i64 nx,.slice x os.length c] 31 (0,0))):=bat_set (j:=2) (bat_set (j:=1) (bat_set (j:=0) R5.out))
       obtain⟨t0,t1,t2,tf⟩:=bat_cells T4.out
       have tf2:=tf 2
       obtain⟨y0,y1,y2,yf⟩:=bat_cells R5.out
       have yf0:=yf 0
       have yf1:=yf 1
       have yf2:=yf 2
       obtain⟨s0,s1,s2,_⟩:=bat_cells T5.out
       clear tf yf K3 o4 b4 p0 p1 p2 T5 R5 T4 R4 H3 R3 T3 B3 HE
       go_wp2
       refine bodyPost_ret (v:=.tuple #[.agg #[.int .i64 id,.int .i64 nx,.slice x os.length c],.nilIface]) (results_csE rfl _ _ (w.heap.size+1) 31 _ _ rfl HFZ.out Tryd.underlying31 rfl (by kernel_rfl) _ rfl) rfl ?_
       exact .inl ⟨x,c,HC.out,rfl,HO5.out,HB5.out⟩
abbrev NbL:=List (List UInt8) × Int × Int × Int × Int × List OpL × Bool
def nbR (ks:List (List UInt8)) (sn nx id:Int) (os:List OpL):NbL :=
 if nbCode ks sn nx id os=0 then (ks,sn,nx+1,id,nx,os,true) else if nbCode ks sn nx id os=1 then ([],0,0,0,0,[],false) else (ks,sn,nx,0,0,[],false)
def NnPost (w w':World) (e:Ending) (r:NbL):Prop :=
 ∃ (x:Option Addr) (c:Nat) (y:Option Addr) (d:Nat),e=.returned (.tuple #[.agg #[.slice x r.1.length c,.int .i64 r.2.1,.int .i64 r.2.2.1],.agg #[.int .i64 r.2.2.2.1,.int .i64 r.2.2.2.2.1,.slice y r.2.2.2.2.2.1.length d],.bool r.2.2.2.2.2.2])∧w'.ownsRow w.heap.size 9 1 (.slice x r.1.length c) r.1.length (scells r.1)∧w'.ownsRow w.heap.size 52 3 (.slice y r.2.2.2.2.2.1.length d) r.2.2.2.2.2.1.length (ocells r.2.2.2.2.2.1)∧(∀ q,(Value.slice x r.1.length c).ownBlock=some q→(Value.slice y r.2.2.2.2.2.1.length d).ownBlock≠some q)∧Below w.heap.size w w'
theorem results_ccbN {P:Program} {fn:Func} {p q r:Tmp} {ty tz:TypeId} (h:fn.results=#[.cell p ty,.cell q tz,.tmp r]) (tmps:Array Value) (w:World) (g k:Nat) (t t':TypeId) (cs ds:Array Value) (d d':TypeDesc)
 (hp:tmps.getD p undef=.pointer (some ⟨g,0,none⟩)) (hg:w.heap[g]? = some (.cells cs t (0,0))) (hu:P.underlying ty=some d) (hd:(match d with | .struct _ | .array _ _=>true | _=>false)=true) (hi:(P.info? ty).map (·.size)=some cs.size)
 (hq:tmps.getD q undef=.pointer (some ⟨k,0,none⟩)) (hk:w.heap[k]? = some (.cells ds t' (0,0))) (hu':P.underlying tz=some d') (hd':(match d' with | .struct _ | .array _ _=>true | _=>false)=true) (hi':(P.info? tz).map (·.size)=some ds.size) (vb:Value) (hb:tmps.getD r undef=vb) :
 (results fn tmps).run P w=.ok (.tuple #[.agg cs,.agg ds,vb]) w:=by
 subst hb
 have hp':tmps[p]?.getD undef=.pointer (some ⟨g,0,none⟩):=by simpa using hp
 have hq':tmps[q]?.getD undef=.pointer (some ⟨k,0,none⟩):=by simpa using hq
 simp[results,h,hp',hq',asAddr,run_loadVar_row w g t ty cs (0,0) d hg hu hd hi,run_loadVar_row w k t' tz ds (0,0) d' hk hu' hd' hi']
theorem set3N {W:World} {b q0:Nat} {u v x:Value} (h:q0≠b):(((W.setCell ⟨b,0,none⟩ u).setCell ⟨b,1,none⟩ v).setCell ⟨b,2,none⟩ x).heap[q0]? = W.heap[q0]? := by
 rw[Below.heap_setCell _ _ _ _ h,Below.heap_setCell _ _ _ _ h,Below.heap_setCell _ _ _ _ h]
theorem keptN1 {w w':World} {b e n:Nat} {v:Value} {xs:List Value} (h:w.ownsRow b e 1 v n xs) (hb:Below w.heap.size w w'):w'.ownsRow b e 1 v n xs :=
 h.kept (row:=none) ⟨hb.os,hb.tape,hb.output,hb.size,fun k hk _=>hb.block k hk⟩ (by cases v.ownBlock with | none=>exact .inl rfl | some q=>exact .inr (by simp))
theorem keptN3 {w w':World} {b e n:Nat} {v:Value} {xs:List Value} (h:w.ownsRow b e 3 v n xs) (hb:Below w.heap.size w w'):w'.ownsRow b e 3 v n xs :=
 h.kept (row:=none) ⟨hb.os,hb.tape,hb.output,hb.size,fun k hk _=>hb.block k hk⟩ (by cases v.ownBlock with | none=>exact .inl rfl | some q=>exact .inr (by simp))
set_option maxRecDepth 100000 in
set_option maxHeartbeats 8000000 in
theorem impl_nextBatch (a:Option Addr) (cap:Nat) (ks:List (List UInt8)) (sn nx id:Int) (b:Option Addr) (cb:Nat) (os:List OpL) (w:World) (e0 e1 e2:Addr) (hE:Errs w e0 e1 e2) (hl:ks.length≤1048576) (hm:∀ l∈ks,l.length≤1048576) (hca:a=none→cap=0) (haa:a=none∨∃ g off,a=some ⟨g,off,none⟩) (hs:IsStrs w a ks) (hl2:os.length≤1048576) (hm2:∀ p∈os,p.1.length≤1048576∧p.2.1.length≤1048576) (hcb:b=none→cb=0) (hbb:b=none∨∃ g off,b=some ⟨g,off,none⟩) (hs2:IsOps w b os) :
 Calls Tryd.prog 6 #[.agg #[.slice a ks.length cap,.int .i64 sn,.int .i64 nx],.int .i64 id,.slice b os.length cb] w fun e w'=>NnPost w w' e (nbR ks sn nx id os):=by
 obtain⟨wa,hwa⟩:∃ wa,wa=(((w.alloc (.cells #[.slice a ks.length cap,.int .i64 sn,.int .i64 nx] 26)).alloc (.cells #[.slice none 0 0,.int .i64 0,.int .i64 0] 26)).alloc (.cells #[.int .i64 0,.int .i64 0,.slice none 0 0] 31)):=⟨_,rfl⟩
 have B0:Below w.heap.size w wa:=by rw[hwa];exact (((Below.refl _ _).alloc (Nat.le_refl _) _).alloc (by simp) _).alloc (by simp <;> omega) _
 have H0:Hid (wa.heap[w.heap.size]? = some (.cells #[.slice a ks.length cap,.int .i64 sn,.int .i64 nx] 26 (0,0))):=by rw[hwa,Hid,Below.heap_alloc _ _ _ (by simp <;> omega),Below.heap_alloc _ _ _ (by simp)];exact heap_alloc_new w _
 have R60:Hid (wa.heap[w.heap.size+1]? = some (.cells #[.slice none 0 0,.int .i64 0,.int .i64 0] 26 (0,0))):=by
  rw[hwa,Hid,Below.heap_alloc _ _ _ (by simp)]
  have:=heap_alloc_new (w.alloc (.cells #[.slice a ks.length cap,.int .i64 sn,.int .i64 nx] 26)) (.cells #[.slice none 0 0,.int .i64 0,.int .i64 0] 26)
  simpa using this
 have R70:Hid (wa.heap[w.heap.size+1+1]? = some (.cells #[.int .i64 0,.int .i64 0,.slice none 0 0] 31 (0,0))):=by
  rw[hwa,Hid]
  have:=heap_alloc_new ((w.alloc (.cells #[.slice a ks.length cap,.int .i64 sn,.int .i64 nx] 26)).alloc (.cells #[.slice none 0 0,.int .i64 0,.int .i64 0] 26)) (.cells #[.int .i64 0,.int .i64 0,.slice none 0 0] 31)
  simpa using this
 obtain⟨p0,p1,p2,_⟩:=bat_cells H0.out
 have K1:=impl_batchBy a cap ks sn nx id b cb os wa e0 e1 e2 (hE.later B0) hl hm (strs_later hs B0) hl2 hm2 hcb hbb (hs2.later B0)
 have HE:Hid (Errs w e0 e1 e2):=hE
 have HS:Hid (∀ W,Below w.heap.size w W→IsStrs W a ks):=fun W hW=>strs_later hs hW
 have HKN:Hid (∀ W,Errs W e0 e1 e2→IsStrs W a ks→_):=fun W h h2=>impl_behind_nil a cap ks sn nx W e0 e1 e2 h hl hca haa h2
 have HKB:Hid (∀ W,Errs W e0 e1 e2→IsStrs W a ks→_):=fun W h h2=>impl_behind_batch a cap ks sn nx W e0 e1 e2 h hl hca haa h2
 have HKL:Hid (∀ W,Errs W e0 e1 e2→IsStrs W a ks→_):=fun W h h2=>impl_behind_last a cap ks sn nx W e0 e1 e2 h hl hca haa h2
 have HKC:Hid (∀ W,Errs W e0 e1 e2→_):=fun W h=>impl_behind_client a cap ks sn nx W e0 e1 e2 h
 have HR0:Hid (nbR ks sn nx id os=if nbCode ks sn nx id os=0 then (ks,sn,nx+1,id,nx,os,true) else if nbCode ks sn nx id os=1 then ([],0,0,0,0,[],false) else (ks,sn,nx,0,0,[],false)):=rfl
 have HNX : Hid (nbCode ks sn nx id os = 0 → 1 ≤ nx ∧ nx + 1 ≤ 1000000000000) := fun h => by
  unfold nbCode at h
  cases hc:clientOk ks sn nx with
  | false=>rw[hc] at h;simp at h
  | true =>
    rw[hc] at h
    simp only[clientOk,numIn,Bool.and_eq_true,decide_eq_true_eq] at hc
    by_cases hn:nx=1000000000000
    · rw[if_neg (by simp)] at h
      split at h
      all_goals first | cases h | (rw[if_pos hn] at h;cases h)
    · omega
 obtain⟨rr,hrr⟩:∃ x,x=nbR ks sn nx id os:=⟨_,rfl⟩
 rw[←hrr] at HR0 ⊢
 obtain⟨kk,hkk⟩:∃ x,x=nbCode ks sn nx id os:=⟨_,rfl⟩
 rw[←hkk] at HR0 K1 HNX
 unfold NbPost at K1
 clear hrr hkk hs hm hs2 hm2 hE hcb hbb hl hl2 hca haa
 rw[hwa] at K1 p0 p1 p2
 go_enter Tryd.func6,Tryd.ntmps6
 go_wp2_with fail
 refine K1.mono ?_
 rw[←hwa]
 intro e w1 hres
 have hb1:Below wa.heap.size wa w1:=by
  rcases hres with ⟨_,_,_,_,_,h⟩ | ⟨_,_,_,h⟩
  · exact h
  · exact h
 have B1:Hid (Below w.heap.size w w1):=B0.trans (hb1.mono B0.size)
 have H1:Hid (w1.heap[w.heap.size]? = some (.cells #[.slice a ks.length cap,.int .i64 sn,.int .i64 nx] 26 (0,0))):=(hb1.block _ (lt_of_block H0.out)).trans H0.out
 have R6:Hid (w1.heap[w.heap.size+1]? = some (.cells #[.slice none 0 0,.int .i64 0,.int .i64 0] 26 (0,0))):=(hb1.block _ (lt_of_block R60.out)).trans R60.out
 have R7:Hid (w1.heap[w.heap.size+1+1]? = some (.cells #[.int .i64 0,.int .i64 0,.slice none 0 0] 31 (0,0))):=(hb1.block _ (lt_of_block R70.out)).trans R70.out
 have HZ:Hid (wa.heap.size=w.heap.size+1+1+1):=by rw[hwa,Hid];simp
 clear p0 p1 p2 K1 H0 R60 R70 B0 hwa hb1
 rcases hres with ⟨y,d,hk,rfl,o1,_⟩ | ⟨er,her,rfl,_⟩
 · dsimp only
   have HR:Hid (rr=(ks,sn,nx+1,id,nx,os,true)):=by rw[Hid,HR0.out,if_pos hk]
   have hnx:=HNX.out hk
   have hwr:IntKind.i64.wrap (nx+1)=nx+1:=i64_wrap_small (nx+1) (by have:=hnx.1;omega) (by have:=hnx.2;omega)
   have O1:Hid (w1.ownsRow (w.heap.size+1+1+1) 52 3 (.slice y os.length d) os.length (ocells os)):=o1.mono (by rw[HZ.out];omega)
   have X2:Below w1.heap.size w1 (w1.alloc (.cells #[.int .i64 id,.int .i64 nx,.slice y os.length d] 31)):=(Below.refl _ _).alloc (Nat.le_refl _) _
   have KB2:=HKN.out (w1.alloc (.cells #[.int .i64 id,.int .i64 nx,.slice y os.length d] 31)) (HE.out.later (B1.out.trans (X2.mono B1.out.size))) (HS.out _ (B1.out.trans (X2.mono B1.out.size)))
   have H2:Hid ((w1.alloc (.cells #[.int .i64 id,.int .i64 nx,.slice y os.length d] 31)).heap[w.heap.size]? = some (.cells #[.slice a ks.length cap,.int .i64 sn,.int .i64 nx] 26 (0,0))):=(X2.block _ (lt_of_block H1.out)).trans H1.out
   have HX2:Hid (Below w1.heap.size w1 (w1.alloc (.cells #[.int .i64 id,.int .i64 nx,.slice y os.length d] 31))):=X2
   have T2:Hid ((w1.alloc (.cells #[.int .i64 id,.int .i64 nx,.slice y os.length d] 31)).heap[w1.heap.size]? = some (.cells #[.int .i64 id,.int .i64 nx,.slice y os.length d] 31 (0,0))):=heap_alloc_new w1 _
   obtain⟨p0,p1,p2,_⟩:=bat_cells H2.out
   clear X2 HKB HKL HKC hk HNX HR0
   go_wp2_with fail
   refine KB2.mono ?_
   rintro e w3 ⟨x,c,rfl,o3,b3⟩
   dsimp only
   have B13:Hid (Below w1.heap.size w1 w3):=HX2.out.trans (b3.mono HX2.out.size)
   have T3:Hid (w3.heap[w1.heap.size]? = some (.cells #[.int .i64 id,.int .i64 nx,.slice y os.length d] 31 (0,0))):=(b3.block _ (lt_of_block T2.out)).trans T2.out
   have HL13:Hid (w1.heap.size<w3.heap.size):=lt_of_block T3.out
   have B34:Below w3.heap.size w3 (w3.alloc (.cells #[.slice x ks.length c,.int .i64 sn,.int .i64 nx] 26)):=(Below.refl _ _).alloc (Nat.le_refl _) _
   obtain⟨w5,hw5⟩:∃ W,W=(w3.alloc (.cells #[.slice x ks.length c,.int .i64 sn,.int .i64 (nx+1)] 26)):=⟨_,rfl⟩
   have X35:Below w3.heap.size w3 w5:=by rw[hw5];exact (Below.refl _ _).alloc (Nat.le_refl _) _
   have BW5:Hid (Below w.heap.size w w5):=B1.out.trans ((B13.out.trans (X35.mono B13.out.size)).mono B1.out.size)
   have Q6:Hid (w5.heap[w.heap.size+1]? = some (.cells #[.slice none 0 0,.int .i64 0,.int .i64 0] 26 (0,0))):=((B13.out.trans (X35.mono B13.out.size)).block _ (lt_of_block R6.out)).trans R6.out
   have Q7:Hid (w5.heap[w.heap.size+1+1]? = some (.cells #[.int .i64 0,.int .i64 0,.slice none 0 0] 31 (0,0))):=((B13.out.trans (X35.mono B13.out.size)).block _ (lt_of_block R7.out)).trans R7.out
   have T5:Hid (w5.heap[w1.heap.size]? = some (.cells #[.int .i64 id,.int .i64 nx,.slice y os.length d] 31 (0,0))):=(X35.block _ (lt_of_block T3.out)).trans T3.out
   have C5:Hid (w5.heap[w3.heap.size]? = some (.cells #[.slice x ks.length c,.int .i64 sn,.int .i64 (nx+1)] 26 (0,0))):=by rw[hw5];exact heap_alloc_new w3 _
   have O5x:Hid (w5.ownsRow (w1.heap.size+1) 9 1 (.slice x ks.length c) ks.length (scells ks)):=by
    rw[hw5,Hid]
    exact (o3.mono (by simp)).alloc _
   have O5y:Hid (w5.ownsRow (w.heap.size+1+1+1) 52 3 (.slice y os.length d) os.length (ocells os)):=keptN3 O1.out (B13.out.trans (X35.mono B13.out.size))
   have HAP:Hid (∀ q,(Value.slice x ks.length c).ownBlock=some q→(Value.slice y os.length d).ownBlock≠some q):=fun q h1 h2=>by
    have g1:=(o3.lt q h1).1
    have g2:=(O1.out.lt q h2).2
    simp at g1
    omega
   obtain⟨v0,v1,v2,vf⟩:=bat_cells (heap_alloc_new w3 (.cells #[.slice x ks.length c,.int .i64 sn,.int .i64 nx] 26))
   have vf2:=vf 2
   obtain⟨w6,hw6⟩:∃ W,W=((((((w5.setCell ⟨w.heap.size+1,0,none⟩ (.slice x ks.length c)).setCell ⟨w.heap.size+1,1,none⟩ (.int .i64 sn)).setCell ⟨w.heap.size+1,2,none⟩ (.int .i64 (nx+1))).setCell ⟨w.heap.size+1+1,0,none⟩ (.int .i64 id)).setCell ⟨w.heap.size+1+1,1,none⟩ (.int .i64 nx)).setCell ⟨w.heap.size+1+1,2,none⟩ (.slice y os.length d)):=⟨_,rfl⟩
   have HS7:Hid (w.heap.size+1+1<w1.heap.size):=lt_of_block R7.out
   have F6:w6.heap[w.heap.size+1]? = some (.cells #[.slice x ks.length c,.int .i64 sn,.int .i64 (nx+1)] 26 (0,0)):=by
    rw[hw6,set3N (by omega)]
    exact bat_set (j:=2) (bat_set (j:=1) (bat_set (j:=0) Q6.out))
   have F7:w6.heap[w.heap.size+1+1]? = some (.cells #[.int .i64 id,.int .i64 nx,.slice y os.length d] 31 (0,0)):=by
    rw[hw6]
    exact bat_set (j:=2) (bat_set (j:=1) (bat_set (j:=0) ((set3N (by omega)).trans Q7.out)))
   have FB:Below w.heap.size w w6:=by
    rw[hw6]
    exact (((((BW5.out.setCell (by simp) _).setCell (by simp) _).setCell (by simp) _).setCell (by simp only;omega) _).setCell (by simp only;omega) _).setCell (by simp only;omega) _
   have FX:w6.ownsRow w.heap.size 9 1 (.slice x ks.length c) ks.length (scells ks):=by
    have h7:=HS7.out
    rw[hw6]
    exact (own_setN (own_setN (own_setN (own_setN (own_setN (own_setN O5x.out _ (by simp only;omega) _) _ (by simp only;omega) _) _ (by simp only;omega) _) _ (by simp only;omega) _) _ (by simp only;omega) _) _ (by simp only;omega) _).mono (by omega)
   have FY:w6.ownsRow w.heap.size 52 3 (.slice y os.length d) os.length (ocells os):=by
    rw[hw6]
    exact (own_setN (own_setN (own_setN (own_setN (own_setN (own_setN O5y.out _ (by simp only;omega) _) _ (by simp only;omega) _) _ (by simp only;omega) _) _ (by simp only;omega) _) _ (by simp only;omega) _) _ (by simp only;omega) _).mono (by omega)
   have HFC:Hid (w6.drew.heap[w.heap.size+1]? = some (.cells #[.slice x ks.length c,.int .i64 sn,.int .i64 (nx+1)] 26 (0,0))):=F6
   have HFB:Hid (w6.drew.heap[w.heap.size+1+1]? = some (.cells #[.int .i64 id,.int .i64 nx,.slice y os.length d] 31 (0,0))):=F7
   have HBZ:Hid (Below w.heap.size w w6.drew):=⟨FB.os,FB.tape,FB.output,FB.size,FB.block⟩
   have HOX:Hid (w6.drew.ownsRow w.heap.size 9 1 (.slice x ks.length c) ks.length (scells ks)):=keptN1 FX ⟨rfl,rfl,rfl,Nat.le_refl _,fun _ _=>rfl⟩
   have HOY:Hid (w6.drew.ownsRow w.heap.size 52 3 (.slice y os.length d) os.length (ocells os)):=keptN3 FY ⟨rfl,rfl,rfl,Nat.le_refl _,fun _ _=>rfl⟩
   have HPN:Hid (NnPost w w6.drew (.returned (.tuple #[.agg #[.slice x ks.length c,.int .i64 sn,.int .i64 (nx+1)],.agg #[.int .i64 id,.int .i64 nx,.slice y os.length d],.bool true])) rr):=by
    rw[Hid,HR.out]
    exact⟨x,c,y,d,rfl,HOX.out,HOY.out,HAP.out,HBZ.out⟩
   obtain⟨y0,y1,y2,yf⟩:=bat_cells Q6.out
   have yf0:=yf 0
   have yf1:=yf 1
   have yf2:=yf 2
   obtain⟨z0,z1,z2,zf⟩:=bat_cells Q7.out
   have zf0:=zf 0
   have zf1:=zf 1
   have zf2:=zf 2
   clear yf zf F6 F7 FB FX FY HOX HOY HBZ
   rw[hw6] at HFC HFB HPN
   obtain⟨t0,t1,t2,_⟩:=bat_cells T5.out
   have T5b:(((w5.setCell ⟨w.heap.size+1,0,none⟩ (.slice x ks.length c)).setCell ⟨w.heap.size+1,1,none⟩ (.int .i64 sn)).setCell ⟨w.heap.size+1,2,none⟩ (.int .i64 (nx+1))).heap[w1.heap.size]? = some (.cells #[.int .i64 id,.int .i64 nx,.slice y os.length d] 31 (0,0)):=(set3N (by have:=HS7.out;omega)).trans T5.out
   obtain⟨t0',t1',t2',_⟩:=bat_cells T5b
   obtain⟨s0,s1,s2,_⟩:=bat_cells C5.out
   clear KB2 p0 p1 p2 B34 o3 b3 vf o1
   rw[hw5] at y0 y1 y2 yf0 yf1 yf2 z0 z1 z2 zf0 zf1 zf2 t0 t1 t2 s0 s1 s2 t0' t1' t2' HFC HFB HPN
   clear T5b Q6 Q7 T5 C5 O5x O5y BW5 X35 hw5 hw6 HAP HR HKN HE HS T2 T3 O1 H1 H2 R6 R7
   go_wp2
   go_region
   all_goals
    go_wp2
    refine bodyPost_ret (v:=.tuple #[.agg #[.slice x ks.length c,.int .i64 sn,.int .i64 (nx+1)],.agg #[.int .i64 id,.int .i64 nx,.slice y os.length d],.bool true]) (results_ccbN rfl _ _ (w.heap.size+1) (w.heap.size+1+1) 26 31 _ _ _ _ rfl HFC.out Tryd.underlying26 rfl (by kernel_rfl) rfl HFB.out Tryd.underlying31 rfl (by kernel_rfl) _ rfl) rfl ?_
    exact HPN.out
 · dsimp only
   rcases her with ⟨hk,rfl⟩ | ⟨hk,rfl⟩ | ⟨hk,rfl⟩
   · have HR:Hid (rr=([],0,0,0,0,[],false)):=by rw[Hid,HR0.out,hk];rfl
     clear hk HNX HR0 HKN HKB HKL
     have KB:=HKC.out
     have X2:Below w1.heap.size w1 (w1.alloc (.cells #[.int .i64 0,.int .i64 0,.slice none 0 0] 31)):=(Below.refl _ _).alloc (Nat.le_refl _) _
     have KB2:=KB (w1.alloc (.cells #[.int .i64 0,.int .i64 0,.slice none 0 0] 31)) (HE.out.later (B1.out.trans (X2.mono B1.out.size)))
     have H2:Hid ((w1.alloc (.cells #[.int .i64 0,.int .i64 0,.slice none 0 0] 31)).heap[w.heap.size]? = some (.cells #[.slice a ks.length cap,.int .i64 sn,.int .i64 nx] 26 (0,0))):=(X2.block _ (lt_of_block H1.out)).trans H1.out
     have HX2:Hid (Below w1.heap.size w1 (w1.alloc (.cells #[.int .i64 0,.int .i64 0,.slice none 0 0] 31))):=X2
     obtain⟨p0,p1,p2,_⟩:=bat_cells H2.out
     clear KB X2
     go_wp2_with fail
     refine KB2.mono ?_
     rintro e w3 ⟨rfl,b3⟩
     dsimp only
     have B13:Hid (Below w1.heap.size w1 w3):=HX2.out.trans (b3.mono HX2.out.size)
     have B34:Below w3.heap.size w3 (w3.alloc (.cells #[.slice none 0 0,.int .i64 0,.int .i64 0] 26)):=(Below.refl _ _).alloc (Nat.le_refl _) _
     have B4:Hid (Below w.heap.size w (w3.alloc (.cells #[.slice none 0 0,.int .i64 0,.int .i64 0] 26))):=B1.out.trans ((B13.out.trans (B34.mono B13.out.size)).mono B1.out.size)
     have Q6:Hid ((w3.alloc (.cells #[.slice none 0 0,.int .i64 0,.int .i64 0] 26)).heap[w.heap.size+1]? = some (.cells #[.slice none 0 0,.int .i64 0,.int .i64 0] 26 (0,0))):=((B13.out.trans (B34.mono B13.out.size)).block _ (lt_of_block R6.out)).trans R6.out
     have Q7:Hid ((w3.alloc (.cells #[.slice none 0 0,.int .i64 0,.int .i64 0] 26)).heap[w.heap.size+1+1]? = some (.cells #[.int .i64 0,.int .i64 0,.slice none 0 0] 31 (0,0))):=((B13.out.trans (B34.mono B13.out.size)).block _ (lt_of_block R7.out)).trans R7.out
     obtain⟨t0,t1,t2,_⟩:=bat_cells (heap_alloc_new w3 (.cells #[.slice none 0 0,.int .i64 0,.int .i64 0] 26))
     have HFC:Hid ((((((((w3.alloc (.cells #[.slice none 0 0,.int .i64 0,.int .i64 0] 26)).setCell ⟨w.heap.size+1,0,none⟩ (.slice none 0 0)).setCell ⟨w.heap.size+1,1,none⟩ (.int .i64 0)).setCell ⟨w.heap.size+1,2,none⟩ (.int .i64 0)).setCell ⟨w.heap.size+1+1,0,none⟩ (.int .i64 0)).setCell ⟨w.heap.size+1+1,1,none⟩ (.int .i64 0)).setCell ⟨w.heap.size+1+1,2,none⟩ (.slice none 0 0)).heap[w.heap.size+1]? = some (.cells #[.slice none 0 0,.int .i64 0,.int .i64 0] 26 (0,0))):=by
      show (((((((w3.alloc (.cells #[.slice none 0 0,.int .i64 0,.int .i64 0] 26)).setCell ⟨w.heap.size+1,0,none⟩ (.slice none 0 0)).setCell ⟨w.heap.size+1,1,none⟩ (.int .i64 0)).setCell ⟨w.heap.size+1,2,none⟩ (.int .i64 0)).setCell ⟨w.heap.size+1+1,0,none⟩ (.int .i64 0)).setCell ⟨w.heap.size+1+1,1,none⟩ (.int .i64 0)).setCell ⟨w.heap.size+1+1,2,none⟩ (.slice none 0 0)).heap[w.heap.size+1]? = _
      rw[set3N (by omega)]
      exact bat_set (j:=2) (bat_set (j:=1) (bat_set (j:=0) Q6.out))
     have HFB:Hid ((((((((w3.alloc (.cells #[.slice none 0 0,.int .i64 0,.int .i64 0] 26)).setCell ⟨w.heap.size+1,0,none⟩ (.slice none 0 0)).setCell ⟨w.heap.size+1,1,none⟩ (.int .i64 0)).setCell ⟨w.heap.size+1,2,none⟩ (.int .i64 0)).setCell ⟨w.heap.size+1+1,0,none⟩ (.int .i64 0)).setCell ⟨w.heap.size+1+1,1,none⟩ (.int .i64 0)).setCell ⟨w.heap.size+1+1,2,none⟩ (.slice none 0 0)).heap[w.heap.size+1+1]? = some (.cells #[.int .i64 0,.int .i64 0,.slice none 0 0] 31 (0,0))):=bat_set (j:=2) (bat_set (j:=1) (bat_set (j:=0) ((set3N (by omega)).trans Q7.out)))
     have HBZ:Hid (Below w.heap.size w (((((((w3.alloc (.cells #[.slice none 0 0,.int .i64 0,.int .i64 0] 26)).setCell ⟨w.heap.size+1,0,none⟩ (.slice none 0 0)).setCell ⟨w.heap.size+1,1,none⟩ (.int .i64 0)).setCell ⟨w.heap.size+1,2,none⟩ (.int .i64 0)).setCell ⟨w.heap.size+1+1,0,none⟩ (.int .i64 0)).setCell ⟨w.heap.size+1+1,1,none⟩ (.int .i64 0)).setCell ⟨w.heap.size+1+1,2,none⟩ (.slice none 0 0))):=by
      have hz:Below w.heap.size w (((((((w3.alloc (.cells #[.slice none 0 0,.int .i64 0,.int .i64 0] 26)).setCell ⟨w.heap.size+1,0,none⟩ (.slice none 0 0)).setCell ⟨w.heap.size+1,1,none⟩ (.int .i64 0)).setCell ⟨w.heap.size+1,2,none⟩ (.int .i64 0)).setCell ⟨w.heap.size+1+1,0,none⟩ (.int .i64 0)).setCell ⟨w.heap.size+1+1,1,none⟩ (.int .i64 0)).setCell ⟨w.heap.size+1+1,2,none⟩ (.slice none 0 0)):=(((((B4.out.setCell (by simp) _).setCell (by simp) _).setCell (by simp) _).setCell (by simp only;omega) _).setCell (by simp only;omega) _).setCell (by simp only;omega) _
      exact⟨hz.os,hz.tape,hz.output,hz.size,hz.block⟩
     obtain⟨y0,y1,y2,yf⟩:=bat_cells Q6.out
     have yf0:=yf 0
     have yf1:=yf 1
     have yf2:=yf 2
     obtain⟨z0,z1,z2,zf⟩:=bat_cells Q7.out
     have zf0:=zf 0
     have zf1:=zf 1
     have zf2:=zf 2
     clear yf zf
     skip
     clear KB2 p0 p1 p2 B34 b3
     go_wp2
     refine bodyPost_ret (v:=.tuple #[.agg #[.slice none 0 0,.int .i64 0,.int .i64 0],.agg #[.int .i64 0,.int .i64 0,.slice none 0 0],.bool false]) (results_ccbN rfl _ _ (w.heap.size+1) (w.heap.size+1+1) 26 31 _ _ _ _ rfl HFC.out Tryd.underlying26 rfl (by kernel_rfl) rfl HFB.out Tryd.underlying31 rfl (by kernel_rfl) _ rfl) rfl ?_
     rw[HR.out]
     exact⟨none,0,none,0,rfl,World.ownsRow_nil _ _ _ _,World.ownsRow_nil _ _ _ _,fun q h=>by simp[Value.ownBlock] at h,HBZ.out⟩
   · have HR:Hid (rr=(ks,sn,nx,0,0,[],false)):=by rw[Hid,HR0.out,hk];rfl
     clear hk HNX HR0 HKN HKC HKL
     have KB:=HKB.out
     have X2:Below w1.heap.size w1 (w1.alloc (.cells #[.int .i64 0,.int .i64 0,.slice none 0 0] 31)):=(Below.refl _ _).alloc (Nat.le_refl _) _
     have KB2:=KB (w1.alloc (.cells #[.int .i64 0,.int .i64 0,.slice none 0 0] 31)) (HE.out.later (B1.out.trans (X2.mono B1.out.size))) (HS.out _ (B1.out.trans (X2.mono B1.out.size)))
     have H2:Hid ((w1.alloc (.cells #[.int .i64 0,.int .i64 0,.slice none 0 0] 31)).heap[w.heap.size]? = some (.cells #[.slice a ks.length cap,.int .i64 sn,.int .i64 nx] 26 (0,0))):=(X2.block _ (lt_of_block H1.out)).trans H1.out
     have HX2:Hid (Below w1.heap.size w1 (w1.alloc (.cells #[.int .i64 0,.int .i64 0,.slice none 0 0] 31))):=X2
     obtain⟨p0,p1,p2,_⟩:=bat_cells H2.out
     clear KB X2
     go_wp2_with fail
     refine KB2.mono ?_
     rintro e w3 ⟨x,c,rfl,o3,b3⟩
     dsimp only
     have B13:Hid (Below w1.heap.size w1 w3):=HX2.out.trans (b3.mono HX2.out.size)
     have B34:Below w3.heap.size w3 (w3.alloc (.cells #[.slice x ks.length c,.int .i64 sn,.int .i64 nx] 26)):=(Below.refl _ _).alloc (Nat.le_refl _) _
     have B4:Hid (Below w.heap.size w (w3.alloc (.cells #[.slice x ks.length c,.int .i64 sn,.int .i64 nx] 26))):=B1.out.trans ((B13.out.trans (B34.mono B13.out.size)).mono B1.out.size)
     have Q6:Hid ((w3.alloc (.cells #[.slice x ks.length c,.int .i64 sn,.int .i64 nx] 26)).heap[w.heap.size+1]? = some (.cells #[.slice none 0 0,.int .i64 0,.int .i64 0] 26 (0,0))):=((B13.out.trans (B34.mono B13.out.size)).block _ (lt_of_block R6.out)).trans R6.out
     have Q7:Hid ((w3.alloc (.cells #[.slice x ks.length c,.int .i64 sn,.int .i64 nx] 26)).heap[w.heap.size+1+1]? = some (.cells #[.int .i64 0,.int .i64 0,.slice none 0 0] 31 (0,0))):=((B13.out.trans (B34.mono B13.out.size)).block _ (lt_of_block R7.out)).trans R7.out
     obtain⟨t0,t1,t2,_⟩:=bat_cells (heap_alloc_new w3 (.cells #[.slice x ks.length c,.int .i64 sn,.int .i64 nx] 26))
     have HFC:Hid ((((((((w3.alloc (.cells #[.slice x ks.length c,.int .i64 sn,.int .i64 nx] 26)).setCell ⟨w.heap.size+1,0,none⟩ (.slice x ks.length c)).setCell ⟨w.heap.size+1,1,none⟩ (.int .i64 sn)).setCell ⟨w.heap.size+1,2,none⟩ (.int .i64 nx)).setCell ⟨w.heap.size+1+1,0,none⟩ (.int .i64 0)).setCell ⟨w.heap.size+1+1,1,none⟩ (.int .i64 0)).setCell ⟨w.heap.size+1+1,2,none⟩ (.slice none 0 0)).heap[w.heap.size+1]? = some (.cells #[.slice x ks.length c,.int .i64 sn,.int .i64 nx] 26 (0,0))):=by
      show (((((((w3.alloc (.cells #[.slice x ks.length c,.int .i64 sn,.int .i64 nx] 26)).setCell ⟨w.heap.size+1,0,none⟩ (.slice x ks.length c)).setCell ⟨w.heap.size+1,1,none⟩ (.int .i64 sn)).setCell ⟨w.heap.size+1,2,none⟩ (.int .i64 nx)).setCell ⟨w.heap.size+1+1,0,none⟩ (.int .i64 0)).setCell ⟨w.heap.size+1+1,1,none⟩ (.int .i64 0)).setCell ⟨w.heap.size+1+1,2,none⟩ (.slice none 0 0)).heap[w.heap.size+1]? = _
      rw[set3N (by omega)]
      exact bat_set (j:=2) (bat_set (j:=1) (bat_set (j:=0) Q6.out))
     have HFB:Hid ((((((((w3.alloc (.cells #[.slice x ks.length c,.int .i64 sn,.int .i64 nx] 26)).setCell ⟨w.heap.size+1,0,none⟩ (.slice x ks.length c)).setCell ⟨w.heap.size+1,1,none⟩ (.int .i64 sn)).setCell ⟨w.heap.size+1,2,none⟩ (.int .i64 nx)).setCell ⟨w.heap.size+1+1,0,none⟩ (.int .i64 0)).setCell ⟨w.heap.size+1+1,1,none⟩ (.int .i64 0)).setCell ⟨w.heap.size+1+1,2,none⟩ (.slice none 0 0)).heap[w.heap.size+1+1]? = some (.cells #[.int .i64 0,.int .i64 0,.slice none 0 0] 31 (0,0))):=bat_set (j:=2) (bat_set (j:=1) (bat_set (j:=0) ((set3N (by omega)).trans Q7.out)))
     have HBZ:Hid (Below w.heap.size w (((((((w3.alloc (.cells #[.slice x ks.length c,.int .i64 sn,.int .i64 nx] 26)).setCell ⟨w.heap.size+1,0,none⟩ (.slice x ks.length c)).setCell ⟨w.heap.size+1,1,none⟩ (.int .i64 sn)).setCell ⟨w.heap.size+1,2,none⟩ (.int .i64 nx)).setCell ⟨w.heap.size+1+1,0,none⟩ (.int .i64 0)).setCell ⟨w.heap.size+1+1,1,none⟩ (.int .i64 0)).setCell ⟨w.heap.size+1+1,2,none⟩ (.slice none 0 0))):=by
      have hz:Below w.heap.size w (((((((w3.alloc (.cells #[.slice x ks.length c,.int .i64 sn,.int .i64 nx] 26)).setCell ⟨w.heap.size+1,0,none⟩ (.slice x ks.length c)).setCell ⟨w.heap.size+1,1,none⟩ (.int .i64 sn)).setCell ⟨w.heap.size+1,2,none⟩ (.int .i64 nx)).setCell ⟨w.heap.size+1+1,0,none⟩ (.int .i64 0)).setCell ⟨w.heap.size+1+1,1,none⟩ (.int .i64 0)).setCell ⟨w.heap.size+1+1,2,none⟩ (.slice none 0 0)):=(((((B4.out.setCell (by simp) _).setCell (by simp) _).setCell (by simp) _).setCell (by simp only;omega) _).setCell (by simp only;omega) _).setCell (by simp only;omega) _
      exact⟨hz.os,hz.tape,hz.output,hz.size,hz.block⟩
     obtain⟨y0,y1,y2,yf⟩:=bat_cells Q6.out
     have yf0:=yf 0
     have yf1:=yf 1
     have yf2:=yf 2
     obtain⟨z0,z1,z2,zf⟩:=bat_cells Q7.out
     have zf0:=zf 0
     have zf1:=zf 1
     have zf2:=zf 2
     clear yf zf
     have HO3:Hid ((((((((w3.alloc (.cells #[.slice x ks.length c,.int .i64 sn,.int .i64 nx] 26)).setCell ⟨w.heap.size+1,0,none⟩ (.slice x ks.length c)).setCell ⟨w.heap.size+1,1,none⟩ (.int .i64 sn)).setCell ⟨w.heap.size+1,2,none⟩ (.int .i64 nx)).setCell ⟨w.heap.size+1+1,0,none⟩ (.int .i64 0)).setCell ⟨w.heap.size+1+1,1,none⟩ (.int .i64 0)).setCell ⟨w.heap.size+1+1,2,none⟩ (.slice none 0 0)).ownsRow w.heap.size 9 1 (.slice x ks.length c) ks.length (scells ks)):=by
      have h7:=lt_of_block R7.out
      have h8:=HX2.out.size
      exact (own_setN (own_setN (own_setN (own_setN (own_setN (own_setN (o3.alloc _) _ (by simp only;omega) _) _ (by simp only;omega) _) _ (by simp only;omega) _) _ (by simp only;omega) _) _ (by simp only;omega) _) _ (by simp only;omega) _).mono (by have:=B1.out.size;omega)
     clear KB2 p0 p1 p2 B34 o3 b3
     go_wp2
     refine bodyPost_ret (v:=.tuple #[.agg #[.slice x ks.length c,.int .i64 sn,.int .i64 nx],.agg #[.int .i64 0,.int .i64 0,.slice none 0 0],.bool false]) (results_ccbN rfl _ _ (w.heap.size+1) (w.heap.size+1+1) 26 31 _ _ _ _ rfl HFC.out Tryd.underlying26 rfl (by kernel_rfl) rfl HFB.out Tryd.underlying31 rfl (by kernel_rfl) _ rfl) rfl ?_
     rw[HR.out]
     exact⟨x,c,none,0,rfl,HO3.out,World.ownsRow_nil _ _ _ _,fun q _ h=>by simp[Value.ownBlock] at h,HBZ.out⟩
   · have HR:Hid (rr=(ks,sn,nx,0,0,[],false)):=by rw[Hid,HR0.out,hk];rfl
     clear hk HNX HR0 HKN HKC HKB
     have KB:=HKL.out
     have X2:Below w1.heap.size w1 (w1.alloc (.cells #[.int .i64 0,.int .i64 0,.slice none 0 0] 31)):=(Below.refl _ _).alloc (Nat.le_refl _) _
     have KB2:=KB (w1.alloc (.cells #[.int .i64 0,.int .i64 0,.slice none 0 0] 31)) (HE.out.later (B1.out.trans (X2.mono B1.out.size))) (HS.out _ (B1.out.trans (X2.mono B1.out.size)))
     have H2:Hid ((w1.alloc (.cells #[.int .i64 0,.int .i64 0,.slice none 0 0] 31)).heap[w.heap.size]? = some (.cells #[.slice a ks.length cap,.int .i64 sn,.int .i64 nx] 26 (0,0))):=(X2.block _ (lt_of_block H1.out)).trans H1.out
     have HX2:Hid (Below w1.heap.size w1 (w1.alloc (.cells #[.int .i64 0,.int .i64 0,.slice none 0 0] 31))):=X2
     obtain⟨p0,p1,p2,_⟩:=bat_cells H2.out
     clear KB X2
     go_wp2_with fail
     refine KB2.mono ?_
     rintro e w3 ⟨x,c,rfl,o3,b3⟩
     dsimp only
     have B13:Hid (Below w1.heap.size w1 w3):=HX2.out.trans (b3.mono HX2.out.size)
     have B34:Below w3.heap.size w3 (w3.alloc (.cells #[.slice x ks.length c,.int .i64 sn,.int .i64 nx] 26)):=(Below.refl _ _).alloc (Nat.le_refl _) _
     have B4:Hid (Below w.heap.size w (w3.alloc (.cells #[.slice x ks.length c,.int .i64 sn,.int .i64 nx] 26))):=B1.out.trans ((B13.out.trans (B34.mono B13.out.size)).mono B1.out.size)
     have Q6:Hid ((w3.alloc (.cells #[.slice x ks.length c,.int .i64 sn,.int .i64 nx] 26)).heap[w.heap.size+1]? = some (.cells #[.slice none 0 0,.int .i64 0,.int .i64 0] 26 (0,0))):=((B13.out.trans (B34.mono B13.out.size)).block _ (lt_of_block R6.out)).trans R6.out
     have Q7:Hid ((w3.alloc (.cells #[.slice x ks.length c,.int .i64 sn,.int .i64 nx] 26)).heap[w.heap.size+1+1]? = some (.cells #[.int .i64 0,.int .i64 0,.slice none 0 0] 31 (0,0))):=((B13.out.trans (B34.mono B13.out.size)).block _ (lt_of_block R7.out)).trans R7.out
     obtain⟨t0,t1,t2,_⟩:=bat_cells (heap_alloc_new w3 (.cells #[.slice x ks.length c,.int .i64 sn,.int .i64 nx] 26))
     have HFC:Hid ((((((((w3.alloc (.cells #[.slice x ks.length c,.int .i64 sn,.int .i64 nx] 26)).setCell ⟨w.heap.size+1,0,none⟩ (.slice x ks.length c)).setCell ⟨w.heap.size+1,1,none⟩ (.int .i64 sn)).setCell ⟨w.heap.size+1,2,none⟩ (.int .i64 nx)).setCell ⟨w.heap.size+1+1,0,none⟩ (.int .i64 0)).setCell ⟨w.heap.size+1+1,1,none⟩ (.int .i64 0)).setCell ⟨w.heap.size+1+1,2,none⟩ (.slice none 0 0)).heap[w.heap.size+1]? = some (.cells #[.slice x ks.length c,.int .i64 sn,.int .i64 nx] 26 (0,0))):=by
      show (((((((w3.alloc (.cells #[.slice x ks.length c,.int .i64 sn,.int .i64 nx] 26)).setCell ⟨w.heap.size+1,0,none⟩ (.slice x ks.length c)).setCell ⟨w.heap.size+1,1,none⟩ (.int .i64 sn)).setCell ⟨w.heap.size+1,2,none⟩ (.int .i64 nx)).setCell ⟨w.heap.size+1+1,0,none⟩ (.int .i64 0)).setCell ⟨w.heap.size+1+1,1,none⟩ (.int .i64 0)).setCell ⟨w.heap.size+1+1,2,none⟩ (.slice none 0 0)).heap[w.heap.size+1]? = _
      rw[set3N (by omega)]
      exact bat_set (j:=2) (bat_set (j:=1) (bat_set (j:=0) Q6.out))
     have HFB:Hid ((((((((w3.alloc (.cells #[.slice x ks.length c,.int .i64 sn,.int .i64 nx] 26)).setCell ⟨w.heap.size+1,0,none⟩ (.slice x ks.length c)).setCell ⟨w.heap.size+1,1,none⟩ (.int .i64 sn)).setCell ⟨w.heap.size+1,2,none⟩ (.int .i64 nx)).setCell ⟨w.heap.size+1+1,0,none⟩ (.int .i64 0)).setCell ⟨w.heap.size+1+1,1,none⟩ (.int .i64 0)).setCell ⟨w.heap.size+1+1,2,none⟩ (.slice none 0 0)).heap[w.heap.size+1+1]? = some (.cells #[.int .i64 0,.int .i64 0,.slice none 0 0] 31 (0,0))):=bat_set (j:=2) (bat_set (j:=1) (bat_set (j:=0) ((set3N (by omega)).trans Q7.out)))
     have HBZ:Hid (Below w.heap.size w (((((((w3.alloc (.cells #[.slice x ks.length c,.int .i64 sn,.int .i64 nx] 26)).setCell ⟨w.heap.size+1,0,none⟩ (.slice x ks.length c)).setCell ⟨w.heap.size+1,1,none⟩ (.int .i64 sn)).setCell ⟨w.heap.size+1,2,none⟩ (.int .i64 nx)).setCell ⟨w.heap.size+1+1,0,none⟩ (.int .i64 0)).setCell ⟨w.heap.size+1+1,1,none⟩ (.int .i64 0)).setCell ⟨w.heap.size+1+1,2,none⟩ (.slice none 0 0))):=by
      have hz:Below w.heap.size w (((((((w3.alloc (.cells #[.slice x ks.length c,.int .i64 sn,.int .i64 nx] 26)).setCell ⟨w.heap.size+1,0,none⟩ (.slice x ks.length c)).setCell ⟨w.heap.size+1,1,none⟩ (.int .i64 sn)).setCell ⟨w.heap.size+1,2,none⟩ (.int .i64 nx)).setCell ⟨w.heap.size+1+1,0,none⟩ (.int .i64 0)).setCell ⟨w.heap.size+1+1,1,none⟩ (.int .i64 0)).setCell ⟨w.heap.size+1+1,2,none⟩ (.slice none 0 0)):=(((((B4.out.setCell (by simp) _).setCell (by simp) _).setCell (by simp) _).setCell (by simp only;omega) _).setCell (by simp only;omega) _).setCell (by simp only;omega) _
      exact⟨hz.os,hz.tape,hz.output,hz.size,hz.block⟩
     obtain⟨y0,y1,y2,yf⟩:=bat_cells Q6.out
     have yf0:=yf 0
     have yf1:=yf 1
     have yf2:=yf 2
     obtain⟨z0,z1,z2,zf⟩:=bat_cells Q7.out
     have zf0:=zf 0
     have zf1:=zf 1
     have zf2:=zf 2
     clear yf zf
     have HO3:Hid ((((((((w3.alloc (.cells #[.slice x ks.length c,.int .i64 sn,.int .i64 nx] 26)).setCell ⟨w.heap.size+1,0,none⟩ (.slice x ks.length c)).setCell ⟨w.heap.size+1,1,none⟩ (.int .i64 sn)).setCell ⟨w.heap.size+1,2,none⟩ (.int .i64 nx)).setCell ⟨w.heap.size+1+1,0,none⟩ (.int .i64 0)).setCell ⟨w.heap.size+1+1,1,none⟩ (.int .i64 0)).setCell ⟨w.heap.size+1+1,2,none⟩ (.slice none 0 0)).ownsRow w.heap.size 9 1 (.slice x ks.length c) ks.length (scells ks)):=by
      have h7:=lt_of_block R7.out
      have h8:=HX2.out.size
      exact (own_setN (own_setN (own_setN (own_setN (own_setN (own_setN (o3.alloc _) _ (by simp only;omega) _) _ (by simp only;omega) _) _ (by simp only;omega) _) _ (by simp only;omega) _) _ (by simp only;omega) _) _ (by simp only;omega) _).mono (by have:=B1.out.size;omega)
     clear KB2 p0 p1 p2 B34 o3 b3
     go_wp2
     refine bodyPost_ret (v:=.tuple #[.agg #[.slice x ks.length c,.int .i64 sn,.int .i64 nx],.agg #[.int .i64 0,.int .i64 0,.slice none 0 0],.bool false]) (results_ccbN rfl _ _ (w.heap.size+1) (w.heap.size+1+1) 26 31 _ _ _ _ rfl HFC.out Tryd.underlying26 rfl (by kernel_rfl) rfl HFB.out Tryd.underlying31 rfl (by kernel_rfl) _ rfl) rfl ?_
     rw[HR.out]
     exact⟨x,c,none,0,rfl,HO3.out,World.ownsRow_nil _ _ _ _,fun q _ h=>by simp[Value.ownBlock] at h,HBZ.out⟩
def NewR (W:World) (base:Nat) (a:Option Addr) (xs:List Value):Prop:=xs=[]∨∃ g,a=some ⟨g,0,none⟩∧base≤g∧g<W.heap.size∧∀ j,j<xs.length→W.cell? ⟨g,j,none⟩=xs[j]?
theorem NewR.kept {W W':World} {base:Nat} {a:Option Addr} {xs:List Value} {row:Option Nat} (h:NewR W base a xs) (hg:W.grownBy W' row) (hr:∀ g,base≤g→g<W.heap.size→a=some ⟨g,0,none⟩→some g≠row):NewR W' base a xs:=by
 rcases h with h | ⟨g,rfl,h1,h2,h3⟩
 · exact .inl h
 · exact .inr ⟨g,rfl,h1,Nat.lt_of_lt_of_le h2 hg.size,fun j hj=>by rw[World.cell?_of_block (w:=W) (a:=⟨g,j,none⟩) (hg.block g h2 (hr g h1 h2 rfl))];exact h3 j hj⟩
theorem NewR.later {W W':World} {base:Nat} {a:Option Addr} {xs:List Value} (h:NewR W base a xs) (hb:Below W.heap.size W W'):NewR W' base a xs :=
 h.kept (row:=none) ⟨hb.os,hb.tape,hb.output,hb.size,fun k hk _=>hb.block k hk⟩ (fun _ _ _ _=>by simp)
theorem NewR.lower {W:World} {base base':Nat} {a:Option Addr} {xs:List Value} (h:NewR W base a xs) (hb:base'≤base):NewR W base' a xs:=by
 rcases h with h | ⟨g,h0,h1,h2,h3⟩
 · exact .inl h
 · exact .inr ⟨g,h0,Nat.le_trans hb h1,h2,h3⟩
theorem newR_own {W:World} {base e size n:Nat} {a:Option Addr} {m c:Nat} {xs:List Value} (h:W.ownsRow base e size (.slice a m c) n xs):NewR W base a xs:=by
 rcases h.2 with ⟨h',h0⟩ | ⟨g,cap',cur,h',hb,hg,_⟩
 · cases h'
   exact .inl (List.length_eq_zero_iff.1 (by rw[h.1,h0];simp))
 · cases h'
   exact .inr ⟨g,rfl,hb,lt_of_block hg,fun j hj=>h.cellAt j (by rw[←h.1];exact hj)⟩
theorem below_lit {B:Nat} {w W:World} (h:Below B w W) (hB:B≤w.heap.size) (o:Obj):Below B w (W.alloc o):=h.alloc (Nat.le_trans hB h.size) o
theorem below_drew1 {B:Nat} {w W:World} (h:Below B w W):Below B w W.drew:=⟨h.os,h.tape,h.output,h.size,h.block⟩
theorem step_append_run {P:Program} {ops:Array Oper} {o:Oper} {a:Act} {w w':World} {K:Act→World→Prop} {Q:Exit→Act→World→Prop} {E:Prop}
 (hg:o.guard=none) (s x:Operand) (t u:TypeId) (hop:o.op=Op.call { callee:=Callee.builtin Builtin.append,args:=#[s,x],argTypes:=#[t,u] })
 (v y z:Value) (hs:a.eval s=v) (hx:a.eval x=y) (hrun:∀ ty,(Builtin.append_ #[t,u] ty #[v,y]).run P w=.ok z w')
 (hK:K (a.put o.dst z) w') :
 if Region.wanted o (yielded ops a.tmps)=true then Oper.wp P o a w K Q else E:=by
 have hw:Region.wanted o (yielded ops a.tmps)=true:=by simp[Region.wanted,hg]
 rw[if_pos hw]
 unfold Oper.wp
 simp[execOp,hop,resolve,invoke,builtin,hs,hx,hrun,Result.andThen]
 exact hK
theorem step_append_new {P:Program} {W:World} {ops:Array Oper} {o:Oper} {a:Act} {K:Act→World→Prop} {Q:Exit→Act→World→Prop} {E:Prop} (hgd:o.guard=none) (s x:Operand) (t:TypeId)
 (ho:o.op=.call { callee:=.builtin .append,args:=#[s,x],argTypes:=#[t,t] })
 (e:TypeId) (i:TypeInfo) (z:Value) (size bytes:Nat) (ht:P.underlying t=some (.slice e)) (hi:P.info? e=some i) (hz:i.zero=some z)
 (hsize:i.size=size) (hby:i.bytes=bytes) (hzs:z.cells.size=size) (hsz:0<size)
 (ad:Addr) (hs:a.eval s=.slice (some ad) 0 0)
 (a2:Option Addr) (m c:Nat) (xs:List Value) (hx:a.eval x=.slice a2 m c) (hl:xs.length=m*size) (hcs:m=0∨∃ ad2,a2=some ad2∧∀ j u,xs[j]? = some u→W.cell? (ad2.add j)=some u) (h1:∀ u∈xs,u.oneCell'=true)
 (h63:m≤1048576) (hbytes:bytes≤64)
 (h:∀ a' c' w',NewR w' W.heap.size a' xs→(a'=none∨∃ b off,a'=some ⟨b,off,none⟩)∨a'=some ad→Below W.heap.size W w'→K (a.put o.dst (.slice a' m c')) w') :
 if Region.wanted o (yielded ops a.tmps)=true then Oper.wp P o a W K Q else E:=by
 rcases hcs with h0 | ⟨ad2,rfl,hcs⟩
 · subst h0
   have hxn:xs=[]:=List.length_eq_zero_iff.1 (by rw[hl];simp)
   subst hxn
   have hsrc:Src P i.size t (.slice a2 0 c) 0 [] W:=by
    cases a2 with
    | none=>exact Src.ofNil W ht c
    | some ad2=>exact Src.ofSlice W ht ad2 0 c [] (by simp) (by simp) (by simp)
   exact step_append_run hgd s x t t ho _ _ _ hs hx (fun ty=>run_append_nothing W t t ty e i ht hi (some ad) 0 0 (Nat.le_refl _) _ hsrc) (h (some ad) 0 W (.inl rfl) (.inr rfl) (Below.refl _ _))
 · by_cases h0:m=0
   · subst h0
     have hxn:xs=[]:=List.length_eq_zero_iff.1 (by rw[hl];simp)
     subst hxn
     exact step_append_run hgd s x t t ho _ _ _ hs hx (fun ty=>run_append_nothing W t t ty e i ht hi (some ad) 0 0 (Nat.le_refl _) _ (Src.ofSlice W ht ad2 0 c [] (by simp) (by simp) (by simp))) (h (some ad) 0 W (.inl rfl) (.inr rfl) (Below.refl _ _))
   · have hsrc:Src P i.size t (.slice (some ad2) m c) m xs W:=Src.ofSlice W ht ad2 m c xs (by rw[hsize];exact hl) hcs h1
     have hge:=grownCap_ge W (0+m) 0 e
     have hrun:=fun ty=>run_append_grow_src W t t ty e i z ht hi hz (some ad) 0 0 [] (run_firstCells_some W.drew i.size 0 ad 0 0 [] (by simp) (by simp)) (.slice (some ad2) m c) m xs hsrc (by omega) (by omega) (growslice_fits (by omega) (by rw[hby];have:=Nat.mul_le_mul (Nat.le_of_eq (Nat.zero_add m)) hbytes;omega))
     refine step_append_run hgd s x t t ho _ _ _ hs hx hrun ?_
     rw[Nat.zero_add]
     refine h _ _ _ (.inr ⟨W.heap.size,rfl,Nat.le_refl _,by simp,fun j hj=>?_⟩) (.inl (.inr ⟨_,_,rfl⟩)) ⟨rfl,rfl,rfl,by simp,fun k hk=>heap_alloc_old W.drew _ hk⟩
     have hblk:=heap_alloc_new W.drew (.cells (([] ++ xs).toArray ++ Builtin.zeroCells z.cells (grownCap W m 0 e - m)) e)
     have e1:W.drew.heap.size=W.heap.size:=rfl
     rw[e1] at hblk
     rw[cell_of_row _ _ j _ _ _ hblk,Array.getElem?_append_left (by simpa using hj)]
     simp
theorem NewR.opsN {W:World} {base:Nat} {a:Option Addr} {ps:List OpL} (h:NewR W base a (ocells ps)):IsOps W a ps:=by
 rcases h with h | ⟨g,h0,h1,h2,h3⟩
 · have:(ocells ps).length=0:=by rw[h];rfl
   rw[ocells_length] at this
   exact .inl (List.length_eq_zero_iff.1 (by omega))
 · refine .inr ⟨g,0,h0,fun j hj=>?_⟩
   have hp:=ocells_at ps j hj
   rw[Nat.zero_add]
   exact⟨(h3 (j*3) (by rw[ocells_length];omega)).trans hp.1,(h3 (j*3+1) (by rw[ocells_length];omega)).trans hp.2.1,(h3 (j*3+2) (by rw[ocells_length];omega)).trans hp.2.2⟩
theorem NewR.setCellN {W:World} {base:Nat} {a:Option Addr} {xs:List Value} (h:NewR W base a xs) (p:Addr) (hp:p.block<base) (v:Value):NewR (W.setCell p v) base a xs:=by
 rcases h with h | ⟨g,h0,h1,h2,h3⟩
 · exact .inl h
 · refine .inr ⟨g,h0,h1,by simpa using h2,fun j hj=>?_⟩
   rw[World.cell?_of_block (w:=W) (a:=⟨g,j,none⟩) (Below.heap_setCell _ _ _ _ (by simp only;omega))]
   exact h3 j hj
def MnPost (w w':World) (e:Ending) (r:NbL):Prop :=
 ∃ (x:Option Addr) (c:Nat) (y:Option Addr) (d:Nat),e=.returned (.tuple #[.agg #[.slice x r.1.length c,.int .i64 r.2.1,.int .i64 r.2.2.1],.agg #[.int .i64 r.2.2.2.1,.int .i64 r.2.2.2.2.1,.slice y r.2.2.2.2.2.1.length d],.bool r.2.2.2.2.2.2])∧NewR w' w.heap.size x (scells r.1)∧NewR w' w.heap.size y (ocells r.2.2.2.2.2.1)∧Below w.heap.size w w'
def NReg (W0 wx:World) (bs:Nat) (y:Option Addr) (d:Nat) (id nx:Int) (os:List OpL):Prop :=
 wx.heap[bs]? = some (.cells #[.int .i64 id,.int .i64 nx,.slice y os.length d] 31 (0,0))∧W0.heap.size≤bs∧NewR wx W0.heap.size y (ocells os)∧Below W0.heap.size W0 wx
theorem blk_viaN {W W':World} (h:Below W.heap.size W W'):∀ (B:Nat) (o:Obj),W.heap[B]? = some o→W'.heap[B]? = some o:=fun B o ho=>by
 rw[h.block B (Array.getElem?_eq_some_iff.1 ho).1];exact ho
theorem below_viaN {B:Nat} {w W W':World} (h1:Below B w W) (hB:B≤w.heap.size) (h2:Below W.heap.size W W'):Below B w W':=h1.trans (h2.mono (Nat.le_trans hB h1.size))
theorem below_via_size {w W:World} (h:Below w.heap.size w W):w.heap.size≤W.heap.size:=h.size
theorem nreg_store {W0 wb c9:World} {bs:Nat} {y:Option Addr} {d:Nat} {id nx:Int} {os:List OpL} (hz:c9.heap[bs]? = some (.cells #[.int .i64 0,.int .i64 0,.slice none 0 0] 31 (0,0))) (hb:W0.heap.size≤bs) (hB:Below W0.heap.size W0 c9) (hs:W0.heap.size≤wb.heap.size) (hlt:bs<wb.heap.size) (n1:NewR c9 wb.heap.size y (ocells os)):NReg W0 (((c9.setCell ⟨bs,0,none⟩ (.int .i64 id)).setCell ⟨bs,1,none⟩ (.int .i64 nx)).setCell ⟨bs,2,none⟩ (.slice y os.length d)) bs y d id nx os :=
 ⟨bat_set (j:=2) (bat_set (j:=1) (bat_set (j:=0) hz)),hb,(((n1.setCellN _ hlt _).setCellN _ hlt _).setCellN _ hlt _).lower hs,((hB.setCell hb _).setCell hb _).setCell hb _⟩
theorem nreg_new {W0 c9:World} {y:Option Addr} {d:Nat} {id nx:Int} {os:List OpL} (hB:Below W0.heap.size W0 c9) (n1:NewR c9 W0.heap.size y (ocells os)):NReg W0 (c9.alloc (.cells #[.int .i64 id,.int .i64 nx,.slice y os.length d] 31)) c9.heap.size y d id nx os :=
 ⟨heap_alloc_new c9 _,hB.size,n1.later ((Below.refl _ _).alloc (Nat.le_refl _) _),hB.alloc hB.size _⟩
theorem alloc2_new (w:World) (o1 o2:Obj):((w.alloc o1).alloc o2).heap[w.heap.size+1]? = some o2:=by
 have h:=heap_alloc_new (w.alloc o1) o2
 have hs:(w.alloc o1).heap.size=w.heap.size+1:=by simp
 rw[hs] at h
 exact h
theorem NewR.setAtN {W:World} {base:Nat} {a:Option Addr} {xs:List Value} (h:NewR W base a xs) (p:Addr) (hp:∀ g,a=some ⟨g,0,none⟩→xs≠[]→g≠p.block) (v:Value):NewR (W.setCell p v) base a xs:=by
 by_cases hx:xs=[]
 · exact .inl hx
 · rcases h with h | ⟨g,h0,h1,h2,h3⟩
   · exact .inl h
   · refine .inr ⟨g,h0,h1,by simpa using h2,fun j hj=>?_⟩
     rw[World.cell?_of_block (w:=W) (a:=⟨g,j,none⟩) (Below.heap_setCell _ _ _ _ (hp g h0 hx))]
     exact h3 j hj
theorem src_opsN {w:World} {a:Option Addr} {qs:List OpL} (h:IsOps w a qs):qs.length=0∨∃ ad,a=some ad∧∀ j u,(ocells qs)[j]? = some u→w.cell? (ad.add j)=some u:=by
 cases a with
 | none =>
   rcases h with h0 | ⟨g,off,h1,_⟩
   · exact .inl (by rw[h0];rfl)
   · cases h1
 | some ad=>exact .inr ⟨ad,rfl,flat_ops h rfl⟩
set_option maxRecDepth 100000 in
set_option maxHeartbeats 8000000 in
theorem spec_nextBatch (a:Option Addr) (cap:Nat) (ks:List (List UInt8)) (sn nx id:Int) (b:Option Addr) (cb:Nat) (os:List OpL) (w:World) (hl:ks.length≤1048576) (hm:∀ l∈ks,l.length≤1048576) (hca:a=none→cap=0) (hs:IsStrs w a ks) (hl2:os.length≤1048576) (hm2:∀ p∈os,p.1.length≤1048576∧p.2.1.length≤1048576) (hs2:IsOps w b os) :
 Calls Tryd.prog 7 #[.agg #[.slice a ks.length cap,.int .i64 sn,.int .i64 nx],.int .i64 id,.slice b os.length cb] w fun e w'=>MnPost w w' e (nbR ks sn nx id os):=by
 obtain⟨i0,hi0,hz0,hz1,hz2⟩:=info_parts infoOn
 obtain⟨wa,hwa⟩:∃ wa,wa=(((w.alloc (.cells #[.slice a ks.length cap,.int .i64 sn,.int .i64 nx] 26)).alloc (.cells #[.slice none 0 0,.int .i64 0,.int .i64 0] 26)).alloc (.cells #[.int .i64 0,.int .i64 0,.slice none 0 0] 31)):=⟨_,rfl⟩
 have B0:Below w.heap.size w wa:=by rw[hwa];exact (((Below.refl _ _).alloc (Nat.le_refl _) _).alloc (by simp) _).alloc (by simp <;> omega) _
 have H0:Hid (wa.heap[w.heap.size]? = some (.cells #[.slice a ks.length cap,.int .i64 sn,.int .i64 nx] 26 (0,0))):=by rw[hwa,Hid,Below.heap_alloc _ _ _ (by simp <;> omega),Below.heap_alloc _ _ _ (by simp)];exact heap_alloc_new w _
 have R60:Hid (wa.heap[w.heap.size+1]? = some (.cells #[.slice none 0 0,.int .i64 0,.int .i64 0] 26 (0,0))):=by
  rw[hwa,Hid,Below.heap_alloc _ _ _ (by simp)]
  have:=heap_alloc_new (w.alloc (.cells #[.slice a ks.length cap,.int .i64 sn,.int .i64 nx] 26)) (.cells #[.slice none 0 0,.int .i64 0,.int .i64 0] 26)
  simpa using this
 have R70:Hid (wa.heap[w.heap.size+1+1]? = some (.cells #[.int .i64 0,.int .i64 0,.slice none 0 0] 31 (0,0))):=by
  rw[hwa,Hid]
  have:=heap_alloc_new ((w.alloc (.cells #[.slice a ks.length cap,.int .i64 sn,.int .i64 nx] 26)).alloc (.cells #[.slice none 0 0,.int .i64 0,.int .i64 0] 26)) (.cells #[.int .i64 0,.int .i64 0,.slice none 0 0] 31)
  simpa using this
 obtain⟨p0,p1,p2,_⟩:=bat_cells H0.out
 have K1:=spec_clientOk a cap ks sn nx wa hl hm (strs_later hs B0)
 have HK2:Hid (∀ W,Below w.heap.size w W→_):=fun W hW=>spec_l12Copy a cap ks sn nx W hl hca (strs_later hs hW)
 have HK3:Hid (∀ (y:Option Addr) (d:Nat) W,IsOps W y os→_):=fun y d W h=>spec_batchOk id nx y d os W hl2 hm2 h
 have HIO:Hid (∀ W,Below w.heap.size w W→os.length=0∨∃ ad,b=some ad∧∀ j u,(ocells os)[j]? = some u→W.cell? (ad.add j)=some u):=fun W hW=>src_opsN (hs2.later hW)
 have HPL:Hid ((ocells os).length=os.length*3):=ocells_length os
 have HP1:Hid (∀ u∈ocells os,u.oneCell'=true):=one_ops os
 have HR0:Hid (nbR ks sn nx id os=if clientOk ks sn nx=false then ([],0,0,0,0,[],false) else if batchOk id nx os=false∨nx=1000000000000 then (ks,sn,nx,0,0,[],false) else (ks,sn,nx+1,id,nx,os,true)):=by
  rw[Hid,nbR,nbCode]
  cases clientOk ks sn nx <;> cases batchOk id nx os <;> by_cases h:nx=1000000000000 <;> simp[h]
 have HNX:Hid (clientOk ks sn nx=true→1≤nx∧nx≤1000000000000):=fun hc=>by
  simp only[clientOk,numIn,Bool.and_eq_true,decide_eq_true_eq] at hc
  omega
 obtain⟨rr,hrr⟩:∃ x,x=nbR ks sn nx id os:=⟨_,rfl⟩
 rw[←hrr] at HR0 ⊢
 obtain⟨ck,hck⟩:∃ x,x=clientOk ks sn nx:=⟨_,rfl⟩
 rw[←hck] at HR0 K1 HNX
 obtain⟨bk,hbk⟩:∃ x,x=batchOk id nx os:=⟨_,rfl⟩
 rw[←hbk] at HR0 HK3
 clear hrr hck hbk hs hm hs2 hm2 hl hca
 rw[hwa] at K1 p0 p1 p2
 go_enter Tryd.func7,Tryd.ntmps7
 go_wp2_with fail
 refine K1.mono ?_
 rintro e w1 ⟨rfl,b1⟩
 rw[←hwa] at b1
 have B1:Hid (Below w.heap.size w w1):=B0.trans (b1.mono B0.size)
 have H1:Hid (w1.heap[w.heap.size]? = some (.cells #[.slice a ks.length cap,.int .i64 sn,.int .i64 nx] 26 (0,0))):=(b1.block _ (lt_of_block H0.out)).trans H0.out
 have R6:Hid (w1.heap[w.heap.size+1]? = some (.cells #[.slice none 0 0,.int .i64 0,.int .i64 0] 26 (0,0))):=(b1.block _ (lt_of_block R60.out)).trans R60.out
 have R7:Hid (w1.heap[w.heap.size+1+1]? = some (.cells #[.int .i64 0,.int .i64 0,.slice none 0 0] 31 (0,0))):=(b1.block _ (lt_of_block R70.out)).trans R70.out
 clear p0 p1 p2 K1 H0 R60 R70 B0 hwa b1
 cases ck with
 | false =>
   have HR:Hid (rr=([],0,0,0,0,[],false)):=by rw[Hid,HR0.out];rfl
   have HFC:Hid (((((((w1.setCell ⟨w.heap.size+1,0,none⟩ (.slice none 0 0)).setCell ⟨w.heap.size+1,1,none⟩ (.int .i64 0)).setCell ⟨w.heap.size+1,2,none⟩ (.int .i64 0)).setCell ⟨w.heap.size+1+1,0,none⟩ (.int .i64 0)).setCell ⟨w.heap.size+1+1,1,none⟩ (.int .i64 0)).setCell ⟨w.heap.size+1+1,2,none⟩ (.slice none 0 0)).heap[w.heap.size+1]? = some (.cells #[.slice none 0 0,.int .i64 0,.int .i64 0] 26 (0,0))):=by
    show ((((((w1.setCell ⟨w.heap.size+1,0,none⟩ (.slice none 0 0)).setCell ⟨w.heap.size+1,1,none⟩ (.int .i64 0)).setCell ⟨w.heap.size+1,2,none⟩ (.int .i64 0)).setCell ⟨w.heap.size+1+1,0,none⟩ (.int .i64 0)).setCell ⟨w.heap.size+1+1,1,none⟩ (.int .i64 0)).setCell ⟨w.heap.size+1+1,2,none⟩ (.slice none 0 0)).heap[w.heap.size+1]? = _
    rw[set3N (by omega)]
    exact bat_set (j:=2) (bat_set (j:=1) (bat_set (j:=0) R6.out))
   have HFB:Hid (((((((w1.setCell ⟨w.heap.size+1,0,none⟩ (.slice none 0 0)).setCell ⟨w.heap.size+1,1,none⟩ (.int .i64 0)).setCell ⟨w.heap.size+1,2,none⟩ (.int .i64 0)).setCell ⟨w.heap.size+1+1,0,none⟩ (.int .i64 0)).setCell ⟨w.heap.size+1+1,1,none⟩ (.int .i64 0)).setCell ⟨w.heap.size+1+1,2,none⟩ (.slice none 0 0)).heap[w.heap.size+1+1]? = some (.cells #[.int .i64 0,.int .i64 0,.slice none 0 0] 31 (0,0))):=bat_set (j:=2) (bat_set (j:=1) (bat_set (j:=0) ((set3N (by omega)).trans R7.out)))
   have HBZ:Hid (Below w.heap.size w ((((((w1.setCell ⟨w.heap.size+1,0,none⟩ (.slice none 0 0)).setCell ⟨w.heap.size+1,1,none⟩ (.int .i64 0)).setCell ⟨w.heap.size+1,2,none⟩ (.int .i64 0)).setCell ⟨w.heap.size+1+1,0,none⟩ (.int .i64 0)).setCell ⟨w.heap.size+1+1,1,none⟩ (.int .i64 0)).setCell ⟨w.heap.size+1+1,2,none⟩ (.slice none 0 0))):=by
    have hz:Below w.heap.size w ((((((w1.setCell ⟨w.heap.size+1,0,none⟩ (.slice none 0 0)).setCell ⟨w.heap.size+1,1,none⟩ (.int .i64 0)).setCell ⟨w.heap.size+1,2,none⟩ (.int .i64 0)).setCell ⟨w.heap.size+1+1,0,none⟩ (.int .i64 0)).setCell ⟨w.heap.size+1+1,1,none⟩ (.int .i64 0)).setCell ⟨w.heap.size+1+1,2,none⟩ (.slice none 0 0)):=(((((B1.out.setCell (by simp) _).setCell (by simp) _).setCell (by simp) _).setCell (by simp only;omega) _).setCell (by simp only;omega) _).setCell (by simp only;omega) _
    exact⟨hz.os,hz.tape,hz.output,hz.size,hz.block⟩
   obtain⟨y0,y1,y2,yf⟩:=bat_cells R6.out
   have yf0:=yf 0
   have yf1:=yf 1
   have yf2:=yf 2
   obtain⟨z0,z1,z2,zf⟩:=bat_cells R7.out
   have zf0:=zf 0
   have zf1:=zf 1
   have zf2:=zf 2
   clear yf zf
   clear HR0 HNX HK2 HK3 HIO
   go_wp2
   refine bodyPost_ret (v:=.tuple #[.agg #[.slice none 0 0,.int .i64 0,.int .i64 0],.agg #[.int .i64 0,.int .i64 0,.slice none 0 0],.bool false]) (results_ccbN rfl _ _ (w.heap.size+1) (w.heap.size+1+1) 26 31 _ _ _ _ rfl HFC.out Tryd.underlying26 rfl (by kernel_rfl) rfl HFB.out Tryd.underlying31 rfl (by kernel_rfl) _ rfl) rfl ?_
   rw[HR.out]
   exact⟨none,0,none,0,rfl,.inl rfl,.inl rfl,HBZ.out⟩
 | true =>
   have hnx:=HNX.out rfl
   replace HR0:Hid (rr=if bk=false∨nx=1000000000000 then (ks,sn,nx,0,0,[],false) else (ks,sn,nx+1,id,nx,os,true)):=by rw[Hid,HR0.out];rfl
   obtain⟨p0,p1,p2,_⟩:=bat_cells H1.out
   have K2:=HK2.out w1 B1.out
   clear HNX HK2
   go_wp2_with fail
   refine K2.mono ?_
   rintro e w2 ⟨x,c,rfl,o2,b2⟩
   dsimp only
   have O2:Hid (NewR w2 w1.heap.size x (scells ks)):=newR_own o2
   have S2:Hid (w.heap.size+1+1<w1.heap.size∧w1.heap.size≤w2.heap.size):=⟨lt_of_block R7.out,b2.size⟩
   have HXL0:∀ g,x=some ⟨g,0,none⟩→scells ks≠[]→g<w2.heap.size:=fun g hg hne=>by
    rcases O2.out with h | ⟨g',h0,_,h2,_⟩
    · exact absurd h hne
    · rw[hg] at h0;cases h0;exact h2
   obtain⟨w3,hw3⟩:∃ W,W=w2.alloc (.cells #[.slice x ks.length c,.int .i64 sn,.int .i64 nx] 26):=⟨_,rfl⟩
   have X23:Below w2.heap.size w2 w3:=by rw[hw3];exact (Below.refl _ _).alloc (Nat.le_refl _) _
   have B13:Hid (Below w1.heap.size w1 w3):=b2.trans (X23.mono b2.size)
   have B3:Hid (Below w.heap.size w w3):=B1.out.trans (B13.out.mono B1.out.size)
   have C3:Hid (w3.heap[w2.heap.size]? = some (.cells #[.slice x ks.length c,.int .i64 sn,.int .i64 nx] 26 (0,0))):=by rw[hw3];exact heap_alloc_new w2 _
   have O3:Hid (NewR w3 w1.heap.size x (scells ks)):=O2.out.later X23
   have H3:Hid (w3.heap[w.heap.size]? = some (.cells #[.slice a ks.length cap,.int .i64 sn,.int .i64 nx] 26 (0,0))):=(B13.out.block _ (lt_of_block H1.out)).trans H1.out
   have Q6:Hid (w3.heap[w.heap.size+1]? = some (.cells #[.slice none 0 0,.int .i64 0,.int .i64 0] 26 (0,0))):=(B13.out.block _ (lt_of_block R6.out)).trans R6.out
   have Q7:Hid (w3.heap[w.heap.size+1+1]? = some (.cells #[.int .i64 0,.int .i64 0,.slice none 0 0] 31 (0,0))):=(B13.out.block _ (lt_of_block R7.out)).trans R7.out
   obtain⟨b9,hb9⟩:∃ q,q=w2.heap.size:=⟨_,rfl⟩
   rw[←hb9] at C3 HXL0
   have HXL:Hid (∀ g,x=some ⟨g,0,none⟩→scells ks≠[]→g<b9):=HXL0
   clear HXL0
   have HB9:Hid (w.heap.size+1+1<b9∧b9<w3.heap.size):=⟨by rw[hb9];have:=S2.out;omega,lt_of_block C3.out⟩
   go_upto_region 4 with fail
   rw[←hw3,←hb9]
   have HC:Hid (∀ W,Below w3.heap.size w3 W→W.cell? ⟨w.heap.size,2,none⟩=some (.int .i64 nx)):=fun W hW=>(bat_cells ((hW.block _ (lt_of_block H3.out)).trans H3.out)).2.2.1
   have BR:Below w3.heap.size w3 w3:=Below.refl _ _
   have HI3:Hid (∀ W,Below w3.heap.size w3 W→_):=fun W hW=>HIO.out W (B3.out.trans (hW.mono B3.out.size))
   clear K2 o2 b2 O2 p0 p1 p2 H1 R6 R7 hw3 hb9 X23 HIO B13
   go_cut [10] from 18 (fun v wx=>∃ (b8:Nat) (y:Option Addr) (d:Nat),v=.pointer (some ⟨b8,0,none⟩)∧Hid (NReg w3 wx b8 y d id nx os))
   case first =>
    go_region_held3 (fun w'=>w'.cell? ⟨w.heap.size,2,none⟩=some (.int .i64 nx))
     (first | exact HC.out _ (by repeat' first | with_reducible exact BA.out | with_reducible exact BR | with_reducible apply below_drew1 | (with_reducible refine below_lit ?_ (Nat.le_refl _) _) | with_reducible apply Below.setCell | simp))
     (first
      | (refine step_append_new rfl (.tmp 21) (.tmp 22) 27 rfl 52 i0 (.agg #[.string ⟨#[]⟩, .string ⟨#[]⟩, .bool false]) 3 40 Tryd.underlying27 hi0 hz0 hz1 hz2 rfl (by decide) _ (by rfl) b os.length cb (ocells os) (by rfl) HPL.out (HI3.out _ (by repeat' first | with_reducible exact BR | with_reducible apply below_drew1 | (with_reducible refine below_lit ?_ (Nat.le_refl _) _))) HP1.out hl2 (by decide) ?_
         intro y d wA nA _ bA
         have BA:Hid (Below w3.heap.size w3 wA):=below_viaN (by repeat' first | with_reducible exact BR | with_reducible apply below_drew1 | (with_reducible refine below_lit ?_ (Nat.le_refl _) _)) (Nat.le_refl _) bA
         have NA:Hid (NewR wA w3.heap.size y (ocells os)):=nA.lower (below_via_size (by repeat' first | with_reducible exact BR | with_reducible apply below_drew1 | (with_reducible refine below_lit ?_ (Nat.le_refl _) _)))
         first
         | (have HN : Hid (wA.heap[w3.heap.size + 1]? = some (.cells #[.int .i64 0, .int .i64 0, .slice none 0 0] 31 (0, 0))) := blk_viaN bA _ _ (alloc2_new w3 (.cells #[] 52) (.cells #[.int .i64 0, .int .i64 0, .slice none 0 0] 31))
            have TS:Hid (NReg w3 (((wA.setCell ⟨w3.heap.size+1,0,none⟩ (.int .i64 id)).setCell ⟨w3.heap.size+1,1,none⟩ (.int .i64 nx)).setCell ⟨w3.heap.size+1,2,none⟩ (.slice y os.length d)) (w3.heap.size+1) y d id nx os):=nreg_store HN.out (by simp) BA.out (below_via_size (by repeat' first | with_reducible exact BR | with_reducible apply below_drew1 | (with_reducible refine below_lit ?_ (Nat.le_refl _) _))) (lt_of_block (alloc2_new w3 (.cells #[] 52) (.cells #[.int .i64 0,.int .i64 0,.slice none 0 0] 31))) nA
            obtain⟨z0,z1,z2,zf⟩:=bat_cells HN.out
            have zf0:=zf 0
            have zf1:=zf 1
            have zf2:=zf 2
            clear zf)
         | (have HN : Hid (wA.heap[w3.heap.size]? = some (.cells #[.int .i64 0, .int .i64 0, .slice none 0 0] 31 (0, 0))) := blk_viaN bA _ _ ((Below.heap_alloc (w3.alloc (.cells #[.int .i64 0, .int .i64 0, .slice none 0 0] 31)) (.cells #[] 52) _ (by simp)).trans (heap_alloc_new w3 (.cells #[.int .i64 0, .int .i64 0, .slice none 0 0] 31)))
            have TS:Hid (NReg w3 (((wA.setCell ⟨w3.heap.size,0,none⟩ (.int .i64 id)).setCell ⟨w3.heap.size,1,none⟩ (.int .i64 nx)).setCell ⟨w3.heap.size,2,none⟩ (.slice y os.length d)) (w3.heap.size) y d id nx os):=nreg_store HN.out (by simp) BA.out (below_via_size (by repeat' first | with_reducible exact BR | with_reducible apply below_drew1 | (with_reducible refine below_lit ?_ (Nat.le_refl _) _))) (lt_of_block ((Below.heap_alloc (w3.alloc (.cells #[.int .i64 0,.int .i64 0,.slice none 0 0] 31)) (.cells #[] 52) _ (by simp)).trans (heap_alloc_new w3 (.cells #[.int .i64 0,.int .i64 0,.slice none 0 0] 31)))) nA
            obtain⟨z0,z1,z2,zf⟩:=bat_cells HN.out
            have zf0:=zf 0
            have zf1:=zf 1
            have zf2:=zf 2
            clear zf)
         | skip
         clear nA bA))
    all_goals go_wp2_with fail
    all_goals go_meet
    all_goals first
     | exact⟨_,y,d,rfl,TS.out⟩
     | exact⟨wA.heap.size,y,d,rfl,nreg_new BA.out NA.out⟩
   case rest =>
    obtain⟨b8,y,d,rfl,HG⟩:=hcut
    obtain⟨w4,rfl⟩:∃ W,W=wc:=⟨_,rfl⟩
    obtain⟨G1,G2,G3,G4⟩:=HG.out
    have HG2:Hid (w3.heap.size≤b8):=G2
    have C4:Hid (w4.heap[b9]? = some (.cells #[.slice x ks.length c,.int .i64 sn,.int .i64 nx] 26 (0,0))):=(G4.block _ (lt_of_block C3.out)).trans C3.out
    have H4:Hid (w4.heap[w.heap.size]? = some (.cells #[.slice a ks.length cap,.int .i64 sn,.int .i64 nx] 26 (0,0))):=(G4.block _ (lt_of_block H3.out)).trans H3.out
    have P6:Hid (w4.heap[w.heap.size+1]? = some (.cells #[.slice none 0 0,.int .i64 0,.int .i64 0] 26 (0,0))):=(G4.block _ (lt_of_block Q6.out)).trans Q6.out
    have P7:Hid (w4.heap[w.heap.size+1+1]? = some (.cells #[.int .i64 0,.int .i64 0,.slice none 0 0] 31 (0,0))):=(G4.block _ (lt_of_block Q7.out)).trans Q7.out
    have O4:Hid (NewR w4 w1.heap.size x (scells ks)):=O3.out.later G4
    have T4:Hid (w4.heap[b8]? = some (.cells #[.int .i64 id,.int .i64 nx,.slice y os.length d] 31 (0,0))):=G1
    have Y4:Hid (NewR w4 w3.heap.size y (ocells os)):=G3
    have B4:Hid (Below w.heap.size w w4):=B3.out.trans (G4.mono B3.out.size)
    have K4:=HK3.out y d w4 G3.opsN
    obtain⟨t0,t1,t2,_⟩:=bat_cells G1
    obtain⟨p0,p1,p2,_⟩:=bat_cells H4.out
    clear HG G1 G2 G3 G4 O3 C3 H3 Q6 Q7 HC HI3 BR HK3 HPL HP1
    go_wp2_with fail
    refine K4.mono ?_
    rintro e w5 ⟨rfl,b5⟩
    dsimp only
    have C5:Hid (w5.heap[b9]? = some (.cells #[.slice x ks.length c,.int .i64 sn,.int .i64 nx] 26 (0,0))):=(b5.block _ (lt_of_block C4.out)).trans C4.out
    have H5:Hid (w5.heap[w.heap.size]? = some (.cells #[.slice a ks.length cap,.int .i64 sn,.int .i64 nx] 26 (0,0))):=(b5.block _ (lt_of_block H4.out)).trans H4.out
    have R6:Hid (w5.heap[w.heap.size+1]? = some (.cells #[.slice none 0 0,.int .i64 0,.int .i64 0] 26 (0,0))):=(b5.block _ (lt_of_block P6.out)).trans P6.out
    have R7:Hid (w5.heap[w.heap.size+1+1]? = some (.cells #[.int .i64 0,.int .i64 0,.slice none 0 0] 31 (0,0))):=(b5.block _ (lt_of_block P7.out)).trans P7.out
    have O5:Hid (NewR w5 w1.heap.size x (scells ks)):=O4.out.later b5
    have T5:Hid (w5.heap[b8]? = some (.cells #[.int .i64 id,.int .i64 nx,.slice y os.length d] 31 (0,0))):=(b5.block _ (lt_of_block T4.out)).trans T4.out
    have Y5:Hid (NewR w5 w3.heap.size y (ocells os)):=Y4.out.later b5
    have B5:Hid (Below w.heap.size w w5):=B4.out.trans (b5.mono B4.out.size)
    have HB8:Hid (w3.heap.size≤b8):=HG2.out
    clear K4 b5 t0 t1 t2 p0 p1 p2 C4 H4 P6 P7 O4 T4 Y4 B4 HG2
    obtain⟨p0,p1,p2,_⟩:=bat_cells H5.out
    obtain⟨s0,s1,s2,sf⟩:=bat_cells C5.out
    by_cases hbad:bk=false∨nx=1000000000000
    · have HR:Hid (rr=(ks,sn,nx,0,0,[],false)):=by rw[Hid,HR0.out,if_pos hbad]
      have HOX:Hid (NewR ((((((w5.setCell ⟨w.heap.size+1,0,none⟩ (.slice x ks.length c)).setCell ⟨w.heap.size+1,1,none⟩ (.int .i64 sn)).setCell ⟨w.heap.size+1,2,none⟩ (.int .i64 nx)).setCell ⟨w.heap.size+1+1,0,none⟩ (.int .i64 0)).setCell ⟨w.heap.size+1+1,1,none⟩ (.int .i64 0)).setCell ⟨w.heap.size+1+1,2,none⟩ (.slice none 0 0)) w.heap.size x (scells ks)):=by
       have h7:=S2.out.1
       exact ((((((O5.out.setCellN _ (by simp only;omega) _).setCellN _ (by simp only;omega) _).setCellN _ (by simp only;omega) _).setCellN _ (by simp only;omega) _).setCellN _ (by simp only;omega) _).setCellN _ (by simp only;omega) _).lower (by omega)
      have HFC:Hid (((((((w5.setCell ⟨w.heap.size+1,0,none⟩ (.slice x ks.length c)).setCell ⟨w.heap.size+1,1,none⟩ (.int .i64 sn)).setCell ⟨w.heap.size+1,2,none⟩ (.int .i64 nx)).setCell ⟨w.heap.size+1+1,0,none⟩ (.int .i64 0)).setCell ⟨w.heap.size+1+1,1,none⟩ (.int .i64 0)).setCell ⟨w.heap.size+1+1,2,none⟩ (.slice none 0 0)).heap[w.heap.size+1]? = some (.cells #[.slice x ks.length c,.int .i64 sn,.int .i64 nx] 26 (0,0))):=by
       show ((((((w5.setCell ⟨w.heap.size+1,0,none⟩ (.slice x ks.length c)).setCell ⟨w.heap.size+1,1,none⟩ (.int .i64 sn)).setCell ⟨w.heap.size+1,2,none⟩ (.int .i64 nx)).setCell ⟨w.heap.size+1+1,0,none⟩ (.int .i64 0)).setCell ⟨w.heap.size+1+1,1,none⟩ (.int .i64 0)).setCell ⟨w.heap.size+1+1,2,none⟩ (.slice none 0 0)).heap[w.heap.size+1]? = _
       rw[set3N (by omega)]
       exact bat_set (j:=2) (bat_set (j:=1) (bat_set (j:=0) R6.out))
      have HFB:Hid (((((((w5.setCell ⟨w.heap.size+1,0,none⟩ (.slice x ks.length c)).setCell ⟨w.heap.size+1,1,none⟩ (.int .i64 sn)).setCell ⟨w.heap.size+1,2,none⟩ (.int .i64 nx)).setCell ⟨w.heap.size+1+1,0,none⟩ (.int .i64 0)).setCell ⟨w.heap.size+1+1,1,none⟩ (.int .i64 0)).setCell ⟨w.heap.size+1+1,2,none⟩ (.slice none 0 0)).heap[w.heap.size+1+1]? = some (.cells #[.int .i64 0,.int .i64 0,.slice none 0 0] 31 (0,0))):=bat_set (j:=2) (bat_set (j:=1) (bat_set (j:=0) ((set3N (by omega)).trans R7.out)))
      have HBZ:Hid (Below w.heap.size w ((((((w5.setCell ⟨w.heap.size+1,0,none⟩ (.slice x ks.length c)).setCell ⟨w.heap.size+1,1,none⟩ (.int .i64 sn)).setCell ⟨w.heap.size+1,2,none⟩ (.int .i64 nx)).setCell ⟨w.heap.size+1+1,0,none⟩ (.int .i64 0)).setCell ⟨w.heap.size+1+1,1,none⟩ (.int .i64 0)).setCell ⟨w.heap.size+1+1,2,none⟩ (.slice none 0 0))):=by
       have hz:Below w.heap.size w ((((((w5.setCell ⟨w.heap.size+1,0,none⟩ (.slice x ks.length c)).setCell ⟨w.heap.size+1,1,none⟩ (.int .i64 sn)).setCell ⟨w.heap.size+1,2,none⟩ (.int .i64 nx)).setCell ⟨w.heap.size+1+1,0,none⟩ (.int .i64 0)).setCell ⟨w.heap.size+1+1,1,none⟩ (.int .i64 0)).setCell ⟨w.heap.size+1+1,2,none⟩ (.slice none 0 0)):=(((((B5.out.setCell (by simp) _).setCell (by simp) _).setCell (by simp) _).setCell (by simp only;omega) _).setCell (by simp only;omega) _).setCell (by simp only;omega) _
       exact⟨hz.os,hz.tape,hz.output,hz.size,hz.block⟩
      obtain⟨y0,y1,y2,yf⟩:=bat_cells R6.out
      have yf0:=yf 0
      have yf1:=yf 1
      have yf2:=yf 2
      obtain⟨z0,z1,z2,zf⟩:=bat_cells R7.out
      have zf0:=zf 0
      have zf1:=zf 1
      have zf2:=zf 2
      clear yf zf
      clear HR0 sf
      have hcs:(bk=false)∨(bk=true∧(nx == 1000000000000)=true):=by
       rcases hbad with h | h
       · exact .inl h
       · cases bk with
         | false=>exact .inl rfl
         | true=>exact .inr ⟨rfl,by rw[h];rfl⟩
      clear hbad hnx
      rcases hcs with rfl | ⟨rfl,hnb⟩
      all_goals
       go_wp2
       refine bodyPost_ret (v:=.tuple #[.agg #[.slice x ks.length c,.int .i64 sn,.int .i64 nx],.agg #[.int .i64 0,.int .i64 0,.slice none 0 0],.bool false]) (results_ccbN rfl _ _ (w.heap.size+1) (w.heap.size+1+1) 26 31 _ _ _ _ rfl HFC.out Tryd.underlying26 rfl (by kernel_rfl) rfl HFB.out Tryd.underlying31 rfl (by kernel_rfl) _ rfl) rfl ?_
       rw[HR.out]
       exact⟨x,c,none,0,rfl,HOX.out,.inl rfl,HBZ.out⟩
    · have HR:Hid (rr=(ks,sn,nx+1,id,nx,os,true)):=by rw[Hid,HR0.out,if_neg hbad]
      have hbt:bk=true:=by cases bk with | true=>rfl | false=>exact absurd (.inl rfl) hbad
      have hnb:(nx == 1000000000000)=false:=by rw[beq_eq_false_iff_ne];exact fun h=>hbad (.inr h)
      have hwr:IntKind.i64.wrap (nx+1)=nx+1:=i64_wrap_small (nx+1) (by omega) (by have h:nx≠1000000000000:=fun h=>hbad (.inr h);omega)
      subst hbt
      clear HR0 hbad hnx
      have sf2:=sf 2
      obtain⟨w6,hw6⟩:∃ W,W=w5.setCell ⟨b9,2,none⟩ (.int .i64 (nx+1)):=⟨_,rfl⟩
      have h9a:=HB9.out.1
      have h9b:=HB9.out.2
      have h8a:=HB8.out
      have C6:w6.heap[b9]? = some (.cells #[.slice x ks.length c,.int .i64 sn,.int .i64 (nx+1)] 26 (0,0)):=by rw[hw6];exact bat_set (j:=2) C5.out
      have T6:w6.heap[b8]? = some (.cells #[.int .i64 id,.int .i64 nx,.slice y os.length d] 31 (0,0)):=by rw[hw6];exact (Below.heap_setCell _ _ _ _ (by simp only;omega)).trans T5.out
      have Q6:Hid (w6.heap[w.heap.size+1]? = some (.cells #[.slice none 0 0,.int .i64 0,.int .i64 0] 26 (0,0))):=by rw[hw6];exact (Below.heap_setCell _ _ _ _ (by simp only;omega)).trans R6.out
      have Q7:Hid (w6.heap[w.heap.size+1+1]? = some (.cells #[.int .i64 0,.int .i64 0,.slice none 0 0] 31 (0,0))):=by rw[hw6];exact (Below.heap_setCell _ _ _ _ (by simp only;omega)).trans R7.out
      have B6:Hid (Below w.heap.size w w6):=by rw[hw6];exact B5.out.setCell (by simp only;omega) _
      have X6:NewR w6 w1.heap.size x (scells ks):=by rw[hw6];exact O5.out.setAtN _ (fun g h1 h2=>by have:=HXL.out g h1 h2;simp only;omega) _
      have Y6:NewR w6 w3.heap.size y (ocells os):=by rw[hw6];exact Y5.out.setCellN _ (by simp only;omega) _
      have h7:=S2.out.1
      obtain⟨w7,hw7⟩:∃ W,W=((((((w6.setCell ⟨w.heap.size+1,0,none⟩ (.slice x ks.length c)).setCell ⟨w.heap.size+1,1,none⟩ (.int .i64 sn)).setCell ⟨w.heap.size+1,2,none⟩ (.int .i64 (nx+1))).setCell ⟨w.heap.size+1+1,0,none⟩ (.int .i64 id)).setCell ⟨w.heap.size+1+1,1,none⟩ (.int .i64 nx)).setCell ⟨w.heap.size+1+1,2,none⟩ (.slice y os.length d)):=⟨_,rfl⟩
      have F6:w7.heap[w.heap.size+1]? = some (.cells #[.slice x ks.length c,.int .i64 sn,.int .i64 (nx+1)] 26 (0,0)):=by
       rw[hw7,set3N (by omega)]
       exact bat_set (j:=2) (bat_set (j:=1) (bat_set (j:=0) Q6.out))
      have F7:w7.heap[w.heap.size+1+1]? = some (.cells #[.int .i64 id,.int .i64 nx,.slice y os.length d] 31 (0,0)):=by
       rw[hw7]
       exact bat_set (j:=2) (bat_set (j:=1) (bat_set (j:=0) ((set3N (by omega)).trans Q7.out)))
      have FB:Below w.heap.size w w7:=by
       rw[hw7]
       exact (((((B6.out.setCell (by simp) _).setCell (by simp) _).setCell (by simp) _).setCell (by simp only;omega) _).setCell (by simp only;omega) _).setCell (by simp only;omega) _
      have FX:NewR w7 w.heap.size x (scells ks):=by
       rw[hw7]
       exact ((((((X6.setCellN _ (by simp only;omega) _).setCellN _ (by simp only;omega) _).setCellN _ (by simp only;omega) _).setCellN _ (by simp only;omega) _).setCellN _ (by simp only;omega) _).setCellN _ (by simp only;omega) _).lower (by omega)
      have FY:NewR w7 w.heap.size y (ocells os):=by
       rw[hw7]
       exact ((((((Y6.setCellN _ (by simp only;omega) _).setCellN _ (by simp only;omega) _).setCellN _ (by simp only;omega) _).setCellN _ (by simp only;omega) _).setCellN _ (by simp only;omega) _).setCellN _ (by simp only;omega) _).lower (by omega)
      have HFC:Hid (w7.drew.heap[w.heap.size+1]? = some (.cells #[.slice x ks.length c,.int .i64 sn,.int .i64 (nx+1)] 26 (0,0))):=F6
      have HFB:Hid (w7.drew.heap[w.heap.size+1+1]? = some (.cells #[.int .i64 id,.int .i64 nx,.slice y os.length d] 31 (0,0))):=F7
      have HPN:Hid (MnPost w w7.drew (.returned (.tuple #[.agg #[.slice x ks.length c,.int .i64 sn,.int .i64 (nx+1)],.agg #[.int .i64 id,.int .i64 nx,.slice y os.length d],.bool true])) rr):=by
       rw[Hid,HR.out]
       exact⟨x,c,y,d,rfl,FX.later ⟨rfl,rfl,rfl,Nat.le_refl _,fun _ _=>rfl⟩,FY.later ⟨rfl,rfl,rfl,Nat.le_refl _,fun _ _=>rfl⟩,⟨FB.os,FB.tape,FB.output,FB.size,FB.block⟩⟩
      obtain⟨y0,y1,y2,yf⟩:=bat_cells Q6.out
      have yf0:=yf 0
      have yf1:=yf 1
      have yf2:=yf 2
      obtain⟨z0,z1,z2,zf⟩:=bat_cells Q7.out
      have zf0:=zf 0
      have zf1:=zf 1
      have zf2:=zf 2
      obtain⟨t0,t1,t2,_⟩:=bat_cells T6
      obtain⟨u0,u1,u2,_⟩:=bat_cells C6
      have T6b:(((w6.setCell ⟨w.heap.size+1,0,none⟩ (.slice x ks.length c)).setCell ⟨w.heap.size+1,1,none⟩ (.int .i64 sn)).setCell ⟨w.heap.size+1,2,none⟩ (.int .i64 (nx+1))).heap[b8]? = some (.cells #[.int .i64 id,.int .i64 nx,.slice y os.length d] 31 (0,0)):=(set3N (by omega)).trans T6
      obtain⟨t0',t1',t2',_⟩:=bat_cells T6b
      rw[hw7] at HFC HFB HPN
      rw[hw6] at y0 y1 y2 yf0 yf1 yf2 z0 z1 z2 zf0 zf1 zf2 t0 t1 t2 u0 u1 u2 t0' t1' t2' HFC HFB HPN
      clear yf zf sf F6 F7 FB FX FY X6 Y6 T6 C6 T6b hw6 hw7 Q6 Q7 B6 HR O5 T5 Y5 B5 C5 H5 R6 R7 HXL HB8 HB9 S2
      go_wp2
      go_region
      all_goals
       go_wp2
       refine bodyPost_ret (v:=.tuple #[.agg #[.slice x ks.length c,.int .i64 sn,.int .i64 (nx+1)],.agg #[.int .i64 id,.int .i64 nx,.slice y os.length d],.bool true]) (results_ccbN rfl _ _ (w.heap.size+1) (w.heap.size+1+1) 26 31 _ _ _ _ rfl HFC.out Tryd.underlying26 rfl (by kernel_rfl) rfl HFB.out Tryd.underlying31 rfl (by kernel_rfl) _ rfl) rfl ?_
       exact HPN.out
end Go.Proofs.YtgjddhlmmljabaaDoor
