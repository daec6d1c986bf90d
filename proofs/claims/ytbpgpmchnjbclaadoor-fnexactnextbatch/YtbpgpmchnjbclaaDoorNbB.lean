/-
 Contracts: a client's next batch, or why there is none (batchBy).
-/
import Derived.Test.YtbpgpmchnjbclaaDoorNbD
namespace Go.Proofs.YtbpgpmchnjbclaaDoor
open Go.RowKit
set_option linter.unusedVariables false
theorem results_csE {P:Program} {fn:Func} {p r:Tmp} {ty:TypeId} (h:fn.results=#[.cell p ty,.tmp r]) (tmps:Array Value) (w:World) (g:Nat) (t:TypeId) (cs:Array Value) (d:TypeDesc)
 (hp:tmps.getD p undef=.pointer (some ⟨g,0,none⟩)) (hg:w.heap[g]? = some (.cells cs t (0,0))) (hu:P.underlying ty=some d) (hd:(match d with | .struct _ | .array _ _=>true | _=>false)=true) (hi:(P.info? ty).map (·.size)=some cs.size) (vb:Value) (hb:tmps.getD r undef=vb) :
 (results fn tmps).run P w=.ok (.tuple #[.agg cs,vb]) w:=by
 subst hb
 have hp':tmps[p]?.getD undef=.pointer (some ⟨g,0,none⟩):=by simpa using hp
 simp[results,h,hp',asAddr,run_loadVar_row w g t ty cs (0,0) d hg hu hd hi]
def nbCode (ks:List (List UInt8)) (sn nx id:Int) (os:List OpL):Nat:=if clientOk ks sn nx=false then 1 else if batchOk id nx os=false then 2 else if nx=1000000000000 then 3 else 0
def NbPost (w w':World) (e:Ending) (e0 e1 e2:Addr) (k:Nat) (id nx:Int) (os:List OpL):Prop :=
 (∃ (x:Option Addr) (c:Nat),k=0∧e=.returned (.tuple #[.agg #[.int .i64 id,.int .i64 nx,.slice x os.length c],.nilIface])∧w'.ownsRow (w.heap.size+2) 55 3 (.slice x os.length c) os.length (ocells os)∧Below w.heap.size w w') ∨
 (∃ er,((k=1∧er=e0)∨(k=2∧er=e1)∨(k=3∧er=e2))∧e=.returned (.tuple #[.agg #[.int .i64 0,.int .i64 0,.slice none 0 0],.iface 131 (.pointer (some er))])∧Below w.heap.size w w')
theorem own_setN {w:World} {base e size n:Nat} {v:Value} {xs:List Value} (h:w.ownsRow base e size v n xs) (p:Addr) (hp:p.block<base) (u:Value):(w.setCell p u).ownsRow base e size v n xs:=by
 refine ownsRow_setCell_other h (fun e=>?_) u
 have:=(h.lt _ e).1
 omega
set_option maxRecDepth 100000 in
set_option maxHeartbeats 4000000 in
theorem impl_batchBy (a : Option Addr) (cap : Nat) (ks : List (List UInt8)) (sn nx id : Int) (b : Option Addr) (cb : Nat) (os : List OpL) (w : World) (e0 e1 e2 : Addr) (hE : Errs w e0 e1 e2) (hl : ks.length ≤ 1048576) (hm : ∀ l ∈ ks, l.length ≤ 1048576) (hs : IsStrs w a ks) (hl2 : os.length ≤ 1048576) (hm2 : ∀ p ∈ os, p.1.length ≤ 1048576 ∧ p.2.1.length ≤ 1048576) (hcb : b = none → cb = 0) (hbb : b = none ∨ ∃ g off, b = some ⟨g, off, none⟩) (hs2 : IsOps w b os) :
 Calls Tryd.prog 30 #[.agg #[.slice a ks.length cap,.int .i64 sn,.int .i64 nx],.int .i64 id,.slice b os.length cb] w fun e w'=>NbPost w w' e e0 e1 e2 (nbCode ks sn nx id os) id nx os:=by
 obtain⟨wa,hwa⟩:∃ wa,wa=((w.alloc (.cells #[.slice a ks.length cap,.int .i64 sn,.int .i64 nx] 28)).alloc (.cells #[.int .i64 0,.int .i64 0,.slice none 0 0] 31)):=⟨_,rfl⟩
 have B0:Below w.heap.size w wa:=by rw[hwa];exact ((Below.refl _ _).alloc (Nat.le_refl _) _).alloc (by simp) _
 have H0:Hid (wa.heap[w.heap.size]? = some (.cells #[.slice a ks.length cap,.int .i64 sn,.int .i64 nx] 28 (0,0))):=by rw[hwa,Hid,Below.heap_alloc _ _ _ (by simp)];exact heap_alloc_new w _
 have R0:Hid (wa.heap[w.heap.size+1]? = some (.cells #[.int .i64 0,.int .i64 0,.slice none 0 0] 31 (0,0))):=by
  rw[hwa,Hid]
  have:=heap_alloc_new (w.alloc (.cells #[.slice a ks.length cap,.int .i64 sn,.int .i64 nx] 28)) (.cells #[.int .i64 0,.int .i64 0,.slice none 0 0] 31)
  simpa using this
 obtain⟨p0,p1,p2,_⟩:=bat_cells H0.out
 have K1:=impl_clientOk a cap ks sn nx wa hl hm (strs_later hs B0)
 have HK2:Hid (∀ W,Below w.heap.size w W→_):=fun W hW=>impl_batchOk id nx b cb os W hl2 hm2 (hs2.later hW)
 have HK3:Hid (∀ W,Below w.heap.size w W→_):=fun W hW=>clone_opsN b cb os W hl2 hcb hbb (hs2.later hW)
 have HE:Hid (Errs w e0 e1 e2):=hE
 have HC0:Hid (nbCode ks sn nx id os=if clientOk ks sn nx=false then 1 else if batchOk id nx os=false then 2 else if nx=1000000000000 then 3 else 0):=rfl
 obtain⟨kk,hkk⟩:∃ x,x=nbCode ks sn nx id os:=⟨_,rfl⟩
 rw[←hkk] at HC0 ⊢
 obtain⟨ck,hck⟩:∃ x,x=clientOk ks sn nx:=⟨_,rfl⟩
 rw[←hck] at HC0 K1
 obtain⟨bk,hbk⟩:∃ x,x=batchOk id nx os:=⟨_,rfl⟩
 rw[←hbk] at HC0 HK2
 clear hkk hck hbk hs hm hs2 hm2 hE hcb hbb hl hl2
 rw[hwa] at K1 p0 p1 p2
 go_enter Tryd.func30,Tryd.ntmps30
 go_wp2_with fail
 refine K1.mono ?_
 rintro e w1 ⟨rfl,b1⟩
 rw[←hwa] at b1
 have B1:Hid (Below w.heap.size w w1):=B0.trans (b1.mono B0.size)
 have H1:Hid (w1.heap[w.heap.size]? = some (.cells #[.slice a ks.length cap,.int .i64 sn,.int .i64 nx] 28 (0,0))):=(b1.block _ (lt_of_block H0.out)).trans H0.out
 have R1:Hid (w1.heap[w.heap.size+1]? = some (.cells #[.int .i64 0,.int .i64 0,.slice none 0 0] 31 (0,0))):=(b1.block _ (lt_of_block R0.out)).trans R0.out
 clear p0 p1 p2 K1 b1 H0 R0 B0 hwa
 cases ck with
 | false =>
   have HC:Hid (kk=1):=by rw[Hid,HC0.out];rfl
   have c0:=(HE.out.later B1.out).g0
   have HBZ:Hid (Below w.heap.size w (((w1.setCell ⟨w.heap.size+1,0,none⟩ (.int .i64 0)).setCell ⟨w.heap.size+1,1,none⟩ (.int .i64 0)).setCell ⟨w.heap.size+1,2,none⟩ (.slice none 0 0)).drew):=by
    have hz:Below w.heap.size w (((w1.setCell ⟨w.heap.size+1,0,none⟩ (.int .i64 0)).setCell ⟨w.heap.size+1,1,none⟩ (.int .i64 0)).setCell ⟨w.heap.size+1,2,none⟩ (.slice none 0 0)):=((B1.out.setCell (by simp) _).setCell (by simp) _).setCell (by simp) _
    exact⟨hz.os,hz.tape,hz.output,hz.size,hz.block⟩
   have HFZ:Hid ((((w1.setCell ⟨w.heap.size+1,0,none⟩ (.int .i64 0)).setCell ⟨w.heap.size+1,1,none⟩ (.int .i64 0)).setCell ⟨w.heap.size+1,2,none⟩ (.slice none 0 0)).drew.heap[w.heap.size+1]? = some (.cells #[.int .i64 0,.int .i64 0,.slice none 0 0] 31 (0,0))):=bat_set (j:=2) (bat_set (j:=1) (bat_set (j:=0) R1.out))
   have hgl:=World.block_lt_of_cell? w _ HE.out.g0
   obtain⟨y0,y1,y2,yf⟩:=bat_cells R1.out
   have yf0:=yf 0
   have yf1:=yf 1
   have yf2:=yf 2
   clear yf HK2 HK3 HC0 H1
   go_wp2
   go_region
   all_goals
    go_wp2
    refine bodyPost_ret (v:=.tuple #[.agg #[.int .i64 0,.int .i64 0,.slice none 0 0],.iface 131 (.pointer (some e0))]) (results_csE rfl _ _ (w.heap.size+1) 31 _ _ rfl HFZ.out Tryd.underlying31 rfl (by kernel_rfl) _ rfl) rfl ?_
    exact .inr ⟨e0,.inl ⟨HC.out,rfl⟩,rfl,HBZ.out⟩
 | true =>
   replace HC0:Hid (kk=if bk=false then 2 else if nx=1000000000000 then 3 else 0):=by rw[Hid,HC0.out];rfl
   obtain⟨p0,p1,p2,_⟩:=bat_cells H1.out
   have XB:Below w1.heap.size w1 (w1.alloc (.cells #[.int .i64 id,.int .i64 nx,.slice b os.length cb] 31)):=(Below.refl _ _).alloc (Nat.le_refl _) _
   have K2:=HK2.out (w1.alloc (.cells #[.int .i64 id,.int .i64 nx,.slice b os.length cb] 31)) (B1.out.trans (XB.mono B1.out.size))
   have HS1:Hid (w.heap.size+1<w1.heap.size):=lt_of_block R1.out
   obtain⟨t0,t1,t2,_⟩:=bat_cells (heap_alloc_new w1 (.cells #[.int .i64 id,.int .i64 nx,.slice b os.length cb] 31))
   have HXB:Hid (Below w1.heap.size w1 (w1.alloc (.cells #[.int .i64 id,.int .i64 nx,.slice b os.length cb] 31))):=XB
   clear XB
   go_wp2_with fail
   refine K2.mono ?_
   rintro e w3 ⟨rfl,b3⟩
   dsimp only
   obtain⟨bq,hbq⟩:∃ q,q=w1.heap.size:=⟨_,rfl⟩
   have T3:Hid (w3.heap[bq]? = some (.cells #[.int .i64 id,.int .i64 nx,.slice b os.length cb] 31 (0,0))):=by rw[hbq];exact (b3.block _ (by simp)).trans (heap_alloc_new w1 _)
   have B13:Below w1.heap.size w1 w3:=HXB.out.trans (b3.mono HXB.out.size)
   have B3:Hid (Below w.heap.size w w3):=B1.out.trans (B13.mono B1.out.size)
   have H3:Hid (w3.heap[w.heap.size]? = some (.cells #[.slice a ks.length cap,.int .i64 sn,.int .i64 nx] 28 (0,0))):=(B13.block _ (lt_of_block H1.out)).trans H1.out
   have R3:Hid (w3.heap[w.heap.size+1]? = some (.cells #[.int .i64 0,.int .i64 0,.slice none 0 0] 31 (0,0))):=(B13.block _ (lt_of_block R1.out)).trans R1.out
   have HQ:Hid (w.heap.size+1<bq):=by rw[hbq];exact HS1.out
   rw[←hbq]
   clear K2 b3 t0 t1 t2 p0 p1 p2 H1 R1 HXB B13 hbq HK2 HS1 B1
   cases bk with
   | false =>
     have HC:Hid (kk=2):=by rw[Hid,HC0.out];rfl
     have c0:=(HE.out.later B3.out).g1
     have HBZ:Hid (Below w.heap.size w (((w3.setCell ⟨w.heap.size+1,0,none⟩ (.int .i64 0)).setCell ⟨w.heap.size+1,1,none⟩ (.int .i64 0)).setCell ⟨w.heap.size+1,2,none⟩ (.slice none 0 0)).drew):=by
      have hz:Below w.heap.size w (((w3.setCell ⟨w.heap.size+1,0,none⟩ (.int .i64 0)).setCell ⟨w.heap.size+1,1,none⟩ (.int .i64 0)).setCell ⟨w.heap.size+1,2,none⟩ (.slice none 0 0)):=((B3.out.setCell (by simp) _).setCell (by simp) _).setCell (by simp) _
      exact⟨hz.os,hz.tape,hz.output,hz.size,hz.block⟩
     have HFZ:Hid ((((w3.setCell ⟨w.heap.size+1,0,none⟩ (.int .i64 0)).setCell ⟨w.heap.size+1,1,none⟩ (.int .i64 0)).setCell ⟨w.heap.size+1,2,none⟩ (.slice none 0 0)).drew.heap[w.heap.size+1]? = some (.cells #[.int .i64 0,.int .i64 0,.slice none 0 0] 31 (0,0))):=bat_set (j:=2) (bat_set (j:=1) (bat_set (j:=0) R3.out))
     have hgl:=World.block_lt_of_cell? w _ HE.out.g1
     obtain⟨y0,y1,y2,yf⟩:=bat_cells R3.out
     have yf0:=yf 0
     have yf1:=yf 1
     have yf2:=yf 2
     clear yf HK3 HC0 H3 T3 HQ
     go_wp2
     go_region
     all_goals
      go_wp2
      refine bodyPost_ret (v:=.tuple #[.agg #[.int .i64 0,.int .i64 0,.slice none 0 0],.iface 131 (.pointer (some e1))]) (results_csE rfl _ _ (w.heap.size+1) 31 _ _ rfl HFZ.out Tryd.underlying31 rfl (by kernel_rfl) _ rfl) rfl ?_
      exact .inr ⟨e1,.inr (.inl ⟨HC.out,rfl⟩),rfl,HBZ.out⟩
   | true =>
     by_cases hn:nx=1000000000000
     · have hnb:(nx == 1000000000000)=true:=by rw[hn];rfl
       have HC:Hid (kk=3):=by rw[Hid,HC0.out,if_neg (by simp),if_pos hn]
       clear hn
       obtain⟨p0,p1,p2,_⟩:=bat_cells H3.out
       have c0:=(HE.out.later B3.out).g2
       have HBZ:Hid (Below w.heap.size w (((w3.setCell ⟨w.heap.size+1,0,none⟩ (.int .i64 0)).setCell ⟨w.heap.size+1,1,none⟩ (.int .i64 0)).setCell ⟨w.heap.size+1,2,none⟩ (.slice none 0 0)).drew):=by
        have hz:Below w.heap.size w (((w3.setCell ⟨w.heap.size+1,0,none⟩ (.int .i64 0)).setCell ⟨w.heap.size+1,1,none⟩ (.int .i64 0)).setCell ⟨w.heap.size+1,2,none⟩ (.slice none 0 0)):=((B3.out.setCell (by simp) _).setCell (by simp) _).setCell (by simp) _
        exact⟨hz.os,hz.tape,hz.output,hz.size,hz.block⟩
       have HFZ:Hid ((((w3.setCell ⟨w.heap.size+1,0,none⟩ (.int .i64 0)).setCell ⟨w.heap.size+1,1,none⟩ (.int .i64 0)).setCell ⟨w.heap.size+1,2,none⟩ (.slice none 0 0)).drew.heap[w.heap.size+1]? = some (.cells #[.int .i64 0,.int .i64 0,.slice none 0 0] 31 (0,0))):=bat_set (j:=2) (bat_set (j:=1) (bat_set (j:=0) R3.out))
       have hgl:=World.block_lt_of_cell? w _ HE.out.g2
       obtain⟨y0,y1,y2,yf⟩:=bat_cells R3.out
       have yf0:=yf 0
       have yf1:=yf 1
       have yf2:=yf 2
       clear yf HK3 HC0 T3 HQ
       go_wp2
       go_region
       all_goals
        go_wp2
        refine bodyPost_ret (v:=.tuple #[.agg #[.int .i64 0,.int .i64 0,.slice none 0 0],.iface 131 (.pointer (some e2))]) (results_csE rfl _ _ (w.heap.size+1) 31 _ _ rfl HFZ.out Tryd.underlying31 rfl (by kernel_rfl) _ rfl) rfl ?_
        exact .inr ⟨e2,.inr (.inr ⟨HC.out,rfl⟩),rfl,HBZ.out⟩
     · have hnb:(nx == 1000000000000)=false:=by rw[beq_eq_false_iff_ne];exact hn
       have HC:Hid (kk=0):=by rw[Hid,HC0.out,if_neg (by simp),if_neg hn]
       obtain⟨p0,p1,p2,_⟩:=bat_cells H3.out
       have K3:=HK3.out w3 B3.out
       clear HC0 HK3 hn
       go_wp2_with fail
       refine K3.mono ?_
       rintro e w4 ⟨x,c,rfl,o4,b4⟩
       dsimp only
       have B4:Hid (Below w.heap.size w w4):=B3.out.trans (b4.mono B3.out.size)
       have T4:Hid (w4.heap[bq]? = some (.cells #[.int .i64 id,.int .i64 nx,.slice b os.length cb] 31 (0,0))):=(b4.block _ (lt_of_block T3.out)).trans T3.out
       have R4:Hid (w4.heap[w.heap.size+1]? = some (.cells #[.int .i64 0,.int .i64 0,.slice none 0 0] 31 (0,0))):=(b4.block _ (lt_of_block R3.out)).trans R3.out
       have HL:Hid (bq<w3.heap.size):=lt_of_block T3.out
       have T5:Hid ((w4.setCell ⟨bq,2,none⟩ (.slice x os.length c)).heap[bq]? = some (.cells #[.int .i64 id,.int .i64 nx,.slice x os.length c] 31 (0,0))):=bat_set (j:=2) T4.out
       have R5:Hid ((w4.setCell ⟨bq,2,none⟩ (.slice x os.length c)).heap[w.heap.size+1]? = some (.cells #[.int .i64 0,.int .i64 0,.slice none 0 0] 31 (0,0))):=(Below.heap_setCell _ _ _ _ (by have:=HQ.out;simp only;omega)).trans R4.out
       have HO5:Hid (((((w4.setCell ⟨bq,2,none⟩ (.slice x os.length c)).setCell ⟨w.heap.size+1,0,none⟩ (.int .i64 id)).setCell ⟨w.heap.size+1,1,none⟩ (.int .i64 nx)).setCell ⟨w.heap.size+1,2,none⟩ (.slice x os.length c)).ownsRow (w.heap.size+2) 55 3 (.slice x os.length c) os.length (ocells os)):=by
        have h1:=HL.out
        have h2:=HQ.out
        exact (own_setN (own_setN (own_setN (own_setN o4 _ (by simp only;omega) _) _ (by simp only;omega) _) _ (by simp only;omega) _) _ (by simp only;omega) _).mono (by omega)
       have HB5:Hid (Below w.heap.size w ((((w4.setCell ⟨bq,2,none⟩ (.slice x os.length c)).setCell ⟨w.heap.size+1,0,none⟩ (.int .i64 id)).setCell ⟨w.heap.size+1,1,none⟩ (.int .i64 nx)).setCell ⟨w.heap.size+1,2,none⟩ (.slice x os.length c))):=by
        have h2:=HQ.out
        exact (((B4.out.setCell (by simp only;omega) _).setCell (by simp only;omega) _).setCell (by simp only;omega) _).setCell (by simp only;omega) _
       have HFZ:Hid (((((w4.setCell ⟨bq,2,none⟩ (.slice x os.length c)).setCell ⟨w.heap.size+1,0,none⟩ (.int .i64 id)).setCell ⟨w.heap.size+1,1,none⟩ (.int .i64 nx)).setCell ⟨w.heap.size+1,2,none⟩ (.slice x os.length c)).heap[w.heap.size+1]? = some (.cells #[.int .i64 id,.int .i64 nx,.slice x os.length c] 31 (0,0))):=bat_set (j:=2) (bat_set (j:=1) (bat_set (j:=0) R5.out))
       obtain⟨t0,t1,t2,tf⟩:=bat_cells T4.out
       have tf2:=tf 2
       obtain⟨y0,y1,y2,yf⟩:=bat_cells R5.out
       have yf0:=yf 0
       have yf1:=yf 1
       have yf2:=yf 2
       obtain⟨s0,s1,s2,_⟩:=bat_cells T5.out
       clear tf yf K3 o4 b4 p0 p1 p2 T5 R5 T4 R4 H3 R3 T3 B3 HE
       go_wp2
       refine bodyPost_ret (v:=.tuple #[.agg #[.int .i64 id,.int .i64 nx,.slice x os.length c],.nilIface]) (results_csE rfl _ _ (w.heap.size+1) 31 _ _ rfl HFZ.out Tryd.underlying31 rfl (by kernel_rfl) _ rfl) rfl ?_
       exact .inl ⟨x,c,HC.out,rfl,HO5.out,HB5.out⟩
end Go.Proofs.YtbpgpmchnjbclaaDoor
