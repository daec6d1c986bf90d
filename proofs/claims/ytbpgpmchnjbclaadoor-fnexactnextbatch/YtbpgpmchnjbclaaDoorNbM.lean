/-
 Contract: NextBatch of the model (written by mknbm.py).
-/
import Derived.Test.YtbpgpmchnjbclaaDoorNbP
import Derived.Test.YtbpgpmchnjbclaaDoorNbS
namespace Go.Proofs.YtbpgpmchnjbclaaDoor
open Go.RowKit
set_option linter.unusedVariables false
def MnPost (w w':World) (e:Ending) (r:NbL):Prop :=
 ∃ (x:Option Addr) (c:Nat) (y:Option Addr) (d:Nat),e=.returned (.tuple #[.agg #[.slice x r.1.length c,.int .i64 r.2.1,.int .i64 r.2.2.1],.agg #[.int .i64 r.2.2.2.1,.int .i64 r.2.2.2.2.1,.slice y r.2.2.2.2.2.1.length d],.bool r.2.2.2.2.2.2])∧NewR w' w.heap.size x (scells r.1)∧NewR w' w.heap.size y (ocells r.2.2.2.2.2.1)∧Below w.heap.size w w'
def NReg (W0 wx:World) (bs:Nat) (y:Option Addr) (d:Nat) (id nx:Int) (os:List OpL):Prop :=
 wx.heap[bs]? = some (.cells #[.int .i64 id,.int .i64 nx,.slice y os.length d] 31 (0,0))∧W0.heap.size≤bs∧NewR wx W0.heap.size y (ocells os)∧Below W0.heap.size W0 wx
theorem blk_viaN {W W':World} (h:Below W.heap.size W W'):∀ (B:Nat) (o:Obj),W.heap[B]? = some o→W'.heap[B]? = some o:=fun B o ho=>by
 rw[h.block B (Array.getElem?_eq_some_iff.1 ho).1];exact ho
theorem below_viaN {B:Nat} {w W W':World} (h1:Below B w W) (hB:B≤w.heap.size) (h2:Below W.heap.size W W'):Below B w W':=h1.trans (h2.mono (Nat.le_trans hB h1.size))
theorem below_via_size {w W:World} (h:Below w.heap.size w W):w.heap.size≤W.heap.size:=h.size
theorem nreg_store {W0 wb c9:World} {bs:Nat} {y:Option Addr} {d:Nat} {id nx:Int} {os:List OpL} (hz:c9.heap[bs]? = some (.cells #[.int .i64 0,.int .i64 0,.slice none 0 0] 31 (0,0))) (hb:W0.heap.size≤bs) (hB:Below W0.heap.size W0 c9) (hs:W0.heap.size≤wb.heap.size) (hlt:bs<wb.heap.size) (n1:NewR c9 wb.heap.size y (ocells os)):NReg W0 (((c9.setCell ⟨bs,0,none⟩ (.int .i64 id)).setCell ⟨bs,1,none⟩ (.int .i64 nx)).setCell ⟨bs,2,none⟩ (.slice y os.length d)) bs y d id nx os :=
 ⟨bat_set (j:=2) (bat_set (j:=1) (bat_set (j:=0) hz)),hb,(((n1.setCellN _ hlt _).setCellN _ hlt _).setCellN _ hlt _).lower hs,((hB.setCell hb _).setCell hb _).setCell hb _⟩
theorem nreg_new {W0 c9:World} {y:Option Addr} {d:Nat} {id nx:Int} {os:List OpL} (hB:Below W0.heap.size W0 c9) (n1:NewR c9 W0.heap.size y (ocells os)):NReg W0 (c9.alloc (.cells #[.int .i64 id,.int .i64 nx,.slice y os.length d] 31)) c9.heap.size y d id nx os :=
 ⟨heap_alloc_new c9 _,hB.size,n1.later ((Below.refl _ _).alloc (Nat.le_refl _) _),hB.alloc hB.size _⟩
theorem alloc2_new (w:World) (o1 o2:Obj):((w.alloc o1).alloc o2).heap[w.heap.size+1]? = some o2:=by
 have h:=heap_alloc_new (w.alloc o1) o2
 have hs:(w.alloc o1).heap.size=w.heap.size+1:=by simp
 rw[hs] at h
 exact h
theorem NewR.setAtN {W:World} {base:Nat} {a:Option Addr} {xs:List Value} (h:NewR W base a xs) (p:Addr) (hp:∀ g,a=some ⟨g,0,none⟩→xs≠[]→g≠p.block) (v:Value):NewR (W.setCell p v) base a xs:=by
 by_cases hx:xs=[]
 · exact .inl hx
 · rcases h with h | ⟨g,h0,h1,h2,h3⟩
   · exact .inl h
   · refine .inr ⟨g,h0,h1,by simpa using h2,fun j hj=>?_⟩
     rw[World.cell?_of_block (w:=W) (a:=⟨g,j,none⟩) (Below.heap_setCell _ _ _ _ (hp g h0 hx))]
     exact h3 j hj
theorem src_opsN {w:World} {a:Option Addr} {qs:List OpL} (h:IsOps w a qs):qs.length=0∨∃ ad,a=some ad∧∀ j u,(ocells qs)[j]? = some u→w.cell? (ad.add j)=some u:=by
 cases a with
 | none =>
   rcases h with h0 | ⟨g,off,h1,_⟩
   · exact .inl (by rw[h0];rfl)
   · cases h1
 | some ad=>exact .inr ⟨ad,rfl,flat_ops h rfl⟩
set_option maxRecDepth 100000 in
set_option maxHeartbeats 8000000 in
theorem spec_nextBatch (a:Option Addr) (cap:Nat) (ks:List (List UInt8)) (sn nx id:Int) (b:Option Addr) (cb:Nat) (os:List OpL) (w:World) (hl:ks.length≤1048576) (hm:∀ l∈ks,l.length≤1048576) (hca:a=none→cap=0) (hs:IsStrs w a ks) (hl2:os.length≤1048576) (hm2:∀ p∈os,p.1.length≤1048576∧p.2.1.length≤1048576) (hs2:IsOps w b os) :
 Calls Tryd.prog 7 #[.agg #[.slice a ks.length cap,.int .i64 sn,.int .i64 nx],.int .i64 id,.slice b os.length cb] w fun e w'=>MnPost w w' e (nbR ks sn nx id os):=by
 obtain⟨i0,hi0,hz0,hz1,hz2⟩:=info_parts infoOn
 obtain⟨wa,hwa⟩:∃ wa,wa=(((w.alloc (.cells #[.slice a ks.length cap,.int .i64 sn,.int .i64 nx] 28)).alloc (.cells #[.slice none 0 0,.int .i64 0,.int .i64 0] 28)).alloc (.cells #[.int .i64 0,.int .i64 0,.slice none 0 0] 31)):=⟨_,rfl⟩
 have B0:Below w.heap.size w wa:=by rw[hwa];exact (((Below.refl _ _).alloc (Nat.le_refl _) _).alloc (by simp) _).alloc (by simp <;> omega) _
 have H0:Hid (wa.heap[w.heap.size]? = some (.cells #[.slice a ks.length cap,.int .i64 sn,.int .i64 nx] 28 (0,0))):=by rw[hwa,Hid,Below.heap_alloc _ _ _ (by simp <;> omega),Below.heap_alloc _ _ _ (by simp)];exact heap_alloc_new w _
 have R60:Hid (wa.heap[w.heap.size+1]? = some (.cells #[.slice none 0 0,.int .i64 0,.int .i64 0] 28 (0,0))):=by
  rw[hwa,Hid,Below.heap_alloc _ _ _ (by simp)]
  have:=heap_alloc_new (w.alloc (.cells #[.slice a ks.length cap,.int .i64 sn,.int .i64 nx] 28)) (.cells #[.slice none 0 0,.int .i64 0,.int .i64 0] 28)
  simpa using this
 have R70:Hid (wa.heap[w.heap.size+1+1]? = some (.cells #[.int .i64 0,.int .i64 0,.slice none 0 0] 31 (0,0))):=by
  rw[hwa,Hid]
  have:=heap_alloc_new ((w.alloc (.cells #[.slice a ks.length cap,.int .i64 sn,.int .i64 nx] 28)).alloc (.cells #[.slice none 0 0,.int .i64 0,.int .i64 0] 28)) (.cells #[.int .i64 0,.int .i64 0,.slice none 0 0] 31)
  simpa using this
 obtain⟨p0,p1,p2,_⟩:=bat_cells H0.out
 have K1:=spec_clientOk a cap ks sn nx wa hl hm (strs_later hs B0)
 have HK2:Hid (∀ W,Below w.heap.size w W→_):=fun W hW=>spec_l12Copy a cap ks sn nx W hl hca (strs_later hs hW)
 have HK3:Hid (∀ (y:Option Addr) (d:Nat) W,IsOps W y os→_):=fun y d W h=>spec_batchOk id nx y d os W hl2 hm2 h
 have HIO:Hid (∀ W,Below w.heap.size w W→os.length=0∨∃ ad,b=some ad∧∀ j u,(ocells os)[j]? = some u→W.cell? (ad.add j)=some u):=fun W hW=>src_opsN (hs2.later hW)
 have HPL:Hid ((ocells os).length=os.length*3):=ocells_length os
 have HP1:Hid (∀ u∈ocells os,u.oneCell'=true):=one_ops os
 have HR0:Hid (nbR ks sn nx id os=if clientOk ks sn nx=false then ([],0,0,0,0,[],false) else if batchOk id nx os=false∨nx=1000000000000 then (ks,sn,nx,0,0,[],false) else (ks,sn,nx+1,id,nx,os,true)):=by
  rw[Hid,nbR,nbCode]
  cases clientOk ks sn nx <;> cases batchOk id nx os <;> by_cases h:nx=1000000000000 <;> simp[h]
 have HNX:Hid (clientOk ks sn nx=true→1≤nx∧nx≤1000000000000):=fun hc=>by
  simp only[clientOk,numIn,Bool.and_eq_true,decide_eq_true_eq] at hc
  omega
 obtain⟨rr,hrr⟩:∃ x,x=nbR ks sn nx id os:=⟨_,rfl⟩
 rw[←hrr] at HR0 ⊢
 obtain⟨ck,hck⟩:∃ x,x=clientOk ks sn nx:=⟨_,rfl⟩
 rw[←hck] at HR0 K1 HNX
 obtain⟨bk,hbk⟩:∃ x,x=batchOk id nx os:=⟨_,rfl⟩
 rw[←hbk] at HR0 HK3
 clear hrr hck hbk hs hm hs2 hm2 hl hca
 rw[hwa] at K1 p0 p1 p2
 go_enter Tryd.func7,Tryd.ntmps7
 go_wp2_with fail
 refine K1.mono ?_
 rintro e w1 ⟨rfl,b1⟩
 rw[←hwa] at b1
 have B1:Hid (Below w.heap.size w w1):=B0.trans (b1.mono B0.size)
 have H1:Hid (w1.heap[w.heap.size]? = some (.cells #[.slice a ks.length cap,.int .i64 sn,.int .i64 nx] 28 (0,0))):=(b1.block _ (lt_of_block H0.out)).trans H0.out
 have R6:Hid (w1.heap[w.heap.size+1]? = some (.cells #[.slice none 0 0,.int .i64 0,.int .i64 0] 28 (0,0))):=(b1.block _ (lt_of_block R60.out)).trans R60.out
 have R7:Hid (w1.heap[w.heap.size+1+1]? = some (.cells #[.int .i64 0,.int .i64 0,.slice none 0 0] 31 (0,0))):=(b1.block _ (lt_of_block R70.out)).trans R70.out
 clear p0 p1 p2 K1 H0 R60 R70 B0 hwa b1
 cases ck with
 | false =>
   have HR:Hid (rr=([],0,0,0,0,[],false)):=by rw[Hid,HR0.out];rfl
   have HFC:Hid (((((((w1.setCell ⟨w.heap.size+1,0,none⟩ (.slice none 0 0)).setCell ⟨w.heap.size+1,1,none⟩ (.int .i64 0)).setCell ⟨w.heap.size+1,2,none⟩ (.int .i64 0)).setCell ⟨w.heap.size+1+1,0,none⟩ (.int .i64 0)).setCell ⟨w.heap.size+1+1,1,none⟩ (.int .i64 0)).setCell ⟨w.heap.size+1+1,2,none⟩ (.slice none 0 0)).heap[w.heap.size+1]? = some (.cells #[.slice none 0 0,.int .i64 0,.int .i64 0] 28 (0,0))):=by
    show ((((((w1.setCell ⟨w.heap.size+1,0,none⟩ (.slice none 0 0)).setCell ⟨w.heap.size+1,1,none⟩ (.int .i64 0)).setCell ⟨w.heap.size+1,2,none⟩ (.int .i64 0)).setCell ⟨w.heap.size+1+1,0,none⟩ (.int .i64 0)).setCell ⟨w.heap.size+1+1,1,none⟩ (.int .i64 0)).setCell ⟨w.heap.size+1+1,2,none⟩ (.slice none 0 0)).heap[w.heap.size+1]? = _
    rw[set3N (by omega)]
    exact bat_set (j:=2) (bat_set (j:=1) (bat_set (j:=0) R6.out))
   have HFB:Hid (((((((w1.setCell ⟨w.heap.size+1,0,none⟩ (.slice none 0 0)).setCell ⟨w.heap.size+1,1,none⟩ (.int .i64 0)).setCell ⟨w.heap.size+1,2,none⟩ (.int .i64 0)).setCell ⟨w.heap.size+1+1,0,none⟩ (.int .i64 0)).setCell ⟨w.heap.size+1+1,1,none⟩ (.int .i64 0)).setCell ⟨w.heap.size+1+1,2,none⟩ (.slice none 0 0)).heap[w.heap.size+1+1]? = some (.cells #[.int .i64 0,.int .i64 0,.slice none 0 0] 31 (0,0))):=bat_set (j:=2) (bat_set (j:=1) (bat_set (j:=0) ((set3N (by omega)).trans R7.out)))
   have HBZ:Hid (Below w.heap.size w ((((((w1.setCell ⟨w.heap.size+1,0,none⟩ (.slice none 0 0)).setCell ⟨w.heap.size+1,1,none⟩ (.int .i64 0)).setCell ⟨w.heap.size+1,2,none⟩ (.int .i64 0)).setCell ⟨w.heap.size+1+1,0,none⟩ (.int .i64 0)).setCell ⟨w.heap.size+1+1,1,none⟩ (.int .i64 0)).setCell ⟨w.heap.size+1+1,2,none⟩ (.slice none 0 0))):=by
    have hz:Below w.heap.size w ((((((w1.setCell ⟨w.heap.size+1,0,none⟩ (.slice none 0 0)).setCell ⟨w.heap.size+1,1,none⟩ (.int .i64 0)).setCell ⟨w.heap.size+1,2,none⟩ (.int .i64 0)).setCell ⟨w.heap.size+1+1,0,none⟩ (.int .i64 0)).setCell ⟨w.heap.size+1+1,1,none⟩ (.int .i64 0)).setCell ⟨w.heap.size+1+1,2,none⟩ (.slice none 0 0)):=(((((B1.out.setCell (by simp) _).setCell (by simp) _).setCell (by simp) _).setCell (by simp only;omega) _).setCell (by simp only;omega) _).setCell (by simp only;omega) _
    exact⟨hz.os,hz.tape,hz.output,hz.size,hz.block⟩
   obtain⟨y0,y1,y2,yf⟩:=bat_cells R6.out
   have yf0:=yf 0
   have yf1:=yf 1
   have yf2:=yf 2
   obtain⟨z0,z1,z2,zf⟩:=bat_cells R7.out
   have zf0:=zf 0
   have zf1:=zf 1
   have zf2:=zf 2
   clear yf zf
   clear HR0 HNX HK2 HK3 HIO
   go_wp2
   refine bodyPost_ret (v:=.tuple #[.agg #[.slice none 0 0,.int .i64 0,.int .i64 0],.agg #[.int .i64 0,.int .i64 0,.slice none 0 0],.bool false]) (results_ccbN rfl _ _ (w.heap.size+1) (w.heap.size+1+1) 28 31 _ _ _ _ rfl HFC.out Tryd.underlying28 rfl (by kernel_rfl) rfl HFB.out Tryd.underlying31 rfl (by kernel_rfl) _ rfl) rfl ?_
   rw[HR.out]
   exact⟨none,0,none,0,rfl,.inl rfl,.inl rfl,HBZ.out⟩
 | true =>
   have hnx:=HNX.out rfl
   replace HR0:Hid (rr=if bk=false∨nx=1000000000000 then (ks,sn,nx,0,0,[],false) else (ks,sn,nx+1,id,nx,os,true)):=by rw[Hid,HR0.out];rfl
   obtain⟨p0,p1,p2,_⟩:=bat_cells H1.out
   have K2:=HK2.out w1 B1.out
   clear HNX HK2
   go_wp2_with fail
   refine K2.mono ?_
   rintro e w2 ⟨x,c,rfl,o2,b2⟩
   dsimp only
   have O2:Hid (NewR w2 w1.heap.size x (scells ks)):=newR_own o2
   have S2:Hid (w.heap.size+1+1<w1.heap.size∧w1.heap.size≤w2.heap.size):=⟨lt_of_block R7.out,b2.size⟩
   have HXL0:∀ g,x=some ⟨g,0,none⟩→scells ks≠[]→g<w2.heap.size:=fun g hg hne=>by
    rcases O2.out with h | ⟨g',h0,_,h2,_⟩
    · exact absurd h hne
    · rw[hg] at h0;cases h0;exact h2
   obtain⟨w3,hw3⟩:∃ W,W=w2.alloc (.cells #[.slice x ks.length c,.int .i64 sn,.int .i64 nx] 28):=⟨_,rfl⟩
   have X23:Below w2.heap.size w2 w3:=by rw[hw3];exact (Below.refl _ _).alloc (Nat.le_refl _) _
   have B13:Hid (Below w1.heap.size w1 w3):=b2.trans (X23.mono b2.size)
   have B3:Hid (Below w.heap.size w w3):=B1.out.trans (B13.out.mono B1.out.size)
   have C3:Hid (w3.heap[w2.heap.size]? = some (.cells #[.slice x ks.length c,.int .i64 sn,.int .i64 nx] 28 (0,0))):=by rw[hw3];exact heap_alloc_new w2 _
   have O3:Hid (NewR w3 w1.heap.size x (scells ks)):=O2.out.later X23
   have H3:Hid (w3.heap[w.heap.size]? = some (.cells #[.slice a ks.length cap,.int .i64 sn,.int .i64 nx] 28 (0,0))):=(B13.out.block _ (lt_of_block H1.out)).trans H1.out
   have Q6:Hid (w3.heap[w.heap.size+1]? = some (.cells #[.slice none 0 0,.int .i64 0,.int .i64 0] 28 (0,0))):=(B13.out.block _ (lt_of_block R6.out)).trans R6.out
   have Q7:Hid (w3.heap[w.heap.size+1+1]? = some (.cells #[.int .i64 0,.int .i64 0,.slice none 0 0] 31 (0,0))):=(B13.out.block _ (lt_of_block R7.out)).trans R7.out
   obtain⟨b9,hb9⟩:∃ q,q=w2.heap.size:=⟨_,rfl⟩
   rw[←hb9] at C3 HXL0
   have HXL:Hid (∀ g,x=some ⟨g,0,none⟩→scells ks≠[]→g<b9):=HXL0
   clear HXL0
   have HB9:Hid (w.heap.size+1+1<b9∧b9<w3.heap.size):=⟨by rw[hb9];have:=S2.out;omega,lt_of_block C3.out⟩
   go_upto_region 4 with fail
   rw[←hw3,←hb9]
   have HC:Hid (∀ W,Below w3.heap.size w3 W→W.cell? ⟨w.heap.size,2,none⟩=some (.int .i64 nx)):=fun W hW=>(bat_cells ((hW.block _ (lt_of_block H3.out)).trans H3.out)).2.2.1
   have BR:Below w3.heap.size w3 w3:=Below.refl _ _
   have HI3:Hid (∀ W,Below w3.heap.size w3 W→_):=fun W hW=>HIO.out W (B3.out.trans (hW.mono B3.out.size))
   clear K2 o2 b2 O2 p0 p1 p2 H1 R6 R7 hw3 hb9 X23 HIO B13
   go_cut [10] from 18 (fun v wx=>∃ (b8:Nat) (y:Option Addr) (d:Nat),v=.pointer (some ⟨b8,0,none⟩)∧Hid (NReg w3 wx b8 y d id nx os))
   case first =>
    go_region_held3 (fun w'=>w'.cell? ⟨w.heap.size,2,none⟩=some (.int .i64 nx))
     (first | exact HC.out _ (by repeat' first | with_reducible exact BA.out | with_reducible exact BR | with_reducible apply below_drew1 | (with_reducible refine below_lit ?_ (Nat.le_refl _) _) | with_reducible apply Below.setCell | simp))
     (first
      | (refine step_append_new rfl (.tmp 21) (.tmp 22) 29 rfl 55 i0 (.agg #[.string ⟨#[]⟩, .string ⟨#[]⟩, .bool false]) 3 40 Tryd.underlying29 hi0 hz0 hz1 hz2 rfl (by decide) _ (by rfl) b os.length cb (ocells os) (by rfl) HPL.out (HI3.out _ (by repeat' first | with_reducible exact BR | with_reducible apply below_drew1 | (with_reducible refine below_lit ?_ (Nat.le_refl _) _))) HP1.out hl2 (by decide) ?_
         intro y d wA nA _ bA
         have BA:Hid (Below w3.heap.size w3 wA):=below_viaN (by repeat' first | with_reducible exact BR | with_reducible apply below_drew1 | (with_reducible refine below_lit ?_ (Nat.le_refl _) _)) (Nat.le_refl _) bA
         have NA:Hid (NewR wA w3.heap.size y (ocells os)):=nA.lower (below_via_size (by repeat' first | with_reducible exact BR | with_reducible apply below_drew1 | (with_reducible refine below_lit ?_ (Nat.le_refl _) _)))
         first
         | (have HN : Hid (wA.heap[w3.heap.size + 1]? = some (.cells #[.int .i64 0, .int .i64 0, .slice none 0 0] 31 (0, 0))) := blk_viaN bA _ _ (alloc2_new w3 (.cells #[] 55) (.cells #[.int .i64 0, .int .i64 0, .slice none 0 0] 31))
            have TS:Hid (NReg w3 (((wA.setCell ⟨w3.heap.size+1,0,none⟩ (.int .i64 id)).setCell ⟨w3.heap.size+1,1,none⟩ (.int .i64 nx)).setCell ⟨w3.heap.size+1,2,none⟩ (.slice y os.length d)) (w3.heap.size+1) y d id nx os):=nreg_store HN.out (by simp) BA.out (below_via_size (by repeat' first | with_reducible exact BR | with_reducible apply below_drew1 | (with_reducible refine below_lit ?_ (Nat.le_refl _) _))) (lt_of_block (alloc2_new w3 (.cells #[] 55) (.cells #[.int .i64 0,.int .i64 0,.slice none 0 0] 31))) nA
            obtain⟨z0,z1,z2,zf⟩:=bat_cells HN.out
            have zf0:=zf 0
            have zf1:=zf 1
            have zf2:=zf 2
            clear zf)
         | (have HN : Hid (wA.heap[w3.heap.size]? = some (.cells #[.int .i64 0, .int .i64 0, .slice none 0 0] 31 (0, 0))) := blk_viaN bA _ _ ((Below.heap_alloc (w3.alloc (.cells #[.int .i64 0, .int .i64 0, .slice none 0 0] 31)) (.cells #[] 55) _ (by simp)).trans (heap_alloc_new w3 (.cells #[.int .i64 0, .int .i64 0, .slice none 0 0] 31)))
            have TS:Hid (NReg w3 (((wA.setCell ⟨w3.heap.size,0,none⟩ (.int .i64 id)).setCell ⟨w3.heap.size,1,none⟩ (.int .i64 nx)).setCell ⟨w3.heap.size,2,none⟩ (.slice y os.length d)) (w3.heap.size) y d id nx os):=nreg_store HN.out (by simp) BA.out (below_via_size (by repeat' first | with_reducible exact BR | with_reducible apply below_drew1 | (with_reducible refine below_lit ?_ (Nat.le_refl _) _))) (lt_of_block ((Below.heap_alloc (w3.alloc (.cells #[.int .i64 0,.int .i64 0,.slice none 0 0] 31)) (.cells #[] 55) _ (by simp)).trans (heap_alloc_new w3 (.cells #[.int .i64 0,.int .i64 0,.slice none 0 0] 31)))) nA
            obtain⟨z0,z1,z2,zf⟩:=bat_cells HN.out
            have zf0:=zf 0
            have zf1:=zf 1
            have zf2:=zf 2
            clear zf)
         | skip
         clear nA bA))
    all_goals go_wp2_with fail
    all_goals go_meet
    all_goals first
     | exact⟨_,y,d,rfl,TS.out⟩
     | exact⟨wA.heap.size,y,d,rfl,nreg_new BA.out NA.out⟩
   case rest =>
    obtain⟨b8,y,d,rfl,HG⟩:=hcut
    obtain⟨w4,rfl⟩:∃ W,W=wc:=⟨_,rfl⟩
    obtain⟨G1,G2,G3,G4⟩:=HG.out
    have HG2:Hid (w3.heap.size≤b8):=G2
    have C4:Hid (w4.heap[b9]? = some (.cells #[.slice x ks.length c,.int .i64 sn,.int .i64 nx] 28 (0,0))):=(G4.block _ (lt_of_block C3.out)).trans C3.out
    have H4:Hid (w4.heap[w.heap.size]? = some (.cells #[.slice a ks.length cap,.int .i64 sn,.int .i64 nx] 28 (0,0))):=(G4.block _ (lt_of_block H3.out)).trans H3.out
    have P6:Hid (w4.heap[w.heap.size+1]? = some (.cells #[.slice none 0 0,.int .i64 0,.int .i64 0] 28 (0,0))):=(G4.block _ (lt_of_block Q6.out)).trans Q6.out
    have P7:Hid (w4.heap[w.heap.size+1+1]? = some (.cells #[.int .i64 0,.int .i64 0,.slice none 0 0] 31 (0,0))):=(G4.block _ (lt_of_block Q7.out)).trans Q7.out
    have O4:Hid (NewR w4 w1.heap.size x (scells ks)):=O3.out.later G4
    have T4:Hid (w4.heap[b8]? = some (.cells #[.int .i64 id,.int .i64 nx,.slice y os.length d] 31 (0,0))):=G1
    have Y4:Hid (NewR w4 w3.heap.size y (ocells os)):=G3
    have B4:Hid (Below w.heap.size w w4):=B3.out.trans (G4.mono B3.out.size)
    have K4:=HK3.out y d w4 G3.opsN
    obtain⟨t0,t1,t2,_⟩:=bat_cells G1
    obtain⟨p0,p1,p2,_⟩:=bat_cells H4.out
    clear HG G1 G2 G3 G4 O3 C3 H3 Q6 Q7 HC HI3 BR HK3 HPL HP1
    go_wp2_with fail
    refine K4.mono ?_
    rintro e w5 ⟨rfl,b5⟩
    dsimp only
    have C5:Hid (w5.heap[b9]? = some (.cells #[.slice x ks.length c,.int .i64 sn,.int .i64 nx] 28 (0,0))):=(b5.block _ (lt_of_block C4.out)).trans C4.out
    have H5:Hid (w5.heap[w.heap.size]? = some (.cells #[.slice a ks.length cap,.int .i64 sn,.int .i64 nx] 28 (0,0))):=(b5.block _ (lt_of_block H4.out)).trans H4.out
    have R6:Hid (w5.heap[w.heap.size+1]? = some (.cells #[.slice none 0 0,.int .i64 0,.int .i64 0] 28 (0,0))):=(b5.block _ (lt_of_block P6.out)).trans P6.out
    have R7:Hid (w5.heap[w.heap.size+1+1]? = some (.cells #[.int .i64 0,.int .i64 0,.slice none 0 0] 31 (0,0))):=(b5.block _ (lt_of_block P7.out)).trans P7.out
    have O5:Hid (NewR w5 w1.heap.size x (scells ks)):=O4.out.later b5
    have T5:Hid (w5.heap[b8]? = some (.cells #[.int .i64 id,.int .i64 nx,.slice y os.length d] 31 (0,0))):=(b5.block _ (lt_of_block T4.out)).trans T4.out
    have Y5:Hid (NewR w5 w3.heap.size y (ocells os)):=Y4.out.later b5
    have B5:Hid (Below w.heap.size w w5):=B4.out.trans (b5.mono B4.out.size)
    have HB8:Hid (w3.heap.size≤b8):=HG2.out
    clear K4 b5 t0 t1 t2 p0 p1 p2 C4 H4 P6 P7 O4 T4 Y4 B4 HG2
    obtain⟨p0,p1,p2,_⟩:=bat_cells H5.out
    obtain⟨s0,s1,s2,sf⟩:=bat_cells C5.out
    by_cases hbad:bk=false∨nx=1000000000000
    · have HR:Hid (rr=(ks,sn,nx,0,0,[],false)):=by rw[Hid,HR0.out,if_pos hbad]
      have HOX:Hid (NewR ((((((w5.setCell ⟨w.heap.size+1,0,none⟩ (.slice x ks.length c)).setCell ⟨w.heap.size+1,1,none⟩ (.int .i64 sn)).setCell ⟨w.heap.size+1,2,none⟩ (.int .i64 nx)).setCell ⟨w.heap.size+1+1,0,none⟩ (.int .i64 0)).setCell ⟨w.heap.size+1+1,1,none⟩ (.int .i64 0)).setCell ⟨w.heap.size+1+1,2,none⟩ (.slice none 0 0)) w.heap.size x (scells ks)):=by
       have h7:=S2.out.1
       exact ((((((O5.out.setCellN _ (by simp only;omega) _).setCellN _ (by simp only;omega) _).setCellN _ (by simp only;omega) _).setCellN _ (by simp only;omega) _).setCellN _ (by simp only;omega) _).setCellN _ (by simp only;omega) _).lower (by omega)
      have HFC:Hid (((((((w5.setCell ⟨w.heap.size+1,0,none⟩ (.slice x ks.length c)).setCell ⟨w.heap.size+1,1,none⟩ (.int .i64 sn)).setCell ⟨w.heap.size+1,2,none⟩ (.int .i64 nx)).setCell ⟨w.heap.size+1+1,0,none⟩ (.int .i64 0)).setCell ⟨w.heap.size+1+1,1,none⟩ (.int .i64 0)).setCell ⟨w.heap.size+1+1,2,none⟩ (.slice none 0 0)).heap[w.heap.size+1]? = some (.cells #[.slice x ks.length c,.int .i64 sn,.int .i64 nx] 28 (0,0))):=by
       show ((((((w5.setCell ⟨w.heap.size+1,0,none⟩ (.slice x ks.length c)).setCell ⟨w.heap.size+1,1,none⟩ (.int .i64 sn)).setCell ⟨w.heap.size+1,2,none⟩ (.int .i64 nx)).setCell ⟨w.heap.size+1+1,0,none⟩ (.int .i64 0)).setCell ⟨w.heap.size+1+1,1,none⟩ (.int .i64 0)).setCell ⟨w.heap.size+1+1,2,none⟩ (.slice none 0 0)).heap[w.heap.size+1]? = _
       rw[set3N (by omega)]
       exact bat_set (j:=2) (bat_set (j:=1) (bat_set (j:=0) R6.out))
      have HFB:Hid (((((((w5.setCell ⟨w.heap.size+1,0,none⟩ (.slice x ks.length c)).setCell ⟨w.heap.size+1,1,none⟩ (.int .i64 sn)).setCell ⟨w.heap.size+1,2,none⟩ (.int .i64 nx)).setCell ⟨w.heap.size+1+1,0,none⟩ (.int .i64 0)).setCell ⟨w.heap.size+1+1,1,none⟩ (.int .i64 0)).setCell ⟨w.heap.size+1+1,2,none⟩ (.slice none 0 0)).heap[w.heap.size+1+1]? = some (.cells #[.int .i64 0,.int .i64 0,.slice none 0 0] 31 (0,0))):=bat_set (j:=2) (bat_set (j:=1) (bat_set (j:=0) ((set3N (by omega)).trans R7.out)))
      have HBZ:Hid (Below w.heap.size w ((((((w5.setCell ⟨w.heap.size+1,0,none⟩ (.slice x ks.length c)).setCell ⟨w.heap.size+1,1,none⟩ (.int .i64 sn)).setCell ⟨w.heap.size+1,2,none⟩ (.int .i64 nx)).setCell ⟨w.heap.size+1+1,0,none⟩ (.int .i64 0)).setCell ⟨w.heap.size+1+1,1,none⟩ (.int .i64 0)).setCell ⟨w.heap.size+1+1,2,none⟩ (.slice none 0 0))):=by
       have hz:Below w.heap.size w ((((((w5.setCell ⟨w.heap.size+1,0,none⟩ (.slice x ks.length c)).setCell ⟨w.heap.size+1,1,none⟩ (.int .i64 sn)).setCell ⟨w.heap.size+1,2,none⟩ (.int .i64 nx)).setCell ⟨w.heap.size+1+1,0,none⟩ (.int .i64 0)).setCell ⟨w.heap.size+1+1,1,none⟩ (.int .i64 0)).setCell ⟨w.heap.size+1+1,2,none⟩ (.slice none 0 0)):=(((((B5.out.setCell (by simp) _).setCell (by simp) _).setCell (by simp) _).setCell (by simp only;omega) _).setCell (by simp only;omega) _).setCell (by simp only;omega) _
       exact⟨hz.os,hz.tape,hz.output,hz.size,hz.block⟩
      obtain⟨y0,y1,y2,yf⟩:=bat_cells R6.out
      have yf0:=yf 0
      have yf1:=yf 1
      have yf2:=yf 2
      obtain⟨z0,z1,z2,zf⟩:=bat_cells R7.out
      have zf0:=zf 0
      have zf1:=zf 1
      have zf2:=zf 2
      clear yf zf
      clear HR0 sf
      have hcs:(bk=false)∨(bk=true∧(nx == 1000000000000)=true):=by
       rcases hbad with h | h
       · exact .inl h
       · cases bk with
         | false=>exact .inl rfl
         | true=>exact .inr ⟨rfl,by rw[h];rfl⟩
      clear hbad hnx
      rcases hcs with rfl | ⟨rfl,hnb⟩
      all_goals
       go_wp2
       refine bodyPost_ret (v:=.tuple #[.agg #[.slice x ks.length c,.int .i64 sn,.int .i64 nx],.agg #[.int .i64 0,.int .i64 0,.slice none 0 0],.bool false]) (results_ccbN rfl _ _ (w.heap.size+1) (w.heap.size+1+1) 28 31 _ _ _ _ rfl HFC.out Tryd.underlying28 rfl (by kernel_rfl) rfl HFB.out Tryd.underlying31 rfl (by kernel_rfl) _ rfl) rfl ?_
       rw[HR.out]
       exact⟨x,c,none,0,rfl,HOX.out,.inl rfl,HBZ.out⟩
    · have HR:Hid (rr=(ks,sn,nx+1,id,nx,os,true)):=by rw[Hid,HR0.out,if_neg hbad]
      have hbt:bk=true:=by cases bk with | true=>rfl | false=>exact absurd (.inl rfl) hbad
      have hnb:(nx == 1000000000000)=false:=by rw[beq_eq_false_iff_ne];exact fun h=>hbad (.inr h)
      have hwr:IntKind.i64.wrap (nx+1)=nx+1:=i64_wrap_small (nx+1) (by omega) (by have h:nx≠1000000000000:=fun h=>hbad (.inr h);omega)
      subst hbt
      clear HR0 hbad hnx
      have sf2:=sf 2
      obtain⟨w6,hw6⟩:∃ W,W=w5.setCell ⟨b9,2,none⟩ (.int .i64 (nx+1)):=⟨_,rfl⟩
      have h9a:=HB9.out.1
      have h9b:=HB9.out.2
      have h8a:=HB8.out
      have C6:w6.heap[b9]? = some (.cells #[.slice x ks.length c,.int .i64 sn,.int .i64 (nx+1)] 28 (0,0)):=by rw[hw6];exact bat_set (j:=2) C5.out
      have T6:w6.heap[b8]? = some (.cells #[.int .i64 id,.int .i64 nx,.slice y os.length d] 31 (0,0)):=by rw[hw6];exact (Below.heap_setCell _ _ _ _ (by simp only;omega)).trans T5.out
      have Q6:Hid (w6.heap[w.heap.size+1]? = some (.cells #[.slice none 0 0,.int .i64 0,.int .i64 0] 28 (0,0))):=by rw[hw6];exact (Below.heap_setCell _ _ _ _ (by simp only;omega)).trans R6.out
      have Q7:Hid (w6.heap[w.heap.size+1+1]? = some (.cells #[.int .i64 0,.int .i64 0,.slice none 0 0] 31 (0,0))):=by rw[hw6];exact (Below.heap_setCell _ _ _ _ (by simp only;omega)).trans R7.out
      have B6:Hid (Below w.heap.size w w6):=by rw[hw6];exact B5.out.setCell (by simp only;omega) _
      have X6:NewR w6 w1.heap.size x (scells ks):=by rw[hw6];exact O5.out.setAtN _ (fun g h1 h2=>by have:=HXL.out g h1 h2;simp only;omega) _
      have Y6:NewR w6 w3.heap.size y (ocells os):=by rw[hw6];exact Y5.out.setCellN _ (by simp only;omega) _
      have h7:=S2.out.1
      obtain⟨w7,hw7⟩:∃ W,W=((((((w6.setCell ⟨w.heap.size+1,0,none⟩ (.slice x ks.length c)).setCell ⟨w.heap.size+1,1,none⟩ (.int .i64 sn)).setCell ⟨w.heap.size+1,2,none⟩ (.int .i64 (nx+1))).setCell ⟨w.heap.size+1+1,0,none⟩ (.int .i64 id)).setCell ⟨w.heap.size+1+1,1,none⟩ (.int .i64 nx)).setCell ⟨w.heap.size+1+1,2,none⟩ (.slice y os.length d)):=⟨_,rfl⟩
      have F6:w7.heap[w.heap.size+1]? = some (.cells #[.slice x ks.length c,.int .i64 sn,.int .i64 (nx+1)] 28 (0,0)):=by
       rw[hw7,set3N (by omega)]
       exact bat_set (j:=2) (bat_set (j:=1) (bat_set (j:=0) Q6.out))
      have F7:w7.heap[w.heap.size+1+1]? = some (.cells #[.int .i64 id,.int .i64 nx,.slice y os.length d] 31 (0,0)):=by
       rw[hw7]
       exact bat_set (j:=2) (bat_set (j:=1) (bat_set (j:=0) ((set3N (by omega)).trans Q7.out)))
      have FB:Below w.heap.size w w7:=by
       rw[hw7]
       exact (((((B6.out.setCell (by simp) _).setCell (by simp) _).setCell (by simp) _).setCell (by simp only;omega) _).setCell (by simp only;omega) _).setCell (by simp only;omega) _
      have FX:NewR w7 w.heap.size x (scells ks):=by
       rw[hw7]
       exact ((((((X6.setCellN _ (by simp only;omega) _).setCellN _ (by simp only;omega) _).setCellN _ (by simp only;omega) _).setCellN _ (by simp only;omega) _).setCellN _ (by simp only;omega) _).setCellN _ (by simp only;omega) _).lower (by omega)
      have FY:NewR w7 w.heap.size y (ocells os):=by
       rw[hw7]
       exact ((((((Y6.setCellN _ (by simp only;omega) _).setCellN _ (by simp only;omega) _).setCellN _ (by simp only;omega) _).setCellN _ (by simp only;omega) _).setCellN _ (by simp only;omega) _).setCellN _ (by simp only;omega) _).lower (by omega)
      have HFC:Hid (w7.drew.heap[w.heap.size+1]? = some (.cells #[.slice x ks.length c,.int .i64 sn,.int .i64 (nx+1)] 28 (0,0))):=F6
      have HFB:Hid (w7.drew.heap[w.heap.size+1+1]? = some (.cells #[.int .i64 id,.int .i64 nx,.slice y os.length d] 31 (0,0))):=F7
      have HPN:Hid (MnPost w w7.drew (.returned (.tuple #[.agg #[.slice x ks.length c,.int .i64 sn,.int .i64 (nx+1)],.agg #[.int .i64 id,.int .i64 nx,.slice y os.length d],.bool true])) rr):=by
       rw[Hid,HR.out]
       exact⟨x,c,y,d,rfl,FX.later ⟨rfl,rfl,rfl,Nat.le_refl _,fun _ _=>rfl⟩,FY.later ⟨rfl,rfl,rfl,Nat.le_refl _,fun _ _=>rfl⟩,⟨FB.os,FB.tape,FB.output,FB.size,FB.block⟩⟩
      obtain⟨y0,y1,y2,yf⟩:=bat_cells Q6.out
      have yf0:=yf 0
      have yf1:=yf 1
      have yf2:=yf 2
      obtain⟨z0,z1,z2,zf⟩:=bat_cells Q7.out
      have zf0:=zf 0
      have zf1:=zf 1
      have zf2:=zf 2
      obtain⟨t0,t1,t2,_⟩:=bat_cells T6
      obtain⟨u0,u1,u2,_⟩:=bat_cells C6
      have T6b:(((w6.setCell ⟨w.heap.size+1,0,none⟩ (.slice x ks.length c)).setCell ⟨w.heap.size+1,1,none⟩ (.int .i64 sn)).setCell ⟨w.heap.size+1,2,none⟩ (.int .i64 (nx+1))).heap[b8]? = some (.cells #[.int .i64 id,.int .i64 nx,.slice y os.length d] 31 (0,0)):=(set3N (by omega)).trans T6
      obtain⟨t0',t1',t2',_⟩:=bat_cells T6b
      rw[hw7] at HFC HFB HPN
      rw[hw6] at y0 y1 y2 yf0 yf1 yf2 z0 z1 z2 zf0 zf1 zf2 t0 t1 t2 u0 u1 u2 t0' t1' t2' HFC HFB HPN
      clear yf zf sf F6 F7 FB FX FY X6 Y6 T6 C6 T6b hw6 hw7 Q6 Q7 B6 HR O5 T5 Y5 B5 C5 H5 R6 R7 HXL HB8 HB9 S2
      go_wp2
      go_region
      all_goals
       go_wp2
       refine bodyPost_ret (v:=.tuple #[.agg #[.slice x ks.length c,.int .i64 sn,.int .i64 (nx+1)],.agg #[.int .i64 id,.int .i64 nx,.slice y os.length d],.bool true]) (results_ccbN rfl _ _ (w.heap.size+1) (w.heap.size+1+1) 28 31 _ _ _ _ rfl HFC.out Tryd.underlying28 rfl (by kernel_rfl) rfl HFB.out Tryd.underlying31 rfl (by kernel_rfl) _ rfl) rfl ?_
       exact HPN.out
end Go.Proofs.YtbpgpmchnjbclaaDoor
