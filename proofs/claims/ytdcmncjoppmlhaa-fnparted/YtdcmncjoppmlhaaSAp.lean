/-
 Contract: a batch's ops on pairs, of the model.
-/
import Derived.Test.YtdcmncjoppmlhaaMathAp
import Derived.Test.YtdcmncjoppmlhaaAppP
import Derived.Test.YtdcmncjoppmlhaaSSet
import Derived.Test.YtdcmncjoppmlhaaBatOk
import Derived.Test.YtdcmncjoppmlhaaPairOk
import Derived.Deep.RegionHeld3
namespace Go.Proofs.Ytdcmncjoppmlhaa
open Go.RowKit
set_option linter.unusedVariables false
def ApPost (w:World) (ok:Bool) (res:List PairL) (e:Ending) (w':World):Prop:=∃ (a:Option Addr) (m c:Nat),e=.returned (.tuple #[.slice a m c,.bool ok])∧w'.ownsRow w.heap.size 54 2 (.slice a m c) res.length (pcells res)∧Below w.heap.size w w'
theorem ap_no {w w':World} {ok:Bool} {res:List PairL} (h1:ok=false) (h2:res=[]) (hb:Below w.heap.size w w'):ApPost w ok res (.returned (.tuple #[.slice none 0 0,.bool false])) w':=by
 subst h1 h2
 exact⟨none,0,0,rfl,World.ownsRow_nil _ _ _ _,hb⟩
theorem infoPa:(Try.prog.info? 54).map (fun i=>(i.zero,i.size,i.bytes))=some (some (.agg #[.string ⟨#[]⟩,.string ⟨#[]⟩]),2,32):=by kernel_rfl
theorem own_sliceP {w:World} {B e n:Nat} {v:Value} {xs:List Value} (h:w.ownsRow B e 2 v n xs):∃ a m c,v=.slice a m c:=by
 rcases h.2 with ⟨h',h0⟩ | ⟨g,cap,cur,h',_⟩
 · exact⟨_,_,_,h'⟩
 · exact⟨_,_,_,h'⟩
set_option maxRecDepth 100000 in
set_option maxHeartbeats 4000000 in
theorem spec_applyPairs (a : Option Addr) (cap : Nat) (ps : List PairL) (c n : Int) (b : Option Addr) (cb : Nat) (os : List OpL) (w : World) (hl : ps.length ≤ 1048576) (hm : ∀ p ∈ ps, p.1.length ≤ 1048576 ∧ p.2.length ≤ 1048576) (hs : IsPairs w a ps) (hca : a = none → cap = 0) (hl2 : os.length ≤ 1048576) (hm2 : ∀ p ∈ os, p.1.length ≤ 1048576 ∧ p.2.1.length ≤ 1048576) (hs2 : IsOps w b os) :
 Calls Try.prog 7 #[.slice a ps.length cap,.agg #[.int .i64 c,.int .i64 n,.slice b os.length cb]] w fun e w'=>ApPost w (applyOk ps c n os) (applyR ps c n os) e w':=by
 obtain⟨i0,hi0,hz0,hz1,hz2⟩:=info_parts infoPa
 have B0:Below w.heap.size w (w.alloc (.cells #[.int .i64 c,.int .i64 n,.slice b os.length cb] 34)):=(Below.refl _ _).alloc (Nat.le_refl _) _
 have H0:=heap_alloc_new w (.cells #[.int .i64 c,.int .i64 n,.slice b os.length cb] 34)
 have HQ:Hid (∀ W,Below (w.heap.size+1) (w.alloc (.cells #[.int .i64 c,.int .i64 n,.slice b os.length cb] 34)) W→W.heap[w.heap.size]? = some (.cells #[.int .i64 c,.int .i64 n,.slice b os.length cb] 34 (0,0))):=fun W hW=>(hW.block w.heap.size (by omega)).trans H0
 obtain⟨w0,hw0⟩:∃ w0,w0=w.alloc (.cells #[.int .i64 c,.int .i64 n,.slice b os.length cb] 34):=⟨_,rfl⟩
 have hsz0:w0.heap.size=w.heap.size+1:=by rw[hw0];simp
 have HS:Hid (∀ W,Below w0.heap.size w0 W→IsPairs W a ps):=fun W hW=>by rw[hw0] at hW;exact hs.later (B0.trans (hW.mono (by simp)))
 have HS2:Hid (∀ W,Below w0.heap.size w0 W→IsOps W b os):=fun W hW=>by rw[hw0] at hW;exact hs2.later (B0.trans (hW.mono (by simp)))
 have HB0:Hid (Below w.heap.size w w0):=by rw[hw0];exact B0
 have HC0:Hid (∀ W,Below w0.heap.size w0 W→W.cell? ⟨w.heap.size,0,none⟩=some (.int .i64 c)∧W.cell? ⟨w.heap.size,1,none⟩=some (.int .i64 n)∧W.cell? ⟨w.heap.size,2,none⟩=some (.slice b os.length cb)):=fun W hW=>by
  obtain⟨h1,h2,h3,_⟩:=bat_cells (HQ.out W (by rw[hsz0,hw0] at hW;exact hW))
  exact⟨h1,h2,h3⟩
 have K1:=spec_pairsOk a cap ps w0 hl hm (HS.out w0 (Below.refl _ _))
 have HK2:Hid (∀ W,Below w0.heap.size w0 W→_):=fun W hW=>spec_batchOk c n b cb os W hl2 hm2 (HS2.out W hW)
 have HM:Hid (∀ p∈ps,p.1.length≤1048576∧p.2.length≤1048576):=hm
 have HM2:Hid (∀ p∈os,p.1.length≤1048576∧p.2.1.length≤1048576):=hm2
 have HOK:Hid (applyOk ps c n os=(pairsOkL ps && (batchOk c n os && pairsOkL (applyL ps os)))):=rfl
 have HRN:Hid (applyOk ps c n os=false→applyR ps c n os=[]):=applyR_no
 have HRY:Hid (applyOk ps c n os=true→applyR ps c n os=applyL ps os):=applyR_yes
 have HBL:Hid (batchOk c n os=true→1≤os.length∧os.length≤12):=fun h=>by
  simp only[batchOk,Bool.and_eq_true,decide_eq_true_eq] at h
  exact⟨h.1.1.2,h.1.2⟩
 obtain⟨ok,hok⟩:∃ ok,ok=applyOk ps c n os:=⟨_,rfl⟩
 obtain⟨res,hres⟩:∃ res,res=applyR ps c n os:=⟨_,rfl⟩
 rw[←hok] at HOK HRN HRY
 rw[←hres] at HRN HRY
 rw[←hok,←hres]
 clear hs hs2 hm hm2 B0 H0 HQ hok hres
 cases hp:pairsOkL ps with
 | false =>
   rw[hp] at K1
   have HO:Hid (ok=false):=by rw[Hid,HOK.out,hp];rfl
   clear HK2 HRY HBL HOK hp
   go_enter Try.func7,Try.ntmps7
   go_wp2_with fail
   rw[←hw0]
   refine K1.mono ?_
   rintro e w1 ⟨rfl,b1⟩
   have B1:=HB0.out.trans (b1.mono HB0.out.size)
   clear K1 b1
   go_wp2
   go_ret2
   exact ap_no HO.out (HRN.out HO.out) B1
 | true =>
   rw[hp] at K1
   have HR:Hid (Rise ps):=rise_ok hp
   have hp60:=(pairsOk_of ps hp).1
   cases hb:batchOk c n os with
   | false =>
     have HO:Hid (ok=false):=by rw[Hid,HOK.out,hp,hb];rfl
     rw[hb] at HK2
     clear HRY HBL HOK hp hb
     go_enter Try.func7,Try.ntmps7
     go_wp2_with fail
     rw[←hw0]
     refine K1.mono ?_
     rintro e w1 ⟨rfl,b1⟩
     obtain⟨q0,q1,q2⟩:=HC0.out w1 b1
     have K2:=HK2.out w1 b1
     have HB1:Hid (Below w0.heap.size w0 w1):=b1
     clear K1 b1 HK2
     go_wp2_with fail
     refine K2.mono ?_
     rintro e w2 ⟨rfl,b2⟩
     have b02:=HB1.out.trans (b2.mono HB1.out.size)
     have B2:=HB0.out.trans (b02.mono HB0.out.size)
     clear K2 b2 b02 q0 q1 q2
     go_wp2
     go_ret2
     exact ap_no HO.out (HRN.out HO.out) B2
   | true =>
     obtain⟨ho1,ho12⟩:=HBL.out hb
     rw[hb] at HK2
     have HOE:Hid (ok=pairsOkL (applyL ps os)):=by rw[Hid,HOK.out,hp,hb];rfl
     clear HBL HOK hp hb
     go_enter Try.func7,Try.ntmps7
     go_wp2_with fail
     rw[←hw0]
     refine K1.mono ?_
     rintro e w1 ⟨rfl,b1⟩
     obtain⟨q0,q1,q2⟩:=HC0.out w1 b1
     have K2:=HK2.out w1 b1
     have HB1:Hid (Below w0.heap.size w0 w1):=b1
     clear K1 b1 HK2
     go_wp2_with fail
     refine K2.mono ?_
     rintro e w2 ⟨rfl,b2⟩
     have b02:=HB1.out.trans (b2.mono HB1.out.size)
     have HB2:Hid (Below w0.heap.size w0 w2):=b02
     have XE:Below w2.heap.size w2 (w2.alloc (.cells #[] 54)):=(Below.refl _ _).alloc (Nat.le_refl _) _
     have HOL:Hid ((w2.alloc (.cells #[] 54)).ownsRow w2.heap.size 54 2 (.slice (some ⟨w2.heap.size,0,none⟩) 0 0) 0 []):=World.ownsRow_lit (e:=54) (size:=2) w2 #[] 0 (base:=w2.heap.size) (Nat.le_refl _) (Nat.zero_le _) rfl
     have HXE:Hid (Below w2.heap.size w2 (w2.alloc (.cells #[] 54))):=XE
     have HIE:Hid (IsPairs (w2.alloc (.cells #[] 54)) a ps):=HS.out _ (b02.trans (XE.mono b02.size))
     clear K2 b2 b02 q0 q1 q2 XE HB1
     go_wp2_with (at_builtin;refine wpList_append_prs rfl _ _ 28 rfl w2.heap.size 54 i0 (.agg #[.string ⟨#[]⟩,.string ⟨#[]⟩]) 32 Try.underlying28 hi0 hz0 hz1 hz2 rfl (.slice (some ⟨w2.heap.size,0,none⟩) 0 0) 0 [] rfl HOL.out a ps ps.length cap rfl rfl hca HIE.out (by unfold maxLen;omega) (by omega) (by simp) ?_;intro v3 w3 o3 g3;obtain⟨a3,m3,c3,rfl⟩:=own_sliceP o3)
     have B3:Below w2.heap.size w2 w3:=HXE.out.grown g3 HXE.out.size (fun q hq=>(HOL.out.lt q hq).1)
     have O3:w3.ownsRow w2.heap.size 54 2 (.slice a3 m3 c3) ps.length (pcells ps):=by simpa using o3
     obtain⟨rfl,_,_⟩:=isPairs_own O3
     have b03:=HB2.out.trans (B3.mono HB2.out.size)
     have HB3:Hid (Below w0.heap.size w0 w3):=b03
     have HO3:Hid (w3.ownsRow w0.heap.size 54 2 (.slice a3 ps.length c3) ps.length (pcells ps)):=O3.mono HB2.out.size
     have HSZ:Hid (w0.heap.size=w.heap.size+1∧ps.length≤60):=⟨hsz0,hp60⟩
     obtain⟨bb,off,rfl,_⟩:∃ bb off,b=some ⟨bb,off,none⟩∧True:=by
      rcases HS2.out w0 (Below.refl _ _) with h | ⟨bb,off,h,_⟩
      · rw[h] at ho1;simp at ho1
      · exact⟨bb,off,h,trivial⟩
     have HOC:Hid (∀ W,Below w0.heap.size w0 W→∀ j (h:j<os.length),W.cell? ⟨bb,off+j*3,none⟩=some (.string ⟨os[j].1.toArray⟩)∧W.cell? ⟨bb,off+j*3+1,none⟩=some (.string ⟨os[j].2.1.toArray⟩)):=fun W hW j h=>by
      rcases HS2.out W hW with h' | ⟨b',off',h',hc⟩
      · rw[h'] at h;simp at h
      · cases h';exact⟨(hc j h).1,(hc j h).2.1⟩
     clear o3 g3 B3 O3 b03 HOL HXE HIE HB2 hw0 hsz0 HS HS2 hca hl hp60 ho1
     go_loopw [6,7] (fun v6 v7 wr=>∃ (j c':Nat) (a':Option Addr) (L:List PairL),j≤os.length∧v7=.int .i64 (j:Int)∧v6=.slice a' L.length c'∧Hid (L=applyL ps (os.take j))∧Hid (wr.ownsRow w0.heap.size 54 2 (.slice a' L.length c') L.length (pcells L))∧Hid (Below w0.heap.size w0 wr)) (fun _ v7 _=>os.length - (intOf v7).toNat)
     case atStart=>exact⟨0,c3,a3,ps,Nat.zero_le _,rfl,rfl,(applyL_zero ps os).symm,HO3,HB3⟩
     case round =>
      obtain⟨j,c',a',L,hj,rfl,rfl,HLE,HOW,HBW⟩:=hrel
      have hLl:L.length≤72:=by
       have h1:=apply_len (os.take j) ps HR.out
       rw[←HLE.out] at h1
       have h2:=HSZ.out.2
       simp only[List.length_take] at h1
       omega
      have HLS:Hid (∀ p∈L,p.1.length≤1048576∧p.2.length≤1048576):=by
       rw[Hid,HLE.out]
       exact apply_small _ ps HM.out (fun o ho=>HM2.out o (List.mem_of_mem_take ho))
      by_cases hlt:j<os.length
      · obtain⟨q0,q1,q2⟩:=HC0.out wr HBW.out
        obtain⟨r0,r1⟩:=HOC.out wr HBW.out j hlt
        obtain⟨hx1,hy1⟩:=HM2.out os[j] (List.getElem_mem _)
        have HNX:Hid (setL L os[j].1 os[j].2.1=applyL ps (os.take (j+1))):=by rw[Hid,applyL_snoc ps os j hlt,HLE.out]
        have hj0:(0:Int)≤(j:Int):=by omega
        have hj1:(j:Int)<(os.length:Int):=by omega
        have BD:Hid (Below w0.heap.size w0 wr.drew):=⟨HBW.out.os,HBW.out.tape,HBW.out.output,HBW.out.size,HBW.out.block⟩
        have HSC:Hid (∀ W,Below w0.heap.size w0 W→W.cell? ⟨w.heap.size,2,none⟩=some (.slice (some ⟨bb,off,none⟩) os.length cb)∧W.cell? ⟨bb,off+j*3,none⟩=some (.string ⟨os[j].1.toArray⟩)∧W.cell? ⟨bb,off+j*3+1,none⟩=some (.string ⟨os[j].2.1.toArray⟩)):=fun W hW=>⟨(HC0.out W hW).2.2,(HOC.out W hW j hlt).1,(HOC.out W hW j hlt).2⟩
        obtain⟨x,hx⟩:∃ x,x=os[j].1:=⟨_,rfl⟩
        obtain⟨y,hy⟩:∃ y,y=os[j].2.1:=⟨_,rfl⟩
        rw[←hx] at r0 HNX HSC hx1
        rw[←hy] at r1 HNX HSC hy1
        have K:=l5Set_any a' c' L x y wr.drew (by omega) HLS.out hx1 hy1 (isPairs_own HOW.out).2.2
        obtain⟨M,hM⟩:∃ M,M=setL L x y:=⟨_,rfl⟩
        rw[←hM] at K HNX
        have Sr:Hid (wr.drew.cell? ⟨w.heap.size,2,none⟩=some (.slice (some ⟨bb,off,none⟩) os.length cb)∧wr.drew.cell? ⟨bb,off+j*3,none⟩=some (.string ⟨x.toArray⟩)∧wr.drew.cell? ⟨bb,off+j*3+1,none⟩=some (.string ⟨y.toArray⟩)):=HSC.out wr.drew BD.out
        clear hx hy hM hx1 hy1 HLS
        go_wp2
        go_region_held3 (fun w'=>w'.cell? ⟨w.heap.size,2,none⟩=some (.slice (some ⟨bb,off,none⟩) os.length cb)∧w'.cell? ⟨bb,off+j*3,none⟩=some (.string ⟨x.toArray⟩)∧w'.cell? ⟨bb,off+j*3+1,none⟩=some (.string ⟨y.toArray⟩))
         (first | with_reducible exact S4.out | with_reducible exact Sr.out)
         ((go_at_call 23
           with_reducible refine K.mono ?_
           rintro e w4 ⟨g4,c4,rfl,_,o4,b4⟩
           have B4:Hid (Below w0.heap.size w0 w4):=BD.out.trans (b4.mono BD.out.size)
           have O4:Hid (w4.ownsRow w0.heap.size 54 2 (.slice (some ⟨g4,0,none⟩) M.length c4) M.length (pcells M)):=o4.mono BD.out.size
           have S4:Hid (w4.cell? ⟨w.heap.size,2,none⟩=some (.slice (some ⟨bb,off,none⟩) os.length cb)∧w4.cell? ⟨bb,off+j*3,none⟩=some (.string ⟨x.toArray⟩)∧w4.cell? ⟨bb,off+j*3+1,none⟩=some (.string ⟨y.toArray⟩)):=HSC.out w4 B4.out
           clear o4 b4))
        all_goals
         clear Sr S4 K HSC BD HOW HBW q0 q1 q2 r0 r1
         go_wp2
         go_roundw
         case rel=>exact⟨j+1,c4,some ⟨g4,0,none⟩,M,by omega,by go_num,rfl,HNX,O4,B4⟩
         case measure=>simp[intOf];omega
      · have hjl:j=os.length:=by omega
        subst hjl
        obtain⟨q0,q1,q2⟩:=HC0.out wr HBW.out
        have HLA:Hid (L=applyL ps os):=by have:=HLE.out;rwa [List.take_length] at this
        have K5:=spec_pairsOk a' c' L wr (by omega) HLS.out (isPairs_own HOW.out).2.2
        have HOK2:Hid (ok=pairsOkL L):=by rw[Hid,HOE.out,HLA.out]
        obtain⟨r,hr⟩:∃ r,r=pairsOkL L:=⟨_,rfl⟩
        rw[←hr] at K5 HOK2
        clear hr HLE HOE HLS
        go_wp2_with fail
        refine K5.mono ?_
        rintro e w5 ⟨rfl,b5⟩
        have b05:=HBW.out.trans (b5.mono HBW.out.size)
        have B5:Hid (Below w.heap.size w w5):=HB0.out.trans (b05.mono HB0.out.size)
        have O5:Hid (w5.ownsRow w.heap.size 54 2 (.slice a' L.length c') L.length (pcells L)):=(kept2 HOW.out b5).mono HB0.out.size
        clear K5 b5 b05 HOW HBW q0 q1 q2
        cases r with
        | false =>
          go_wp2
          go_ret2
          exact ap_no HOK2.out (HRN.out HOK2.out) B5.out
        | true =>
          have HRE:Hid (res=L):=by rw[Hid,HRY.out HOK2.out,HLA.out]
          go_wp2
          go_ret2
          rw[HOK2.out,HRE.out]
          exact⟨a',_,c',rfl,O5.out,B5.out⟩
end Go.Proofs.Ytdcmncjoppmlhaa
