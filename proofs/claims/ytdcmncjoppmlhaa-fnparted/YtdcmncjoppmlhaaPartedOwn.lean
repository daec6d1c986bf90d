/-
 At every code the ops of a drawn batch in two batches come to the same pairs: FnParted answers true. No condition.
-/
import Derived.Test.YtdcmncjoppmlhaaCodeLaw
import Derived.Test.YtdcmncjoppmlhaaDrawAp
import Derived.Test.YtdcmncjoppmlhaaIAp
import Derived.Test.YtdcmncjoppmlhaaMathPd
import Derived.Test.YtdcmncjoppmlhaaSameP
import Derived.ProofKit
import Derived.OpenShut
import Derived.ShutString
import Derived.ChangeOld
import Derived.Below
namespace Go.Proofs.Ytdcmncjoppmlhaa.fnParted
open Go.ChangeShapes Go.WideShapes Go.ChangeAt Go.RowKit
open Go.ChangeMaps (open_string shut_string)
set_option linter.unusedVariables false
theorem own:ownKnob Try.prog.godebug=none:=by kernel_rfl
theorem pt_refl (w:World) (q:Nat):Below w.heap.size w (w.drewN q):=⟨rfl,rfl,rfl,Nat.le_refl _,fun _ _=>rfl⟩
theorem smallP_le {ps:List PairL} (h:smallP ps):∀ p∈ps,p.1.length≤1048576∧p.2.length≤1048576:=fun p hp=>by
 have:=h p hp
 exact⟨by omega,by omega⟩
theorem smallO_le {os:List OpL} (h:smallO os):∀ p∈os,p.1.length≤1048576∧p.2.1.length≤1048576:=fun p hp=>by
 have:=h p hp
 exact⟨by omega,by omega⟩
theorem ops_take {w:World} {b off:Nat} {os:List OpL} (h:IsOps w (some ⟨b,off,none⟩) os) (k:Nat):IsOps w (some ⟨b,off,none⟩) (os.take k):=by
 rcases h with rfl | ⟨b',off',h1,h2⟩
 · exact .inl (by simp)
 · cases h1
   exact .inr ⟨b,off,rfl,fun j hj=>by
    have:=h2 j (by simp at hj;omega)
    simpa using this⟩
theorem ops_drop {w:World} {b off:Nat} {os:List OpL} (h:IsOps w (some ⟨b,off,none⟩) os) (k:Nat):IsOps w (some ⟨b,off+k*3,none⟩) (os.drop k):=by
 rcases h with rfl | ⟨b',off',h1,h2⟩
 · exact .inl (by simp)
 · cases h1
   refine .inr ⟨b,off+k*3,rfl,fun j hj=>?_⟩
   have:=h2 (k+j) (by simp at hj;omega)
   have e:off+k*3+j*3=off+(k+j)*3:=by omega
   rw[e]
   simpa using this
set_option maxRecDepth 100000 in
set_option maxHeartbeats 4000000 in
theorem walk (a0 : Option Addr) (len0 cap0 : Nat) (w : World) (w0 : Code w a0 len0) :
 Calls Try.prog 4 #[.slice a0 len0 cap0] w fun e w'=>e=.returned (.bool true)∧Below w.heap.size w w':=by
 by_cases hb:len0≤1048576
 · have HB := bigNo len0 cap0 a0 w hb
   have HC:Hid (Code w a0 len0):=w0
   clear w0
   go_enter Try.func4,Try.ntmps4
   go_wp2_with fail
   refine HB.mono ?_
   rintro e w ⟨rfl,rfl⟩
   clear HB
   have HD:=drawApplyPairs len0 cap0 a0 w hb HC.out
   go_wp2_with fail
   refine HD.mono ?_
   rintro e w1 ⟨ps,g,c,x,y,os,a2,c2,rfl,hpl,hol,hsp,hso,o1,p1,B1⟩
   have HXA:Below w1.heap.size w1 (w1.alloc (.cells #[.int .i64 x,.int .i64 y,.slice a2 os.length c2] 34)):=(Below.refl _ _).alloc (Nat.le_refl _) _
   have HQ0:=heap_alloc_new w1 (.cells #[.int .i64 x,.int .i64 y,.slice a2 os.length c2] 34)
   obtain⟨wa,hwa⟩:∃ wa,wa=w1.alloc (.cells #[.int .i64 x,.int .i64 y,.slice a2 os.length c2] 34):=⟨_,rfl⟩
   have hwl:w1.heap.size<wa.heap.size:=by rw[hwa];simp
   have ba:Below w1.heap.size w1 wa:=by rw[hwa];exact HXA
   have Ba:=B1.trans (ba.mono B1.size)
   have HBa:Hid (Below w.heap.size w wa):=Ba
   have HIP:Hid (∀ W,Below wa.heap.size wa W→IsPairs W (some ⟨g,0,none⟩) ps):=fun W hW=>(isPairs_own (kept2 (kept2 o1 ba) hW)).2.2
   have HIO:Hid (∀ W,Below wa.heap.size wa W→IsOps W a2 os):=fun W hW=>(isOps_own (kept3 (kept3 p1 ba) hW)).2.2
   have HCB:Hid (∀ W,Below wa.heap.size wa W→W.cell? ⟨w1.heap.size,0,none⟩=some (.int .i64 x)∧W.cell? ⟨w1.heap.size,1,none⟩=some (.int .i64 y)∧W.cell? ⟨w1.heap.size,2,none⟩=some (.slice a2 os.length c2)):=fun W hW=>by
    rw[←hwa] at HQ0
    obtain⟨h1,h2,h3,_⟩:=bat_cells ((hW.block _ hwl).trans HQ0)
    exact⟨h1,h2,h3⟩
   have hcap:os.length≤c2:=by
    rcases p1.2 with ⟨hv,h0⟩ | ⟨g',cap',cur,hv,_,_,rest⟩
    · omega
    · cases hv;exact rest.1
   have HA2:Hid (os.length≠0→∃ g2,a2=some ⟨g2,0,none⟩):=fun h0=>by
    rcases own_cases3 p1 with ⟨h1,h2,_⟩ | ⟨g',cap',h1,_⟩
    · exact absurd h2 h0
    · cases h1;exact⟨g',rfl⟩
   have K2:=impl_applyPairs (some ⟨g,0,none⟩) c ps x y a2 c2 os wa (by omega) (smallP_le hsp) (HIP.out wa (Below.refl _ _)) (by omega) (smallO_le hso) (HIO.out wa (Below.refl _ _))
   have HK3:Hid (∀ W,Below wa.heap.size wa W→_):=fun W hW=>spec_applyPairs (some ⟨g,0,none⟩) c ps x y a2 c2 os W (by omega) (smallP_le hsp) (HIP.out W hW) (by simp) (by omega) (smallO_le hso) (HIO.out W hW)
   have HSP:Hid (smallP ps∧smallO os):=⟨hsp,hso⟩
   have HPT:Hid (∀ k,applyOk ps x y os=true→1≤k→k<os.length→_):=fun k h1 h2 h3=>parted (k:=k) h1 h2 h3 (by omega)
   have hRl:(applyR ps x y os).length≤60:=by
    by_cases h:applyOk ps x y os=true
    · rw[applyR_yes h]
      simp only[applyOk,Bool.and_eq_true] at h
      exact (pairsOk_of _ h.2.2).1
    · rw[applyR_no (by simpa using h)];simp
   have HRN:Hid (applyOk ps x y os=false→applyR ps x y os=[]):=applyR_no
   obtain⟨ok,hok⟩:∃ ok,ok=applyOk ps x y os:=⟨_,rfl⟩
   obtain⟨R,hR⟩:∃ R,R=applyR ps x y os:=⟨_,rfl⟩
   rw[←hok] at K2 HK3 HPT HRN
   rw[←hR] at K2 HK3 HPT hRl HRN
   unfold ApPost at K2 HK3
   clear HD o1 p1 B1 HXA HQ0 hsp hso hok hR ba Ba
   obtain⟨q0,q1,q2⟩:=HCB.out wa (Below.refl _ _)
   go_wp2_with fail
   rw[←hwa]
   refine K2.mono ?_
   rintro e w2 ⟨a3,m3,c3,rfl,o3,b2⟩
   obtain⟨rfl,_,_⟩:=isPairs_own o3
   have HY2:Hid (Below wa.heap.size wa w2):=b2
   have HO3:=hidOwn o3
   have K3:=HK3.out w2 b2
   clear K2 HK3 b2 o3 q0 q1 q2 hwa
   obtain⟨q0,q1,q2⟩:=HCB.out w2 HY2.out
   go_wp2_with fail
   refine K3.mono ?_
   rintro e w3 ⟨a4,m4,c4,rfl,o4,b3⟩
   obtain⟨rfl,_,_⟩:=isPairs_own o4
   have y3:=HY2.out.trans (b3.mono HY2.out.size)
   have HY3:Hid (Below wa.heap.size wa w3):=y3
   have P3:=kept2 HO3.out b3
   have K5:=samePairs_same R a3 a4 c3 c4 w3 (by omega) (isPairs_own P3).2.2 (isPairs_own o4).2.2
   have HP3:=hidOwn P3
   have HP4:=hidOwn o4
   clear K3 b3 o4 P3 y3 HO3 HY2 q0 q1 q2
   go_wp2_with fail
   refine K5.mono ?_
   rintro e w5 ⟨rfl,b5⟩
   have y5:=HY3.out.trans (b5.mono HY3.out.size)
   have HY5:Hid (Below wa.heap.size wa w5):=y5
   have HB5:Hid (Below w.heap.size w w5):=HBa.out.trans (y5.mono HBa.out.size)
   have P5:=hidOwn (kept2 HP3.out b5)
   have P6:=hidOwn (kept2 HP4.out b5)
   obtain⟨q0,q1,q2⟩:=HCB.out w5 y5
   clear K5 b5 y5 HP3 HP4 HY3
   cases ok with
   | false =>
     have K6:=samePairs_same R a3 a4 c3 c4 w5 (by omega) (isPairs_own P5.out).2.2 (isPairs_own P6.out).2.2
     clear HPT
     go_wp2_with fail
     refine K6.mono ?_
     rintro e w6 ⟨rfl,b6⟩
     have B6:=HB5.out.trans (b6.mono HB5.out.size)
     clear K6 b6
     go_wp2
     go_ret
     exact⟨rfl,B6⟩
   | true =>
     by_cases h2:os.length<2
     · have h2':(os.length:Int)<2:=by omega
       have h2b:decide ((os.length:Int)<2)=true:=decide_eq_true h2'
       have K6:=samePairs_same R a3 a4 c3 c4 w5 (by omega) (isPairs_own P5.out).2.2 (isPairs_own P6.out).2.2
       clear HPT h2
       go_wp2_with fail
       refine K6.mono ?_
       rintro e w6 ⟨rfl,b6⟩
       have B6:=HB5.out.trans (b6.mono HB5.out.size)
       clear K6 b6
       go_wp2
       go_ret
       exact⟨rfl,B6⟩
     · have h2':¬ (os.length:Int)<2:=by omega
       have h2b:decide ((os.length:Int)<2)=false:=decide_eq_false h2'
       obtain⟨r,hr⟩:∃ r,r=len0 % (os.length - 1):=⟨_,rfl⟩
       have hrl:r<os.length - 1:=by rw[hr];exact Nat.mod_lt _ (by omega)
       have hcast:((os.length - 1:Nat):Int)=(os.length:Int) - 1:=by omega
       have hkt:(len0:Int).tmod ((os.length:Int) - 1)=(r:Int):=by rw[Int.tmod_eq_emod_of_nonneg (by omega),←hcast,hr];push_cast;rfl
       have hnz:¬ (os.length:Int) - 1=0:=by omega
       have hnzb:((os.length:Int) - 1 == 0)=false:=by simp only[beq_eq_false_iff_ne,ne_eq];omega
       obtain⟨k,hk⟩:∃ k,k=r+1:=⟨_,rfl⟩
       have hk1:1+(r:Int)=(k:Int):=by omega
       have hkc:(k:Int)≤(c2:Int):=by omega
       have hkl:(k:Int)≤(os.length:Int):=by omega
       have hk0:(0:Int)≤(k:Int):=by omega
       obtain⟨g2,rfl⟩:=HA2.out (by omega)
       obtain⟨t1,t2,t3,t4⟩:=HPT.out k rfl (by omega) (by omega)
       have HKK:Hid (1≤k∧k<os.length):=⟨by omega,by omega⟩
       clear HPT h2 hr hcast hk hrl
       have XZ:Below w5.heap.size w5 (w5.alloc (.cells #[.int .i64 0,.int .i64 0,.slice none 0 0] 34)):=(Below.refl _ _).alloc (Nat.le_refl _) _
       obtain⟨z0,z1,z2⟩:=HCB.out _ (HY5.out.trans (XZ.mono HY5.out.size))
       go_wp2
       go_region
       obtain⟨wb,hwb⟩:∃ wb,wb=(w5.alloc (.cells #[.int .i64 x,.int .i64 y,.slice (some ⟨g2,0,none⟩) k c2] 34)).drew:=⟨_,rfl⟩
       have hqb:wb.heap[w5.heap.size]? = some (.cells #[.int .i64 x,.int .i64 y,.slice (some ⟨g2,0,none⟩) k c2] 34 (0,0)):=by rw[hwb];exact heap_alloc_new w5 _
       have bb:Below w5.heap.size w5 wb:=by rw[hwb];exact⟨rfl,rfl,rfl,by show _≤(w5.alloc _).heap.size;simp,fun q hq=>Below.heap_alloc _ _ _ hq⟩
       have yb:=HY5.out.trans (bb.mono HY5.out.size)
       have HYb:Hid (Below wa.heap.size wa wb):=yb
       have hwlb:w5.heap.size<wb.heap.size:=by rw[hwb];show _<(w5.alloc _).heap.size;simp
       have HQb:Hid (∀ W,Below wb.heap.size wb W→W.cell? ⟨w5.heap.size,0,none⟩=some (.int .i64 x)∧W.cell? ⟨w5.heap.size,1,none⟩=some (.int .i64 y)∧W.cell? ⟨w5.heap.size,2,none⟩=some (.slice (some ⟨g2,0,none⟩) k c2)):=fun W hW=>by
        obtain⟨h1,h2,h3,_⟩:=bat_cells ((hW.block _ hwlb).trans hqb)
        exact⟨h1,h2,h3⟩
       have Pb:=hidOwn (kept2 P5.out bb)
       have XZb:Below wb.heap.size wb (wb.alloc (.cells #[.int .i64 0,.int .i64 0,.slice none 0 0] 34)):=(Below.refl _ _).alloc (Nat.le_refl _) _
       clear q0 q1 q2 z0 z1 z2 XZ hqb P6
       obtain⟨q0,q1,q2⟩:=HCB.out wb yb
       obtain⟨z0,z1,z2⟩:=HCB.out _ (yb.trans (XZb.mono yb.size))
       rw[←hwb]
       clear hwb bb yb XZb
       go_wp2
       go_region
       obtain⟨wc,hwc⟩:∃ wc,wc=(wb.alloc (.cells #[.int .i64 x,.int .i64 y,.slice (if c2=k then some ⟨g2,0,none⟩ else some ⟨g2,k*3,none⟩) (os.length - k) (c2 - k)] 34)).drew:=⟨_,rfl⟩
       have hqc:wc.heap[wb.heap.size]? = some (.cells #[.int .i64 x,.int .i64 y,.slice (if c2=k then some ⟨g2,0,none⟩ else some ⟨g2,k*3,none⟩) (os.length - k) (c2 - k)] 34 (0,0)):=by rw[hwc];exact heap_alloc_new wb _
       have bc:Below wb.heap.size wb wc:=by rw[hwc];exact⟨rfl,rfl,rfl,by show _≤(wb.alloc _).heap.size;simp,fun q hq=>Below.heap_alloc _ _ _ hq⟩
       have hwlc:wb.heap.size<wc.heap.size:=by rw[hwc];show _<(wb.alloc _).heap.size;simp
       have yc:=HYb.out.trans (bc.mono HYb.out.size)
       have HYc:Hid (Below wa.heap.size wa wc):=yc
       have HQc:Hid (∀ W,Below wc.heap.size wc W→W.cell? ⟨wb.heap.size,0,none⟩=some (.int .i64 x)∧W.cell? ⟨wb.heap.size,1,none⟩=some (.int .i64 y)∧W.cell? ⟨wb.heap.size,2,none⟩=some (.slice (if c2=k then some ⟨g2,0,none⟩ else some ⟨g2,k*3,none⟩) (os.length - k) (c2 - k))):=fun W hW=>by
        obtain⟨h1,h2,h3,_⟩:=bat_cells ((hW.block _ hwlc).trans hqc)
        exact⟨h1,h2,h3⟩
       have Pc:=hidOwn (kept2 Pb.out bc)
       have hlt:(os.take k).length=k:=by have:=HKK.out;simp;omega
       have hld:(os.drop k).length=os.length - k:=by simp
       have K7:=impl_applyPairs (some ⟨g,0,none⟩) c ps x y (some ⟨g2,0,none⟩) c2 (os.take k) wc (by omega) (smallP_le HSP.out.1) (HIP.out wc yc) (by rw[hlt];have:=HKK.out;omega) (fun p hp=>smallO_le HSP.out.2 p (List.mem_of_mem_take hp)) (ops_take (HIO.out wc yc) k)
       unfold ApPost at K7
       rw[hlt,t1,t2] at K7
       have HL1:Hid ((applyL ps (os.take k)).length≤60∧∀ p∈applyL ps (os.take k),p.1.length≤1048576∧p.2.length≤1048576):=by
        have h9:=t1
        simp only[applyOk,Bool.and_eq_true] at h9
        exact⟨(pairsOk_of _ h9.2.2).1,apply_small _ ps (smallP_le HSP.out.1) (fun p hp=>smallO_le HSP.out.2 p (List.mem_of_mem_take hp))⟩
       obtain⟨L1,hL1⟩:∃ L1,L1=applyL ps (os.take k):=⟨_,rfl⟩
       rw[←hL1] at K7 HL1 t3 t4
       have HK8:Hid (∀ (a5:Option Addr) (c5:Nat) W,Below wc.heap.size wc W→IsPairs W a5 L1→Calls Try.prog 10 #[.slice a5 L1.length c5,.agg #[.int .i64 x,.int .i64 y,.slice (if c2=k then some ⟨g2,0,none⟩ else some ⟨g2,k*3,none⟩) (os.length - k) (c2 - k)]] W fun e w'=>∃ (a:Option Addr) (m c:Nat),e=.returned (.tuple #[.slice a m c,.bool true])∧w'.ownsRow W.heap.size 54 2 (.slice a m c) R.length (pcells R)∧Below W.heap.size W w'):=fun a5 c5 W hW h5=>by
        have hio:IsOps W (if c2=k then some ⟨g2,0,none⟩ else some ⟨g2,k*3,none⟩) (os.drop k):=by
         have h6:=HIO.out W (yc.trans (hW.mono yc.size))
         split
         · exact .inl (List.length_eq_zero_iff.1 (by rw[hld];have:=HKK.out;omega))
         · have:=ops_drop h6 k;simpa using this
        have h7:=impl_applyPairs a5 c5 L1 x y (if c2=k then some ⟨g2,0,none⟩ else some ⟨g2,k*3,none⟩) (c2 - k) (os.drop k) W (by have:=HL1.out.1;omega) HL1.out.2 h5 (by rw[hld];omega) (fun p hp=>smallO_le HSP.out.2 p (List.mem_of_mem_drop hp)) hio
        unfold ApPost at h7
        rw[hld,t3,t4] at h7
        exact h7
       clear q0 q1 q2 z0 z1 z2 hqc Pb hlt hld t1 t2 t3 t4 hL1
       obtain⟨q0,q1,q2⟩:=HQb.out wc bc
       rw[←hwc]
       clear hwc yc HYb bc
       generalize (if c2=k then (some ⟨g2,0,none⟩:Option Addr) else some ⟨g2,k*3,none⟩)=ad2 at HQc HK8 ⊢
       go_wp2_with fail
       refine K7.mono ?_
       rintro e w7 ⟨a5,m5,c5,rfl,o5,b7⟩
       dsimp only
       obtain⟨rfl,_,i5⟩:=isPairs_own o5
       have HZ7:Hid (Below wc.heap.size wc w7):=b7
       have P7:=hidOwn (kept2 Pc.out b7)
       have K8:=HK8.out a5 c5 w7 b7 i5
       clear K7 q0 q1 q2 o5 b7 i5 Pc HK8
       obtain⟨q0,q1,q2⟩:=HQc.out w7 HZ7.out
       go_wp2_with fail
       refine K8.mono ?_
       rintro e w8 ⟨a6,m6,c6,rfl,o6,b8⟩
       dsimp only
       obtain⟨rfl,_,i6⟩:=isPairs_own o6
       have P8:=kept2 P7.out b8
       have z8:=HZ7.out.trans (b8.mono HZ7.out.size)
       have y8:=HYc.out.trans (z8.mono HYc.out.size)
       have HB8:Hid (Below w.heap.size w w8):=HBa.out.trans (y8.mono HBa.out.size)
       have K9:=samePairs_same R a6 a3 c6 c3 w8 (by omega) i6 (isPairs_own P8).2.2
       clear K8 q0 q1 q2 o6 b8 i6 P8 P7 z8 y8
       go_wp2_with fail
       refine K9.mono ?_
       rintro e w9 ⟨rfl,b9⟩
       have B9:=HB8.out.trans (b9.mono HB8.out.size)
       clear K9 b9
       go_wp2
       go_ret
       exact⟨rfl,B9⟩
 · have HB:=bigYes len0 cap0 a0 w hb
   clear w0
   go_enter Try.func4,Try.ntmps4
   go_wp2_with fail
   refine HB.mono ?_
   rintro e w1 ⟨rfl,rfl⟩
   go_wp2
   go_ret
   exact⟨rfl,Below.refl _ _⟩
set_option maxRecDepth 100000 in
theorem lifted (os:Os) (started:os.Started) (H:Type) (enc:TypeId × Value→H) :
 ReturnsInHanded {} Try.checked os 4 .any (Rows.fnPartedSpec.pre6 enc Try.prog Try.f4 Rows.fnPartedRow.domain false) (Rows.fnPartedSpec.post enc Try.prog Try.f4 false true false false):=by
 refine returnsInHanded_of_change (C:=Try.checked) own started (by kernel_rfl) Try.func4
  (ChangeSpec.witness6 (enc:=enc) (C:=Try.checked) false ⟨#[],#[.slice none 0 0],[]⟩ 8 (by kernel_rfl) (by kernel_rfl) (by kernel_rfl) (by kernel_rfl)) ?_
 intro W base args ds gs before hval0 hW hcnd _
 have hval:∀ (j:Nat) t v,Try.f4.params[j]? = some t→args[j]? = some v→Value.okWide Try.prog W .any base t v:=hval0
 have hW':=hW
 obtain⟨p,q,hA0,hV,rfl,hfz,hnd⟩:=hW
 have hA:DataW.TrodAll enc Try.prog W 0 (fun _=>true) true Try.f4.params.toList args.toList ds p:=hA0
 rw[Try.params4] at hA hval
 obtain⟨v0,vs0,d0,ds0,p0,q0,hargs,rfl,rfl,h0,r0⟩:=trodAll_cons hA
 obtain⟨rfl,rfl,rfl⟩:=trodAll_nil r0
 obtain rfl:args=#[v0]:=by cases args;simp_all
 obtain⟨rfl,rfl⟩:=trodVars_none hV
 obtain⟨a0,len0,cap0,rfl⟩:=okWide_slice Try.underlying41 (hval 0 41 v0 rfl rfl)
 have k0:=h0
 have lt0:∀ x∈p0,x.block<W.heap.size:=by obtain⟨m,hm⟩:=k0;exact DataW.trod_lt m _ _ _ hm
 have w0:Code W a0 len0:=by
  obtain⟨fuel,hf⟩:=h0
  rcases open_ints Try.underlying41 Try.underlying5 (by kernel_rfl) hf with ⟨hcs,_⟩ | ⟨x,l,c,zs,hcs,_,hl,hm,hz,_,hcell,hwz⟩
  · simp[Value.cells] at hcs
    obtain⟨rfl,rfl,rfl⟩:=hcs
    exact .inl rfl
  · simp[Value.cells] at hcs
    obtain⟨rfl,rfl,rfl⟩:=hcs
    exact codeOf W x _ _ zs hl (by simpa using hz) hcell hwz
 clear hA0 hval0
 refine (walk a0 len0 cap0 W w0).mono fun e W' ⟨he,bel⟩=>?_
 subst he
 exact⟨_,rfl,_,_,_,[],_,[],hW',trodAll_mk1 (shut_bool Try.underlying4 _),(trodAll_cons_mk (Below.trod laidOut (by kernel_rfl) (of_decide_eq_true (by kernel_rfl)) k0 bel lt0) trodAll_mk0),rfl,bel.frame _,fun h=>by cases h⟩
theorem over:Rows.fnPartedRow.holds Try.pinned (OpenSpec.ofChange Rows.fnPartedSpec) :=
 OpenClaim.holds_of_wide 4 Try.f4 rfl rfl rfl rfl rfl rfl rfl ⟨rfl,rfl,rfl,rfl,rfl⟩ rfl rfl rfl rfl rfl (by kernel_rfl) Try.func4 (by kernel_rfl)
  (of_decide_eq_true (by kernel_rfl)) (by unfold Func.isWrapper;first | (rw[if_pos (by decide +kernel)];kernel_rfl) | (rw[if_neg (by decide +kernel)];exact⟨rfl,rfl⟩))
  (fun os started H enc _=>lifted os started H enc)
end Go.Proofs.Ytdcmncjoppmlhaa.fnParted
namespace Go.Proofs.Ytdcmncjoppmlhaa
theorem fnParted_holds:Rows.FnPartedSaid:=fnParted.over
end Go.Proofs.Ytdcmncjoppmlhaa
