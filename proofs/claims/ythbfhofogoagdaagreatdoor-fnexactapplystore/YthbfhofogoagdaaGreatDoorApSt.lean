/-
 Contracts: a batch on the pairs of a root, beside a store (ApplyStore); written by mkapst.py.
-/
import Derived.Test.YthbfhofogoagdaaGreatDoorUpdAll
import Derived.Test.YthbfhofogoagdaaGreatDoorIAps
namespace Go.Proofs.YthbfhofogoagdaaGreatDoor
open Go.RowKit
set_option linter.unusedVariables false
def stR (ps:List PairL) (root:List UInt8) (c n:Int) (os:List OpL):Option (List PairL × List UInt8):=(pairsAtR ps root).bind fun l=>if applyOk l c n os=true then turnR ps (applyR l c n os) else none
theorem st_len (ps:List PairL) (root:List UInt8) (c n:Int) (os:List OpL):(((stR ps root c n os).map (·.1)).getD []).length≤ps.length+3600:=by
 cases h:stR ps root c n os with
 | none=>simp
 | some r =>
   unfold stR at h
   rw[Option.bind_eq_some_iff] at h
   obtain⟨l,_,hl⟩:=h
   split at hl
   · unfold turnR at hl
     split at hl
     · cases hl
       have h1:=add_len ps (nodesR (applyR l c n os))
       have h2:=nodesR_len (applyR l c n os)
       simp only[Option.map_some,Option.getD_some]
       omega
     · cases hl
   · cases hl
theorem own_nilP {w:World} {base e:Nat} {a:Option Addr} {m cap k:Nat} {xs:List Value} (h:w.ownsRow base e 2 (.slice a m cap) k xs):a=none→cap=0:=by
 rcases own_cases2 h with ⟨hv,_,_⟩ | ⟨g,cap',hv,_⟩ <;> cases hv <;> simp
theorem apR_fit {l:List PairL} {c n:Int} {os:List OpL} (h:applyOk l c n os=true):fitP (applyR l c n os):=by
 rw[applyR_yes h]
 simp only[applyOk,Bool.and_eq_true] at h
 exact fit_of _ h.2.2
set_option maxRecDepth 100000 in
set_option maxHeartbeats 4000000 in
theorem impl_applyStore (a:Option Addr) (cap:Nat) (ps:List PairL) (root:List UInt8) (c n:Int) (b:Option Addr) (cb:Nat) (os:List OpL) (w:World) (hT:Tab w) (hl:ps.length≤1048576) (hm:∀ p∈ps,p.1.length≤1048576∧p.2.length≤1048576) (hs:IsPairs w a ps) (hr:root.length≤1048576) (hl2:os.length≤1048576) (hm2:∀ p∈os,p.1.length≤1048576∧p.2.1.length≤1048576) (hs2:IsOps w b os) :
 Calls Tryz.prog 9 #[.slice a ps.length cap,.string ⟨root.toArray⟩,.agg #[.int .i64 c,.int .i64 n,.slice b os.length cb]] w fun e w'=>UPost w (stR ps root c n os) e w':=by
 have B0:Below w.heap.size w (w.alloc (.cells #[.int .i64 c,.int .i64 n,.slice b os.length cb] 34)):=(Below.refl _ _).alloc (Nat.le_refl _) _
 have H0:=heap_alloc_new w (.cells #[.int .i64 c,.int .i64 n,.slice b os.length cb] 34)
 have HQ:Hid (∀ W,Below (w.heap.size+1) (w.alloc (.cells #[.int .i64 c,.int .i64 n,.slice b os.length cb] 34)) W→W.heap[w.heap.size]? = some (.cells #[.int .i64 c,.int .i64 n,.slice b os.length cb] 34 (0,0))):=fun W hW=>(hW.block w.heap.size (by omega)).trans H0
 obtain⟨w0,hw0⟩:∃ w0,w0=w.alloc (.cells #[.int .i64 c,.int .i64 n,.slice b os.length cb] 34):=⟨_,rfl⟩
 have hsz0:w0.heap.size=w.heap.size+1:=by rw[hw0];simp
 have HS:Hid (∀ W,Below w0.heap.size w0 W→IsPairs W a ps):=fun W hW=>by rw[hw0] at hW;exact hs.later (B0.trans (hW.mono (by simp)))
 have HS2:Hid (∀ W,Below w0.heap.size w0 W→IsOps W b os):=fun W hW=>by rw[hw0] at hW;exact hs2.later (B0.trans (hW.mono (by simp)))
 have HB0:Hid (Below w.heap.size w w0):=by rw[hw0];exact B0
 have HC0:Hid (∀ W,Below w0.heap.size w0 W→W.cell? ⟨w.heap.size,0,none⟩=some (.int .i64 c)∧W.cell? ⟨w.heap.size,1,none⟩=some (.int .i64 n)∧W.cell? ⟨w.heap.size,2,none⟩=some (.slice b os.length cb)):=fun W hW=>by
  obtain⟨h1,h2,h3,_⟩:=bat_cells (HQ.out W (by rw[hsz0,hw0] at hW;exact hW))
  exact⟨h1,h2,h3⟩
 have K1:=impl_pairsAt a cap ps root w0 (hT.later HB0.out) hl hm (HS.out w0 (Below.refl _ _)) hr
 have HT:Hid (∀ W,Below w0.heap.size w0 W→Tab W):=fun W hW=>(hT.later HB0.out).later hW
 have HM2:Hid (∀ p∈os,p.1.length≤1048576∧p.2.1.length≤1048576):=hm2
 have HPO:Hid (∀ l,pairsAtR ps root=some l→pairsOkL l=true):=fun l h=>pairsAt_ok h
 have HRN:Hid (pairsAtR ps root=none→stR ps root c n os=none):=fun h=>by unfold stR;rw[h];rfl
 have HRS:Hid (∀ l,pairsAtR ps root=some l→stR ps root c n os=if applyOk l c n os=true then turnR ps (applyR l c n os) else none):=fun l h=>by unfold stR;rw[h];rfl
 have HKT:Hid (∀ (a2:Option Addr) (c2:Nat) (l:List PairL) W,Below w0.heap.size w0 W→Tab W→l.length≤1048576→(∀ p∈l,p.1.length≤1048576∧p.2.length≤1048576)→IsPairs W a2 l→Calls Tryz.prog 24 #[.slice a ps.length cap,.slice a2 l.length c2] W fun e w'=>UPost W (turnR ps l) e w'):=fun a2 c2 l W hW hTW h1 h2 h3=>impl_storeWith a cap ps a2 c2 l W hTW hl hm (HS.out W hW) h1 h2 h3
 unfold PAPost at K1
 obtain⟨pr,hpr⟩:∃ pr,pr=pairsAtR ps root:=⟨_,rfl⟩
 obtain⟨res,hres⟩:∃ res,res=stR ps root c n os:=⟨_,rfl⟩
 rw[←hpr] at K1 HPO HRN HRS
 rw[←hres] at HRN HRS ⊢
 clear hpr hres hs hm hs2 hm2 B0 H0 HQ hT
 cases pr with
 | none =>
   have HN:Hid (res=none):=HRN.out rfl
   clear HRS HRN HPO HKT
   go_enter Tryz.func9,Tryz.ntmps9
   go_wp2_with fail
   rw[←hw0]
   refine K1.mono ?_
   rintro e w1 ⟨a1,m1,c1,rfl,o1,b1⟩
   have B1:=HB0.out.trans (b1.mono HB0.out.size)
   clear o1 b1 K1
   go_wp2
   go_ret3
   exact up_none HN.out B1
 | some l =>
   simp only[Option.getD_some,Option.isSome_some] at K1
   have hlf:=fit_of l (HPO.out l rfl)
   have hlm:∀ p∈l,p.1.length≤1048576∧p.2.length≤1048576:=fun p hp=>by have:=hlf.2 p hp;omega
   have hl60:=hlf.1
   have HR:Hid (res=if applyOk l c n os=true then turnR ps (applyR l c n os) else none):=HRS.out l rfl
   have HKA:Hid (∀ (a1:Option Addr) (c1:Nat) w1,Below w0.heap.size w0 w1→w1.ownsRow w0.heap.size 84 2 (.slice a1 l.length c1) l.length (pcells l)→Calls Tryz.prog 23 #[.slice a1 l.length c1,.agg #[.int .i64 c,.int .i64 n,.slice b os.length cb]] w1 fun e w'=>ApPost w1 (applyOk l c n os) (applyR l c n os) e w'):=fun a1 c1 w1 b1 o1=>by
    have i1:=(isPairs_own o1).2.2
    exact impl_applyPairs a1 c1 l c n b cb os w1 (by omega) hlm i1 hl2 HM2.out (HS2.out w1 b1)
   have HF:Hid (applyOk l c n os=true→fitP (applyR l c n os)):=apR_fit
   obtain⟨ok,hok⟩:∃ ok,ok=applyOk l c n os:=⟨_,rfl⟩
   obtain⟨rs,hrs⟩:∃ rs,rs=applyR l c n os:=⟨_,rfl⟩
   rw[←hok,←hrs] at HR HKA HF
   unfold ApPost at HKA
   clear hok hrs hlm hl60 hlf HRS HRN HPO HS HS2 HM2
   go_enter Tryz.func9,Tryz.ntmps9
   go_wp2_with fail
   rw[←hw0]
   refine K1.mono ?_
   rintro e w1 ⟨a1,m1,c1,rfl,o1,b1⟩
   obtain⟨rfl,_,_⟩:=isPairs_own o1
   have K2:=HKA.out a1 c1 w1 b1 o1
   obtain⟨q0,q1,q2⟩:=HC0.out w1 b1
   have HB1:Hid (Below w0.heap.size w0 w1):=b1
   clear K1 HKA o1 b1
   go_wp2_with fail
   refine K2.mono ?_
   rintro e w2 ⟨a2,m2,c2,rfl,o2,b2⟩
   have B2:=HB1.out.trans (b2.mono HB1.out.size)
   obtain⟨rfl,_,i2⟩:=isPairs_own o2
   cases ok with
   | false =>
     have HN:Hid (res=none):=HR.out.trans (if_neg (fun h=>by simp at h))
     have BB:=HB0.out.trans (B2.mono HB0.out.size)
     clear HR o2 i2 K2 HKT b2 B2 q0 q1 q2
     go_wp2
     go_ret3
     exact up_none HN.out BB
   | true =>
     have HN:Hid (res=turnR ps rs):=HR.out.trans (if_pos rfl)
     have hf:=HF.out rfl
     have K3:=HKT.out a2 c2 rs w2 B2 (HT.out w2 B2) (by have:=hf.1;omega) (fun p hp=>by have:=hf.2 p hp;omega) i2
     unfold UPost at K3
     obtain⟨tr,htr⟩:∃ tr,tr=turnR ps rs:=⟨_,rfl⟩
     rw[←htr] at K3 HN
     have HB2:Hid (Below w.heap.size w w2):=HB0.out.trans (B2.mono HB0.out.size)
     clear HR o2 i2 K2 HKT b2 B2 q0 q1 q2 hf htr
     go_wp2_with fail
     refine K3.mono ?_
     rintro e w3 ⟨a3,m3,c3,rfl,o3,b3⟩
     have B3:=HB2.out.trans (b3.mono HB2.out.size)
     have O3:=hidOwn (o3.mono HB2.out.size)
     clear o3 b3 K3
     go_wp2
     go_ret3
     rw[HN.out]
     exact⟨a3,m3,c3,rfl,O3.out,B3⟩
set_option maxRecDepth 100000 in
set_option maxHeartbeats 4000000 in
theorem spec_applyStore (lb off cap:Nat) (ps:List PairL) (root:List UInt8) (c n:Int) (b:Option Addr) (cb:Nat) (os:List OpL) (w:World) (hl:ps.length≤1048576) (hm:∀ p∈ps,p.1.length≤1048576∧p.2.length≤1048576) (hs:IsPairs w (some ⟨lb,off,none⟩) ps) (hl2:os.length≤1048576) (hm2:∀ p∈os,p.1.length≤1048576∧p.2.1.length≤1048576) (hs2:IsOps w b os) :
 Calls Tryz.prog 6 #[.slice (some ⟨lb,off,none⟩) ps.length cap,.string ⟨root.toArray⟩,.agg #[.int .i64 c,.int .i64 n,.slice b os.length cb]] w fun e w'=>UPost w (stR ps root c n os) e w':=by
 have B0:Below w.heap.size w (w.alloc (.cells #[.int .i64 c,.int .i64 n,.slice b os.length cb] 34)):=(Below.refl _ _).alloc (Nat.le_refl _) _
 have H0:=heap_alloc_new w (.cells #[.int .i64 c,.int .i64 n,.slice b os.length cb] 34)
 have HQ:Hid (∀ W,Below (w.heap.size+1) (w.alloc (.cells #[.int .i64 c,.int .i64 n,.slice b os.length cb] 34)) W→W.heap[w.heap.size]? = some (.cells #[.int .i64 c,.int .i64 n,.slice b os.length cb] 34 (0,0))):=fun W hW=>(hW.block w.heap.size (by omega)).trans H0
 obtain⟨w0,hw0⟩:∃ w0,w0=w.alloc (.cells #[.int .i64 c,.int .i64 n,.slice b os.length cb] 34):=⟨_,rfl⟩
 have hsz0:w0.heap.size=w.heap.size+1:=by rw[hw0];simp
 have HS:Hid (∀ W,Below w0.heap.size w0 W→IsPairs W (some ⟨lb,off,none⟩) ps):=fun W hW=>by rw[hw0] at hW;exact hs.later (B0.trans (hW.mono (by simp)))
 have HS2:Hid (∀ W,Below w0.heap.size w0 W→IsOps W b os):=fun W hW=>by rw[hw0] at hW;exact hs2.later (B0.trans (hW.mono (by simp)))
 have HB0:Hid (Below w.heap.size w w0):=by rw[hw0];exact B0
 have HC0:Hid (∀ W,Below w0.heap.size w0 W→W.cell? ⟨w.heap.size,0,none⟩=some (.int .i64 c)∧W.cell? ⟨w.heap.size,1,none⟩=some (.int .i64 n)∧W.cell? ⟨w.heap.size,2,none⟩=some (.slice b os.length cb)):=fun W hW=>by
  obtain⟨h1,h2,h3,_⟩:=bat_cells (HQ.out W (by rw[hsz0,hw0] at hW;exact hW))
  exact⟨h1,h2,h3⟩
 have K1:=spec_pairsAt (some ⟨lb,off,none⟩) cap ps root w0 hl hm (HS.out w0 (Below.refl _ _))
 have HM2:Hid (∀ p∈os,p.1.length≤1048576∧p.2.1.length≤1048576):=hm2
 have HPO:Hid (∀ l,pairsAtR ps root=some l→pairsOkL l=true):=fun l h=>pairsAt_ok h
 have HRN:Hid (pairsAtR ps root=none→stR ps root c n os=none):=fun h=>by unfold stR;rw[h];rfl
 have HRS:Hid (∀ l,pairsAtR ps root=some l→stR ps root c n os=if applyOk l c n os=true then turnR ps (applyR l c n os) else none):=fun l h=>by unfold stR;rw[h];rfl
 have HKT:Hid (∀ (a2:Option Addr) (c2:Nat) (l:List PairL) W,Below w0.heap.size w0 W→l.length≤1048576→(∀ p∈l,p.1.length≤1048576∧p.2.length≤1048576)→IsPairs W a2 l→Calls Tryz.prog 19 #[.slice (some ⟨lb,off,none⟩) ps.length cap,.slice a2 l.length c2] W fun e w'=>UPost W (turnR ps l) e w'):=fun a2 c2 l W hW h1 h2 h3=>spec_l7Turn lb off cap ps a2 c2 l W hl hm (HS.out W hW) h1 h2 h3
 unfold PAPost at K1
 obtain⟨pr,hpr⟩:∃ pr,pr=pairsAtR ps root:=⟨_,rfl⟩
 obtain⟨res,hres⟩:∃ res,res=stR ps root c n os:=⟨_,rfl⟩
 rw[←hpr] at K1 HPO HRN HRS
 rw[←hres] at HRN HRS ⊢
 clear hpr hres hs hm hs2 hm2 B0 H0 HQ
 cases pr with
 | none =>
   have HN:Hid (res=none):=HRN.out rfl
   clear HRS HRN HPO HKT
   go_enter Tryz.func6,Tryz.ntmps6
   go_wp2_with fail
   rw[←hw0]
   refine K1.mono ?_
   rintro e w1 ⟨a1,m1,c1,rfl,o1,b1⟩
   have B1:=HB0.out.trans (b1.mono HB0.out.size)
   clear o1 b1 K1
   go_wp2
   go_ret3
   exact up_none HN.out B1
 | some l =>
   simp only[Option.getD_some,Option.isSome_some] at K1
   have hlf:=fit_of l (HPO.out l rfl)
   have hlm:∀ p∈l,p.1.length≤1048576∧p.2.length≤1048576:=fun p hp=>by have:=hlf.2 p hp;omega
   have hl60:=hlf.1
   have HR:Hid (res=if applyOk l c n os=true then turnR ps (applyR l c n os) else none):=HRS.out l rfl
   have HKA:Hid (∀ (a1:Option Addr) (c1:Nat) w1,Below w0.heap.size w0 w1→w1.ownsRow w0.heap.size 84 2 (.slice a1 l.length c1) l.length (pcells l)→Calls Tryz.prog 18 #[.slice a1 l.length c1,.agg #[.int .i64 c,.int .i64 n,.slice b os.length cb]] w1 fun e w'=>ApPost w1 (applyOk l c n os) (applyR l c n os) e w'):=fun a1 c1 w1 b1 o1=>by
    have i1:=(isPairs_own o1).2.2
    exact spec_applyPairs a1 c1 l c n b cb os w1 (by omega) hlm i1 (own_nilP o1) hl2 HM2.out (HS2.out w1 b1)
   have HF:Hid (applyOk l c n os=true→fitP (applyR l c n os)):=apR_fit
   obtain⟨ok,hok⟩:∃ ok,ok=applyOk l c n os:=⟨_,rfl⟩
   obtain⟨rs,hrs⟩:∃ rs,rs=applyR l c n os:=⟨_,rfl⟩
   rw[←hok,←hrs] at HR HKA HF
   unfold ApPost at HKA
   clear hok hrs hlm hl60 hlf HRS HRN HPO HS HS2 HM2
   go_enter Tryz.func6,Tryz.ntmps6
   go_wp2_with fail
   rw[←hw0]
   refine K1.mono ?_
   rintro e w1 ⟨a1,m1,c1,rfl,o1,b1⟩
   obtain⟨rfl,_,_⟩:=isPairs_own o1
   have K2:=HKA.out a1 c1 w1 b1 o1
   obtain⟨q0,q1,q2⟩:=HC0.out w1 b1
   have HB1:Hid (Below w0.heap.size w0 w1):=b1
   clear K1 HKA o1 b1
   go_wp2_with fail
   refine K2.mono ?_
   rintro e w2 ⟨a2,m2,c2,rfl,o2,b2⟩
   have B2:=HB1.out.trans (b2.mono HB1.out.size)
   obtain⟨rfl,_,i2⟩:=isPairs_own o2
   cases ok with
   | false =>
     have HN:Hid (res=none):=HR.out.trans (if_neg (fun h=>by simp at h))
     have BB:=HB0.out.trans (B2.mono HB0.out.size)
     clear HR o2 i2 K2 HKT b2 B2 q0 q1 q2
     go_wp2
     go_ret3
     exact up_none HN.out BB
   | true =>
     have HN:Hid (res=turnR ps rs):=HR.out.trans (if_pos rfl)
     have hf:=HF.out rfl
     have K3:=HKT.out a2 c2 rs w2 B2 (by have:=hf.1;omega) (fun p hp=>by have:=hf.2 p hp;omega) i2
     unfold UPost at K3
     obtain⟨tr,htr⟩:∃ tr,tr=turnR ps rs:=⟨_,rfl⟩
     rw[←htr] at K3 HN
     have HB2:Hid (Below w.heap.size w w2):=HB0.out.trans (B2.mono HB0.out.size)
     clear HR o2 i2 K2 HKT b2 B2 q0 q1 q2 hf htr
     go_wp2_with fail
     refine K3.mono ?_
     rintro e w3 ⟨a3,m3,c3,rfl,o3,b3⟩
     have B3:=HB2.out.trans (b3.mono HB2.out.size)
     have O3:=hidOwn (o3.mono HB2.out.size)
     clear o3 b3 K3
     go_wp2
     go_ret3
     rw[HN.out]
     exact⟨a3,m3,c3,rfl,O3.out,B3⟩
end Go.Proofs.YthbfhofogoagdaaGreatDoor
