/-
 Texts that are laid as one: Upd, UpdI, UpdSG.
-/
import Derived.Test.YtbdboicobkcggaaGreatDoorPairsAt
import Derived.Test.YtbdboicobkcggaaGreatDoorIAdds
import Derived.Test.YtbdboicobkcggaaGreatDoorSetAll
import Derived.Test.YtbdboicobkcggaaGreatDoorLaidAll
import Derived.Test.YtbdboicobkcggaaGreatDoorSAdds
namespace Go.Proofs.YtbdboicobkcggaaGreatDoor
open Go.RowKit
set_option linter.unusedVariables false
def turnR (ps l:List PairL):Option (List PairL × List UInt8):=if rootOk l=true∧addOk ps (nodesR l)=true then some (addR ps (nodesR l),rootR l) else none
def updR (ps:List PairL) (root key val:List UInt8):Option (List PairL × List UInt8):=(pairsAtR ps root).bind fun l=>if pairsOkL (setL l key val)=true then turnR ps (setL l key val) else none
def putR (ps:List PairL) (root key val:List UInt8):Option (List PairL × List UInt8):=if val=[] then none else updR ps root key val
def cutR (ps:List PairL) (root key:List UInt8):Option (List PairL × List UInt8):=if key.length≤12 then updR ps root key [] else none
def UPost (w:World) (res:Option (List PairL × List UInt8)) (e:Ending) (w':World):Prop:=∃ (a:Option Addr) (m c:Nat),e=.returned (.tuple #[.slice a m c,.string ⟨((res.map (·.2)).getD []).toArray⟩,.bool res.isSome])∧w'.ownsRow w.heap.size 85 2 (.slice a m c) ((res.map (·.1)).getD []).length (pcells ((res.map (·.1)).getD []))∧Below w.heap.size w w'
theorem up_none {w w':World} {res:Option (List PairL × List UInt8)} (h:res=none) (hb:Below w.heap.size w w'):UPost w res (.returned (.tuple #[.slice none 0 0,.string ⟨#[]⟩,.bool false])) w':=by
 subst h
 exact⟨none,0,0,rfl,World.ownsRow_nil _ _ _ _,hb⟩
theorem UPost.later {w w1 w':World} {res:Option (List PairL × List UInt8)} {e:Ending} (h:UPost w1 res e w') (hb:Below w.heap.size w w1):UPost w res e w':=by
 obtain⟨a,m,c,he,ho,hb'⟩:=h
 exact⟨a,m,c,he,ho.mono hb.size,hb.trans (hb'.mono hb.size)⟩
theorem pairsAt_ok {ps:List PairL} {root:List UInt8} {l:List PairL} (h:pairsAtR ps root=some l):pairsOkL l=true:=by
 unfold pairsAtR at h
 split at h
 · split at h
   · cases h;rfl
   · rw[Option.bind_eq_some_iff] at h
     obtain⟨x,_,hx⟩:=h
     split at hx
     · rename_i h1
       cases hx
       have:=h1.1
       simp only[rootOk,Bool.and_eq_true] at this
       exact this.1
     · cases hx
 · cases h
set_option maxRecDepth 100000 in
set_option maxHeartbeats 2000000 in
theorem impl_storeWith (a1:Option Addr) (cap:Nat) (ps:List PairL) (a2:Option Addr) (c2:Nat) (l:List PairL) (w:World) (hT:Tab w) (hl:ps.length≤1048576) (hm:∀ p∈ps,p.1.length≤1048576∧p.2.length≤1048576) (hs:IsPairs w a1 ps) (hl2:l.length≤1048576) (hm2:∀ p∈l,p.1.length≤1048576∧p.2.length≤1048576) (hs2:IsPairs w a2 l) :
 Calls Tryz.prog 47 #[.slice a1 ps.length cap,.slice a2 l.length c2] w fun e w'=>UPost w (turnR ps l) e w':=by
 have K:=impl_laidOut a2 c2 l w hl2 hm2 hs2 hT
 have HT:Hid (Tab w):=hT
 have HKA:Hid (∀ (a':Option Addr) (c:Nat) W,Below w.heap.size w W→Tab W→IsPairs W a' (nodesR l)→Calls Tryz.prog 72 #[.slice a1 ps.length cap,.slice a' (nodesR l).length c] W fun e w'=>AddPost W ps (nodesR l) e w'):=fun a' c W hW hTW h=>impl_storeAddG a1 cap ps a' c (nodesR l) W hTW hl hm (hs.later hW) (by have:=nodesR_len l;omega) (nodes_small l) h
 have HR:Hid (turnR ps l=if rootOk l=true∧addOk ps (nodesR l)=true then some (addR ps (nodesR l),rootR l) else none):=rfl
 unfold AddPost at HKA
 obtain⟨res,hres⟩:∃ res,res=turnR ps l:=⟨_,rfl⟩
 obtain⟨ns,hns⟩:∃ ns,ns=nodesR l:=⟨_,rfl⟩
 obtain⟨ro,hro⟩:∃ ro,ro=rootOk l:=⟨_,rfl⟩
 obtain⟨rr,hrr⟩:∃ rr,rr=rootR l:=⟨_,rfl⟩
 rw[←hres] at HR ⊢
 rw[←hns,←hro,←hrr] at K HR
 rw[←hns] at HKA
 obtain⟨ao,hao⟩:∃ ao,ao=addOk ps ns:=⟨_,rfl⟩
 obtain⟨ar,har⟩:∃ ar,ar=addR ps ns:=⟨_,rfl⟩
 rw[←hao,←har] at HR HKA
 clear hres hns hro hrr hao har hs hm hs2 hm2 hT
 go_enter Tryz.func47,Tryz.ntmps47
 go_wp2_with fail
 refine K.mono ?_
 rintro e w1 ⟨a3,m3,c3,rfl,o3,b1⟩
 obtain⟨rfl,_,i3⟩:=isPairs_own o3
 cases ro with
 | false =>
   have HN:Hid (res=none):=HR.out.trans (if_neg (fun h=>by simp at h))
   clear HR o3 i3
   go_wp2
   go_ret3
   exact up_none HN.out b1
 | true =>
   have K2:=HKA.out a3 c3 w1 b1 (HT.out.later b1) i3
   clear o3 i3 HKA K
   go_wp2_with fail
   refine K2.mono ?_
   rintro e w2 ⟨a4,m4,c4,rfl,o4,b2⟩
   have B2:=b1.trans (b2.mono b1.size)
   have O4:Hid (w2.ownsRow w.heap.size 85 2 (.slice a4 m4 c4) ar.length (pcells ar)):=o4.mono b1.size
   clear K2 o4 b2
   cases ao with
   | false =>
     have HN:Hid (res=none):=HR.out.trans (if_neg (fun h=>by simp at h))
     clear HR
     go_wp2
     go_ret3
     exact up_none HN.out B2
   | true =>
     have HN:Hid (res=some (ar,rr)):=HR.out.trans (if_pos (by simp))
     clear HR
     go_wp2
     go_ret3
     rw[HN.out]
     exact⟨a4,m4,c4,rfl,O4.out,B2⟩
theorem impl_setPairA (a:Option Addr) (m c base e:Nat) (l:List PairL) (k v:List UInt8) (w:World) (hm:∀ p∈l,p.1.length≤1048576∧p.2.length≤1048576) (hl:l.length≤1048576) (hkl:k.length≤1048576) (hvl:v.length≤1048576) (ho:w.ownsRow base e 2 (.slice a m c) l.length (pcells l)) :
 Calls Tryz.prog 11 #[.slice a m c,.string ⟨k.toArray⟩,.string ⟨v.toArray⟩] w fun e w'=>∃ (a':Option Addr) (m cap:Nat),e=.returned (.tuple #[.slice a' m cap,.bool (setOk l k v)])∧w'.ownsRow w.heap.size 60 2 (.slice a' m cap) (setR l k v).length (pcells (setR l k v))∧Below w.heap.size w w':=by
 obtain⟨hmm,_,hi⟩:=isPairs_own ho
 rcases own_cases2 ho with ⟨hv,hn,_⟩ | ⟨g,cap,hv,_⟩
 · cases hv
   obtain rfl:=List.length_eq_zero_iff.1 hn
   exact impl_setPair0 k v w hkl hvl
 · cases hv
   exact impl_setPair g 0 c l k v w hl (own_capP ho) hm hkl hvl hi
set_option maxRecDepth 100000 in
set_option maxHeartbeats 2000000 in
theorem impl_updated (a:Option Addr) (cap:Nat) (ps:List PairL) (root key val:List UInt8) (w:World) (hT:Tab w) (hl:ps.length≤1048576) (hm:∀ p∈ps,p.1.length≤1048576∧p.2.length≤1048576) (hs:IsPairs w a ps) (hr:root.length≤1048576) (hk:key.length≤1048576) (hv:val.length≤1048576) :
 Calls Tryz.prog 24 #[.slice a ps.length cap,.string ⟨root.toArray⟩,.string ⟨key.toArray⟩,.string ⟨val.toArray⟩] w fun e w'=>UPost w (updR ps root key val) e w':=by
 have K:=impl_pairsAt a cap ps root w hT hl hm hs hr
 have HT:Hid (Tab w):=hT
 have HPO:Hid (∀ l,pairsAtR ps root=some l→pairsOkL l=true):=fun l h=>pairsAt_ok h
 have HRN:Hid (pairsAtR ps root=none→updR ps root key val=none):=fun h=>by unfold updR;rw[h];rfl
 have HRS:Hid (∀ l,pairsAtR ps root=some l→updR ps root key val=if pairsOkL (setL l key val)=true then turnR ps (setL l key val) else none):=fun l h=>by unfold updR;rw[h];rfl
 have HKW:Hid (∀ (a2:Option Addr) (c2:Nat) (l:List PairL) W,Below w.heap.size w W→Tab W→l.length≤1048576→(∀ p∈l,p.1.length≤1048576∧p.2.length≤1048576)→IsPairs W a2 l→Calls Tryz.prog 47 #[.slice a ps.length cap,.slice a2 l.length c2] W fun e w'=>UPost W (turnR ps l) e w'):=fun a2 c2 l W hW hTW h1 h2 h3=>impl_storeWith a cap ps a2 c2 l W hTW hl hm (hs.later hW) h1 h2 h3
 unfold PAPost at K
 obtain⟨pr,hpr⟩:∃ pr,pr=pairsAtR ps root:=⟨_,rfl⟩
 obtain⟨res,hres⟩:∃ res,res=updR ps root key val:=⟨_,rfl⟩
 rw[←hpr] at K HPO HRN HRS
 rw[←hres] at HRN HRS ⊢
 clear hpr hres hs hm hT
 go_enter Tryz.func24,Tryz.ntmps24
 go_wp2_with fail
 refine K.mono ?_
 rintro e w1 ⟨a1,m1,c1,rfl,o1,b1⟩
 cases pr with
 | none =>
   have HN:Hid (res=none):=HRN.out rfl
   clear o1 HRS HRN HPO
   go_wp2
   go_ret3
   exact up_none HN.out b1
 | some l =>
   simp only[Option.getD_some,Option.isSome_some] at o1 ⊢
   have hlo:=HPO.out l rfl
   have hlf:=fit_of l hlo
   have hlm:∀ p∈l,p.1.length≤1048576∧p.2.length≤1048576:=fun p hp=>by have:=hlf.2 p hp;omega
   have KS:=impl_setPairA a1 m1 c1 _ _ l key val w1 hlm (by have:=hlf.1;omega) hk hv o1
   have HR:Hid (res=if pairsOkL (setL l key val)=true then turnR ps (setL l key val) else none):=HRS.out l rfl
   have HSO:Hid (setOk l key val=pairsOkL (setL l key val)∧(pairsOkL (setL l key val)=true→setR l key val=setL l key val)):=by
    have h1:setOk l key val=pairsOkL (setL l key val):=by simp only[setOk,hlo,Bool.true_and]
    exact⟨h1,fun h=>by simp only[setR,h1,h,if_true]⟩
   have HF:Hid (pairsOkL (setL l key val)=true→fitP (setL l key val)):=fun h=>fit_of _ h
   rw[HSO.out.1] at KS
   obtain⟨sl,hsl⟩:∃ sl,sl=setL l key val:=⟨_,rfl⟩
   obtain⟨sr,hsr⟩:∃ sr,sr=setR l key val:=⟨_,rfl⟩
   rw[←hsl] at KS HR HSO HF
   rw[←hsr] at KS HSO
   obtain⟨so,hso⟩:∃ so,so=pairsOkL sl:=⟨_,rfl⟩
   rw[←hso] at KS HR HSO HF
   clear hsl hsr hso o1 K HRS HRN HPO hlm hlf hlo
   go_wp2_with fail
   refine KS.mono ?_
   rintro e w2 ⟨a2,m2,c2,rfl,o2,b2⟩
   have B2:=b1.trans (b2.mono b1.size)
   cases so with
   | false =>
     have HN:Hid (res=none):=HR.out.trans (if_neg (by simp))
     clear o2 b2 HR HSO HF KS HKW
     go_wp2
     go_ret3
     exact up_none HN.out B2
   | true =>
     have hsr:=HSO.out.2 rfl
     subst hsr
     have hft:=HF.out rfl
     obtain⟨rfl,_,i2⟩:=isPairs_own o2
     have KW:=HKW.out a2 c2 sr w2 B2 (HT.out.later B2) (by have:=hft.1;omega) (fun p hp=>by have:=hft.2 p hp;omega) i2
     have HN:Hid (res=turnR ps sr):=HR.out.trans (if_pos rfl)
     unfold UPost at KW
     obtain⟨tr,htr⟩:∃ tr,tr=turnR ps sr:=⟨_,rfl⟩
     rw[←htr] at KW HN
     clear o2 b2 HR HSO HF KS HKW i2 hft htr
     go_wp2_with fail
     refine KW.mono ?_
     rintro e w3 ⟨a3,m3,c3,rfl,o3,b3⟩
     have B3:=B2.trans (b3.mono B2.size)
     have O3:=hidOwn (o3.mono B2.size)
     clear o3 b3 KW
     go_wp2
     go_ret3
     rw[HN.out]
     exact⟨a3,m3,c3,rfl,O3.out,B3⟩
set_option maxRecDepth 100000 in
set_option maxHeartbeats 2000000 in
theorem impl_put (a:Option Addr) (cap:Nat) (ps:List PairL) (root key val:List UInt8) (w:World) (hT:Tab w) (hl:ps.length≤1048576) (hm:∀ p∈ps,p.1.length≤1048576∧p.2.length≤1048576) (hs:IsPairs w a ps) (hr:root.length≤1048576) (hk:key.length≤1048576) (hv:val.length≤1048576) :
 Calls Tryz.prog 8 #[.slice a ps.length cap,.string ⟨root.toArray⟩,.string ⟨key.toArray⟩,.string ⟨val.toArray⟩] w fun e w'=>UPost w (putR ps root key val) e w':=by
 have K:=impl_updated a cap ps root key val w hT hl hm hs hr hk hv
 by_cases hve:val=[]
 · have HN:Hid (putR ps root key val=none):=if_pos hve
   obtain⟨res,hres⟩:∃ res,res=putR ps root key val:=⟨_,rfl⟩
   rw[←hres] at HN ⊢
   subst hve
   clear hres hs hm hT K
   go_enter Tryz.func8,Tryz.ntmps8
   go_wp2
   go_ret3
   exact up_none HN.out (Below.refl _ _)
 · have hn:putR ps root key val=updR ps root key val:=if_neg hve
   rw[hn]
   have hvb:val.isEmpty=false:=by cases val with | nil=>exact absurd rfl hve | cons _ _=>rfl
   unfold UPost at K ⊢
   obtain⟨res,hres⟩:∃ res,res=updR ps root key val:=⟨_,rfl⟩
   rw[←hres] at K ⊢
   clear hres hn hs hm hT hve
   go_enter Tryz.func8,Tryz.ntmps8
   go_wp2_with fail
   refine K.mono ?_
   rintro e w1 ⟨a1,m1,c1,rfl,o1,b1⟩
   have O1:=hidOwn o1
   clear o1 K
   go_wp2
   go_ret3
   exact⟨a1,m1,c1,rfl,O1.out,b1⟩
set_option maxRecDepth 100000 in
set_option maxHeartbeats 2000000 in
theorem impl_cut (a:Option Addr) (cap:Nat) (ps:List PairL) (root key:List UInt8) (w:World) (hT:Tab w) (hl:ps.length≤1048576) (hm:∀ p∈ps,p.1.length≤1048576∧p.2.length≤1048576) (hs:IsPairs w a ps) (hr:root.length≤1048576) (hk:key.length≤1048576) :
 Calls Tryz.prog 16 #[.slice a ps.length cap,.string ⟨root.toArray⟩,.string ⟨key.toArray⟩] w fun e w'=>UPost w (cutR ps root key) e w':=by
 have K:=impl_updated a cap ps root key [] w hT hl hm hs hr hk (by simp)
 have hzk:(ByteArray.mk key.toArray).size=key.length:=by simp[ByteArray.size]
 by_cases hke:key.length≤12
 · have hn:cutR ps root key=updR ps root key []:=if_pos hke
   rw[hn]
   have hki:(key.length:Int)≤12:=by omega
   unfold UPost at K ⊢
   obtain⟨res,hres⟩:∃ res,res=updR ps root key []:=⟨_,rfl⟩
   rw[←hres] at K ⊢
   clear hres hn hs hm hT
   go_enter Tryz.func16,Tryz.ntmps16
   go_wp2_with fail
   refine K.mono ?_
   rintro e w1 ⟨a1,m1,c1,rfl,o1,b1⟩
   have O1:=hidOwn o1
   clear o1 K
   go_wp2
   go_ret3
   exact⟨a1,m1,c1,rfl,O1.out,b1⟩
 · have HN:Hid (cutR ps root key=none):=if_neg hke
   obtain⟨res,hres⟩:∃ res,res=cutR ps root key:=⟨_,rfl⟩
   rw[←hres] at HN ⊢
   have hki:¬ (key.length:Int)≤12:=by omega
   clear hres hs hm hT K
   go_enter Tryz.func16,Tryz.ntmps16
   go_wp2
   go_ret3
   exact up_none HN.out (Below.refl _ _)
set_option maxRecDepth 100000 in
set_option maxHeartbeats 2000000 in
theorem spec_l7Turn (a0:Option Addr) (cap:Nat) (ps:List PairL) (a2:Option Addr) (c2:Nat) (l:List PairL) (w:World) (hl:ps.length≤1048576) (hm:∀ p∈ps,p.1.length≤1048576∧p.2.length≤1048576) (hs:IsPairs w a0 ps) (hl2:l.length≤1048576) (hm2:∀ p∈l,p.1.length≤1048576∧p.2.length≤1048576) (hs2:IsPairs w a2 l) (hca:a0=none→cap=0) :
 Calls Tryz.prog 26 #[.slice a0 ps.length cap,.slice a2 l.length c2] w fun e w'=>UPost w (turnR ps l) e w':=by
 have K:=spec_pairsOk a2 c2 l w hl2 hm2 hs2
 by_cases hpo:pairsOkL l=true
 · rw [hpo] at K
   have KM:Hid (∀ W,Below w.heap.size w W→_):=fun W hW=>spec_l5Made a2 c2 l W (fit_of l hpo) (hs2.later hW)
   have HKA:Hid (∀ (g c:Nat) W,Below w.heap.size w W→IsPairs W (some ⟨g,0,none⟩) (nodesR l)→Calls Tryz.prog 45 #[.slice a0 ps.length cap,.slice (some ⟨g,0,none⟩) (nodesR l).length c] W fun e w'=>AddPost W ps (nodesR l) e w'):=fun g c W hW h=>spec_storeAddG a0 cap ps (some ⟨g,0,none⟩) c (nodesR l) W hl hm (hs.later hW) (by have:=nodesR_len l;omega) (nodes_small l) h hca (fun h=>by cases h)
   have HR:Hid (turnR ps l=if rootOk l=true∧addOk ps (nodesR l)=true then some (addR ps (nodesR l),rootR l) else none):=rfl
   have e1:rootOk l=madeOk (allL l):=by simp[rootOk,hpo]
   have e2:nodesR l=if madeOk (allL l) then sortedL (allL l) else []:=by simp[nodesR,e1]
   have e3:rootR l=if madeOk (allL l) then rootOr (allL l) else []:=by simp[rootR,e1]
   unfold AddPost at HKA
   rw[←e2,←e3] at KM
   rw[e1] at HR
   obtain⟨res,hres⟩:∃ res,res=turnR ps l:=⟨_,rfl⟩
   obtain⟨ns,hns⟩:∃ ns,ns=nodesR l:=⟨_,rfl⟩
   obtain⟨ro,hro⟩:∃ ro,ro=madeOk (allL l):=⟨_,rfl⟩
   obtain⟨rr,hrr⟩:∃ rr,rr=rootR l:=⟨_,rfl⟩
   rw[←hres] at HR ⊢
   rw[←hns,←hro,←hrr] at KM HR
   rw[←hns] at HKA
   obtain⟨ao,hao⟩:∃ ao,ao=addOk ps ns:=⟨_,rfl⟩
   obtain⟨ar,har⟩:∃ ar,ar=addR ps ns:=⟨_,rfl⟩
   rw[←hao,←har] at HR HKA
   clear hres hns hro hrr hao har hs hm hs2 hm2 e1 e2 e3 hpo hca
   go_enter Tryz.func26,Tryz.ntmps26
   go_wp2_with fail
   refine K.mono ?_
   rintro e w0 ⟨rfl,b0⟩
   have K1:=KM.out w0 b0
   clear KM K
   go_wp2_with fail
   refine K1.mono ?_
   rintro e w1 ⟨a3,m3,c3,rfl,⟨o3,hg3⟩,b1'⟩
   have b1:=b0.trans (b1'.mono b0.size)
   obtain⟨rfl,_,i3⟩:=isPairs_own o3
   cases ro with
   | false =>
     have HN:Hid (res=none):=HR.out.trans (if_neg (fun h=>by simp at h))
     clear HR o3 i3 hg3 K1
     go_wp2
     go_ret3
     exact up_none HN.out b1
   | true =>
     obtain⟨g3,rfl⟩:=hg3 rfl
     have K2:=HKA.out g3 c3 w1 b1 i3
     clear o3 i3 HKA K1 hg3 b1' b0
     go_wp2_with fail
     refine K2.mono ?_
     rintro e w2 ⟨a4,m4,c4,rfl,o4,b2⟩
     have B2:=b1.trans (b2.mono b1.size)
     have O4:Hid (w2.ownsRow w.heap.size 85 2 (.slice a4 m4 c4) ar.length (pcells ar)):=o4.mono b1.size
     clear K2 o4 b2
     cases ao with
     | false =>
       have HN:Hid (res=none):=HR.out.trans (if_neg (fun h=>by simp at h))
       clear HR
       go_wp2
       go_ret3
       exact up_none HN.out B2
     | true =>
       have HN:Hid (res=some (ar,rr)):=HR.out.trans (if_pos (by simp))
       clear HR
       go_wp2
       go_ret3
       rw[HN.out]
       exact⟨a4,m4,c4,rfl,O4.out,B2⟩
 · have HN:Hid (turnR ps l=none):=if_neg (fun h=>by have:=h.1;simp[rootOk,hpo] at this)
   have hpo':pairsOkL l=false:=by simpa using hpo
   rw[hpo'] at K
   obtain⟨res,hres⟩:∃ res,res=turnR ps l:=⟨_,rfl⟩
   rw[←hres] at HN ⊢
   clear hca hres hs hm hs2 hm2 hpo hpo'
   go_enter Tryz.func26,Tryz.ntmps26
   go_wp2_with fail
   refine K.mono ?_
   rintro e w0 ⟨rfl,b0⟩
   go_wp2
   go_ret3
   exact up_none HN.out b0
theorem turn_no {ps l:List PairL} (h:¬ pairsOkL l=true):turnR ps l=none:=if_neg (fun h1=>by have:=h1.1;simp[rootOk,h] at this)
theorem upd_turn {ps:List PairL} {root key val:List UInt8} {l:List PairL} (h:pairsAtR ps root=some l):updR ps root key val=turnR ps (setL l key val):=by
 unfold updR
 rw[h]
 show (if pairsOkL (setL l key val)=true then turnR ps (setL l key val) else none)=_
 split
 · rfl
 · rename_i hn;exact (turn_no hn).symm
set_option maxRecDepth 100000 in
set_option maxHeartbeats 2000000 in
theorem spec_put (a0:Option Addr) (cap:Nat) (ps:List PairL) (root key val:List UInt8) (w:World) (hl:ps.length≤1048576) (hm:∀ p∈ps,p.1.length≤1048576∧p.2.length≤1048576) (hs:IsPairs w a0 ps) (hk:key.length≤1048576) (hv:val.length≤1048576) (hca:a0=none→cap=0) :
 Calls Tryz.prog 9 #[.slice a0 ps.length cap,.string ⟨root.toArray⟩,.string ⟨key.toArray⟩,.string ⟨val.toArray⟩] w fun e w'=>UPost w (putR ps root key val) e w':=by
 have K:=spec_pairsAt a0 cap ps root w hl hm hs
 have HS:Hid (∀ W,Below w.heap.size w W→IsPairs W a0 ps):=fun W hW=>hs.later hW
 have HPO:Hid (∀ l,pairsAtR ps root=some l→pairsOkL l=true):=fun l h=>pairsAt_ok h
 have HRN:Hid (pairsAtR ps root=none→putR ps root key val=none):=fun h=>by
  unfold putR updR
  rw[h]
  split <;> rfl
 have HRS:Hid (val≠[]→∀ l,pairsAtR ps root=some l→putR ps root key val=turnR ps (setL l key val)):=fun hg l h=>by
  rw[←upd_turn h]
  exact if_neg hg
 have HRB:Hid (¬ (val≠[])→putR ps root key val=none):=fun hg=>if_pos (Classical.not_not.1 hg)
 have HKT:Hid (∀ (g c2:Nat) (l:List PairL) W,Below w.heap.size w W→l.length≤1048576→(∀ p∈l,p.1.length≤1048576∧p.2.length≤1048576)→IsPairs W (some ⟨g,0,none⟩) l→Calls Tryz.prog 26 #[.slice a0 ps.length cap,.slice (some ⟨g,0,none⟩) l.length c2] W fun e w'=>UPost W (turnR ps l) e w'):=fun g c2 l W hW h1 h2 h3=>spec_l7Turn a0 cap ps (some ⟨g,0,none⟩) c2 l W hl hm (hs.later hW) h1 h2 h3 hca
 unfold PAPost at K
 obtain⟨pr,hpr⟩:∃ pr,pr=pairsAtR ps root:=⟨_,rfl⟩
 obtain⟨res,hres⟩:∃ res,res=putR ps root key val:=⟨_,rfl⟩
 rw[←hpr] at K HPO HRN HRS
 rw[←hres] at HRN HRS HRB ⊢
 clear hpr hres hs hm hca
 cases pr with
 | none =>
   have HN:Hid (res=none):=HRN.out rfl
   clear HRS HRN HPO HRB
   go_enter Tryz.func9,Tryz.ntmps9
   go_wp2_with fail
   refine K.mono ?_
   rintro e w1 ⟨a1,m1,c1,rfl,o1,b1⟩
   clear o1
   go_wp2
   go_ret3
   exact up_none HN.out b1
 | some l =>
   simp only[Option.getD_some,Option.isSome_some] at K
   have hlf:=fit_of l (HPO.out l rfl)
   have hlm:∀ p∈l,p.1.length≤1048576∧p.2.length≤1048576:=fun p hp=>by have:=hlf.2 p hp;omega
   have hl60:=hlf.1
   by_cases hg:val≠[]
   · have HR:Hid (res=turnR ps (setL l key val)):=HRS.out hg l rfl
     have KS:Hid (∀ (a:Option Addr) (c:Nat) W,IsPairs W a l→_):=fun a c W h=>l5Set_any a c l key val W (by omega) hlm hk hv h
     have hsm:∀ p∈setL l key val,p.1.length≤1048576∧p.2.length≤1048576:=fun p hp=>by
      rcases setL_mem l key val p hp with h | h
      · rw[h];exact⟨hk,hv⟩
      · exact hlm p h
     have HSM:Hid (∀ p∈setL l key val,p.1.length≤1048576∧p.2.length≤1048576):=hsm
     obtain⟨sl,hsl⟩:∃ sl,sl=setL l key val:=⟨_,rfl⟩
     rw[←hsl] at HR KS HSM
     have hvb:val.isEmpty=false:=by cases val with | nil=>exact absurd rfl hg | cons _ _=>rfl
     clear hg
     clear hsl hsm hlm hlf HRS HRN HPO HRB
     go_enter Tryz.func9,Tryz.ntmps9
     go_wp2_with fail
     refine K.mono ?_
     rintro e w1 ⟨a1,m1,c1,rfl,o1,b1⟩
     obtain⟨rfl,_,i1⟩:=isPairs_own o1
     have K2:=KS.out a1 c1 w1 i1
     clear o1 i1 K KS
     go_wp2_with fail
     refine K2.mono ?_
     rintro e w2 ⟨g2,c2,rfl,hl2,o2,b2⟩
     have B2:=b1.trans (b2.mono b1.size)
     have K3:=HKT.out g2 c2 sl w2 B2 (by omega) HSM.out (isPairs_own o2).2.2
     unfold UPost at K3
     obtain⟨tr,htr⟩:∃ tr,tr=turnR ps sl:=⟨_,rfl⟩
     rw[←htr] at K3 HR
     clear o2 b2 K2 HKT htr HSM b1
     go_wp2_with fail
     refine K3.mono ?_
     rintro e w3 ⟨a3,m3,c3,rfl,o3,b3⟩
     have B3:=B2.trans (b3.mono B2.size)
     have O3:=hidOwn (o3.mono B2.size)
     clear o3 b3 K3
     go_wp2
     go_ret3
     rw[HR.out]
     exact⟨a3,m3,c3,rfl,O3.out,B3⟩
   · have HN:Hid (res=none):=HRB.out hg
     obtain rfl:=Classical.not_not.1 hg
     clear hg
     clear hlm hlf HRS HRN HPO HRB
     go_enter Tryz.func9,Tryz.ntmps9
     go_wp2_with fail
     refine K.mono ?_
     rintro e w1 ⟨a1,m1,c1,rfl,o1,b1⟩
     clear o1
     go_wp2
     go_ret3
     exact up_none HN.out b1
set_option maxRecDepth 100000 in
set_option maxHeartbeats 2000000 in
theorem spec_cut (a0:Option Addr) (cap:Nat) (ps:List PairL) (root key:List UInt8) (w:World) (hl:ps.length≤1048576) (hm:∀ p∈ps,p.1.length≤1048576∧p.2.length≤1048576) (hs:IsPairs w a0 ps) (hk:key.length≤1048576) (hca:a0=none→cap=0) :
 Calls Tryz.prog 17 #[.slice a0 ps.length cap,.string ⟨root.toArray⟩,.string ⟨key.toArray⟩] w fun e w'=>UPost w (cutR ps root key) e w':=by
 have K:=spec_pairsAt a0 cap ps root w hl hm hs
 have HS:Hid (∀ W,Below w.heap.size w W→IsPairs W a0 ps):=fun W hW=>hs.later hW
 have HPO:Hid (∀ l,pairsAtR ps root=some l→pairsOkL l=true):=fun l h=>pairsAt_ok h
 have hzk:(ByteArray.mk key.toArray).size=key.length:=by simp[ByteArray.size]
 have HRN:Hid (pairsAtR ps root=none→cutR ps root key=none):=fun h=>by
  unfold cutR updR
  rw[h]
  split <;> rfl
 have HRS:Hid (key.length≤12→∀ l,pairsAtR ps root=some l→cutR ps root key=turnR ps (setL l key [])):=fun hg l h=>by
  rw[←upd_turn h]
  exact if_pos hg
 have HRB:Hid (¬ (key.length≤12)→cutR ps root key=none):=fun hg=>if_neg hg
 have HKT:Hid (∀ (g c2:Nat) (l:List PairL) W,Below w.heap.size w W→l.length≤1048576→(∀ p∈l,p.1.length≤1048576∧p.2.length≤1048576)→IsPairs W (some ⟨g,0,none⟩) l→Calls Tryz.prog 26 #[.slice a0 ps.length cap,.slice (some ⟨g,0,none⟩) l.length c2] W fun e w'=>UPost W (turnR ps l) e w'):=fun g c2 l W hW h1 h2 h3=>spec_l7Turn a0 cap ps (some ⟨g,0,none⟩) c2 l W hl hm (hs.later hW) h1 h2 h3 hca
 unfold PAPost at K
 obtain⟨pr,hpr⟩:∃ pr,pr=pairsAtR ps root:=⟨_,rfl⟩
 obtain⟨res,hres⟩:∃ res,res=cutR ps root key:=⟨_,rfl⟩
 rw[←hpr] at K HPO HRN HRS
 rw[←hres] at HRN HRS HRB ⊢
 clear hpr hres hs hm hca
 cases pr with
 | none =>
   have HN:Hid (res=none):=HRN.out rfl
   clear HRS HRN HPO HRB
   go_enter Tryz.func17,Tryz.ntmps17
   go_wp2_with fail
   refine K.mono ?_
   rintro e w1 ⟨a1,m1,c1,rfl,o1,b1⟩
   clear o1
   go_wp2
   go_ret3
   exact up_none HN.out b1
 | some l =>
   simp only[Option.getD_some,Option.isSome_some] at K
   have hlf:=fit_of l (HPO.out l rfl)
   have hlm:∀ p∈l,p.1.length≤1048576∧p.2.length≤1048576:=fun p hp=>by have:=hlf.2 p hp;omega
   have hl60:=hlf.1
   by_cases hg:key.length≤12
   · have HR:Hid (res=turnR ps (setL l key [])):=HRS.out hg l rfl
     have KS:Hid (∀ (a:Option Addr) (c:Nat) W,IsPairs W a l→_):=fun a c W h=>l5Set_any a c l key [] W (by omega) hlm hk (by simp) h
     have hsm:∀ p∈setL l key [],p.1.length≤1048576∧p.2.length≤1048576:=fun p hp=>by
      rcases setL_mem l key [] p hp with h | h
      · rw[h];exact⟨hk,(by simp)⟩
      · exact hlm p h
     have HSM:Hid (∀ p∈setL l key [],p.1.length≤1048576∧p.2.length≤1048576):=hsm
     obtain⟨sl,hsl⟩:∃ sl,sl=setL l key []:=⟨_,rfl⟩
     rw[←hsl] at HR KS HSM
     have hki:(key.length:Int)≤12:=by omega
     have hkd:decide ((12:Int)<(key.length:Int))=false:=by simp;omega
     clear hsl hsm hlm hlf HRS HRN HPO HRB
     go_enter Tryz.func17,Tryz.ntmps17
     go_wp2_with fail
     refine K.mono ?_
     rintro e w1 ⟨a1,m1,c1,rfl,o1,b1⟩
     obtain⟨rfl,_,i1⟩:=isPairs_own o1
     have K2:=KS.out a1 c1 w1 i1
     clear o1 i1 K KS
     go_wp2_with fail
     refine K2.mono ?_
     rintro e w2 ⟨g2,c2,rfl,hl2,o2,b2⟩
     have B2:=b1.trans (b2.mono b1.size)
     have K3:=HKT.out g2 c2 sl w2 B2 (by omega) HSM.out (isPairs_own o2).2.2
     unfold UPost at K3
     obtain⟨tr,htr⟩:∃ tr,tr=turnR ps sl:=⟨_,rfl⟩
     rw[←htr] at K3 HR
     clear o2 b2 K2 HKT htr HSM b1
     go_wp2_with fail
     refine K3.mono ?_
     rintro e w3 ⟨a3,m3,c3,rfl,o3,b3⟩
     have B3:=B2.trans (b3.mono B2.size)
     have O3:=hidOwn (o3.mono B2.size)
     clear o3 b3 K3
     go_wp2
     go_ret3
     rw[HR.out]
     exact⟨a3,m3,c3,rfl,O3.out,B3⟩
   · have HN:Hid (res=none):=HRB.out hg
     have hki:¬ (key.length:Int)≤12:=by omega
     have hkd:decide ((12:Int)<(key.length:Int))=true:=by simp;omega
     clear hlm hlf HRS HRN HPO HRB
     go_enter Tryz.func17,Tryz.ntmps17
     go_wp2_with fail
     refine K.mono ?_
     rintro e w1 ⟨a1,m1,c1,rfl,o1,b1⟩
     clear o1
     go_wp2
     go_ret3
     exact up_none HN.out b1
end Go.Proofs.YtbdboicobkcggaaGreatDoor
