/-
 Texts that are laid as one: Upd, UpdI, UpdS.
-/
import Derived.Test.YthbfhofogoagdaaGreatDoorPairsAt
import Derived.Test.YthbfhofogoagdaaGreatDoorIAdds
import Derived.Test.YthbfhofogoagdaaGreatDoorSetAll
import Derived.Test.YthbfhofogoagdaaGreatDoorLaidAll
namespace Go.Proofs.YthbfhofogoagdaaGreatDoor
open Go.RowKit
set_option linter.unusedVariables false
def turnR (ps l:List PairL):Option (List PairL × List UInt8):=if rootOk l=true∧addOk ps (nodesR l)=true then some (addR ps (nodesR l),rootR l) else none
def UPost (w:World) (res:Option (List PairL × List UInt8)) (e:Ending) (w':World):Prop:=∃ (a:Option Addr) (m c:Nat),e=.returned (.tuple #[.slice a m c,.string ⟨((res.map (·.2)).getD []).toArray⟩,.bool res.isSome])∧w'.ownsRow w.heap.size 50 2 (.slice a m c) ((res.map (·.1)).getD []).length (pcells ((res.map (·.1)).getD []))∧Below w.heap.size w w'
theorem up_none {w w':World} {res:Option (List PairL × List UInt8)} (h:res=none) (hb:Below w.heap.size w w'):UPost w res (.returned (.tuple #[.slice none 0 0,.string ⟨#[]⟩,.bool false])) w':=by
 subst h
 exact⟨none,0,0,rfl,World.ownsRow_nil _ _ _ _,hb⟩
theorem UPost.later {w w1 w':World} {res:Option (List PairL × List UInt8)} {e:Ending} (h:UPost w1 res e w') (hb:Below w.heap.size w w1):UPost w res e w':=by
 obtain⟨a,m,c,he,ho,hb'⟩:=h
 exact⟨a,m,c,he,ho.mono hb.size,hb.trans (hb'.mono hb.size)⟩
theorem pairsAt_ok {ps:List PairL} {root:List UInt8} {l:List PairL} (h:pairsAtR ps root=some l):pairsOkL l=true:=by
 unfold pairsAtR at h
 split at h
 · split at h
   · cases h;rfl
   · rw[Option.bind_eq_some_iff] at h
     obtain⟨x,_,hx⟩:=h
     split at hx
     · rename_i h1
       cases hx
       have:=h1.1
       simp only[rootOk,Bool.and_eq_true] at this
       exact this.1
     · cases hx
 · cases h
theorem add_len (ps qs:List PairL):(addR ps qs).length≤ps.length+qs.length:=by
 have h1:=sorted_len (ps ++ qs) (ps ++ qs).length (Nat.le_refl _)
 rw[List.take_length,List.length_append] at h1
 unfold addR
 split
 · omega
 · simp
set_option maxRecDepth 100000 in
set_option maxHeartbeats 2000000 in
theorem impl_storeWith (a1:Option Addr) (cap:Nat) (ps:List PairL) (a2:Option Addr) (c2:Nat) (l:List PairL) (w:World) (hT:Tab w) (hl:ps.length≤1048576) (hm:∀ p∈ps,p.1.length≤1048576∧p.2.length≤1048576) (hs:IsPairs w a1 ps) (hl2:l.length≤1048576) (hm2:∀ p∈l,p.1.length≤1048576∧p.2.length≤1048576) (hs2:IsPairs w a2 l) :
 Calls Tryz.prog 24 #[.slice a1 ps.length cap,.slice a2 l.length c2] w fun e w'=>UPost w (turnR ps l) e w':=by
 have K:=impl_laidOut a2 c2 l w hl2 hm2 hs2 hT
 have HT:Hid (Tab w):=hT
 have HKA:Hid (∀ (a':Option Addr) (c:Nat) W,Below w.heap.size w W→Tab W→IsPairs W a' (nodesR l)→Calls Tryz.prog 48 #[.slice a1 ps.length cap,.slice a' (nodesR l).length c] W fun e w'=>AddPost W ps (nodesR l) e w'):=fun a' c W hW hTW h=>impl_storeAddG a1 cap ps a' c (nodesR l) W hTW hl hm (hs.later hW) (by have:=nodesR_len l;omega) (nodes_small l) h
 have HR:Hid (turnR ps l=if rootOk l=true∧addOk ps (nodesR l)=true then some (addR ps (nodesR l),rootR l) else none):=rfl
 unfold AddPost at HKA
 obtain⟨res,hres⟩:∃ res,res=turnR ps l:=⟨_,rfl⟩
 obtain⟨ns,hns⟩:∃ ns,ns=nodesR l:=⟨_,rfl⟩
 obtain⟨ro,hro⟩:∃ ro,ro=rootOk l:=⟨_,rfl⟩
 obtain⟨rr,hrr⟩:∃ rr,rr=rootR l:=⟨_,rfl⟩
 rw[←hres] at HR ⊢
 rw[←hns,←hro,←hrr] at K HR
 rw[←hns] at HKA
 obtain⟨ao,hao⟩:∃ ao,ao=addOk ps ns:=⟨_,rfl⟩
 obtain⟨ar,har⟩:∃ ar,ar=addR ps ns:=⟨_,rfl⟩
 rw[←hao,←har] at HR HKA
 clear hres hns hro hrr hao har hs hm hs2 hm2 hT
 go_enter Tryz.func24,Tryz.ntmps24
 go_wp2_with fail
 refine K.mono ?_
 rintro e w1 ⟨a3,m3,c3,rfl,o3,b1⟩
 obtain⟨rfl,_,i3⟩:=isPairs_own o3
 cases ro with
 | false =>
   have HN:Hid (res=none):=HR.out.trans (if_neg (fun h=>by simp at h))
   clear HR o3 i3
   go_wp2
   go_ret3
   exact up_none HN.out b1
 | true =>
   have K2:=HKA.out a3 c3 w1 b1 (HT.out.later b1) i3
   clear o3 i3 HKA K
   go_wp2_with fail
   refine K2.mono ?_
   rintro e w2 ⟨a4,m4,c4,rfl,o4,b2⟩
   have B2:=b1.trans (b2.mono b1.size)
   have O4:Hid (w2.ownsRow w.heap.size 50 2 (.slice a4 m4 c4) ar.length (pcells ar)):=o4.mono b1.size
   clear K2 o4 b2
   cases ao with
   | false =>
     have HN:Hid (res=none):=HR.out.trans (if_neg (fun h=>by simp at h))
     clear HR
     go_wp2
     go_ret3
     exact up_none HN.out B2
   | true =>
     have HN:Hid (res=some (ar,rr)):=HR.out.trans (if_pos (by simp))
     clear HR
     go_wp2
     go_ret3
     rw[HN.out]
     exact⟨a4,m4,c4,rfl,O4.out,B2⟩
set_option maxRecDepth 100000 in
set_option maxHeartbeats 2000000 in
theorem spec_l7Turn (b off cap:Nat) (ps:List PairL) (a2:Option Addr) (c2:Nat) (l:List PairL) (w:World) (hl:ps.length≤1048576) (hm:∀ p∈ps,p.1.length≤1048576∧p.2.length≤1048576) (hs:IsPairs w (some ⟨b,off,none⟩) ps) (hl2:l.length≤1048576) (hm2:∀ p∈l,p.1.length≤1048576∧p.2.length≤1048576) (hs2:IsPairs w a2 l) :
 Calls Tryz.prog 19 #[.slice (some ⟨b,off,none⟩) ps.length cap,.slice a2 l.length c2] w fun e w'=>UPost w (turnR ps l) e w':=by
 have K:=spec_pairsOk a2 c2 l w hl2 hm2 hs2
 by_cases hpo:pairsOkL l=true
 · rw [hpo] at K
   have KM:Hid (∀ W,Below w.heap.size w W→_):=fun W hW=>spec_l5Made a2 c2 l W (fit_of l hpo) (hs2.later hW)
   have HKA:Hid (∀ (g c:Nat) W,Below w.heap.size w W→IsPairs W (some ⟨g,0,none⟩) (nodesR l)→Calls Tryz.prog 37 #[.slice (some ⟨b,off,none⟩) ps.length cap,.slice (some ⟨g,0,none⟩) (nodesR l).length c] W fun e w'=>AddPost W ps (nodesR l) e w'):=fun g c W hW h=>spec_storeAdd b off cap ps g 0 c (nodesR l) W hl hm (hs.later hW) (by have:=nodesR_len l;omega) (nodes_small l) h
   have HR:Hid (turnR ps l=if rootOk l=true∧addOk ps (nodesR l)=true then some (addR ps (nodesR l),rootR l) else none):=rfl
   have e1:rootOk l=madeOk (allL l):=by simp[rootOk,hpo]
   have e2:nodesR l=if madeOk (allL l) then sortedL (allL l) else []:=by simp[nodesR,e1]
   have e3:rootR l=if madeOk (allL l) then rootOr (allL l) else []:=by simp[rootR,e1]
   unfold AddPost at HKA
   rw[←e2,←e3] at KM
   rw[e1] at HR
   obtain⟨res,hres⟩:∃ res,res=turnR ps l:=⟨_,rfl⟩
   obtain⟨ns,hns⟩:∃ ns,ns=nodesR l:=⟨_,rfl⟩
   obtain⟨ro,hro⟩:∃ ro,ro=madeOk (allL l):=⟨_,rfl⟩
   obtain⟨rr,hrr⟩:∃ rr,rr=rootR l:=⟨_,rfl⟩
   rw[←hres] at HR ⊢
   rw[←hns,←hro,←hrr] at KM HR
   rw[←hns] at HKA
   obtain⟨ao,hao⟩:∃ ao,ao=addOk ps ns:=⟨_,rfl⟩
   obtain⟨ar,har⟩:∃ ar,ar=addR ps ns:=⟨_,rfl⟩
   rw[←hao,←har] at HR HKA
   clear hres hns hro hrr hao har hs hm hs2 hm2 e1 e2 e3 hpo
   go_enter Tryz.func19,Tryz.ntmps19
   go_wp2_with fail
   refine K.mono ?_
   rintro e w0 ⟨rfl,b0⟩
   have K1:=KM.out w0 b0
   clear KM K
   go_wp2_with fail
   refine K1.mono ?_
   rintro e w1 ⟨a3,m3,c3,rfl,⟨o3,hg3⟩,b1'⟩
   have b1:=b0.trans (b1'.mono b0.size)
   obtain⟨rfl,_,i3⟩:=isPairs_own o3
   cases ro with
   | false =>
     have HN:Hid (res=none):=HR.out.trans (if_neg (fun h=>by simp at h))
     clear HR o3 i3 hg3 K1
     go_wp2
     go_ret3
     exact up_none HN.out b1
   | true =>
     obtain⟨g3,rfl⟩:=hg3 rfl
     have K2:=HKA.out g3 c3 w1 b1 i3
     clear o3 i3 HKA K1 hg3 b1' b0
     go_wp2_with fail
     refine K2.mono ?_
     rintro e w2 ⟨a4,m4,c4,rfl,o4,b2⟩
     have B2:=b1.trans (b2.mono b1.size)
     have O4:Hid (w2.ownsRow w.heap.size 50 2 (.slice a4 m4 c4) ar.length (pcells ar)):=o4.mono b1.size
     clear K2 o4 b2
     cases ao with
     | false =>
       have HN:Hid (res=none):=HR.out.trans (if_neg (fun h=>by simp at h))
       clear HR
       go_wp2
       go_ret3
       exact up_none HN.out B2
     | true =>
       have HN:Hid (res=some (ar,rr)):=HR.out.trans (if_pos (by simp))
       clear HR
       go_wp2
       go_ret3
       rw[HN.out]
       exact⟨a4,m4,c4,rfl,O4.out,B2⟩
 · have HN:Hid (turnR ps l=none):=if_neg (fun h=>by have:=h.1;simp[rootOk,hpo] at this)
   have hpo':pairsOkL l=false:=by simpa using hpo
   rw[hpo'] at K
   obtain⟨res,hres⟩:∃ res,res=turnR ps l:=⟨_,rfl⟩
   rw[←hres] at HN ⊢
   clear hres hs hm hs2 hm2 hpo hpo'
   go_enter Tryz.func19,Tryz.ntmps19
   go_wp2_with fail
   refine K.mono ?_
   rintro e w0 ⟨rfl,b0⟩
   go_wp2
   go_ret3
   exact up_none HN.out b0
end Go.Proofs.YthbfhofogoagdaaGreatDoor
