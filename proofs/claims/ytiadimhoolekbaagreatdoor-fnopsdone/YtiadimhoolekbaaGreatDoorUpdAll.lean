/-
 Texts that are laid as one: Upd, UpdI, UpdSG.
-/
import Derived.Test.YtiadimhoolekbaaGreatDoorPairsAt
import Derived.Test.YtiadimhoolekbaaGreatDoorIAdds
import Derived.Test.YtiadimhoolekbaaGreatDoorSetAll
namespace Go.Proofs.YtiadimhoolekbaaGreatDoor
open Go.RowKit
set_option linter.unusedVariables false
set_option maxHeartbeats 2000000
set_option maxRecDepth 100000
def zbv (ps l:List za):Option (List za × List UInt8):=if zy l=true∧za3 ps (za2 l)=true then some (addR ps (za2 l),zab l) else none
def UPost (w:World) (res:Option (List za × List UInt8)) (e:Ending) (w':World):Prop:=∃ (a:Option Addr) (m c:Nat),e=.returned (.tuple #[.slice a m c,.string ⟨((res.map (·.2)).getD []).toArray⟩,.bool res.isSome])∧w'.ownsRow w.heap.size 83 2 (.slice a m c) ((res.map (·.1)).getD []).length (zc ((res.map (·.1)).getD []))∧Below w.heap.size w w'
theorem zeg {w w':World} {res:Option (List za × List UInt8)} (h:res=none) (hb:Below w.heap.size w w'):UPost w res (.returned (.tuple #[.slice none 0 0,.string ⟨#[]⟩,.bool false])) w':=by
 subst h
 exact⟨none,0,0,rfl,World.ownsRow_nil _ _ _ _,hb⟩
theorem UPost.later {w w1 w':World} {res:Option (List za × List UInt8)} {e:Ending} (h:UPost w1 res e w') (hb:Below w.heap.size w w1):UPost w res e w':=by
 obtain⟨a,m,c,he,ho,hb'⟩:=h
 exact⟨a,m,c,he,ho.mono hb.size,hb.trans (hb'.mono hb.size)⟩
theorem znq {ps:List za} {root:List UInt8} {l:List za} (h:zag ps root=some l):zq l=true:=by
 unfold zag at h
 split at h
 · split at h
   · cases h;rfl
   · rw[Option.bind_eq_some_iff] at h
     obtain⟨x,_,hx⟩:=h
     split at hx
     · rename_i h1
       cases hx
       have:=h1.1
       simp only[zy,Bool.and_eq_true] at this
       exact this.1
     · cases hx
 · cases h
theorem za5p (a1:Option Addr) (cap:Nat) (ps:List za) (a2:Option Addr) (c2:Nat) (l:List za) (w:World) (hT:Tab w) (hl:ps.length≤1048576) (hm:∀ p∈ps,p.1.length≤1048576∧p.2.length≤1048576) (hs:IsPairs w a1 ps) (hl2:l.length≤1048576) (hm2:∀ p∈l,p.1.length≤1048576∧p.2.length≤1048576) (hs2:IsPairs w a2 l) :
 Calls Tryz.prog 16 #[.slice a1 ps.length cap,.slice a2 l.length c2] w fun e w'=>UPost w (zbv ps l) e w':=by
 have K:=zq9 a2 c2 l w hl2 hm2 hs2 hT
 have HT:Hid (Tab w):=hT
 have HKA:Hid (∀ (a':Option Addr) (c:Nat) W,Below w.heap.size w W→Tab W→IsPairs W a' (za2 l)→Calls Tryz.prog 42 #[.slice a1 ps.length cap,.slice a' (za2 l).length c] W fun e w'=>zf2 W ps (za2 l) e w'):=fun a' c W hW hTW h=>zxd a1 cap ps a' c (za2 l) W hTW hl hm (hs.later hW) (by have:=zii l;omega) (zgz l) h
 have HR:Hid (zbv ps l=if zy l=true∧za3 ps (za2 l)=true then some (addR ps (za2 l),zab l) else none):=rfl
 unfold zf2 at HKA
 obtain⟨res,hres⟩:∃ res,res=zbv ps l:=⟨_,rfl⟩
 obtain⟨ns,hns⟩:∃ ns,ns=za2 l:=⟨_,rfl⟩
 obtain⟨ro,hro⟩:∃ ro,ro=zy l:=⟨_,rfl⟩
 obtain⟨rr,hrr⟩:∃ rr,rr=zab l:=⟨_,rfl⟩
 rw[←hres] at HR ⊢
 rw[←hns,←hro,←hrr] at K HR
 rw[←hns] at HKA
 obtain⟨ao,hao⟩:∃ ao,ao=za3 ps ns:=⟨_,rfl⟩
 obtain⟨ar,har⟩:∃ ar,ar=addR ps ns:=⟨_,rfl⟩
 rw[←hao,←har] at HR HKA
 clear hres hns hro hrr hao har hs hm hs2 hm2 hT
 go_enter Tryz.func16,Tryz.ntmps16
 go_wp2_with fail
 refine K.mono ?_
 rintro e w1 ⟨a3,m3,c3,rfl,o3,b1⟩
 obtain⟨rfl,_,i3⟩:=za8 o3
 cases ro with
 | false =>
   have HN:Hid (res=none):=HR.out.trans (if_neg (fun h=>by simp at h))
   clear HR o3 i3
   go_wp2
   go_ret3
   exact zeg HN.out b1
 | true =>
   have K2:=HKA.out a3 c3 w1 b1 (HT.out.later b1) i3
   clear o3 i3 HKA K
   go_wp2_with fail
   refine K2.mono ?_
   rintro e w2 ⟨a4,m4,c4,rfl,o4,b2⟩
   have B2:=b1.trans (b2.mono b1.size)
   have O4:Hid (w2.ownsRow w.heap.size 83 2 (.slice a4 m4 c4) ar.length (zc ar)):=o4.mono b1.size
   clear K2 o4 b2
   cases ao with
   | false =>
     have HN:Hid (res=none):=HR.out.trans (if_neg (fun h=>by simp at h))
     clear HR
     go_wp2
     go_ret3
     exact zeg HN.out B2
   | true =>
     have HN:Hid (res=some (ar,rr)):=HR.out.trans (if_pos (by simp))
     clear HR
     go_wp2
     go_ret3
     rw[HN.out]
     exact⟨a4,m4,c4,rfl,O4.out,B2⟩
theorem za5q (a:Option Addr) (m c base e:Nat) (l:List za) (k v:List UInt8) (w:World) (hm:∀ p∈l,p.1.length≤1048576∧p.2.length≤1048576) (hl:l.length≤1048576) (hkl:k.length≤1048576) (hvl:v.length≤1048576) (ho:w.ownsRow base e 2 (.slice a m c) l.length (zc l)) :
 Calls Tryz.prog 10 #[.slice a m c,.string ⟨k.toArray⟩,.string ⟨v.toArray⟩] w fun e w'=>∃ (a':Option Addr) (m cap:Nat),e=.returned (.tuple #[.slice a' m cap,.bool (zce l k v)])∧w'.ownsRow w.heap.size 61 2 (.slice a' m cap) (setR l k v).length (zc (setR l k v))∧Below w.heap.size w w':=by
 obtain⟨hmm,_,hi⟩:=za8 ho
 rcases zcb ho with ⟨hv,hn,_⟩ | ⟨g,cap,hv,_⟩
 · cases hv
   obtain rfl:=List.length_eq_zero_iff.1 hn
   exact za3y k v w hkl hvl
 · cases hv
   exact za3v g 0 c l k v w hl (ztc ho) hm hkl hvl hi
theorem za5r (a0:Option Addr) (cap:Nat) (ps:List za) (a2:Option Addr) (c2:Nat) (l:List za) (w:World) (hl:ps.length≤1048576) (hm:∀ p∈ps,p.1.length≤1048576∧p.2.length≤1048576) (hs:IsPairs w a0 ps) (hl2:l.length≤1048576) (hm2:∀ p∈l,p.1.length≤1048576∧p.2.length≤1048576) (hs2:IsPairs w a2 l) (hca:a0=none→cap=0) :
 Calls Tryz.prog 19 #[.slice a0 ps.length cap,.slice a2 l.length c2] w fun e w'=>UPost w (zbv ps l) e w':=by
 have K:=zge a2 c2 l w hl2 hm2 hs2
 by_cases hpo:zq l=true
 · rw [hpo] at K
   have KM:Hid (∀ W,Below w.heap.size w W→_):=fun W hW=>zjk a2 c2 l W (zcy l hpo) (hs2.later hW)
   have HKA:Hid (∀ (g c:Nat) W,Below w.heap.size w W→IsPairs W (some ⟨g,0,none⟩) (za2 l)→Calls Tryz.prog 37 #[.slice a0 ps.length cap,.slice (some ⟨g,0,none⟩) (za2 l).length c] W fun e w'=>zf2 W ps (za2 l) e w'):=fun g c W hW h=>zsy a0 cap ps (some ⟨g,0,none⟩) c (za2 l) W hl hm (hs.later hW) (by have:=zii l;omega) (zgz l) h hca (fun h=>by cases h)
   have HR:Hid (zbv ps l=if zy l=true∧za3 ps (za2 l)=true then some (addR ps (za2 l),zab l) else none):=rfl
   have e1:zy l=zah (allL l):=by simp[zy,hpo]
   have e2:za2 l=if zah (allL l) then zl (allL l) else []:=by simp[za2,e1]
   have e3:zab l=if zah (allL l) then zbt (allL l) else []:=by simp[zab,e1]
   unfold zf2 at HKA
   rw[←e2,←e3] at KM
   rw[e1] at HR
   obtain⟨res,hres⟩:∃ res,res=zbv ps l:=⟨_,rfl⟩
   obtain⟨ns,hns⟩:∃ ns,ns=za2 l:=⟨_,rfl⟩
   obtain⟨ro,hro⟩:∃ ro,ro=zah (allL l):=⟨_,rfl⟩
   obtain⟨rr,hrr⟩:∃ rr,rr=zab l:=⟨_,rfl⟩
   rw[←hres] at HR ⊢
   rw[←hns,←hro,←hrr] at KM HR
   rw[←hns] at HKA
   obtain⟨ao,hao⟩:∃ ao,ao=za3 ps ns:=⟨_,rfl⟩
   obtain⟨ar,har⟩:∃ ar,ar=addR ps ns:=⟨_,rfl⟩
   rw[←hao,←har] at HR HKA
   clear hres hns hro hrr hao har hs hm hs2 hm2 e1 e2 e3 hpo hca
   go_enter Tryz.func19,Tryz.ntmps19
   go_wp2_with fail
   refine K.mono ?_
   rintro e w0 ⟨rfl,b0⟩
   have K1:=KM.out w0 b0
   clear KM K
   go_wp2_with fail
   refine K1.mono ?_
   rintro e w1 ⟨a3,m3,c3,rfl,⟨o3,hg3⟩,b1'⟩
   have b1:=b0.trans (b1'.mono b0.size)
   obtain⟨rfl,_,i3⟩:=za8 o3
   cases ro with
   | false =>
     have HN:Hid (res=none):=HR.out.trans (if_neg (fun h=>by simp at h))
     clear HR o3 i3 hg3 K1
     go_wp2
     go_ret3
     exact zeg HN.out b1
   | true =>
     obtain⟨g3,rfl⟩:=hg3 rfl
     have K2:=HKA.out g3 c3 w1 b1 i3
     clear o3 i3 HKA K1 hg3 b1' b0
     go_wp2_with fail
     refine K2.mono ?_
     rintro e w2 ⟨a4,m4,c4,rfl,o4,b2⟩
     have B2:=b1.trans (b2.mono b1.size)
     have O4:Hid (w2.ownsRow w.heap.size 83 2 (.slice a4 m4 c4) ar.length (zc ar)):=o4.mono b1.size
     clear K2 o4 b2
     cases ao with
     | false =>
       have HN:Hid (res=none):=HR.out.trans (if_neg (fun h=>by simp at h))
       clear HR
       go_wp2
       go_ret3
       exact zeg HN.out B2
     | true =>
       have HN:Hid (res=some (ar,rr)):=HR.out.trans (if_pos (by simp))
       clear HR
       go_wp2
       go_ret3
       rw[HN.out]
       exact⟨a4,m4,c4,rfl,O4.out,B2⟩
 · have HN:Hid (zbv ps l=none):=if_neg (fun h=>by have:=h.1;simp[zy,hpo] at this)
   have hpo':zq l=false:=by simpa using hpo
   rw[hpo'] at K
   obtain⟨res,hres⟩:∃ res,res=zbv ps l:=⟨_,rfl⟩
   rw[←hres] at HN ⊢
   clear hca hres hs hm hs2 hm2 hpo hpo'
   go_enter Tryz.func19,Tryz.ntmps19
   go_wp2_with fail
   refine K.mono ?_
   rintro e w0 ⟨rfl,b0⟩
   go_wp2
   go_ret3
   exact zeg HN.out b0
end Go.Proofs.YtiadimhoolekbaaGreatDoor
