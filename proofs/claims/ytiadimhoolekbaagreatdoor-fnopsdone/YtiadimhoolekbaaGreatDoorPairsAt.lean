/-
 Contracts: the pairs of a root (PairsAt), of the program and of the model.
-/
import Derived.Test.YtiadimhoolekbaaGreatDoorGatI
import Derived.Test.YtiadimhoolekbaaGreatDoorSGat
import Derived.Test.YtiadimhoolekbaaGreatDoorLaidAll
namespace Go.Proofs.YtiadimhoolekbaaGreatDoor
open Go.RowKit
set_option linter.unusedVariables false
set_option maxHeartbeats 4000000
set_option maxRecDepth 100000
theorem zsb (w0:World) (bn bp bg mb lim:Nat) (ps:List za) (hst:zu ps=true) (hM:HeldM w0 mb ps ps.length)
 (hbn:w0.heap.size≤bn) (hbp:w0.heap.size≤bp) (hbg:w0.heap.size≤bg) (hnp:bn≠bp) (hgp:bg≠bp) (hnl:bn<lim) (hpl:bp<lim) (hgl:bg<lim) (hlim:lim≤bn+1∨lim≤bp+1∨lim≤bg+1) :
 ∀ f,zi3 w0 bn bp bg mb lim ps f
 | 0=>fun h path w v acc hh hf hp=>by omega
 | f+1=>zwl w0 bn bp bg mb lim ps f hst hM hbn hbp hbg hnp hgp hnl hpl hgl hlim (zsb w0 bn bp bg mb lim ps hst hM hbn hbp hbg hnp hgp hnl hpl hgl hlim f)
def zsc (w:World) (res:Option (List za)) (e:Ending) (w':World):Prop :=
 (∃ (l:List za) (a:Option Addr) (c:Nat),e=.returned (.tuple #[.slice a l.length c,.bool true])∧res=some l∧l.length≤61∧w'.ownsRow w.heap.size 61 2 (.slice a l.length c) l.length (zc l)∧Below w.heap.size w w')∨(e=.returned (.tuple #[.slice none 0 0,.bool false])∧Lost res 0∧Below w.heap.size w w')
theorem za21 (mb:Nat) (ps:List za) (root:List UInt8) (w:World) (hst:zu ps=true) (hM:HeldM w mb ps ps.length) (hr:root.length≤1048576) :
 Calls Tryz.prog 22 #[.map (some mb),.string ⟨root.toArray⟩] w fun e w'=>zsc w (atF (zh ps) 26 root []) e w':=by
 obtain⟨fv,hfv⟩:∃ fv:Value,fv=.func (.func 53) #[] #[.pointer (some ⟨w.heap.size,0,none⟩),.pointer (some ⟨w.heap.size+1,0,none⟩),.pointer (some ⟨w.heap.size+2,0,none⟩)]:=⟨_,rfl⟩
 have hB:Below w.heap.size w (((w.alloc (.cells #[.map (some mb)] 49)).alloc (.cells #[.slice none 0 0] 32)).alloc (.cells #[fv] 101)):=(((Below.refl _ _).alloc (Nat.le_refl _) _).alloc (by simp) _).alloc (by simp;omega) _
 have n1:(((w.alloc (.cells #[.map (some mb)] 49)).alloc (.cells #[.slice none 0 0] 32)).alloc (.cells #[fv] 101)).heap[w.heap.size]? = some (.cells #[.map (some mb)] 49 (0,0)):=by
  rw[Below.heap_alloc _ _ _ (by simp;omega),Below.heap_alloc _ _ _ (by simp)];exact heap_alloc_new _ _
 have n2:(((w.alloc (.cells #[.map (some mb)] 49)).alloc (.cells #[.slice none 0 0] 32)).alloc (.cells #[fv] 101)).heap[w.heap.size+1]? = some (.cells #[.slice none 0 0] 32 (0,0)):=by
  rw[Below.heap_alloc _ _ _ (by simp)]
  have:=heap_alloc_new (w.alloc (.cells #[.map (some mb)] 49)) (.cells #[.slice none 0 0] 32)
  simpa using this
 have n3:(((w.alloc (.cells #[.map (some mb)] 49)).alloc (.cells #[.slice none 0 0] 32)).alloc (.cells #[fv] 101)).heap[w.heap.size+2]? = some (.cells #[fv] 101 (0,0)):=by
  have:=heap_alloc_new ((w.alloc (.cells #[.map (some mb)] 49)).alloc (.cells #[.slice none 0 0] 32)) (.cells #[fv] 101)
  simpa using this
 rw[hfv] at hB n1 n2 n3
 have c1:=(one_cell n1).1
 have c2:=(one_cell n2).1
 have c3:=(one_cell n3).1
 have KH:=zsb w w.heap.size (w.heap.size+1) (w.heap.size+2) mb (w.heap.size+3) ps hst hM (Nat.le_refl _) (by omega) (by omega) (by omega) (by omega) (by omega) (by omega) (by omega) (by omega) 26 root [] _ (.slice none 0 0) [] hr (by simp) (by simp) rfl hB ⟨n1,n2,n3,World.ownsRow_nil _ _ _ _⟩ (by simp)
 obtain⟨res,hres⟩:∃ res,res=atF (zh ps) 26 root []:=⟨_,rfl⟩
 rw[←hres] at KH ⊢
 clear hfv hres hB n1 n2 n3 hM
 go_enter Tryz.func22,Tryz.ntmps22
 go_wp2_with fail
 with_reducible refine KH.mono ?_
 rintro r w3 h3
 clear KH c1 c2 c3
 rcases h3 with ⟨l,v',rfl,h1,h2,h3,h4⟩ | ⟨rfl,h1,h2⟩
 · have cb3:=(one_cell h2.box).1
   have hrow:=h2.row
   rw[List.nil_append] at hrow
   obtain⟨va,vm,vc,rfl⟩:=zbj hrow
   obtain⟨rfl,_,_⟩:=za8 hrow
   have HO:Hid (w3.ownsRow w.heap.size 61 2 (.slice va l.length vc) l.length (zc l)):=hrow.mono (by omega)
   have HR:Hid (res=some l):=h1
   have HB:Hid (Below w.heap.size w w3):=h4.below
   have hl61:l.length≤61:=by simpa using h3
   clear h1 h2 h3 h4 hrow
   go_wp2
   first | (go_quiet (fail);go_wp2) | skip
   go_ret2
   exact .inl ⟨l,va,vc,rfl,HR.out,hl61,by first | exact HO.out | exact zgt HO.out fun q _=>rfl,by first | exact HB.out | exact HB.out.drew | exact zz HB.out⟩
 · have HR:Hid (Lost res 0):=h1
   have HB:Hid (Below w.heap.size w w3):=h2
   clear h1 h2
   go_wp2
   first | (go_quiet (fail);go_wp2) | skip
   go_ret2
   exact .inr ⟨rfl,HR.out,by first | exact HB.out | exact HB.out.drew | exact zz HB.out⟩
def zf0 (w:World) (res:Option (List za)) (e:Ending) (w':World):Prop:=∃ (a:Option Addr) (m c:Nat),e=.returned (.tuple #[.slice a m c,.bool res.isSome])∧w'.ownsRow w.heap.size 61 2 (.slice a m c) (res.getD []).length (zc (res.getD []))∧Below w.heap.size w w'
theorem zea {w w':World} {res:Option (List za)} (h:res=none) (hb:Below w.heap.size w w'):zf0 w res (.returned (.tuple #[.slice none 0 0,.bool false])) w':=by
 subst h
 exact⟨none,0,0,rfl,World.ownsRow_nil _ _ _ _,hb⟩
theorem zsd {w w':World} {res:Option (List za)} (h:res=some []) (hb:Below w.heap.size w w'):zf0 w res (.returned (.tuple #[.slice none 0 0,.bool true])) w':=by
 subst h
 exact⟨none,0,0,rfl,World.ownsRow_nil _ _ _ _,hb⟩
theorem zse (ps:List za) (hst:zu ps=true):∀ h t,zh ps h=some t→(nodeAt t).ok=true:=fun h t hf=>by
 obtain⟨_,_,_,_,htr⟩:=zi9 ps hst h t hf
 exact zkv t htr
theorem zmh (a:Option Addr) (cap:Nat) (ps:List za) (root:List UInt8) (w:World) (hT:Tab w) (hl:ps.length≤1048576) (hm:∀ p∈ps,p.1.length≤1048576∧p.2.length≤1048576) (hs:IsPairs w a ps) (hr:root.length≤1048576) :
 Calls Tryz.prog 8 #[.slice a ps.length cap,.string ⟨root.toArray⟩] w fun e w'=>zf0 w (zag ps root) e w':=by
 have K:=zky a cap ps w hT hl hm hs
 have HT:Hid (Tab w):=hT
 by_cases hok:zu ps=true
 · rw [hok] at K
   obtain⟨em,hem⟩:∃ em,em=emptyL:=⟨_,rfl⟩
   have KE:Hid (∀ W,Tab W→_):=fun W h=>zmw W h
   rw[←hem] at KE
   clear hs hm hT
   by_cases he:root=em
   · have HR:Hid (zag ps root=some []):=zkq hok (he.trans hem)
     obtain⟨res,hres⟩:∃ res,res=zag ps root:=⟨_,rfl⟩
     rw[←hres] at HR ⊢
     subst he
     clear hres hem
     go_enter Tryz.func8,Tryz.ntmps8
     go_wp2_with fail
     refine K.mono ?_
     rintro e w1 ⟨mb,rfl,hM,hmb,b1⟩
     have K2:=KE.out w1 (HT.out.later b1)
     go_wp2_with fail
     refine K2.mono ?_
     rintro e w2 ⟨rfl,b2⟩
     have B2:=b1.trans (b2.mono b1.size)
     go_wp2
     go_ret2
     exact zsd HR.out B2
   · have heb:(root == em)=false:=by rw[beq_eq_false_iff_ne];exact he
     have he':¬ root=emptyL:=fun e=>he (e.trans hem.symm)
     have HLO:Hid (Lost (atF (zh ps) 26 root []) 0→zag ps root=none):=fun h=>zou hok he' h
     have HSO:Hid (∀ l,atF (zh ps) 26 root []=some l→zag ps root=if zy l=true∧zab l=root then some l else none):=fun l h=>zkr hok he' h
     have HSM:Hid (∀ l,atF (zh ps) 26 root []=some l→∀ e∈l,e.1.length≤1048576∧e.2.length≤1048576):=fun l h e hel=>by
      have:=zkp _ (zse ps hok) 26 root [] l h e hel
      omega
     have KP:Hid (∀ mb W,HeldM W mb ps ps.length→Calls Tryz.prog 22 #[.map (some mb),.string ⟨root.toArray⟩] W fun e w'=>zsc W (atF (zh ps) 26 root []) e w'):=fun mb W hM=>za21 mb ps root W hok hM hr
     obtain⟨rp,hrp⟩:∃ rp,rp=zag ps root:=⟨_,rfl⟩
     obtain⟨ra,hra⟩:∃ ra,ra=atF (zh ps) 26 root []:=⟨_,rfl⟩
     rw[←hrp] at HLO HSO ⊢
     rw[←hra] at HLO HSO HSM KP
     clear hrp hra he he' hem
     go_enter Tryz.func8,Tryz.ntmps8
     go_wp2_with fail
     refine K.mono ?_
     rintro e w1 ⟨mb,rfl,hM,hmb,b1⟩
     have K2:=KE.out w1 (HT.out.later b1)
     have HM1:Hid (HeldM w1 mb ps ps.length):=hM
     clear hM K
     go_wp2_with fail
     refine K2.mono ?_
     rintro e w2 ⟨rfl,b2⟩
     have B2:=b1.trans (b2.mono b1.size)
     have K3:=KP.out mb w2 (HM1.out.later b2)
     clear K2 KP HM1 b1 b2
     go_wp2_with fail
     refine K3.mono ?_
     rintro e w3 h3
     clear K3
     rcases h3 with ⟨l,a3,c3,rfl,h31,h32,h33,b3⟩ | ⟨rfl,h31,b3⟩
     · have B3:=B2.trans (b3.mono B2.size)
       have HR:Hid (rp=if zy l=true∧zab l=root then some l else none):=HSO.out l h31
       have HO3:Hid (w3.ownsRow w.heap.size 61 2 (.slice a3 l.length c3) l.length (zc l)):=h33.mono B2.size
       have K4:=zqa a3 c3 l w3 (by omega) (HSM.out l h31) (za8 h33).2.2 (HT.out.later B3)
       obtain⟨rr,hrr⟩:∃ rr,rr=zab l:=⟨_,rfl⟩
       obtain⟨ro,hro⟩:∃ ro,ro=zy l:=⟨_,rfl⟩
       rw[←hrr,←hro] at K4 HR
       clear h31 h33 HLO HSO HSM b3 B2 hrr hro
       go_wp2_with fail
       refine K4.mono ?_
       rintro e w4 ⟨rfl,b4⟩
       have B4:=B3.trans (b4.mono B3.size)
       have HO4:Hid (w4.ownsRow w.heap.size 61 2 (.slice a3 l.length c3) l.length (zc l)):=zb4 HO3.out b4
       clear K4 b4 B3 HO3
       cases ro with
       | false =>
         have HN:Hid (rp=none):=HR.out.trans (if_neg (fun h=>by simp at h))
         clear HR
         go_wp2
         go_ret2
         exact zea HN.out B4
       | true =>
         by_cases hrr:rr=root
         · have HN:Hid (rp=some l):=HR.out.trans (if_pos ⟨rfl,hrr⟩)
           clear HR
           subst hrr
           go_wp2
           go_ret2
           rw[HN.out]
           exact⟨a3,_,c3,rfl,HO4.out,B4⟩
         · have HN:Hid (rp=none):=HR.out.trans (if_neg (fun h=>hrr h.2))
           have hrb:(rr == root)=false:=by rw[beq_eq_false_iff_ne];exact hrr
           clear HR
           go_wp2
           go_ret2
           exact zea HN.out B4
     · have B3:=B2.trans (b3.mono B2.size)
       have HN:Hid (rp=none):=HLO.out h31
       clear h31 HLO HSO HSM
       go_wp2
       go_ret2
       exact zea HN.out B3
 · have HN:Hid (zag ps root=none):=zot hok
   have hok':zu ps=false:=by simpa using hok
   rw[hok'] at K
   obtain⟨res,hres⟩:∃ res,res=zag ps root:=⟨_,rfl⟩
   rw[←hres] at HN ⊢
   clear hs hm hT hok hok' hres
   go_enter Tryz.func8,Tryz.ntmps8
   go_wp2_with fail
   refine K.mono ?_
   rintro e w1 ⟨rfl,b1⟩
   go_wp2
   go_ret2
   exact zea HN.out b1
theorem za22 (a:Option Addr) (cap:Nat) (ps:List za) (root:List UInt8) (w:World) (hl:ps.length≤1048576) (hm:∀ p∈ps,p.1.length≤1048576∧p.2.length≤1048576) (hs:IsPairs w a ps) :
 Calls Tryz.prog 17 #[.slice a ps.length cap,.string ⟨root.toArray⟩] w fun e w'=>zf0 w (zag ps root) e w':=by
 have K:=znd a cap ps w hl hm hs
 have HS:Hid (∀ W,Below w.heap.size w W→IsPairs W a ps):=fun W hW=>hs.later hW
 by_cases hok:zu ps=true
 · rw [hok] at K
   obtain⟨em,hem⟩:∃ em,em=emptyL:=⟨_,rfl⟩
   have KE:Hid (∀ W,_):=fun W=>zjq W
   rw[←hem] at KE
   by_cases he:root=em
   · have HR:Hid (zag ps root=some []):=zkq hok (he.trans hem)
     obtain⟨res,hres⟩:∃ res,res=zag ps root:=⟨_,rfl⟩
     rw[←hres] at HR ⊢
     subst he
     clear hres hem hs hm
     go_enter Tryz.func17,Tryz.ntmps17
     go_wp2_with fail
     refine K.mono ?_
     rintro e w1 ⟨rfl,b1⟩
     go_wp2_with fail
     refine (KE.out w1).mono ?_
     rintro e w2 ⟨rfl,b2⟩
     have B2:=b1.trans (b2.mono b1.size)
     go_wp2
     go_ret2
     exact zsd HR.out B2
   · have heb:(root == em)=false:=by rw[beq_eq_false_iff_ne];exact he
     have he':¬ root=emptyL:=fun e=>he (e.trans hem.symm)
     have HLO:Hid (zb3 (atF (zh ps) 26 root [])=none→zag ps root=none):=fun h=>zou hok he' (lost_cap.2 h)
     have HSO:Hid (∀ l,zb3 (atF (zh ps) 26 root [])=some l→zag ps root=if zy l=true∧zab l=root then some l else none):=fun l h=>zkr hok he' (ze2 h).1
     have HSM:Hid (∀ l,zb3 (atF (zh ps) 26 root [])=some l→l.length≤60∧∀ e∈l,e.1.length≤1048576∧e.2.length≤1048576):=fun l h=>⟨(ze2 h).2,fun e hel=>by
      have:=zkp _ (zse ps hok) 26 root [] l (ze2 h).1 e hel
      omega⟩
     have KP:Hid (∀ W,Below w.heap.size w W→Calls Tryz.prog 44 #[.slice a ps.length cap,.string ⟨root.toArray⟩,.string ⟨#[]⟩] W fun e w'=>zjh W (zb3 (atF (zh ps) 26 root [])) e w'):=fun W hW=>za2u ps hl hm hok 26 a cap root [] W (by simp) (by simp) rfl (hs.later hW)
     obtain⟨rp,hrp⟩:∃ rp,rp=zag ps root:=⟨_,rfl⟩
     obtain⟨ra,hra⟩:∃ ra,ra=zb3 (atF (zh ps) 26 root []):=⟨_,rfl⟩
     rw[←hrp] at HLO HSO ⊢
     rw[←hra] at HLO HSO HSM KP
     clear hrp hra he he' hem hs hm
     go_enter Tryz.func17,Tryz.ntmps17
     go_wp2_with fail
     refine K.mono ?_
     rintro e w1 ⟨rfl,b1⟩
     go_wp2_with fail
     refine (KE.out w1).mono ?_
     rintro e w2 ⟨rfl,b2⟩
     have B2:=b1.trans (b2.mono b1.size)
     have K3:=KP.out w2 B2
     clear KE K KP b1 b2
     go_wp2_with fail
     refine K3.mono ?_
     rintro e w3 ⟨a3,m3,c3,rfl,_,o3,b3⟩
     have B3:=B2.trans (b3.mono B2.size)
     clear K3
     cases ra with
     | none =>
       have HN:Hid (rp=none):=HLO.out rfl
       clear o3 b3 HLO HSO HSM
       go_wp2
       go_ret2
       exact zea HN.out B3
     | some l =>
       simp only[Option.getD_some,Option.isSome_some] at o3 ⊢
       obtain⟨rfl,_,i3⟩:=za8 o3
       have HR:Hid (rp=if zy l=true∧zab l=root then some l else none):=HSO.out l rfl
       obtain⟨h60,hsm⟩:=HSM.out l rfl
       have HO3:Hid (w3.ownsRow w.heap.size 61 2 (.slice a3 l.length c3) l.length (zc l)):=o3.mono B2.size
       have K4:=zge a3 c3 l w3 (by omega) hsm i3
       by_cases hpo:zq l=true
       · rw [hpo] at K4
         have KM:Hid (∀ W,IsPairs W a3 l→_):=fun W hW=>zjk a3 c3 l W (zcy l hpo) hW
         have I3:Hid (∀ W,Below w3.heap.size w3 W→IsPairs W a3 l):=fun W hW=>i3.later hW
         have HRO:Hid (zy l=zah (allL l)∧(zah (allL l)=true→zab l=zbt (allL l))):=⟨by simp[zy,hpo],fun h=>by simp[zab,zy,hpo,h]⟩
         obtain⟨mo,hmo⟩:∃ mo,mo=zah (allL l):=⟨_,rfl⟩
         obtain⟨ro,hro⟩:∃ ro,ro=zbt (allL l):=⟨_,rfl⟩
         rw[←hmo,←hro] at KM HRO
         clear o3 b3 HLO HSO HSM hsm i3 B2 hmo hro hpo
         go_wp2_with fail
         refine K4.mono ?_
         rintro e w4 ⟨rfl,b4⟩
         have B4:=B3.trans (b4.mono B3.size)
         have HO4:Hid (w4.ownsRow w.heap.size 61 2 (.slice a3 l.length c3) l.length (zc l)):=zb4 HO3.out b4
         have K5:=KM.out w4 (I3.out w4 b4)
         clear K4 KM HO3 b4 I3 B3
         cases mo with
         | false =>
           have HN:Hid (rp=none):=HR.out.trans (if_neg (fun h=>by rw[HRO.out.1] at h;simp at h))
           simp only[Bool.false_eq_true,if_false] at K5
           clear HR HRO
           go_wp2_with fail
           refine K5.mono ?_
           rintro e w5 ⟨a5,m5,c5,rfl,_,b5⟩
           have B5:=B4.trans (b5.mono B4.size)
           go_wp2
           go_ret2
           exact zea HN.out B5
         | true =>
           simp only[if_true] at K5
           by_cases hrr:ro=root
           · have HN:Hid (rp=some l):=HR.out.trans (if_pos ⟨HRO.out.1,(HRO.out.2 rfl).trans hrr⟩)
             clear HR HRO
             subst hrr
             go_wp2_with fail
             refine K5.mono ?_
             rintro e w5 ⟨a5,m5,c5,rfl,_,b5⟩
             have B5:=B4.trans (b5.mono B4.size)
             have HO5:Hid (w5.ownsRow w.heap.size 61 2 (.slice a3 l.length c3) l.length (zc l)):=zb4 HO4.out b5
             go_wp2
             go_ret2
             rw[HN.out]
             exact⟨a3,_,c3,rfl,HO5.out,B5⟩
           · have HN:Hid (rp=none):=HR.out.trans (if_neg (fun h=>hrr ((HRO.out.2 rfl).symm.trans h.2)))
             have hrb:(ro == root)=false:=by rw[beq_eq_false_iff_ne];exact hrr
             clear HR HRO
             go_wp2_with fail
             refine K5.mono ?_
             rintro e w5 ⟨a5,m5,c5,rfl,_,b5⟩
             have B5:=B4.trans (b5.mono B4.size)
             go_wp2
             go_ret2
             exact zea HN.out B5
       · have hpo':zq l=false:=by simpa using hpo
         rw[hpo'] at K4
         have HN:Hid (rp=none):=HR.out.trans (if_neg (fun h=>by have:=h.1;simp[zy,hpo'] at this))
         clear o3 b3 HLO HSO HSM hsm i3 B2 hpo hpo' HR
         go_wp2_with fail
         refine K4.mono ?_
         rintro e w4 ⟨rfl,b4⟩
         have B4:=B3.trans (b4.mono B3.size)
         go_wp2
         go_ret2
         exact zea HN.out B4
 · have HN:Hid (zag ps root=none):=zot hok
   have hok':zu ps=false:=by simpa using hok
   rw[hok'] at K
   obtain⟨res,hres⟩:∃ res,res=zag ps root:=⟨_,rfl⟩
   rw[←hres] at HN ⊢
   clear hs hm hok hok' hres
   go_enter Tryz.func17,Tryz.ntmps17
   go_wp2_with fail
   refine K.mono ?_
   rintro e w1 ⟨rfl,b1⟩
   go_wp2
   go_ret2
   exact zea HN.out b1
end Go.Proofs.YtiadimhoolekbaaGreatDoor
