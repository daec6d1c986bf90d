/-
 Texts that are laid as one: DrawSt, DrawO, DrawOd.
-/
import Derived.Test.YtiadimhoolekbaaGreatDoorDrawPs
import Derived.Test.YtiadimhoolekbaaGreatDoorSAdds
namespace Go.Proofs.YtiadimhoolekbaaGreatDoor
open Go.RowKit
set_option linter.unusedVariables false
set_option maxHeartbeats 4000000
set_option maxRecDepth 100000
theorem zoe {w w1 w2:World} {rd:Nat} {row:Option Nat} (h:w.grownBy w1 (some rd)) (g:w1.grownBy w2 row) (hr:∀ k,row=some k→w.heap.size≤k):w.grownBy w2 (some rd) :=
 ⟨g.os.trans h.os,g.tape.trans h.tape,g.output.trans h.output,Nat.le_trans h.size g.size,fun k hk hne=>(g.block k (Nat.lt_of_lt_of_le hk h.size) (fun e=>by have:=hr k e.symm;omega)).trans (h.block k hk hne)⟩
theorem zkg {w:World} {B e m c n:Nat} {xs:List Value} {a:Option Addr} (h:w.ownsRow B e 2 (.slice a m c) n xs):a=none→c=0:=fun ha=>by
 subst ha
 rcases zcb h with ⟨h1,_,_⟩ | ⟨g,cap,h1,_⟩
 · cases h1;rfl
 · cases h1
theorem zvk {ps qs:List za} (hp:∀ p∈ps,p.1.length≤1048576∧p.2.length≤1048576) (hq:∀ p∈qs,p.1.length≤1048576∧p.2.length≤1048576):(∀ p∈addR ps qs,p.1.length≤1048576∧p.2.length≤1048576)∧(addR ps qs).length≤400:=by
 by_cases h:za3 ps qs=true
 · rw[zfk ps qs h]
   refine⟨fun p hp'=>?_,?_⟩
   · rcases List.mem_append.1 ((zcj _).2.1 p hp') with h1 | h1
     · exact hp p h1
     · exact hq p h1
   · simp only[za3,Bool.and_eq_true,decide_eq_true_eq] at h
     exact h.2.2.2
 · have h':za3 ps qs=false:=by simpa using h
   rw[zsv ps qs h'];simp
def StAt (w:World) (rd:Nat) (a:Option Addr) (n cap:Nat) (lim:Nat) (v:Value) (wx:World):Prop :=
 ∃ (ps:List za) (a1:Option Addr) (c:Nat),v=.slice a1 ps.length c∧ps.length≤lim∧Hid (∀ p∈ps,p.1.length≤1048576∧p.2.length≤1048576)∧Hid (wx.ownsRow w.heap.size 83 2 (.slice a1 ps.length c) ps.length (zc ps))∧Hid (Rd rd a n cap wx)∧Hid (w.grownBy wx (some rd))
theorem zof {ps:List za} (h:zdn ps):∀ p∈ps,p.1.length≤1048576∧p.2.length≤1048576:=fun p hp=>by
 have:=h p hp
 exact⟨by omega,by omega⟩
theorem zvl (rd n cap : Nat) (a : Option Addr) (w : World) (hn : n ≤ 1048576) (h : Rd rd a n cap w) :
 Calls Tryz.prog 14 #[.pointer (some ⟨rd,0,none⟩)] w fun e w'=>∃ (v:Value) (rt:List UInt8),e=.returned (.tuple #[v,.string ⟨rt.toArray⟩])∧rt.length≤1048576∧StAt w rd a n cap 3601 v w':=by
 obtain⟨i0,hi0,hz0,hz1,hz2⟩:=info_parts zfj
 have hrd:=h.lt
 have HCD:Hid (∀ cb off,a=some ⟨cb,off,none⟩→n≠0→cb<w.heap.size):=h.code
 have K1:=zon rd n cap 7 7 a w rfl (by omega) (by omega) hn h
 clear h
 go_enter Tryz.func14,Tryz.ntmps14
 go_wp2_with fail
 refine K1.mono ?_
 rintro e w1 ⟨l0,g0,c0,hl0,hsm0,rfl,o0,R1,G1⟩
 have I1:=(za8 o0).2.2
 have hm0:=zof hsm0
 have K2:=zqb (some ⟨g0,0,none⟩) c0 l0 w1 (by omega) hm0 I1
 have HK3:Hid (∀ W,Below w1.heap.size w1 W→_):=fun W hW=>za2y (some ⟨g0,0,none⟩) c0 l0 W (by omega) hm0 (I1.later hW)
 have HNS:Hid (∀ p∈za2 l0,p.1.length≤1048576∧p.2.length≤1048576):=zgz l0
 have hnl:=zii l0
 have HRT:Hid ((zab l0).length≤1048576):=zqc l0
 have HR1:Hid (Rd rd a n cap w1):=R1
 have HG1:Hid (w.grownBy w1 (some rd)):=G1
 obtain⟨ns,hns⟩:∃ ns,ns=za2 l0:=⟨_,rfl⟩
 obtain⟨rt0,hrt0⟩:∃ rt,rt=zab l0:=⟨_,rfl⟩
 obtain⟨ok,hok⟩:∃ ok,ok=zy l0:=⟨_,rfl⟩
 rw[←hns] at K2 HNS hnl
 rw[←hok] at K2 HK3
 rw[←hrt0] at HK3 HRT
 clear K1 o0 I1 hm0 hsm0 R1 G1 hns hrt0 hok
 go_wp2_with fail
 refine K2.mono ?_
 rintro e w2 ⟨a2,m2,c2,rfl,o2,b2⟩
 obtain⟨rfl,_,_⟩:=za8 o2
 have hw1:=HG1.out.size
 have HO2:=zf (o2.mono hw1)
 have HR2:Hid (Rd rd a n cap w2):=HR1.out.keptNone b2
 have HG2:Hid (w.grownBy w2 (some rd)):=grown_below HG1.out b2
 have K3:=HK3.out w2 b2
 clear K2 o2 b2 HK3 HR1 HG1
 go_wp2_with fail
 refine K3.mono ?_
 rintro e w3 ⟨rfl,b3⟩
 have HO3:=zf (zb4 HO2.out b3)
 have HR3:Hid (Rd rd a n cap w3):=HR2.out.keptNone b3
 have HG3:Hid (w.grownBy w3 (some rd)):=grown_below HG2.out b3
 clear K3 b3 HO2 HR2 HG2
 go_upto_if 27 with fail
 go_cut [7] from 26 (fun v7 wx=>∃ rt:List UInt8,v7=.string ⟨rt.toArray⟩∧rt.length≤1048576∧StAt w rd a n cap 3600 (.slice a2 ns.length c2) wx)
 case first =>
  cases ok with
  | true =>
    go_wp2
    go_meet
    case rel=>exact⟨rt0,rfl,HRT.out,ns,a2,c2,rfl,hnl,HNS,HO3,HR3,HG3⟩
  | false =>
    have K4:=zjq w3
    go_wp2_with fail
    refine K4.mono ?_
    rintro e w4 ⟨rfl,b4⟩
    have HO4:=zf (zb4 HO3.out b4)
    have HR4:Hid (Rd rd a n cap w4):=HR3.out.keptNone b4
    have HG4:Hid (w.grownBy w4 (some rd)):=grown_below HG3.out b4
    clear K4 b4
    go_wp2
    go_meet
    case rel=>exact⟨emptyL,rfl,by unfold emptyL;rw[zd7];omega,ns,a2,c2,rfl,hnl,HNS,HO4,HR4,HG4⟩
 case rest =>
  obtain⟨rt,rfl,hrt,st⟩:=hcut
  clear HO3 HR3 HG3 HRT HNS hnl hl0
  obtain⟨ps,a1,c1,hv,hpl,HPS,HO,HR,HG⟩:=st
  rw[hv]
  have hw0:=HG.out.size
  clear hv
  have K5:=ze1 rd n cap 2 2 a wc rfl (by omega) (by omega) hn HR.out
  go_wp2_with fail
  refine K5.mono ?_
  rintro e w5 ⟨t,rfl,R5,G5⟩
  have HO5:=zf (zc8 HO.out G5 (zc7 HO.out hrd))
  have HR5:Hid (Rd rd a n cap w5):=R5
  have HG5:Hid (w.grownBy w5 (some rd)):=HG.out.trans G5
  clear K5 R5 G5 HO HR HG
  go_upto_if 30 with fail
  go_cut [5,9,10,11,12] from 29 (fun v5 _ _ _ _ wx=>StAt w rd a n cap 3600 v5 wx)
  case first =>
   cases t with
   | false =>
     go_wp2
     go_meet
     case rel=>exact⟨ps,a1,c1,rfl,hpl,HPS,HO5,HR5,HG5⟩
   | true =>
     have K6:=zon rd n cap 5 5 a w5 rfl (by omega) (by omega) hn HR5.out
     go_wp2_with fail
     refine K6.mono ?_
     rintro e w6 ⟨l6,g6,c6,hl6,hsm6,rfl,o6,R6,G6⟩
     have HO6:=zf (zc8 HO5.out G6 (zc7 HO5.out hrd))
     have HR6:Hid (Rd rd a n cap w6):=R6
     have HG6:Hid (w.grownBy w6 (some rd)):=HG5.out.trans G6
     have K7:=zqb (some ⟨g6,0,none⟩) c6 l6 w6 (by omega) (zof hsm6) (za8 o6).2.2
     have HN7:Hid (∀ p∈za2 l6,p.1.length≤1048576∧p.2.length≤1048576):=zgz l6
     have hn7:=zii l6
     obtain⟨n7,hn7e⟩:∃ n7,n7=za2 l6:=⟨_,rfl⟩
     obtain⟨ok7,hok7⟩:∃ ok7,ok7=zy l6:=⟨_,rfl⟩
     rw[←hn7e] at K7 HN7 hn7
     rw[←hok7] at K7
     clear K6 o6 R6 G6 hsm6 hn7e hok7 HO5 HR5 HG5
     go_wp2_with fail
     refine K7.mono ?_
     rintro e w7 ⟨a7,m7,c7,rfl,o7,b7⟩
     obtain⟨rfl,_,i7⟩:=za8 o7
     have HO7:=zf (zb4 HO6.out b7)
     have HR7:Hid (Rd rd a n cap w7):=HR6.out.keptNone b7
     have HG7:Hid (w.grownBy w7 (some rd)):=grown_below HG6.out b7
     have K8:=zsy a1 c1 ps a7 c7 n7 w7 (by omega) HPS.out (za8 HO7.out).2.2 (by omega) HN7.out i7 (zkg HO7.out) (zkg o7)
     have hadd:=zvk HPS.out HN7.out
     unfold zf2 at K8
     obtain⟨ar,har⟩:∃ ar,ar=addR ps n7:=⟨_,rfl⟩
     obtain⟨ok8,hok8⟩:∃ ok8,ok8=za3 ps n7:=⟨_,rfl⟩
     rw[←har,←hok8] at K8
     rw[←har] at hadd
     have HA1:Hid (∀ p∈ar,p.1.length≤1048576∧p.2.length≤1048576):=hadd.1
     have ha2:=hadd.2
     clear K7 o7 b7 i7 har hok8 hadd HO6 HR6 HG6
     go_wp2_with fail
     refine K8.mono ?_
     rintro e w8 ⟨a8,m8,c8,rfl,o8,b8⟩
     obtain⟨rfl,_,_⟩:=za8 o8
     have HO8:=zf (zb4 HO7.out b8)
     have HA8:=zf (o8.mono HG7.out.size)
     have HR8:Hid (Rd rd a n cap w8):=HR7.out.keptNone b8
     have HG8:Hid (w.grownBy w8 (some rd)):=grown_below HG7.out b8
     clear K8 o8 b8 HO7 HR7 HG7
     cases ok8 with
     | true =>
       go_wp2
       go_meet
       case rel=>exact⟨ar,a8,c8,rfl,by omega,HA1,HA8,HR8,HG8⟩
     | false =>
       go_wp2
       go_meet
       case rel=>exact⟨ps,a1,c1,rfl,hpl,HPS,HO8,HR8,HG8⟩
  case rest =>
   obtain⟨ps,a1,c1,rfl,hpl,HPS,HO,HR,HG⟩:=hcut
   obtain⟨w9,rfl⟩:∃ W,W=wc:=⟨_,rfl⟩
   clear HO5 HR5 HG5 t
   have hw9:=HG.out.size
   by_cases h0:ps.length=0
   · have hn0:¬ (0:Int)<(ps.length:Int):=by omega
     have hb0:decide ((0:Int)<(ps.length:Int))=false:=decide_eq_false hn0
     go_upto_if 51 with fail
     go_cut [5,13] from 45 (fun v5 _ wx=>StAt w rd a n cap 3600 v5 wx)
     case first =>
      go_wp2
      go_meet
      case rel=>exact⟨ps,a1,c1,by rw[h0],hpl,HPS,HO,HR,HG⟩
     case rest =>
      clear HO HR HG HPS hn0 hb0 h0 hpl
      obtain⟨ps,a1,c1,rfl,hpl,HPS,HO,HR,HG⟩:=hcut
      obtain⟨wt,rfl⟩:∃ W,W=wc:=⟨_,rfl⟩
      have K12:=ze1 rd n cap 30 30 a wt rfl (by omega) (by omega) hn HR.out
      go_wp2_with fail
      refine K12.mono ?_
      rintro e w12 ⟨t,rfl,R12,G12⟩
      have HO12:=zf (zc8 HO.out G12 (zc7 HO.out hrd))
      have HR12:Hid (Rd rd a n cap w12):=R12
      have HG12:Hid (w.grownBy w12 (some rd)):=HG.out.trans G12
      clear K12 R12 G12 HO HR HG
      cases t with
      | false =>
        go_wp2
        go_ret2
        exact⟨_,rt,rfl,hrt,ps,a1,c1,rfl,by omega,HPS,HO12,HR12,HG12⟩
      | true =>
        have K13:=zf6 [120] w12 (by simp)
        obtain⟨sx,hsx⟩:∃ sx,sx=sumL [120]:=⟨_,rfl⟩
        have HSX:Hid (sx.length≤1048576):=by rw[Hid,hsx,zd7];omega
        rw[←hsx] at K13
        clear hsx
        go_wp2_with fail
        refine K13.mono ?_
        rintro e w13 ⟨rfl,b13⟩
        have O13:=(zb4 HO12.out b13).alloc (.cells #[.string ⟨sx.toArray⟩,.string ⟨#[120]⟩] 83)
        have XA:Below w13.heap.size w13 (w13.alloc (.cells #[.string ⟨sx.toArray⟩,.string ⟨#[120]⟩] 83)):=(Below.refl _ _).alloc (Nat.le_refl _) _
        have HR13:Hid (Rd rd a n cap (w13.alloc (.cells #[.string ⟨sx.toArray⟩,.string ⟨#[120]⟩] 83))):=(HR12.out.keptNone b13).keptNone XA
        have HG13:Hid (w.grownBy (w13.alloc (.cells #[.string ⟨sx.toArray⟩,.string ⟨#[120]⟩] 83)) (some rd)):=grown_below (grown_below HG12.out b13) XA
        have hlow:∀ k,(Value.slice a1 ps.length c1).ownBlock=some k→w.heap.size≤k:=fun k hk=>(HO12.out.lt k hk).1
        have hs13:=HG13.out.size
        clear K13 b13 XA HO12 HR12 HG12
        go_wp2_with (at_builtin;refine wpList_append_lies _ rfl _ _ 24 rfl w.heap.size 83 i0 (.agg #[.string ⟨#[]⟩,.string ⟨#[]⟩]) 2 32 Tryz.underlying24 hi0 hz0 hz1 hz2 rfl (by decide) (.slice a1 ps.length c1) ps.length _ rfl O13 ⟨w13.heap.size,0,none⟩ 1 1 [.string ⟨sx.toArray⟩,.string ⟨#[120]⟩] rfl rfl (World.news_of_block (cs:=#[.string ⟨sx.toArray⟩,.string ⟨#[120]⟩]) (t:=83) (fr:=(0,0)) (heap_alloc_new w13 _)) (by simp[Value.oneCell']) (by omega) (by unfold maxLen;omega) (by omega) hs13 (w13.heap.size+1) (by simp) ?_;intro g14 c14 w14 hown14 hgrow hat hlt14)
        have HG14:Hid (w.grownBy w14 (some rd)):=zoe HG13.out hgrow hlow
        have HR14:Hid (Rd rd a n cap w14):=HR13.out.kept hgrow (fun e=>by have:=hlow _ e;omega) (fun cb off h1 h2 e=>by have h3:=HCD.out cb off h1 h2;have h4:=hlow _ e.symm;omega)
        have HO14:Hid (w14.ownsRow w.heap.size 83 2 (.slice (some ⟨g14,0,none⟩) (ps ++ [(sx,[120])]).length c14) (ps ++ [(sx,[120])]).length (zc (ps ++ [(sx,[120])]))):=by
         rw[Hid,zai,List.length_append];exact hown14
        have HP14:Hid (∀ p∈ps ++ [(sx,[120])],p.1.length≤1048576∧p.2.length≤1048576):=fun p hp=>by
         rcases List.mem_append.1 hp with h | h
         · exact HPS.out p h
         · simp only[List.mem_singleton] at h
           subst h
           exact⟨HSX.out,by simp⟩
        clear hgrow hown14 O13
        first | go_ret2 | (go_wp2;go_ret2)
        exact⟨_,rt,rfl,hrt,ps ++ [(sx,[120])],some ⟨g14,0,none⟩,c14,by simp,by simp;omega,HP14,HO14,HR14,HG14⟩
   · have hpos : (0 : Int) < (ps.length : Int) := by omega
     have hpb:decide ((0:Int)<(ps.length:Int))=true:=decide_eq_true hpos
     have K10:=ze1 rd n cap 8 8 a w9 rfl (by omega) (by omega) hn HR.out
     go_wp2_with fail
     refine K10.mono ?_
     rintro e w10 ⟨t,rfl,R10,G10⟩
     have HO10:=zf (zc8 HO.out G10 (zc7 HO.out hrd))
     have HR10:Hid (Rd rd a n cap w10):=R10
     have HG10:Hid (w.grownBy w10 (some rd)):=HG.out.trans G10
     clear K10 R10 G10 HO HR HG
     go_upto_if 51 with fail
     go_cut [5,13] from 45 (fun v5 _ wx=>StAt w rd a n cap 3600 v5 wx)
     case first =>
      cases t with
      | false =>
        go_wp2
        go_meet
        case rel=>exact⟨ps,a1,c1,rfl,hpl,HPS,HO10,HR10,HG10⟩
      | true =>
        have K11:=zvt rd n cap ps.length ps.length a w10 rfl (by omega) (by omega) hn HR10.out
        go_wp2_with fail
        refine K11.mono ?_
        rintro e w11 ⟨kx,hkx,rfl,R11,G11⟩
        have HO11:=zf (zc8 HO10.out G11 (zc7 HO10.out hrd))
        have HR11:Hid (Rd rd a n cap w11):=R11
        have HG11:Hid (w.grownBy w11 (some rd)):=HG10.out.trans G11
        obtain⟨g,rfl,hcap⟩:∃ g,a1=some ⟨g,0,none⟩∧ps.length≤c1:=by
         rcases HO11.out.2 with ⟨h1,h2⟩ | ⟨g,c',cur,h1,_,_,h3,_⟩
         · omega
         · cases h1;exact⟨g,rfl,h3⟩
        have hI:=(za8 HO11.out).2.2
        have hcells:∀ j (h:j<ps.length),w11.cell? ⟨g,j*2,none⟩=some (.string ⟨ps[j].1.toArray⟩)∧w11.cell? ⟨g,j*2+1,none⟩=some (.string ⟨ps[j].2.toArray⟩):=fun j h=>by
         rcases hI with h' | ⟨b',off',h',hc⟩
         · rw[h'] at h;simp at h
         · cases h';simpa using hc j h
        have hgl:g<w11.heap.size:=World.block_lt_of_cell? w11 _ (hcells 0 (by omega)).1
        have HT1:Hid (∀ W,Below w11.heap.size w11 W→IsPairs W (some ⟨g,0,none⟩) (ps.take kx)):=fun W hW=>.inr ⟨g,0,rfl,fun j hj=>by
         rw[List.length_take] at hj
         have:=hcells j (by omega)
         rw[List.getElem_take,Nat.zero_add]
         exact⟨(hW.cell (p:=⟨g,j*2,none⟩) hgl).trans this.1,(hW.cell (p:=⟨g,j*2+1,none⟩) hgl).trans this.2⟩⟩
        have HT2:Hid (∀ W,Below w11.heap.size w11 W→IsPairs W (some ⟨g,(kx+1)*2,none⟩) (ps.drop (kx+1))):=fun W hW=>.inr ⟨g,(kx+1)*2,rfl,fun j hj=>by
         rw[List.length_drop] at hj
         have:=hcells (kx+1+j) (by omega)
         rw[List.getElem_drop,show (kx+1)*2+j*2=(kx+1+j)*2 by omega]
         exact⟨(hW.cell (p:=⟨g,(kx+1+j)*2,none⟩) hgl).trans this.1,(hW.cell (p:=⟨g,(kx+1+j)*2+1,none⟩) hgl).trans this.2⟩⟩
        have HT3:Hid (∀ (W:World) (ad:Addr),ps.length≤kx+1→IsPairs W (some ad) (ps.drop (kx+1))):=fun W ad h=>.inl (List.drop_eq_nil_of_le h)
        have hl1:(ps.take kx).length=kx:=by rw[List.length_take];omega
        have hl2:(ps.drop (kx+1)).length=ps.length - (kx+1):=by simp
        have HL1:Hid (kx=(ps.take kx).length):=hl1.symm
        have HL2:Hid (ps.length - (kx+1)=(ps.drop (kx+1)).length):=hl2.symm
        have z1:(0:Int)≤(kx:Int):=by omega
        have z2:(kx:Int)≤(ps.length:Int):=by omega
        have z2c:(kx:Int)≤(c1:Int):=by omega
        obtain⟨k1,hk1⟩:∃ k1,k1=kx+1:=⟨_,rfl⟩
        have z3:IntKind.i64.wrap ((kx:Int)+1)=(k1:Int):=by rw[zar _ (by omega) (by omega)];omega
        have z4:(kx:Int)+1=(k1:Int):=by omega
        have z5:(0:Int)≤(k1:Int):=by omega
        have z6:(k1:Int)≤(ps.length:Int):=by omega
        have z7:((k1:Int)).toNat=k1:=by omega
        have z8:((kx:Int)).toNat=kx:=by omega
        have z10:kx≤k1:=by omega
        have z11:IntKind.i64.wrap (k1:Int)=(k1:Int):=zar _ (by omega) (by omega)
        have z9:(ps.length:Int)≤(c1:Int):=by omega
        rw[←hk1] at HT2 HT3 HL2
        have HK1:Hid (k1=kx+1):=hk1
        have XE:Hid (Below w11.heap.size w11 (w11.alloc (.cells #[] 83)).drew):=(fun h=>⟨h.os,h.tape,h.output,h.size,h.block⟩:Below w11.heap.size w11 (w11.alloc (.cells #[] 83))→_) ((Below.refl _ _).alloc (Nat.le_refl _) _)
        have OE:Hid ((w11.alloc (.cells #[] 83)).drew.ownsRow w11.heap.size 83 2 (.slice (some ⟨w11.heap.size,0,none⟩) 0 0) 0 []):=World.ownsRow_lit (e:=83) (size:=2) (base:=w11.heap.size) w11 #[] 0 (Nat.le_refl _) (Nat.zero_le _) rfl
        have hw11:=HG11.out.size
        have hml:c1≤9223372036854775807:=by
         rcases HO11.out.2 with ⟨h',h0⟩ | ⟨g',cap',cur,h',hb,hg,hc,hm,_⟩
         · cases h'
         · cases h';unfold maxLen at hm;omega
        have HPE:Hid (∀ p∈ps.take kx ++ ps.drop k1,p.1.length≤1048576∧p.2.length≤1048576):=fun p hp=>by
         rcases List.mem_append.1 hp with h | h
         · exact HPS.out p (List.mem_of_mem_take h)
         · exact HPS.out p (List.mem_of_mem_drop h)
        clear K11 R11 G11 hI hcells hl1 hl2 hk1 HO10 HR10 HG10
        by_cases hc1:c1=k1
        · go_wp2_with fail
          go_region_law (first
           | (refine zja rfl (.tmp 60) (.tmp 64) 24 rfl w11.heap.size 83 i0 (.agg #[.string ⟨#[]⟩, .string ⟨#[]⟩]) 32 Tryz.underlying24 hi0 hz0 hz1 hz2 rfl v20 (0 + kx) ([] ++ zc (ps.take kx)) (by simp [Act.eval]) OV.out (some ⟨g, 0, none⟩) (ps.drop k1) (ps.length - k1) _ HL2.out (by simp [Act.eval]; rfl) (fun h => by cases h) (by first | exact HT2.out w20 B20.out | exact HT3.out w20 _ (by have := HK1.out; omega)) (by unfold maxLen; have := HK1.out; omega) (by have := HK1.out; omega) B20.out.size ?_
              intro v21 w21 o21 g21
              have B21:Hid (Below w11.heap.size w11 w21):=B20.out.grown g21 B20.out.size (fun q hq=>(OV.out.lt q hq).1)
              have OW:Hid (w21.ownsRow w11.heap.size 83 2 v21 (0+kx+(ps.length - k1)) ([] ++ zc (ps.take kx) ++ zc (ps.drop k1))):=o21
              clear o21 g21)
           | (refine zja rfl (.tmp 56) (.tmp 59) 24 rfl w11.heap.size 83 i0 (.agg #[.string ⟨#[]⟩, .string ⟨#[]⟩]) 32 Tryz.underlying24 hi0 hz0 hz1 hz2 rfl (.slice (some ⟨w11.heap.size, 0, none⟩) 0 0) 0 [] (by simp [Act.eval]) OE.out (some ⟨g, 0, none⟩) (ps.take kx) kx _ HL1.out (by simp [Act.eval]; rfl) (fun h => by cases h) (HT1.out _ XE.out) (by unfold maxLen; omega) (by omega) XE.out.size ?_
              intro v20 w20 o20 g20
              have B20:Hid (Below w11.heap.size w11 w20):=XE.out.grown g20 XE.out.size (fun q hq=>(OE.out.lt q hq).1)
              have OV:Hid (w20.ownsRow w11.heap.size 83 2 v20 (0+kx) ([] ++ zc (ps.take kx))):=o20
              clear o20 g20))
          all_goals
           obtain⟨a21,m21,c21,rfl⟩:=zbj OW.out
           have HO21:Hid (w21.ownsRow w.heap.size 83 2 (.slice a21 m21 c21) (ps.take kx ++ ps.drop k1).length (zc (ps.take kx ++ ps.drop k1))):=by
            have h1:=OW.out
            rw[Hid,zai,List.length_append,←HL1.out,←HL2.out]
            have:=h1.mono hw11
            simpa using this
           obtain⟨rfl,_,_⟩:=za8 HO21.out
           have HR21:Hid (Rd rd a n cap w21):=HR11.out.keptNone B21.out
           have HG21:Hid (w.grownBy w21 (some rd)):=grown_below HG11.out B21.out
           go_wp2
           go_meet
           case rel=>exact⟨ps.take kx ++ ps.drop k1,a21,c21,by simp,by rw[List.length_append,←HL1.out,←HL2.out];omega,HPE,HO21,HR21,HG21⟩
        · go_wp2_with fail
          go_region_law (first
           | (refine zja rfl (.tmp 60) (.tmp 64) 24 rfl w11.heap.size 83 i0 (.agg #[.string ⟨#[]⟩, .string ⟨#[]⟩]) 32 Tryz.underlying24 hi0 hz0 hz1 hz2 rfl v20 (0 + kx) ([] ++ zc (ps.take kx)) (by simp [Act.eval]) OV.out (some ⟨g, k1 * 2, none⟩) (ps.drop k1) (ps.length - k1) _ HL2.out (by simp [Act.eval]; rfl) (fun h => by cases h) (by first | exact HT2.out w20 B20.out | exact HT3.out w20 _ (by have := HK1.out; omega)) (by unfold maxLen; have := HK1.out; omega) (by have := HK1.out; omega) B20.out.size ?_
              intro v21 w21 o21 g21
              have B21:Hid (Below w11.heap.size w11 w21):=B20.out.grown g21 B20.out.size (fun q hq=>(OV.out.lt q hq).1)
              have OW:Hid (w21.ownsRow w11.heap.size 83 2 v21 (0+kx+(ps.length - k1)) ([] ++ zc (ps.take kx) ++ zc (ps.drop k1))):=o21
              clear o21 g21)
           | (refine zja rfl (.tmp 56) (.tmp 59) 24 rfl w11.heap.size 83 i0 (.agg #[.string ⟨#[]⟩, .string ⟨#[]⟩]) 32 Tryz.underlying24 hi0 hz0 hz1 hz2 rfl (.slice (some ⟨w11.heap.size, 0, none⟩) 0 0) 0 [] (by simp [Act.eval]) OE.out (some ⟨g, 0, none⟩) (ps.take kx) kx _ HL1.out (by simp [Act.eval]; rfl) (fun h => by cases h) (HT1.out _ XE.out) (by unfold maxLen; omega) (by omega) XE.out.size ?_
              intro v20 w20 o20 g20
              have B20:Hid (Below w11.heap.size w11 w20):=XE.out.grown g20 XE.out.size (fun q hq=>(OE.out.lt q hq).1)
              have OV:Hid (w20.ownsRow w11.heap.size 83 2 v20 (0+kx) ([] ++ zc (ps.take kx))):=o20
              clear o20 g20))
          all_goals
           obtain⟨a21,m21,c21,rfl⟩:=zbj OW.out
           have HO21:Hid (w21.ownsRow w.heap.size 83 2 (.slice a21 m21 c21) (ps.take kx ++ ps.drop k1).length (zc (ps.take kx ++ ps.drop k1))):=by
            have h1:=OW.out
            rw[Hid,zai,List.length_append,←HL1.out,←HL2.out]
            have:=h1.mono hw11
            simpa using this
           obtain⟨rfl,_,_⟩:=za8 HO21.out
           have HR21:Hid (Rd rd a n cap w21):=HR11.out.keptNone B21.out
           have HG21:Hid (w.grownBy w21 (some rd)):=grown_below HG11.out B21.out
           go_wp2
           go_meet
           case rel=>exact⟨ps.take kx ++ ps.drop k1,a21,c21,by simp,by rw[List.length_append,←HL1.out,←HL2.out];omega,HPE,HO21,HR21,HG21⟩
     case rest =>
      clear HO10 HR10 HG10 HPS hpos hpb h0 hpl t
      obtain⟨ps,a1,c1,rfl,hpl,HPS,HO,HR,HG⟩:=hcut
      obtain⟨wt,rfl⟩:∃ W,W=wc:=⟨_,rfl⟩
      have K12:=ze1 rd n cap 30 30 a wt rfl (by omega) (by omega) hn HR.out
      go_wp2_with fail
      refine K12.mono ?_
      rintro e w12 ⟨t,rfl,R12,G12⟩
      have HO12:=zf (zc8 HO.out G12 (zc7 HO.out hrd))
      have HR12:Hid (Rd rd a n cap w12):=R12
      have HG12:Hid (w.grownBy w12 (some rd)):=HG.out.trans G12
      clear K12 R12 G12 HO HR HG
      cases t with
      | false =>
        go_wp2
        go_ret2
        exact⟨_,rt,rfl,hrt,ps,a1,c1,rfl,by omega,HPS,HO12,HR12,HG12⟩
      | true =>
        have K13:=zf6 [120] w12 (by simp)
        obtain⟨sx,hsx⟩:∃ sx,sx=sumL [120]:=⟨_,rfl⟩
        have HSX:Hid (sx.length≤1048576):=by rw[Hid,hsx,zd7];omega
        rw[←hsx] at K13
        clear hsx
        go_wp2_with fail
        refine K13.mono ?_
        rintro e w13 ⟨rfl,b13⟩
        have O13:=(zb4 HO12.out b13).alloc (.cells #[.string ⟨sx.toArray⟩,.string ⟨#[120]⟩] 83)
        have XA:Below w13.heap.size w13 (w13.alloc (.cells #[.string ⟨sx.toArray⟩,.string ⟨#[120]⟩] 83)):=(Below.refl _ _).alloc (Nat.le_refl _) _
        have HR13:Hid (Rd rd a n cap (w13.alloc (.cells #[.string ⟨sx.toArray⟩,.string ⟨#[120]⟩] 83))):=(HR12.out.keptNone b13).keptNone XA
        have HG13:Hid (w.grownBy (w13.alloc (.cells #[.string ⟨sx.toArray⟩,.string ⟨#[120]⟩] 83)) (some rd)):=grown_below (grown_below HG12.out b13) XA
        have hlow:∀ k,(Value.slice a1 ps.length c1).ownBlock=some k→w.heap.size≤k:=fun k hk=>(HO12.out.lt k hk).1
        have hs13:=HG13.out.size
        clear K13 b13 XA HO12 HR12 HG12
        go_wp2_with (at_builtin;refine wpList_append_lies _ rfl _ _ 24 rfl w.heap.size 83 i0 (.agg #[.string ⟨#[]⟩,.string ⟨#[]⟩]) 2 32 Tryz.underlying24 hi0 hz0 hz1 hz2 rfl (by decide) (.slice a1 ps.length c1) ps.length _ rfl O13 ⟨w13.heap.size,0,none⟩ 1 1 [.string ⟨sx.toArray⟩,.string ⟨#[120]⟩] rfl rfl (World.news_of_block (cs:=#[.string ⟨sx.toArray⟩,.string ⟨#[120]⟩]) (t:=83) (fr:=(0,0)) (heap_alloc_new w13 _)) (by simp[Value.oneCell']) (by omega) (by unfold maxLen;omega) (by omega) hs13 (w13.heap.size+1) (by simp) ?_;intro g14 c14 w14 hown14 hgrow hat hlt14)
        have HG14:Hid (w.grownBy w14 (some rd)):=zoe HG13.out hgrow hlow
        have HR14:Hid (Rd rd a n cap w14):=HR13.out.kept hgrow (fun e=>by have:=hlow _ e;omega) (fun cb off h1 h2 e=>by have h3:=HCD.out cb off h1 h2;have h4:=hlow _ e.symm;omega)
        have HO14:Hid (w14.ownsRow w.heap.size 83 2 (.slice (some ⟨g14,0,none⟩) (ps ++ [(sx,[120])]).length c14) (ps ++ [(sx,[120])]).length (zc (ps ++ [(sx,[120])]))):=by
         rw[Hid,zai,List.length_append];exact hown14
        have HP14:Hid (∀ p∈ps ++ [(sx,[120])],p.1.length≤1048576∧p.2.length≤1048576):=fun p hp=>by
         rcases List.mem_append.1 hp with h | h
         · exact HPS.out p h
         · simp only[List.mem_singleton] at h
           subst h
           exact⟨HSX.out,by simp⟩
        clear hgrow hown14 O13
        first | go_ret2 | (go_wp2;go_ret2)
        exact⟨_,rt,rfl,hrt,ps ++ [(sx,[120])],some ⟨g14,0,none⟩,c14,by simp,by simp;omega,HP14,HO14,HR14,HG14⟩
set_option linter.unusedSimpArgs false
theorem zdc {w w':World} {b j:Nat} (h:w.grownBy w' (some b)) (y:Value):w.grownBy (w'.setCell ⟨b,j,none⟩ y) (some b) :=
 ⟨h.os,h.tape,h.output,by simpa [World.setCell] using h.size,fun k hk hne=>(Below.heap_setCell _ _ _ _ (fun e=>hne (by simpa using e))).trans (h.block k hk hne)⟩
def zcq (ps:List OpL):Prop:=∀ p∈ps,p.1.length≤5∧p.2.1.length≤5
theorem zog {ps:List OpL} (h:zcq ps) (k v:List UInt8) (c:Bool) (hk:k.length≤5) (hv:v.length≤5):zcq (ps ++ [(k,v,c)]):=fun p hp=>by
 rcases List.mem_append.1 hp with h1 | h1
 · exact h p h1
 · simp at h1;subst h1;exact⟨hk,hv⟩
theorem zvm (rd n cap : Nat) (a : Option Addr) (w : World) (hn : n ≤ 1048576) (h : Rd rd a n cap w) :
 Calls Tryz.prog 40 #[.pointer (some ⟨rd,0,none⟩)] w fun e w'=>∃ (ps:List OpL) (a2:Option Addr) (c2:Nat),ps.length≤4∧zcq ps∧e=.returned (.slice a2 ps.length c2)∧w'.ownsRow w.heap.size 38 3 (.slice a2 ps.length c2) ps.length (zbf ps)∧Rd rd a n cap w'∧w.grownBy w' (some rd):=by
 obtain⟨i0,hi0,hz0,hz1,hz2⟩:=info_parts zvq
 have HRDL:Hid (rd<w.heap.size):=h.lt
 have HCODE:Hid (∀ cb off,a=some ⟨cb,off,none⟩→n≠0→cb<w.heap.size):=h.code
 have O0:Hid ((w.alloc (.cells #[] 38)).ownsRow w.heap.size 38 3 (.slice (some ⟨w.heap.size,0,none⟩) 0 0) 0 []):=World.ownsRow_lit (e:=38) (size:=3) w #[] 0 (base:=w.heap.size) (Nat.le_refl _) (Nat.zero_le _) rfl
 have G0:Hid (w.grownBy (w.alloc (.cells #[] 38)) (some rd)):=World.grownBy_alloc w _ _
 have K0:=zcr rd n cap 4 4 a (w.alloc (.cells #[] 38)) rfl (by omega) (by omega) hn (h.keptNone ((Below.refl _ _).alloc (Nat.le_refl _) _))
 clear h
 go_enter Tryz.func40,Tryz.ntmps40
 go_wp2_with fail
 refine K0.mono ?_
 rintro e w1 ⟨k0,hk0,rfl,hR1,hG1⟩
 have O1:Hid (w1.ownsRow w.heap.size 38 3 (.slice (some ⟨w.heap.size,0,none⟩) 0 0) 0 []):=O0.out.kept hG1 (by simp[Value.ownBlock];have:=HRDL.out;omega)
 have G1:Hid (w.grownBy w1 (some rd)):=G0.out.trans hG1
 have R1:Hid (Rd rd a n cap w1):=hR1
 clear hR1 hG1 K0 O0 G0
 go_wp2
 go_loopw [3,4,5] (fun v i _ wr=>∃ j c2:Nat,∃ a2:Option Addr,∃ ps:List OpL,ps.length+j=k0+1∧i=.int .i64 (j:Int)∧v=.slice a2 ps.length c2∧zcq ps∧wr.ownsRow w.heap.size 38 3 (.slice a2 ps.length c2) ps.length (zbf ps)∧Rd rd a n cap wr∧w.grownBy wr (some rd)) (fun _ i _ _=>(intOf i).toNat)
 case atStart=>exact⟨k0+1,0,some ⟨w.heap.size,0,none⟩,[],by simp,by go_num,rfl,fun p hp=>by simp at hp,O1.out,R1.out,G1.out⟩
 case round =>
  obtain⟨j0,c2,a2,ps,hj,rfl,rfl,hsm,hown,hRr,hGr⟩:=hrel
  have HSM:Hid (zcq ps):=hsm
  have hpl:ps.length≤4:=by omega
  have HO:=zf hown
  have HG:Hid (w.grownBy wr (some rd)):=hGr
  have HR:Hid (Rd rd a n cap wr):=hRr
  have HLO:Hid (∀ k,(Value.slice a2 ps.length c2).ownBlock=some k→w.heap.size≤k):=fun k hk=>(hown.lt k hk).1
  have HNR:Hid ((Value.slice a2 ps.length c2).ownBlock=none∨(Value.slice a2 ps.length c2).ownBlock≠some rd):=.inr (fun e=>by have:=(hown.lt _ e).1;have:=HRDL.out;omega)
  clear hown hGr hRr hsm R1 G1 O1
  cases j0 with
  | zero =>
    have hz0:¬ ((0:Nat):Int) > 0:=by omega
    have K1:=zcr rd n cap 30 30 a wr rfl (by omega) (by omega) hn HR.out
    have HPL:Hid (ps.length=k0+1):=by rw[Hid];omega
    clear HR hj
    go_wp2_with fail
    refine K1.mono ?_
    rintro e w2 ⟨y,hy,rfl,hR2,hG2⟩
    have G2:Hid (w.grownBy w2 (some rd)):=HG.out.trans hG2
    have O2:=zf (HO.out.kept hG2 HNR.out)
    have R2:Hid (Rd rd a n cap w2):=hR2
    clear hR2 hG2 K1 HG HO
    by_cases y0:y=0
    · subst y0
      go_wp2
      go_ret
      exact⟨[],some ⟨w2.heap.size,0,none⟩,0,by simp,fun p hp=>by simp at hp,rfl,World.ownsRow_lit (e:=38) (size:=3) w2 #[] 0 (base:=w.heap.size) G2.out.size (Nat.zero_le _) rfl,R2.out.keptNone ((Below.refl _ _).alloc (Nat.le_refl _) _),G2.out.trans (World.grownBy_alloc w2 _ _)⟩
    · have y0' : ((y : Int) == 0) = false := by simp only [beq_eq_false_iff_ne, ne_eq]; omega
      by_cases y1:y=1
      · subst y1
        cases ps with
        | nil=>have:=HPL.out;simp at this
        | cons p ps =>
          obtain⟨pk,pv,pc⟩:=p
          obtain⟨g,cap',hv,hg1,hg2,hc,hf⟩:∃ g cap',Value.slice a2 ((pk,pv,pc) :: ps).length c2=.slice (some ⟨g,0,none⟩) ((pk,pv,pc) :: ps).length cap'∧w.heap.size≤g∧g<w2.heap.size∧(∀ j,j<((pk,pv,pc) :: ps).length*3→w2.cell? ⟨g,j,none⟩=(zbf ((pk,pv,pc) :: ps))[j]?)∧∀ j,w2.frozen? ⟨g,j,none⟩=false:=by
           rcases zvc O2.out with ⟨_,h0,_⟩ | h
           · simp at h0
           · exact h
          injection hv with hv1 hv2 hv3
          subst hv1
          have c2':w2.cell? ⟨g,2,none⟩=some (.bool pc):=by rw[hc 2 (by simp;omega)];rfl
          have f2:=hf 2
          have hlen:(0:Int)<((((pk,pv,pc) :: ps).length:Nat):Int):=by simp
          have ST:Hid ((w2.setCell ⟨g,2,none⟩ (.bool !pc)).ownsRow w.heap.size 38 3 (.slice (some ⟨g,0,none⟩) ((pk,pv,!pc) :: ps).length c2) ((pk,pv,!pc) :: ps).length (zbf ((pk,pv,!pc) :: ps))):=(O2.out.stored 2 (.bool !pc)).1
          have SG:Hid (w.grownBy (w2.setCell ⟨g,2,none⟩ (.bool !pc)) (some rd)):=zdd G2.out _ _ hg1
          have SR:Hid (Rd rd a n cap (w2.setCell ⟨g,2,none⟩ (.bool !pc))):=R2.out.kept (zdc (World.grownBy.refl w2 (some g)) _) (by simp;have:=HRDL.out;omega) (fun cb off hcc hne=>by have:=HCODE.out cb off hcc hne;simp;omega)
          have SMM:Hid (zcq ((pk,pv,!pc) :: ps)):=fun p hp=>by
           rcases List.mem_cons.1 hp with h1 | h1
           · subst h1;exact HSM.out (pk,pv,pc) (by simp)
           · exact HSM.out p (by simp[h1])
          clear hc hf R2 G2 O2 hv3
          go_wp2
          go_ret
          exact⟨(pk,pv,!pc) :: ps,some ⟨g,0,none⟩,c2,by simpa using hpl,SMM.out,rfl,ST.out,SR.out,SG.out⟩
      · have y1':((y:Int) == 1)=false:=by simp only[beq_eq_false_iff_ne,ne_eq];omega
        go_wp2
        go_ret
        exact⟨ps,a2,c2,hpl,HSM.out,rfl,O2.out,R2.out,G2.out⟩
  | succ j =>
    have hjp:¬ ((j+1:Nat):Int)≤0:=by omega
    have hjp2:(0:Int)<((j+1:Nat):Int):=by omega
    have HJ:Hid (ps.length+(j+1)=k0+1):=hj
    have hj4:j≤4:=by omega
    have K1:=zi0 rd n cap a wr hn HR.out
    clear HR hj
    go_wp2_with fail
    refine K1.mono ?_
    rintro e w2 ⟨k1,hk1,rfl,hR2,hG2⟩
    have G2:Hid (w.grownBy w2 (some rd)):=HG.out.trans hG2
    have O2:=zf (HO.out.kept hG2 HNR.out)
    have K2:=zi1 rd n cap a w2 hn hR2
    clear hR2 hG2 K1 HG HO
    go_wp2_with fail
    refine K2.mono ?_
    rintro e w3 ⟨v1,hv1,rfl,hR3,hG3⟩
    have G3:Hid (w.grownBy w3 (some rd)):=G2.out.trans hG3
    have O3:=zf (O2.out.kept hG3 HNR.out)
    have X3:Hid ((w3.alloc (.cells #[.string ⟨k1.toArray⟩,.string ⟨v1.toArray⟩,.bool false] 38)).heap[w3.heap.size]? = some (.cells #[.string ⟨k1.toArray⟩,.string ⟨v1.toArray⟩,.bool false] 38 (0,0))):=heap_alloc_new w3 _
    have S3:Hid (w.heap.size≤w3.heap.size):=G3.out.size
    have K3:=ze1 rd n cap 3 3 a (w3.alloc (.cells #[.string ⟨k1.toArray⟩,.string ⟨v1.toArray⟩,.bool false] 38)) rfl (by omega) (by omega) hn (hR3.keptNone ((Below.refl _ _).alloc (Nat.le_refl _) _))
    have G3a:Hid (w.grownBy (w3.alloc (.cells #[.string ⟨k1.toArray⟩,.string ⟨v1.toArray⟩,.bool false] 38)) (some rd)):=G3.out.trans (World.grownBy_alloc w3 _ _)
    have O3a:=zf (O3.out.alloc (.cells #[.string ⟨k1.toArray⟩,.string ⟨v1.toArray⟩,.bool false] 38))
    have NB:Hid ((Value.slice a2 ps.length c2).ownBlock≠some w3.heap.size):=fun e=>by have:=(O3.out.lt _ e).2;omega
    clear hR3 hG3 K2 G2 O2 G3 O3
    go_wp2_with fail
    refine K3.mono ?_
    rintro e w4 ⟨t,rfl,hR4,hG4⟩
    have G4:Hid (w.grownBy w4 (some rd)):=G3a.out.trans hG4
    have O4:=zf (O3a.out.kept hG4 HNR.out)
    have X4:Hid (w4.heap[w3.heap.size]? = some (.cells #[.string ⟨k1.toArray⟩,.string ⟨v1.toArray⟩,.bool false] 38 (0,0))):=(hG4.block w3.heap.size (by simp) (by simp;have:=HRDL.out;have:=S3.out;omega)).trans X3.out
    have S4:Hid (w3.heap.size<w4.heap.size):=lt_of_block X4.out
    have R4:Hid (Rd rd a n cap w4):=hR4
    clear hR4 hG4 K3 G3a O3a X3
    cases t with
    | false =>
      obtain⟨p0,p1,p2,pf⟩:=zb7 X4.out
      have SM2:Hid (zcq (ps ++ [(k1,v1,false)])):=zog HSM.out k1 v1 false hk1 hv1
      have HOW:Hid (w4.ownsRow w.heap.size 38 3 (.slice a2 ps.length c2) ps.length (zbf ps)):=O4.out
      have HRA:Hid (Rd rd a n cap (w4.alloc (.cells #[.string ⟨k1.toArray⟩,.string ⟨v1.toArray⟩,.bool false] 38))):=R4.out.keptNone ((Below.refl _ _).alloc (Nat.le_refl _) _)
      have HGA:Hid (w.grownBy (w4.alloc (.cells #[.string ⟨k1.toArray⟩,.string ⟨v1.toArray⟩,.bool false] 38)) (some rd)):=G4.out.trans (World.grownBy_alloc w4 _ _)
      have HSZ:Hid (w.heap.size≤w4.heap.size):=G4.out.size
      have NEW:Hid (∀ q u,[Value.string ⟨k1.toArray⟩,.string ⟨v1.toArray⟩,.bool false][q]? = some u→(w4.alloc (.cells #[.string ⟨k1.toArray⟩,.string ⟨v1.toArray⟩,.bool false] 38)).cell? ((⟨w4.heap.size,0,none⟩:Addr).add q)=some u):=World.news_of_block (cs:=#[.string ⟨k1.toArray⟩,.string ⟨v1.toArray⟩,.bool false]) (t:=38) (fr:=(0,0)) (heap_alloc_new w4 _)
      clear pf R4 G4 O4
      go_wp2_with (at_builtin;refine wpList_append_lies _ rfl _ _ 25 rfl w.heap.size 38 i0 (.agg #[.string ⟨#[]⟩,.string ⟨#[]⟩,.bool false]) 3 40 Tryz.underlying25 hi0 hz0 hz1 hz2 rfl (by decide) (.slice a2 ps.length c2) ps.length _ rfl (HOW.out.alloc _) ⟨w4.heap.size,0,none⟩ 1 1 [.string ⟨k1.toArray⟩,.string ⟨v1.toArray⟩,.bool false] rfl rfl NEW.out (by simp[Value.oneCell']) (by omega) (by unfold maxLen;omega) (by omega) (by have:=HSZ.out;simp[World.setCell];omega) (w4.heap.size+1) (by simp[World.setCell]) ?_;intro g2 cap2 w5 hown5 hgrow hat hlt5)
      have HG5:Hid (w.grownBy w5 (some rd)):=zei HGA.out hgrow (fun k hk=>.inl (HLO.out k hk))
      have HR5:Hid (Rd rd a n cap w5):=HRA.out.kept hgrow (fun e=>by have:=HLO.out _ e;have:=HRDL.out;omega) (fun cb off hc hne e=>by have h1:=HLO.out _ e.symm;have h2:=HCODE.out cb off hc hne;omega)
      have HO5:Hid (w5.ownsRow w.heap.size 38 3 (.slice (some ⟨g2,0,none⟩) (ps ++ [(k1,v1,false)]).length cap2) (ps ++ [(k1,v1,false)]).length (zbf (ps ++ [(k1,v1,false)]))):=by rw[Hid,zo8,List.length_append];exact hown5
      clear hgrow hown5 hat hlt5 NEW HRA HGA HOW
      go_roundw
      case rel=>exact⟨j,cap2,some ⟨g2,0,none⟩,ps ++ [(k1,v1,false)],by have:=HJ.out;simp;omega,by simp <;> omega,by simp,SM2.out,HO5.out,HR5.out,HG5.out⟩
      case measure=>simp[intOf]
    | true =>
      have K4:=zi0 rd n cap a w4 hn R4.out
      clear R4
      go_wp2_with fail
      refine K4.mono ?_
      rintro e w5 ⟨k2,hk2,rfl,hR5,hG5⟩
      have G5:Hid (w.grownBy w5 (some rd)):=G4.out.trans hG5
      have O5:=zf (O4.out.kept hG5 HNR.out)
      have X5:Hid (w5.heap[w3.heap.size]? = some (.cells #[.string ⟨k1.toArray⟩,.string ⟨v1.toArray⟩,.bool false] 38 (0,0))):=(hG5.block w3.heap.size S4.out (by simp;have:=HRDL.out;have:=S3.out;omega)).trans X4.out
      have S5:Hid (w3.heap.size<w5.heap.size):=lt_of_block X5.out
      obtain⟨p0,p1,p2,pf⟩:=zb7 X5.out
      have pf0:=pf 0
      have pf1:=pf 1
      have pf2:=pf 2
      have SM2:Hid (zcq (ps ++ [(k2,[],true)])):=zog HSM.out k2 [] true hk2 (by simp)
      have HOW:Hid ((((w5.setCell ⟨w3.heap.size,0,none⟩ (.string ⟨k2.toArray⟩)).setCell ⟨w3.heap.size,1,none⟩ (.string ⟨#[]⟩)).setCell ⟨w3.heap.size,2,none⟩ (.bool true)).ownsRow w.heap.size 38 3 (.slice a2 ps.length c2) ps.length (zbf ps)):=zki O5.out NB.out _ _ _
      have HRA:Hid (Rd rd a n cap ((((w5.setCell ⟨w3.heap.size,0,none⟩ (.string ⟨k2.toArray⟩)).setCell ⟨w3.heap.size,1,none⟩ (.string ⟨#[]⟩)).setCell ⟨w3.heap.size,2,none⟩ (.bool true)).alloc (.cells #[.string ⟨k2.toArray⟩,.string ⟨#[]⟩,.bool true] 38))):=(hR5.kept (zdc (zdc (zdc (World.grownBy.refl w5 (some w3.heap.size)) _) _) _) (by simp;have:=HRDL.out;have:=S3.out;omega) (fun cb off hc hne=>by have:=HCODE.out cb off hc hne;simp;have:=S3.out;omega)).keptNone ((Below.refl _ _).alloc (Nat.le_refl _) _)
      have HGA:Hid (w.grownBy ((((w5.setCell ⟨w3.heap.size,0,none⟩ (.string ⟨k2.toArray⟩)).setCell ⟨w3.heap.size,1,none⟩ (.string ⟨#[]⟩)).setCell ⟨w3.heap.size,2,none⟩ (.bool true)).alloc (.cells #[.string ⟨k2.toArray⟩,.string ⟨#[]⟩,.bool true] 38)) (some rd)):=(zdd (zdd (zdd G5.out _ _ S3.out) _ _ S3.out) _ _ S3.out).trans (World.grownBy_alloc _ _ _)
      have HSZ:Hid (w.heap.size≤w5.heap.size):=G5.out.size
      have NEW:Hid (∀ q u,[Value.string ⟨k2.toArray⟩,.string ⟨#[]⟩,.bool true][q]? = some u→((((w5.setCell ⟨w3.heap.size,0,none⟩ (.string ⟨k2.toArray⟩)).setCell ⟨w3.heap.size,1,none⟩ (.string ⟨#[]⟩)).setCell ⟨w3.heap.size,2,none⟩ (.bool true)).alloc (.cells #[.string ⟨k2.toArray⟩,.string ⟨#[]⟩,.bool true] 38)).cell? ((⟨w5.heap.size,0,none⟩:Addr).add q)=some u):=World.news_of_block (cs:=#[.string ⟨k2.toArray⟩,.string ⟨#[]⟩,.bool true]) (t:=38) (fr:=(0,0)) (by have:=heap_alloc_new (((w5.setCell ⟨w3.heap.size,0,none⟩ (.string ⟨k2.toArray⟩)).setCell ⟨w3.heap.size,1,none⟩ (.string ⟨#[]⟩)).setCell ⟨w3.heap.size,2,none⟩ (.bool true)) (.cells #[.string ⟨k2.toArray⟩,.string ⟨#[]⟩,.bool true] 38);simpa [World.setCell] using this)
      clear pf G4 O4 X4 S4 hR5 hG5 K4
      go_wp2_with (at_builtin;refine wpList_append_lies _ rfl _ _ 25 rfl w.heap.size 38 i0 (.agg #[.string ⟨#[]⟩,.string ⟨#[]⟩,.bool false]) 3 40 Tryz.underlying25 hi0 hz0 hz1 hz2 rfl (by decide) (.slice a2 ps.length c2) ps.length _ rfl (HOW.out.alloc _) ⟨w5.heap.size,0,none⟩ 1 1 [.string ⟨k2.toArray⟩,.string ⟨#[]⟩,.bool true] rfl rfl NEW.out (by simp[Value.oneCell']) (by omega) (by unfold maxLen;omega) (by omega) (by have:=HSZ.out;simp[World.setCell];omega) (w5.heap.size+1) (by simp[World.setCell]) ?_;intro g2 cap2 w5 hown5 hgrow hat hlt5)
      have HG5:Hid (w.grownBy w5 (some rd)):=zei HGA.out hgrow (fun k hk=>.inl (HLO.out k hk))
      have HR5:Hid (Rd rd a n cap w5):=HRA.out.kept hgrow (fun e=>by have:=HLO.out _ e;have:=HRDL.out;omega) (fun cb off hc hne e=>by have h1:=HLO.out _ e.symm;have h2:=HCODE.out cb off hc hne;omega)
      have HO5:Hid (w5.ownsRow w.heap.size 38 3 (.slice (some ⟨g2,0,none⟩) (ps ++ [(k2,[],true)]).length cap2) (ps ++ [(k2,[],true)]).length (zbf (ps ++ [(k2,[],true)]))):=by rw[Hid,zo8,List.length_append];exact hown5
      clear hgrow hown5 hat hlt5 NEW HRA HGA HOW
      go_roundw
      case rel=>exact⟨j,cap2,some ⟨g2,0,none⟩,ps ++ [(k2,[],true)],by have:=HJ.out;simp;omega,by simp <;> omega,by simp,SM2.out,HO5.out,HR5.out,HG5.out⟩
      case measure=>simp[intOf]
theorem zvn (rd n cap:Nat) (a:Option Addr) (w:World) (hn:n≤1048576) (h:Rd rd a n cap w) :
 Calls Tryz.prog 15 #[.pointer (some ⟨rd,0,none⟩)] w fun e w'=>∃ (x y:Int) (ps:List OpL) (a2:Option Addr) (c2:Nat),ps.length≤4∧zcq ps∧e=.returned (.agg #[.int .i64 x,.int .i64 y,.slice a2 ps.length c2])∧w'.ownsRow w.heap.size 38 3 (.slice a2 ps.length c2) ps.length (zbf ps)∧Rd rd a n cap w'∧w.grownBy w' (some rd):=by
 have HRDL:Hid (rd<w.heap.size):=h.lt
 have HCODE:Hid (∀ cb off,a=some ⟨cb,off,none⟩→n≠0→cb<w.heap.size):=h.code
 have G0:Hid (w.grownBy (w.alloc (.cells #[.int .i64 0,.int .i64 0,.slice none 0 0] 27)) (some rd)):=World.grownBy_alloc w _ _
 have X0:Hid ((w.alloc (.cells #[.int .i64 0,.int .i64 0,.slice none 0 0] 27)).heap[w.heap.size]? = some (.cells #[.int .i64 0,.int .i64 0,.slice none 0 0] 27 (0,0))):=heap_alloc_new w _
 have K0:=zcr rd n cap 3 3 a (w.alloc (.cells #[.int .i64 0,.int .i64 0,.slice none 0 0] 27)) rfl (by omega) (by omega) hn (h.keptNone ((Below.refl _ _).alloc (Nat.le_refl _) _))
 clear h
 go_enter Tryz.func15,Tryz.ntmps15
 go_wp2_with fail
 refine K0.mono ?_
 rintro e w1 ⟨y1,hy1,rfl,hR1,hG1⟩
 have X1:Hid (w1.heap[w.heap.size]? = some (.cells #[.int .i64 0,.int .i64 0,.slice none 0 0] 27 (0,0))):=(hG1.block w.heap.size (by simp) (by simp;have:=HRDL.out;omega)).trans X0.out
 have G1:Hid (w.grownBy w1 (some rd)):=G0.out.trans hG1
 have K1:=zcr rd n cap 4 4 a w1 rfl (by omega) (by omega) hn hR1
 clear hR1 hG1 K0 X0 G0
 go_wp2_with fail
 refine K1.mono ?_
 rintro e w2 ⟨y2,hy2,rfl,hR2,hG2⟩
 have X2:Hid (w2.heap[w.heap.size]? = some (.cells #[.int .i64 0,.int .i64 0,.slice none 0 0] 27 (0,0))):=(hG2.block w.heap.size (lt_of_block X1.out) (by simp;have:=HRDL.out;omega)).trans X1.out
 have G2:Hid (w.grownBy w2 (some rd)):=G1.out.trans hG2
 have K2:=zvm rd n cap a w2 hn hR2
 clear hR2 hG2 K1 X1 G1
 go_wp2_with fail
 refine K2.mono ?_
 rintro e w3 ⟨ps,a2,c2,hpl,hsm,rfl,hO3,hR3,hG3⟩
 have X3:Hid (w3.heap[w.heap.size]? = some (.cells #[.int .i64 0,.int .i64 0,.slice none 0 0] 27 (0,0))):=(hG3.block w.heap.size (lt_of_block X2.out) (by simp;have:=HRDL.out;omega)).trans X2.out
 have G3:Hid (w.grownBy w3 (some rd)):=G2.out.trans hG3
 have S2:Hid (w.heap.size<w2.heap.size):=lt_of_block X2.out
 have S3:Hid (w2.heap.size≤w3.heap.size):=hG3.size
 have HSM:Hid (zcq ps):=hsm
 obtain⟨x1,hx1⟩:∃ x1:Int,x1=1+(y1:Int):=⟨_,rfl⟩
 obtain⟨x2,hx2⟩:∃ x2:Int,x2=1+(y2:Int):=⟨_,rfl⟩
 have O3a:=zf (hO3.alloc (.cells #[.int .i64 x1,.int .i64 x2,.slice a2 ps.length c2] 27))
 have Y3:Hid ((w3.alloc (.cells #[.int .i64 x1,.int .i64 x2,.slice a2 ps.length c2] 27)).heap[w3.heap.size]? = some (.cells #[.int .i64 x1,.int .i64 x2,.slice a2 ps.length c2] 27 (0,0))):=heap_alloc_new w3 _
 have X3a:Hid ((w3.alloc (.cells #[.int .i64 x1,.int .i64 x2,.slice a2 ps.length c2] 27)).heap[w.heap.size]? = some (.cells #[.int .i64 0,.int .i64 0,.slice none 0 0] 27 (0,0))):=(Below.heap_alloc w3 _ w.heap.size (lt_of_block X3.out)).trans X3.out
 have G3a:Hid (w.grownBy (w3.alloc (.cells #[.int .i64 x1,.int .i64 x2,.slice a2 ps.length c2] 27)) (some rd)):=G3.out.trans (World.grownBy_alloc w3 _ _)
 have K3:=ze1 rd n cap 24 24 a (w3.alloc (.cells #[.int .i64 x1,.int .i64 x2,.slice a2 ps.length c2] 27)) rfl (by omega) (by omega) hn (hR3.keptNone ((Below.refl _ _).alloc (Nat.le_refl _) _))
 have NB:Hid ((Value.slice a2 ps.length c2).ownBlock≠some w3.heap.size):=fun e=>by have:=(hO3.lt _ e).2;omega
 have NW:Hid ((Value.slice a2 ps.length c2).ownBlock≠some w.heap.size):=fun e=>by have:=(hO3.lt _ e).1;have:=S2.out;omega
 have NR:Hid ((Value.slice a2 ps.length c2).ownBlock=none∨(Value.slice a2 ps.length c2).ownBlock≠some rd):=.inr (fun e=>by have:=(hO3.lt _ e).1;have:=S2.out;have:=HRDL.out;omega)
 rw[hx1,hx2] at O3a Y3 X3a G3a K3
 clear hR3 hG3 hO3 K2 X2 X3 G2 G3 hsm
 go_wp2_with fail
 refine K3.mono ?_
 rintro e w4 ⟨t,rfl,hR4,hG4⟩
 rw[←hx1,←hx2] at O3a Y3 X3a G3a hG4
 have O4:=zf (O3a.out.kept hG4 NR.out)
 have Y4:Hid (w4.heap[w3.heap.size]? = some (.cells #[.int .i64 x1,.int .i64 x2,.slice a2 ps.length c2] 27 (0,0))):=(hG4.block w3.heap.size (by simp) (by simp;have:=HRDL.out;have:=S2.out;have:=S3.out;omega)).trans Y3.out
 have X4:Hid (w4.heap[w.heap.size]? = some (.cells #[.int .i64 0,.int .i64 0,.slice none 0 0] 27 (0,0))):=(hG4.block w.heap.size (by simp;have:=S2.out;have:=S3.out;omega) (by simp;have:=HRDL.out;omega)).trans X3a.out
 have G4:Hid (w.grownBy w4 (some rd)):=G3a.out.trans hG4
 have R4:Hid (Rd rd a n cap w4):=hR4
 clear hR4 hG4 K3 O3a Y3 X3a G3a
 have hww:¬ w.heap.size=w3.heap.size:=by have:=S2.out;have:=S3.out;omega
 have hww2:¬ w3.heap.size=w.heap.size:=by omega
 cases t with
 | false =>
   obtain⟨p0,p1,p2,pf⟩:=zb7 Y4.out
   obtain⟨q0,q1,q2,qf⟩:=zb7 X4.out
   have qf0:=qf 0
   have qf1:=qf 1
   have qf2:=qf 2
   clear pf qf hx1 hx2
   go_wp2
   have hR5:Rd rd a n cap (((w4.setCell ⟨w.heap.size,0,none⟩ (.int .i64 x1)).setCell ⟨w.heap.size,1,none⟩ (.int .i64 x2)).setCell ⟨w.heap.size,2,none⟩ (.slice a2 ps.length c2)):=R4.out.kept (zdc (zdc (zdc (World.grownBy.refl w4 (some w.heap.size)) _) _) _) (by simp;have:=HRDL.out;omega) (fun cb off hc hne=>by have:=HCODE.out cb off hc hne;simp;omega)
   exact bodyPost_ret (v:=.agg #[.int .i64 x1,.int .i64 x2,.slice a2 ps.length c2]) (results_cell_row rfl _ _ w.heap.size 27 _ (0,0) _ rfl (zoh (.int .i64 x1) (.int .i64 x2) (.slice a2 ps.length c2) X4.out) Tryz.underlying27 rfl (by kernel_rfl)) rfl ⟨x1,x2,ps,a2,c2,hpl,HSM.out,rfl,(zki O4.out NW.out _ _ _).mono (by have:=S2.out;omega),hR5,zdd (zdd (zdd G4.out _ _ (Nat.le_refl _)) _ _ (Nat.le_refl _)) _ _ (Nat.le_refl _)⟩
 | true =>
   have K5:=zw1 rd n cap a w4 hn R4.out
   clear R4
   go_wp2_with fail
   refine K5.mono ?_
   rintro e w5 ⟨z,rfl,hR5,hG5⟩
   have O5:=zf (O4.out.kept hG5 NR.out)
   have Y5:Hid (w5.heap[w3.heap.size]? = some (.cells #[.int .i64 x1,.int .i64 x2,.slice a2 ps.length c2] 27 (0,0))):=(hG5.block w3.heap.size (lt_of_block Y4.out) (by simp;have:=HRDL.out;have:=S2.out;have:=S3.out;omega)).trans Y4.out
   have X5:Hid (w5.heap[w.heap.size]? = some (.cells #[.int .i64 0,.int .i64 0,.slice none 0 0] 27 (0,0))):=(hG5.block w.heap.size (lt_of_block X4.out) (by simp;have:=HRDL.out;omega)).trans X4.out
   have G5:Hid (w.grownBy w5 (some rd)):=G4.out.trans hG5
   have R5:Hid (Rd rd a n cap w5):=hR5
   clear hR5 hG5 K5 O4 Y4 X4 G4
   obtain⟨p0,p1,p2,pf⟩:=zb7 Y5.out
   obtain⟨q0,q1,q2,qf⟩:=zb7 X5.out
   have pf0:=pf 0
   have qf0:=qf 0
   have qf1:=qf 1
   have qf2:=qf 2
   clear pf qf hx1 hx2
   go_wp2
   have hX6:(w5.setCell ⟨w3.heap.size,0,none⟩ (.int .i64 z)).heap[w.heap.size]? = some (.cells #[.int .i64 0,.int .i64 0,.slice none 0 0] 27 (0,0)):=(Below.heap_setCell _ _ _ _ (by simpa using hww)).trans X5.out
   have hS:w.heap.size≤w3.heap.size:=by have:=S2.out;have:=S3.out;omega
   have hR6:Rd rd a n cap (w5.setCell ⟨w3.heap.size,0,none⟩ (.int .i64 z)):=R5.out.kept (zdc (World.grownBy.refl w5 (some w3.heap.size)) _) (by simp;have:=HRDL.out;omega) (fun cb off hc hne=>by have:=HCODE.out cb off hc hne;simp;omega)
   have hR7:Rd rd a n cap ((((w5.setCell ⟨w3.heap.size,0,none⟩ (.int .i64 z)).setCell ⟨w.heap.size,0,none⟩ (.int .i64 z)).setCell ⟨w.heap.size,1,none⟩ (.int .i64 x2)).setCell ⟨w.heap.size,2,none⟩ (.slice a2 ps.length c2)):=hR6.kept (zdc (zdc (zdc (World.grownBy.refl _ (some w.heap.size)) _) _) _) (by simp;have:=HRDL.out;omega) (fun cb off hc hne=>by have:=HCODE.out cb off hc hne;simp;omega)
   exact bodyPost_ret (v:=.agg #[.int .i64 z,.int .i64 x2,.slice a2 ps.length c2]) (results_cell_row rfl _ _ w.heap.size 27 _ (0,0) _ rfl (zoh (.int .i64 z) (.int .i64 x2) (.slice a2 ps.length c2) hX6) Tryz.underlying27 rfl (by kernel_rfl)) rfl ⟨z,x2,ps,a2,c2,hpl,HSM.out,rfl,(zki (ownsRow_setCell_other O5.out NB.out _) NW.out _ _ _).mono (by have:=S2.out;omega),hR7,zdd (zdd (zdd (zdd G5.out _ _ hS) _ _ (Nat.le_refl _)) _ _ (Nat.le_refl _)) _ _ (Nat.le_refl _)⟩
theorem zvo {P:Program} {fn:Func} {p r r2:Tmp} {ty:TypeId} (h:fn.results=#[.tmp r,.tmp r2,.cell p ty]) (tmps:Array Value) (w:World) (g:Nat) (t:TypeId) (cs:Array Value) (d:TypeDesc)
 (hp:tmps.getD p undef=.pointer (some ⟨g,0,none⟩)) (hg:w.heap[g]? = some (.cells cs t (0,0))) (hu:P.underlying ty=some d) (hd:(match d with | .struct _ | .array _ _=>true | _=>false)=true) (hi:(P.info? ty).map (·.size)=some cs.size) (vb vc:Value) (hb:tmps.getD r undef=vb) (hc:tmps.getD r2 undef=vc) :
 (results fn tmps).run P w=.ok (.tuple #[vb,vc,.agg cs]) w:=by
 subst hb hc
 have hp':tmps[p]?.getD undef=.pointer (some ⟨g,0,none⟩):=by simpa using hp
 simp[results,h,hp',asAddr,run_loadVar_row w g t ty cs (0,0) d hg hu hd hi]
theorem zfv {w:World} {b e s n:Nat} {v:Value} {xs:List Value} {p i:Nat} (y:Value) (h:w.ownsRow b e s v n xs) (hp:p<b):(w.setCell ⟨p,i,none⟩ y).ownsRow b e s v n xs:=ownsRow_setCell_other h (fun e'=>by have:=(h.lt _ e').1;simp at this;omega) y
theorem zkh {w:World} {b j:Nat} {u v x y:Value} {t:TypeId} (h:w.heap[b]? = some (.cells #[u,v,x] t (0,0))):(w.setCell ⟨b,j,none⟩ y).heap[b]? = some (.cells (#[u,v,x].setIfInBounds j y) t (0,0)):=by
 have hlt:=lt_of_block h
 have h':w.heap[b]=.cells #[u,v,x] t (0,0):=by simpa [Array.getElem?_eq_getElem hlt] using h
 show (w.heap.modify b _)[b]? = _
 rw[Array.getElem?_eq_getElem (by simpa using hlt),Array.getElem_modify_self,h']
 rfl
theorem zvp (n cap:Nat) (a:Option Addr) (w:World) (hn:n≤1048576) (h:Code w a n) :
 Calls Tryz.prog 5 #[.slice a n cap] w fun e w'=>∃ (ps:List za) (a1:Option Addr) (c1:Nat) (rt:List UInt8) (x y:Int) (os:List OpL) (a2:Option Addr) (c2:Nat),e=.returned (.tuple #[.slice a1 ps.length c1,.string ⟨rt.toArray⟩,.agg #[.int .i64 x,.int .i64 y,.slice a2 os.length c2]])∧ps.length≤3601∧rt.length≤1048576∧(∀ p∈ps,p.1.length≤1048576∧p.2.length≤1048576)∧os.length≤4∧zcq os∧w'.ownsRow (w.heap.size+1) 83 2 (.slice a1 ps.length c1) ps.length (zc ps)∧w'.ownsRow (w.heap.size+1) 38 3 (.slice a2 os.length c2) os.length (zbf os)∧Below w.heap.size w w':=by
 have B0:Below w.heap.size w (w.alloc (.cells #[.int .i64 0,.int .i64 0,.slice none 0 0] 27)):=(Below.refl _ _).alloc (Nat.le_refl _) _
 have X0:=heap_alloc_new w (.cells #[.int .i64 0,.int .i64 0,.slice none 0 0] 27)
 have H1:=open_any n cap a (w.alloc (.cells #[.int .i64 0,.int .i64 0,.slice none 0 0] 27)) (h.later B0)
 have s0:(w.alloc (.cells #[.int .i64 0,.int .i64 0,.slice none 0 0] 27)).heap.size=w.heap.size+1:=by simp
 clear h
 go_enter Tryz.func5,Tryz.ntmps5
 go_wp2_with fail
 refine H1.mono ?_
 rintro e w1 ⟨rfl,hR1,b1⟩
 rw[s0] at hR1 b1
 have HR1:Hid (Rd (w.heap.size+1) a n cap w1):=hR1
 have hlt1:=hR1.lt
 have HX1:Hid (w1.heap[w.heap.size]? = some (.cells #[.int .i64 0,.int .i64 0,.slice none 0 0] 27 (0,0))):=(b1.block w.heap.size (by omega)).trans X0
 have HB1:Hid (Below w.heap.size w w1):=B0.trans (b1.mono (by omega))
 clear hR1 H1 X0 B0 b1
 simp only[s0]
 go_wp2_with fail
 refine (zvl (w.heap.size+1) n cap a w1 hn HR1.out).mono ?_
 rintro e w2 ⟨v2,rt,rfl,hrt,ps,a1,c1,rfl,hpl,HPS,HO2,HR2,HG2⟩
 have HX2:Hid (w2.heap[w.heap.size]? = some (.cells #[.int .i64 0,.int .i64 0,.slice none 0 0] 27 (0,0))):=(HG2.out.block w.heap.size (by omega) (by simp)).trans HX1.out
 have HB2:Hid (Below w.heap.size w w2):=HB1.out.grown HG2.out HB1.out.size (fun q hq=>by simp at hq;omega)
 have hlt2:=Nat.lt_of_lt_of_le hlt1 HG2.out.size
 have K3:=zvn (w.heap.size+1) n cap a w2 hn HR2.out
 clear HR1 HX1 HB1 HG2 HR2
 go_wp2_with fail
 refine K3.mono ?_
 rintro e w3 ⟨x,y,os,a2,c2,hol,hso,rfl,o3,R3,G3⟩
 have HX3:Hid (w3.heap[w.heap.size]? = some (.cells #[.int .i64 0,.int .i64 0,.slice none 0 0] 27 (0,0))):=(G3.block w.heap.size (by omega) (by simp)).trans HX2.out
 have B3:Below w.heap.size w w3:=HB2.out.grown G3 HB2.out.size (fun q hq=>by simp at hq;omega)
 have P3:=zc8 HO2.out G3 (zc7 HO2.out hlt1)
 have F1:Hid ((((w3.setCell ⟨w.heap.size,0,none⟩ (.int .i64 x)).setCell ⟨w.heap.size,1,none⟩ (.int .i64 y)).setCell ⟨w.heap.size,2,none⟩ (.slice a2 os.length c2)).heap[w.heap.size]? = some (.cells #[.int .i64 x,.int .i64 y,.slice a2 os.length c2] 27 (0,0))):=zkh (j:=2) (zkh (j:=1) (zkh (j:=0) HX3.out))
 have F2:Hid ((((w3.setCell ⟨w.heap.size,0,none⟩ (.int .i64 x)).setCell ⟨w.heap.size,1,none⟩ (.int .i64 y)).setCell ⟨w.heap.size,2,none⟩ (.slice a2 os.length c2)).ownsRow (w.heap.size+1) 83 2 (.slice a1 ps.length c1) ps.length (zc ps)):=zfv _ (zfv _ (zfv _ (P3.mono (by omega)) (by omega)) (by omega)) (by omega)
 have F3:Hid ((((w3.setCell ⟨w.heap.size,0,none⟩ (.int .i64 x)).setCell ⟨w.heap.size,1,none⟩ (.int .i64 y)).setCell ⟨w.heap.size,2,none⟩ (.slice a2 os.length c2)).ownsRow (w.heap.size+1) 38 3 (.slice a2 os.length c2) os.length (zbf os)):=zfv _ (zfv _ (zfv _ (o3.mono (by omega)) (by omega)) (by omega)) (by omega)
 have F4:Hid (Below w.heap.size w (((w3.setCell ⟨w.heap.size,0,none⟩ (.int .i64 x)).setCell ⟨w.heap.size,1,none⟩ (.int .i64 y)).setCell ⟨w.heap.size,2,none⟩ (.slice a2 os.length c2))):=((B3.setCell (Nat.le_refl _) _).setCell (Nat.le_refl _) _).setCell (Nat.le_refl _) _
 have HSO:Hid (zcq os):=hso
 obtain⟨p0,p1,p2,pf⟩:=zb7 HX3.out
 have pf0:=pf 0
 have pf1:=pf 1
 have pf2:=pf 2
 clear K3 R3 G3 o3 hso HO2 P3 B3 HB2 HX2 HX3 pf
 go_wp2
 exact bodyPost_ret (v:=.tuple #[.slice a1 ps.length c1,.string ⟨rt.toArray⟩,.agg #[.int .i64 x,.int .i64 y,.slice a2 os.length c2]]) (zvo rfl _ _ w.heap.size 27 _ _ rfl F1.out Tryz.underlying27 rfl (by kernel_rfl) _ _ rfl rfl) rfl ⟨ps,a1,c1,rt,x,y,os,a2,c2,rfl,hpl,hrt,HPS.out,hol,HSO.out,F2.out,F3.out,F4.out⟩
end Go.Proofs.YtiadimhoolekbaaGreatDoor
