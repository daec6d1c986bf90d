/-
 Texts that are laid as one: DrawSt, DrawG, DrawPo.
-/
import Derived.Test.YtckoglgcjcmmkaaGreatDoorDrawPs
import Derived.Test.YtckoglgcjcmmkaaGreatDoorSAdds
import Derived.Test.YtckoglgcjcmmkaaGreatDoorLaidAll
import Derived.Deep.RegionLaw
namespace Go.Proofs.YtckoglgcjcmmkaaGreatDoor
open Go.RowKit
set_option linter.unusedVariables false
theorem grown_far {w w1 w2:World} {rd:Nat} {row:Option Nat} (h:w.grownBy w1 (some rd)) (g:w1.grownBy w2 row) (hr:∀ k,row=some k→w.heap.size≤k):w.grownBy w2 (some rd) :=
 ⟨g.os.trans h.os,g.tape.trans h.tape,g.output.trans h.output,Nat.le_trans h.size g.size,fun k hk hne=>(g.block k (Nat.lt_of_lt_of_le hk h.size) (fun e=>by have:=hr k e.symm;omega)).trans (h.block k hk hne)⟩
theorem own_none {w:World} {B e m c n:Nat} {xs:List Value} {a:Option Addr} (h:w.ownsRow B e 2 (.slice a m c) n xs):a=none→c=0:=fun ha=>by
 subst ha
 rcases own_cases2 h with ⟨h1,_,_⟩ | ⟨g,cap,h1,_⟩
 · cases h1;rfl
 · cases h1
theorem add_small {ps qs:List PairL} (hp:∀ p∈ps,p.1.length≤1048576∧p.2.length≤1048576) (hq:∀ p∈qs,p.1.length≤1048576∧p.2.length≤1048576):(∀ p∈addR ps qs,p.1.length≤1048576∧p.2.length≤1048576)∧(addR ps qs).length≤400:=by
 by_cases h:addOk ps qs=true
 · rw[addR_yes ps qs h]
   refine⟨fun p hp'=>?_,?_⟩
   · rcases List.mem_append.1 ((sorted_facts _).2.1 p hp') with h1 | h1
     · exact hp p h1
     · exact hq p h1
   · simp only[addOk,Bool.and_eq_true,decide_eq_true_eq] at h
     exact h.2.2.2
 · have h':addOk ps qs=false:=by simpa using h
   rw[addR_no ps qs h'];simp
def StAt (w:World) (rd:Nat) (a:Option Addr) (n cap:Nat) (lim:Nat) (v:Value) (wx:World):Prop :=
 ∃ (ps:List PairL) (a1:Option Addr) (c:Nat),v=.slice a1 ps.length c∧ps.length≤lim∧Hid (∀ p∈ps,p.1.length≤1048576∧p.2.length≤1048576)∧Hid (wx.ownsRow w.heap.size 88 2 (.slice a1 ps.length c) ps.length (pcells ps))∧Hid (Rd rd a n cap wx)∧Hid (w.grownBy wx (some rd))
theorem small_leS {ps:List PairL} (h:smallP ps):∀ p∈ps,p.1.length≤1048576∧p.2.length≤1048576:=fun p hp=>by
 have:=h p hp
 exact⟨by omega,by omega⟩
set_option maxRecDepth 100000 in
set_option maxHeartbeats 4000000 in
theorem store_any (rd n cap : Nat) (a : Option Addr) (w : World) (hn : n ≤ 1048576) (h : Rd rd a n cap w) :
 Calls Tryz.prog 47 #[.pointer (some ⟨rd,0,none⟩)] w fun e w'=>∃ (v:Value) (rt:List UInt8),e=.returned (.tuple #[v,.string ⟨rt.toArray⟩])∧rt.length≤1048576∧StAt w rd a n cap 3601 v w':=by
 obtain⟨i0,hi0,hz0,hz1,hz2⟩:=info_parts infoStored
 have hrd:=h.lt
 have HCD:Hid (∀ cb off,a=some ⟨cb,off,none⟩→n≠0→cb<w.heap.size):=h.code
 have K1:=pairs_any rd n cap 7 7 a w rfl (by omega) (by omega) hn h
 clear h
 go_enter Tryz.func47,Tryz.ntmps47
 go_wp2_with fail
 refine K1.mono ?_
 rintro e w1 ⟨l0,g0,c0,hl0,hsm0,rfl,o0,R1,G1⟩
 have I1:=(isPairs_own o0).2.2
 have hm0:=small_leS hsm0
 have K2:=spec_nodesOf (some ⟨g0,0,none⟩) c0 l0 w1 (by omega) hm0 I1
 have HK3:Hid (∀ W,Below w1.heap.size w1 W→_):=fun W hW=>spec_rootOf (some ⟨g0,0,none⟩) c0 l0 W (by omega) hm0 (I1.later hW)
 have HNS:Hid (∀ p∈nodesR l0,p.1.length≤1048576∧p.2.length≤1048576):=nodes_small l0
 have hnl:=nodesR_len l0
 have HRT:Hid ((rootR l0).length≤1048576):=root_le l0
 have HR1:Hid (Rd rd a n cap w1):=R1
 have HG1:Hid (w.grownBy w1 (some rd)):=G1
 obtain⟨ns,hns⟩:∃ ns,ns=nodesR l0:=⟨_,rfl⟩
 obtain⟨rt0,hrt0⟩:∃ rt,rt=rootR l0:=⟨_,rfl⟩
 obtain⟨ok,hok⟩:∃ ok,ok=rootOk l0:=⟨_,rfl⟩
 rw[←hns] at K2 HNS hnl
 rw[←hok] at K2 HK3
 rw[←hrt0] at HK3 HRT
 clear K1 o0 I1 hm0 hsm0 R1 G1 hns hrt0 hok
 go_wp2_with fail
 refine K2.mono ?_
 rintro e w2 ⟨a2,m2,c2,rfl,o2,b2⟩
 obtain⟨rfl,_,_⟩:=isPairs_own o2
 have hw1:=HG1.out.size
 have HO2:=hidOwn (o2.mono hw1)
 have HR2:Hid (Rd rd a n cap w2):=HR1.out.keptNone b2
 have HG2:Hid (w.grownBy w2 (some rd)):=grown_below HG1.out b2
 have K3:=HK3.out w2 b2
 clear K2 o2 b2 HK3 HR1 HG1
 go_wp2_with fail
 refine K3.mono ?_
 rintro e w3 ⟨rfl,b3⟩
 have HO3:=hidOwn (kept2 HO2.out b3)
 have HR3:Hid (Rd rd a n cap w3):=HR2.out.keptNone b3
 have HG3:Hid (w.grownBy w3 (some rd)):=grown_below HG2.out b3
 clear K3 b3 HO2 HR2 HG2
 go_upto_if 27 with fail
 go_cut [7] from 26 (fun v7 wx=>∃ rt:List UInt8,v7=.string ⟨rt.toArray⟩∧rt.length≤1048576∧StAt w rd a n cap 3600 (.slice a2 ns.length c2) wx)
 case first =>
  cases ok with
  | true =>
    go_wp2
    go_meet
    case rel=>exact⟨rt0,rfl,HRT.out,ns,a2,c2,rfl,hnl,HNS,HO3,HR3,HG3⟩
  | false =>
    have K4:=spec_empty w3
    go_wp2_with fail
    refine K4.mono ?_
    rintro e w4 ⟨rfl,b4⟩
    have HO4:=hidOwn (kept2 HO3.out b4)
    have HR4:Hid (Rd rd a n cap w4):=HR3.out.keptNone b4
    have HG4:Hid (w.grownBy w4 (some rd)):=grown_below HG3.out b4
    clear K4 b4
    go_wp2
    go_meet
    case rel=>exact⟨emptyL,rfl,by unfold emptyL;rw[sumL_len];omega,ns,a2,c2,rfl,hnl,HNS,HO4,HR4,HG4⟩
 case rest =>
  obtain⟨rt,rfl,hrt,st⟩:=hcut
  clear HO3 HR3 HG3 HRT HNS hnl hl0
  obtain⟨ps,a1,c1,hv,hpl,HPS,HO,HR,HG⟩:=st
  rw[hv]
  have hw0:=HG.out.size
  clear hv
  have K5:=once_any rd n cap 2 2 a wc rfl (by omega) (by omega) hn HR.out
  go_wp2_with fail
  refine K5.mono ?_
  rintro e w5 ⟨t,rfl,R5,G5⟩
  have HO5:=hidOwn (keptR HO.out G5 (rd_far HO.out hrd))
  have HR5:Hid (Rd rd a n cap w5):=R5
  have HG5:Hid (w.grownBy w5 (some rd)):=HG.out.trans G5
  clear K5 R5 G5 HO HR HG
  go_upto_if 30 with fail
  go_cut [5,9,10,11,12] from 29 (fun v5 _ _ _ _ wx=>StAt w rd a n cap 3600 v5 wx)
  case first =>
   cases t with
   | false =>
     go_wp2
     go_meet
     case rel=>exact⟨ps,a1,c1,rfl,hpl,HPS,HO5,HR5,HG5⟩
   | true =>
     have K6:=pairs_any rd n cap 5 5 a w5 rfl (by omega) (by omega) hn HR5.out
     go_wp2_with fail
     refine K6.mono ?_
     rintro e w6 ⟨l6,g6,c6,hl6,hsm6,rfl,o6,R6,G6⟩
     have HO6:=hidOwn (keptR HO5.out G6 (rd_far HO5.out hrd))
     have HR6:Hid (Rd rd a n cap w6):=R6
     have HG6:Hid (w.grownBy w6 (some rd)):=HG5.out.trans G6
     have K7:=spec_nodesOf (some ⟨g6,0,none⟩) c6 l6 w6 (by omega) (small_leS hsm6) (isPairs_own o6).2.2
     have HN7:Hid (∀ p∈nodesR l6,p.1.length≤1048576∧p.2.length≤1048576):=nodes_small l6
     have hn7:=nodesR_len l6
     obtain⟨n7,hn7e⟩:∃ n7,n7=nodesR l6:=⟨_,rfl⟩
     obtain⟨ok7,hok7⟩:∃ ok7,ok7=rootOk l6:=⟨_,rfl⟩
     rw[←hn7e] at K7 HN7 hn7
     rw[←hok7] at K7
     clear K6 o6 R6 G6 hsm6 hn7e hok7 HO5 HR5 HG5
     go_wp2_with fail
     refine K7.mono ?_
     rintro e w7 ⟨a7,m7,c7,rfl,o7,b7⟩
     obtain⟨rfl,_,i7⟩:=isPairs_own o7
     have HO7:=hidOwn (kept2 HO6.out b7)
     have HR7:Hid (Rd rd a n cap w7):=HR6.out.keptNone b7
     have HG7:Hid (w.grownBy w7 (some rd)):=grown_below HG6.out b7
     have K8:=spec_storeAddG a1 c1 ps a7 c7 n7 w7 (by omega) HPS.out (isPairs_own HO7.out).2.2 (by omega) HN7.out i7 (own_none HO7.out) (own_none o7)
     have hadd:=add_small HPS.out HN7.out
     unfold AddPost at K8
     obtain⟨ar,har⟩:∃ ar,ar=addR ps n7:=⟨_,rfl⟩
     obtain⟨ok8,hok8⟩:∃ ok8,ok8=addOk ps n7:=⟨_,rfl⟩
     rw[←har,←hok8] at K8
     rw[←har] at hadd
     have HA1:Hid (∀ p∈ar,p.1.length≤1048576∧p.2.length≤1048576):=hadd.1
     have ha2:=hadd.2
     clear K7 o7 b7 i7 har hok8 hadd HO6 HR6 HG6
     go_wp2_with fail
     refine K8.mono ?_
     rintro e w8 ⟨a8,m8,c8,rfl,o8,b8⟩
     obtain⟨rfl,_,_⟩:=isPairs_own o8
     have HO8:=hidOwn (kept2 HO7.out b8)
     have HA8:=hidOwn (o8.mono HG7.out.size)
     have HR8:Hid (Rd rd a n cap w8):=HR7.out.keptNone b8
     have HG8:Hid (w.grownBy w8 (some rd)):=grown_below HG7.out b8
     clear K8 o8 b8 HO7 HR7 HG7
     cases ok8 with
     | true =>
       go_wp2
       go_meet
       case rel=>exact⟨ar,a8,c8,rfl,by omega,HA1,HA8,HR8,HG8⟩
     | false =>
       go_wp2
       go_meet
       case rel=>exact⟨ps,a1,c1,rfl,hpl,HPS,HO8,HR8,HG8⟩
  case rest =>
   obtain⟨ps,a1,c1,rfl,hpl,HPS,HO,HR,HG⟩:=hcut
   obtain⟨w9,rfl⟩:∃ W,W=wc:=⟨_,rfl⟩
   clear HO5 HR5 HG5 t
   have hw9:=HG.out.size
   by_cases h0:ps.length=0
   · have hn0:¬ (0:Int)<(ps.length:Int):=by omega
     have hb0:decide ((0:Int)<(ps.length:Int))=false:=decide_eq_false hn0
     go_upto_if 51 with fail
     go_cut [5,13] from 45 (fun v5 _ wx=>StAt w rd a n cap 3600 v5 wx)
     case first =>
      go_wp2
      go_meet
      case rel=>exact⟨ps,a1,c1,by rw[h0],hpl,HPS,HO,HR,HG⟩
     case rest =>
      clear HO HR HG HPS hn0 hb0 h0 hpl
      obtain⟨ps,a1,c1,rfl,hpl,HPS,HO,HR,HG⟩:=hcut
      obtain⟨wt,rfl⟩:∃ W,W=wc:=⟨_,rfl⟩
      have K12:=once_any rd n cap 30 30 a wt rfl (by omega) (by omega) hn HR.out
      go_wp2_with fail
      refine K12.mono ?_
      rintro e w12 ⟨t,rfl,R12,G12⟩
      have HO12:=hidOwn (keptR HO.out G12 (rd_far HO.out hrd))
      have HR12:Hid (Rd rd a n cap w12):=R12
      have HG12:Hid (w.grownBy w12 (some rd)):=HG.out.trans G12
      clear K12 R12 G12 HO HR HG
      cases t with
      | false =>
        go_wp2
        go_ret2
        exact⟨_,rt,rfl,hrt,ps,a1,c1,rfl,by omega,HPS,HO12,HR12,HG12⟩
      | true =>
        have K13:=spec_sum [120] w12 (by simp)
        obtain⟨sx,hsx⟩:∃ sx,sx=sumL [120]:=⟨_,rfl⟩
        have HSX:Hid (sx.length≤1048576):=by rw[Hid,hsx,sumL_len];omega
        rw[←hsx] at K13
        clear hsx
        go_wp2_with fail
        refine K13.mono ?_
        rintro e w13 ⟨rfl,b13⟩
        have O13:=(kept2 HO12.out b13).alloc (.cells #[.string ⟨sx.toArray⟩,.string ⟨#[120]⟩] 88)
        have XA:Below w13.heap.size w13 (w13.alloc (.cells #[.string ⟨sx.toArray⟩,.string ⟨#[120]⟩] 88)):=(Below.refl _ _).alloc (Nat.le_refl _) _
        have HR13:Hid (Rd rd a n cap (w13.alloc (.cells #[.string ⟨sx.toArray⟩,.string ⟨#[120]⟩] 88))):=(HR12.out.keptNone b13).keptNone XA
        have HG13:Hid (w.grownBy (w13.alloc (.cells #[.string ⟨sx.toArray⟩,.string ⟨#[120]⟩] 88)) (some rd)):=grown_below (grown_below HG12.out b13) XA
        have hlow:∀ k,(Value.slice a1 ps.length c1).ownBlock=some k→w.heap.size≤k:=fun k hk=>(HO12.out.lt k hk).1
        have hs13:=HG13.out.size
        clear K13 b13 XA HO12 HR12 HG12
        go_wp2_with (at_builtin;refine wpList_append_lies _ rfl _ _ 24 rfl w.heap.size 88 i0 (.agg #[.string ⟨#[]⟩,.string ⟨#[]⟩]) 2 32 Tryz.underlying24 hi0 hz0 hz1 hz2 rfl (by decide) (.slice a1 ps.length c1) ps.length _ rfl O13 ⟨w13.heap.size,0,none⟩ 1 1 [.string ⟨sx.toArray⟩,.string ⟨#[120]⟩] rfl rfl (World.news_of_block (cs:=#[.string ⟨sx.toArray⟩,.string ⟨#[120]⟩]) (t:=88) (fr:=(0,0)) (heap_alloc_new w13 _)) (by simp[Value.oneCell']) (by omega) (by unfold maxLen;omega) (by omega) hs13 (w13.heap.size+1) (by simp) ?_;intro g14 c14 w14 hown14 hgrow hat hlt14)
        have HG14:Hid (w.grownBy w14 (some rd)):=grown_far HG13.out hgrow hlow
        have HR14:Hid (Rd rd a n cap w14):=HR13.out.kept hgrow (fun e=>by have:=hlow _ e;omega) (fun cb off h1 h2 e=>by have h3:=HCD.out cb off h1 h2;have h4:=hlow _ e.symm;omega)
        have HO14:Hid (w14.ownsRow w.heap.size 88 2 (.slice (some ⟨g14,0,none⟩) (ps ++ [(sx,[120])]).length c14) (ps ++ [(sx,[120])]).length (pcells (ps ++ [(sx,[120])]))):=by
         rw[Hid,pcells_app,List.length_append];exact hown14
        have HP14:Hid (∀ p∈ps ++ [(sx,[120])],p.1.length≤1048576∧p.2.length≤1048576):=fun p hp=>by
         rcases List.mem_append.1 hp with h | h
         · exact HPS.out p h
         · simp only[List.mem_singleton] at h
           subst h
           exact⟨HSX.out,by simp⟩
        clear hgrow hown14 O13
        first | go_ret2 | (go_wp2;go_ret2)
        exact⟨_,rt,rfl,hrt,ps ++ [(sx,[120])],some ⟨g14,0,none⟩,c14,by simp,by simp;omega,HP14,HO14,HR14,HG14⟩
   · have hpos : (0 : Int) < (ps.length : Int) := by omega
     have hpb:decide ((0:Int)<(ps.length:Int))=true:=decide_eq_true hpos
     have K10:=once_any rd n cap 8 8 a w9 rfl (by omega) (by omega) hn HR.out
     go_wp2_with fail
     refine K10.mono ?_
     rintro e w10 ⟨t,rfl,R10,G10⟩
     have HO10:=hidOwn (keptR HO.out G10 (rd_far HO.out hrd))
     have HR10:Hid (Rd rd a n cap w10):=R10
     have HG10:Hid (w.grownBy w10 (some rd)):=HG.out.trans G10
     clear K10 R10 G10 HO HR HG
     go_upto_if 51 with fail
     go_cut [5,13] from 45 (fun v5 _ wx=>StAt w rd a n cap 3600 v5 wx)
     case first =>
      cases t with
      | false =>
        go_wp2
        go_meet
        case rel=>exact⟨ps,a1,c1,rfl,hpl,HPS,HO10,HR10,HG10⟩
      | true =>
        have K11:=below_gen rd n cap ps.length ps.length a w10 rfl (by omega) (by omega) hn HR10.out
        go_wp2_with fail
        refine K11.mono ?_
        rintro e w11 ⟨kx,hkx,rfl,R11,G11⟩
        have HO11:=hidOwn (keptR HO10.out G11 (rd_far HO10.out hrd))
        have HR11:Hid (Rd rd a n cap w11):=R11
        have HG11:Hid (w.grownBy w11 (some rd)):=HG10.out.trans G11
        obtain⟨g,rfl,hcap⟩:∃ g,a1=some ⟨g,0,none⟩∧ps.length≤c1:=by
         rcases HO11.out.2 with ⟨h1,h2⟩ | ⟨g,c',cur,h1,_,_,h3,_⟩
         · omega
         · cases h1;exact⟨g,rfl,h3⟩
        have hI:=(isPairs_own HO11.out).2.2
        have hcells:∀ j (h:j<ps.length),w11.cell? ⟨g,j*2,none⟩=some (.string ⟨ps[j].1.toArray⟩)∧w11.cell? ⟨g,j*2+1,none⟩=some (.string ⟨ps[j].2.toArray⟩):=fun j h=>by
         rcases hI with h' | ⟨b',off',h',hc⟩
         · rw[h'] at h;simp at h
         · cases h';simpa using hc j h
        have hgl:g<w11.heap.size:=World.block_lt_of_cell? w11 _ (hcells 0 (by omega)).1
        have HT1:Hid (∀ W,Below w11.heap.size w11 W→IsPairs W (some ⟨g,0,none⟩) (ps.take kx)):=fun W hW=>.inr ⟨g,0,rfl,fun j hj=>by
         rw[List.length_take] at hj
         have:=hcells j (by omega)
         rw[List.getElem_take,Nat.zero_add]
         exact⟨(hW.cell (p:=⟨g,j*2,none⟩) hgl).trans this.1,(hW.cell (p:=⟨g,j*2+1,none⟩) hgl).trans this.2⟩⟩
        have HT2:Hid (∀ W,Below w11.heap.size w11 W→IsPairs W (some ⟨g,(kx+1)*2,none⟩) (ps.drop (kx+1))):=fun W hW=>.inr ⟨g,(kx+1)*2,rfl,fun j hj=>by
         rw[List.length_drop] at hj
         have:=hcells (kx+1+j) (by omega)
         rw[List.getElem_drop,show (kx+1)*2+j*2=(kx+1+j)*2 by omega]
         exact⟨(hW.cell (p:=⟨g,(kx+1+j)*2,none⟩) hgl).trans this.1,(hW.cell (p:=⟨g,(kx+1+j)*2+1,none⟩) hgl).trans this.2⟩⟩
        have HT3:Hid (∀ (W:World) (ad:Addr),ps.length≤kx+1→IsPairs W (some ad) (ps.drop (kx+1))):=fun W ad h=>.inl (List.drop_eq_nil_of_le h)
        have hl1:(ps.take kx).length=kx:=by rw[List.length_take];omega
        have hl2:(ps.drop (kx+1)).length=ps.length - (kx+1):=by simp
        have HL1:Hid (kx=(ps.take kx).length):=hl1.symm
        have HL2:Hid (ps.length - (kx+1)=(ps.drop (kx+1)).length):=hl2.symm
        have z1:(0:Int)≤(kx:Int):=by omega
        have z2:(kx:Int)≤(ps.length:Int):=by omega
        have z2c:(kx:Int)≤(c1:Int):=by omega
        obtain⟨k1,hk1⟩:∃ k1,k1=kx+1:=⟨_,rfl⟩
        have z3:IntKind.i64.wrap ((kx:Int)+1)=(k1:Int):=by rw[i64_wrap_small _ (by omega) (by omega)];omega
        have z4:(kx:Int)+1=(k1:Int):=by omega
        have z5:(0:Int)≤(k1:Int):=by omega
        have z6:(k1:Int)≤(ps.length:Int):=by omega
        have z7:((k1:Int)).toNat=k1:=by omega
        have z8:((kx:Int)).toNat=kx:=by omega
        have z10:kx≤k1:=by omega
        have z11:IntKind.i64.wrap (k1:Int)=(k1:Int):=i64_wrap_small _ (by omega) (by omega)
        have z9:(ps.length:Int)≤(c1:Int):=by omega
        rw[←hk1] at HT2 HT3 HL2
        have HK1:Hid (k1=kx+1):=hk1
        have XE:Hid (Below w11.heap.size w11 (w11.alloc (.cells #[] 88)).drew):=(fun h=>⟨h.os,h.tape,h.output,h.size,h.block⟩:Below w11.heap.size w11 (w11.alloc (.cells #[] 88))→_) ((Below.refl _ _).alloc (Nat.le_refl _) _)
        have OE:Hid ((w11.alloc (.cells #[] 88)).drew.ownsRow w11.heap.size 88 2 (.slice (some ⟨w11.heap.size,0,none⟩) 0 0) 0 []):=World.ownsRow_lit (e:=88) (size:=2) (base:=w11.heap.size) w11 #[] 0 (Nat.le_refl _) (Nat.zero_le _) rfl
        have hw11:=HG11.out.size
        have hml:c1≤9223372036854775807:=by
         rcases HO11.out.2 with ⟨h',h0⟩ | ⟨g',cap',cur,h',hb,hg,hc,hm,_⟩
         · cases h'
         · cases h';unfold maxLen at hm;omega
        have HPE:Hid (∀ p∈ps.take kx ++ ps.drop k1,p.1.length≤1048576∧p.2.length≤1048576):=fun p hp=>by
         rcases List.mem_append.1 hp with h | h
         · exact HPS.out p (List.mem_of_mem_take h)
         · exact HPS.out p (List.mem_of_mem_drop h)
        clear K11 R11 G11 hI hcells hl1 hl2 hk1 HO10 HR10 HG10
        by_cases hc1:c1=k1
        · go_wp2_with fail
          go_region_law (first
           | (refine step_append_pairs rfl (.tmp 60) (.tmp 64) 24 rfl w11.heap.size 88 i0 (.agg #[.string ⟨#[]⟩, .string ⟨#[]⟩]) 32 Tryz.underlying24 hi0 hz0 hz1 hz2 rfl v20 (0 + kx) ([] ++ pcells (ps.take kx)) (by simp [Act.eval]) OV.out (some ⟨g, 0, none⟩) (ps.drop k1) (ps.length - k1) _ HL2.out (by simp [Act.eval]; rfl) (fun h => by cases h) (by first | exact HT2.out w20 B20.out | exact HT3.out w20 _ (by have := HK1.out; omega)) (by unfold maxLen; have := HK1.out; omega) (by have := HK1.out; omega) B20.out.size ?_
              intro v21 w21 o21 g21
              have B21:Hid (Below w11.heap.size w11 w21):=B20.out.grown g21 B20.out.size (fun q hq=>(OV.out.lt q hq).1)
              have OW:Hid (w21.ownsRow w11.heap.size 88 2 v21 (0+kx+(ps.length - k1)) ([] ++ pcells (ps.take kx) ++ pcells (ps.drop k1))):=o21
              clear o21 g21)
           | (refine step_append_pairs rfl (.tmp 56) (.tmp 59) 24 rfl w11.heap.size 88 i0 (.agg #[.string ⟨#[]⟩, .string ⟨#[]⟩]) 32 Tryz.underlying24 hi0 hz0 hz1 hz2 rfl (.slice (some ⟨w11.heap.size, 0, none⟩) 0 0) 0 [] (by simp [Act.eval]) OE.out (some ⟨g, 0, none⟩) (ps.take kx) kx _ HL1.out (by simp [Act.eval]; rfl) (fun h => by cases h) (HT1.out _ XE.out) (by unfold maxLen; omega) (by omega) XE.out.size ?_
              intro v20 w20 o20 g20
              have B20:Hid (Below w11.heap.size w11 w20):=XE.out.grown g20 XE.out.size (fun q hq=>(OE.out.lt q hq).1)
              have OV:Hid (w20.ownsRow w11.heap.size 88 2 v20 (0+kx) ([] ++ pcells (ps.take kx))):=o20
              clear o20 g20))
          all_goals
           obtain⟨a21,m21,c21,rfl⟩:=own_slice2 OW.out
           have HO21:Hid (w21.ownsRow w.heap.size 88 2 (.slice a21 m21 c21) (ps.take kx ++ ps.drop k1).length (pcells (ps.take kx ++ ps.drop k1))):=by
            have h1:=OW.out
            rw[Hid,pcells_app,List.length_append,←HL1.out,←HL2.out]
            have:=h1.mono hw11
            simpa using this
           obtain⟨rfl,_,_⟩:=isPairs_own HO21.out
           have HR21:Hid (Rd rd a n cap w21):=HR11.out.keptNone B21.out
           have HG21:Hid (w.grownBy w21 (some rd)):=grown_below HG11.out B21.out
           go_wp2
           go_meet
           case rel=>exact⟨ps.take kx ++ ps.drop k1,a21,c21,by simp,by rw[List.length_append,←HL1.out,←HL2.out];omega,HPE,HO21,HR21,HG21⟩
        · go_wp2_with fail
          go_region_law (first
           | (refine step_append_pairs rfl (.tmp 60) (.tmp 64) 24 rfl w11.heap.size 88 i0 (.agg #[.string ⟨#[]⟩, .string ⟨#[]⟩]) 32 Tryz.underlying24 hi0 hz0 hz1 hz2 rfl v20 (0 + kx) ([] ++ pcells (ps.take kx)) (by simp [Act.eval]) OV.out (some ⟨g, k1 * 2, none⟩) (ps.drop k1) (ps.length - k1) _ HL2.out (by simp [Act.eval]; rfl) (fun h => by cases h) (by first | exact HT2.out w20 B20.out | exact HT3.out w20 _ (by have := HK1.out; omega)) (by unfold maxLen; have := HK1.out; omega) (by have := HK1.out; omega) B20.out.size ?_
              intro v21 w21 o21 g21
              have B21:Hid (Below w11.heap.size w11 w21):=B20.out.grown g21 B20.out.size (fun q hq=>(OV.out.lt q hq).1)
              have OW:Hid (w21.ownsRow w11.heap.size 88 2 v21 (0+kx+(ps.length - k1)) ([] ++ pcells (ps.take kx) ++ pcells (ps.drop k1))):=o21
              clear o21 g21)
           | (refine step_append_pairs rfl (.tmp 56) (.tmp 59) 24 rfl w11.heap.size 88 i0 (.agg #[.string ⟨#[]⟩, .string ⟨#[]⟩]) 32 Tryz.underlying24 hi0 hz0 hz1 hz2 rfl (.slice (some ⟨w11.heap.size, 0, none⟩) 0 0) 0 [] (by simp [Act.eval]) OE.out (some ⟨g, 0, none⟩) (ps.take kx) kx _ HL1.out (by simp [Act.eval]; rfl) (fun h => by cases h) (HT1.out _ XE.out) (by unfold maxLen; omega) (by omega) XE.out.size ?_
              intro v20 w20 o20 g20
              have B20:Hid (Below w11.heap.size w11 w20):=XE.out.grown g20 XE.out.size (fun q hq=>(OE.out.lt q hq).1)
              have OV:Hid (w20.ownsRow w11.heap.size 88 2 v20 (0+kx) ([] ++ pcells (ps.take kx))):=o20
              clear o20 g20))
          all_goals
           obtain⟨a21,m21,c21,rfl⟩:=own_slice2 OW.out
           have HO21:Hid (w21.ownsRow w.heap.size 88 2 (.slice a21 m21 c21) (ps.take kx ++ ps.drop k1).length (pcells (ps.take kx ++ ps.drop k1))):=by
            have h1:=OW.out
            rw[Hid,pcells_app,List.length_append,←HL1.out,←HL2.out]
            have:=h1.mono hw11
            simpa using this
           obtain⟨rfl,_,_⟩:=isPairs_own HO21.out
           have HR21:Hid (Rd rd a n cap w21):=HR11.out.keptNone B21.out
           have HG21:Hid (w.grownBy w21 (some rd)):=grown_below HG11.out B21.out
           go_wp2
           go_meet
           case rel=>exact⟨ps.take kx ++ ps.drop k1,a21,c21,by simp,by rw[List.length_append,←HL1.out,←HL2.out];omega,HPE,HO21,HR21,HG21⟩
     case rest =>
      clear HO10 HR10 HG10 HPS hpos hpb h0 hpl t
      obtain⟨ps,a1,c1,rfl,hpl,HPS,HO,HR,HG⟩:=hcut
      obtain⟨wt,rfl⟩:∃ W,W=wc:=⟨_,rfl⟩
      have K12:=once_any rd n cap 30 30 a wt rfl (by omega) (by omega) hn HR.out
      go_wp2_with fail
      refine K12.mono ?_
      rintro e w12 ⟨t,rfl,R12,G12⟩
      have HO12:=hidOwn (keptR HO.out G12 (rd_far HO.out hrd))
      have HR12:Hid (Rd rd a n cap w12):=R12
      have HG12:Hid (w.grownBy w12 (some rd)):=HG.out.trans G12
      clear K12 R12 G12 HO HR HG
      cases t with
      | false =>
        go_wp2
        go_ret2
        exact⟨_,rt,rfl,hrt,ps,a1,c1,rfl,by omega,HPS,HO12,HR12,HG12⟩
      | true =>
        have K13:=spec_sum [120] w12 (by simp)
        obtain⟨sx,hsx⟩:∃ sx,sx=sumL [120]:=⟨_,rfl⟩
        have HSX:Hid (sx.length≤1048576):=by rw[Hid,hsx,sumL_len];omega
        rw[←hsx] at K13
        clear hsx
        go_wp2_with fail
        refine K13.mono ?_
        rintro e w13 ⟨rfl,b13⟩
        have O13:=(kept2 HO12.out b13).alloc (.cells #[.string ⟨sx.toArray⟩,.string ⟨#[120]⟩] 88)
        have XA:Below w13.heap.size w13 (w13.alloc (.cells #[.string ⟨sx.toArray⟩,.string ⟨#[120]⟩] 88)):=(Below.refl _ _).alloc (Nat.le_refl _) _
        have HR13:Hid (Rd rd a n cap (w13.alloc (.cells #[.string ⟨sx.toArray⟩,.string ⟨#[120]⟩] 88))):=(HR12.out.keptNone b13).keptNone XA
        have HG13:Hid (w.grownBy (w13.alloc (.cells #[.string ⟨sx.toArray⟩,.string ⟨#[120]⟩] 88)) (some rd)):=grown_below (grown_below HG12.out b13) XA
        have hlow:∀ k,(Value.slice a1 ps.length c1).ownBlock=some k→w.heap.size≤k:=fun k hk=>(HO12.out.lt k hk).1
        have hs13:=HG13.out.size
        clear K13 b13 XA HO12 HR12 HG12
        go_wp2_with (at_builtin;refine wpList_append_lies _ rfl _ _ 24 rfl w.heap.size 88 i0 (.agg #[.string ⟨#[]⟩,.string ⟨#[]⟩]) 2 32 Tryz.underlying24 hi0 hz0 hz1 hz2 rfl (by decide) (.slice a1 ps.length c1) ps.length _ rfl O13 ⟨w13.heap.size,0,none⟩ 1 1 [.string ⟨sx.toArray⟩,.string ⟨#[120]⟩] rfl rfl (World.news_of_block (cs:=#[.string ⟨sx.toArray⟩,.string ⟨#[120]⟩]) (t:=88) (fr:=(0,0)) (heap_alloc_new w13 _)) (by simp[Value.oneCell']) (by omega) (by unfold maxLen;omega) (by omega) hs13 (w13.heap.size+1) (by simp) ?_;intro g14 c14 w14 hown14 hgrow hat hlt14)
        have HG14:Hid (w.grownBy w14 (some rd)):=grown_far HG13.out hgrow hlow
        have HR14:Hid (Rd rd a n cap w14):=HR13.out.kept hgrow (fun e=>by have:=hlow _ e;omega) (fun cb off h1 h2 e=>by have h3:=HCD.out cb off h1 h2;have h4:=hlow _ e.symm;omega)
        have HO14:Hid (w14.ownsRow w.heap.size 88 2 (.slice (some ⟨g14,0,none⟩) (ps ++ [(sx,[120])]).length c14) (ps ++ [(sx,[120])]).length (pcells (ps ++ [(sx,[120])]))):=by
         rw[Hid,pcells_app,List.length_append];exact hown14
        have HP14:Hid (∀ p∈ps ++ [(sx,[120])],p.1.length≤1048576∧p.2.length≤1048576):=fun p hp=>by
         rcases List.mem_append.1 hp with h | h
         · exact HPS.out p h
         · simp only[List.mem_singleton] at h
           subst h
           exact⟨HSX.out,by simp⟩
        clear hgrow hown14 O13
        first | go_ret2 | (go_wp2;go_ret2)
        exact⟨_,rt,rfl,hrt,ps ++ [(sx,[120])],some ⟨g14,0,none⟩,c14,by simp,by simp;omega,HP14,HO14,HR14,HG14⟩
set_option maxRecDepth 100000 in
set_option maxHeartbeats 400000 in
theorem textB_any (rd n cap:Nat) (a:Option Addr) (w:World) (hn:n≤1048576) (h:Rd rd a n cap w) :
 Calls Tryz.prog 63 #[.pointer (some ⟨rd,0,none⟩)] w fun e w'=>∃ l:List UInt8,l.length≤56∧e=.returned (.string ⟨l.toArray⟩)∧Rd rd a n cap w'∧w.grownBy w' (some rd):=by
 have hrd:=h.lt
 have HR0:Hid (Rd rd a n cap w):=h
 clear h
 go_enter Tryz.func63,Tryz.ntmps63
 go_wp2_with fail
 refine (below_any rd n cap 12 12 a _ rfl (by omega) (by omega) hn (HR0.out.keptNone ((Below.refl _ _).alloc (Nat.le_refl _) _))).mono ?_
 rintro e w1 ⟨k,hk,rfl,hR,hG⟩
 obtain⟨l,hl,hc⟩:=tabB_any (m:=56) (k:=k) hrd hG (by decide +kernel) hk
 have HR:Hid (Rd rd a n cap w1):=hR
 have HG:Hid (w.grownBy w1 (some rd)):=(World.grownBy_alloc w _ (some rd)).trans hG
 have hk':(k:Int)<12:=by omega
 clear hR hG HR0
 go_wp2
 go_ret
 exact⟨l,hl,rfl,HR.out,HG.out⟩
set_option maxRecDepth 100000 in
set_option maxHeartbeats 400000 in
theorem seedB_any (rd n cap:Nat) (a:Option Addr) (w:World) (hn:n≤1048576) (h:Rd rd a n cap w) :
 Calls Tryz.prog 48 #[.pointer (some ⟨rd,0,none⟩)] w fun e w'=>∃ l:List UInt8,l.length≤32∧e=.returned (.string ⟨l.toArray⟩)∧Rd rd a n cap w'∧w.grownBy w' (some rd):=by
 have K1:=textB_any rd n cap a w hn h
 clear h
 go_enter Tryz.func48,Tryz.ntmps48
 go_wp2_with fail
 refine K1.mono ?_
 rintro e w1 ⟨t,ht,rfl,hR1,hG1⟩
 have K2:=spec_sum t w1 (by omega)
 have hl:=sumL_len t
 obtain⟨s,hs⟩:∃ s,s=sumL t:=⟨_,rfl⟩
 rw[←hs] at K2 hl
 have HR1:Hid (Rd rd a n cap w1):=hR1
 have HG1:Hid (w.grownBy w1 (some rd)):=hG1
 clear K1 hR1 hG1 hs
 go_wp2_with fail
 refine K2.mono ?_
 rintro e w2 ⟨rfl,b2⟩
 have HR2:Hid (Rd rd a n cap w2):=HR1.out.keptNone b2
 have HG2:Hid (w.grownBy w2 (some rd)):=grown_below HG1.out b2
 have K3:=once_any rd n cap 24 24 a w2 rfl (by omega) (by omega) hn HR2.out
 clear K2 HR1 HG1 b2 HR2
 go_wp2_with fail
 refine K3.mono ?_
 rintro e w3 ⟨t3,rfl,hR3,hG3⟩
 have HR3:Hid (Rd rd a n cap w3):=hR3
 have HG3:Hid (w.grownBy w3 (some rd)):=HG2.out.trans hG3
 have HSL:Hid (s.length=32):=hl
 have hsle:(33:Int)≤(s.length:Int)+1:=by omega
 clear K3 hR3 hG3 HG2 hl
 cases t3
 · go_wp2
   go_ret
   exact⟨s,by have:=HSL.out;omega,rfl,HR3.out,HG3.out⟩
 · have K4:=below_any rd n cap 33 33 a w3 rfl (by omega) (by omega) hn HR3.out
   clear HR3
   go_wp2_with fail
   refine K4.mono ?_
   rintro e w4 ⟨y,hy,rfl,hR4,hG4⟩
   have HR4:Hid (Rd rd a n cap w4):=hR4
   have HG4:Hid (w.grownBy w4 (some rd)):=HG3.out.trans hG4
   have hsl:=fun W=>sl_to (P:=Tryz.prog) Tryz.underlying9 s (y:Int) y rfl (by have:=HSL.out;omega) W
   have hyl:(y:Int)≤(s.length:Int):=by have:=HSL.out;omega
   clear K4 hR4 hG4 HG3
   go_wp2
   go_ret
   exact⟨s.take y,by have:=HSL.out;simp;omega,by simp,HR4.out,HG4.out⟩
set_option maxRecDepth 100000 in
set_option maxHeartbeats 1000000 in
theorem drawGet (n cap:Nat) (a:Option Addr) (w:World) (hn:n≤1048576) (h:Code w a n) :
 Calls Tryz.prog 21 #[.slice a n cap] w fun e w'=>∃ (ps:List PairL) (a1:Option Addr) (c1:Nat) (rt key:List UInt8),e=.returned (.tuple #[.slice a1 ps.length c1,.string ⟨rt.toArray⟩,.string ⟨key.toArray⟩])∧ps.length≤3601∧rt.length≤1048576∧key.length≤5∧(∀ p∈ps,p.1.length≤1048576∧p.2.length≤1048576)∧w'.ownsRow w.heap.size 88 2 (.slice a1 ps.length c1) ps.length (pcells ps)∧Below w.heap.size w w':=by
 have H1:=open_any n cap a w h
 clear h
 go_enter Tryz.func21,Tryz.ntmps21
 go_wp2_with fail
 refine H1.mono ?_
 rintro e w1 ⟨rfl,hR1,b1⟩
 have HR1:Hid (Rd w.heap.size a n cap w1):=hR1
 have hlt1:=hR1.lt
 clear hR1 H1
 go_wp2_with fail
 refine (store_any w.heap.size n cap a w1 hn HR1.out).mono ?_
 rintro e w2 ⟨v2,rt,rfl,hrt,ps,a1,c1,rfl,hpl,HPS,HO2,HR2,HG2⟩
 have hlt2:=Nat.lt_of_lt_of_le hlt1 HG2.out.size
 have B2:Hid (Below w.heap.size w w2):=below_rd b1 HG2.out
 have K3:=once_any w.heap.size n cap 20 20 a w2 rfl (by omega) (by omega) hn HR2.out
 clear HR1 b1 HG2 HR2
 go_wp2_with fail
 refine K3.mono ?_
 rintro e w3 ⟨t,rfl,R3,G3⟩
 have B3:Hid (Below w.heap.size w w3):=below_rd B2.out G3
 have HO3:=hidOwn (keptR HO2.out G3 (rd_far HO2.out hlt1))
 have HR3:Hid (Rd w.heap.size a n cap w3):=R3
 clear K3 R3 G3 HO2 B2
 cases t with
 | false =>
   have K4:=key_any w.heap.size n cap a w3 hn HR3.out
   go_wp2_with fail
   refine K4.mono ?_
   rintro e w4 ⟨key,hk,rfl,R4,G4⟩
   have B4:=below_rd B3.out G4
   have HO4:=hidOwn ((keptR HO3.out G4 (rd_far HO3.out hlt1)).mono (Nat.le_of_lt hlt1))
   clear K4 R4 G4 HO3 B3 HR3
   go_wp2
   go_ret3
   exact⟨ps,a1,c1,rt,key,rfl,hpl,hrt,hk,HPS.out,HO4.out,B4⟩
 | true =>
   have K4:=seedB_any w.heap.size n cap a w3 hn HR3.out
   go_wp2_with fail
   refine K4.mono ?_
   rintro e w4 ⟨sd,hsd,rfl,R4,G4⟩
   have B4:Hid (Below w.heap.size w w4):=below_rd B3.out G4
   have HO4:=hidOwn (keptR HO3.out G4 (rd_far HO3.out hlt1))
   have K5:=key_any w.heap.size n cap a w4 hn R4
   clear K4 R4 G4 HO3 B3 HR3
   go_wp2_with fail
   refine K5.mono ?_
   rintro e w5 ⟨key,hk,rfl,R5,G5⟩
   have B5:=below_rd B4.out G5
   have HO5:=hidOwn ((keptR HO4.out G5 (rd_far HO4.out hlt1)).mono (Nat.le_of_lt hlt1))
   clear K5 R5 G5 HO4 B4
   go_wp2
   go_ret3
   exact⟨ps,a1,c1,sd,key,rfl,hpl,by omega,hk,HPS.out,HO5.out,B5⟩
set_option maxRecDepth 100000 in
set_option maxHeartbeats 1000000 in
theorem drawProofOf (n cap:Nat) (a:Option Addr) (w:World) (hn:n≤1048576) (h:Code w a n) :
 Calls Tryz.prog 7 #[.slice a n cap] w fun e w'=>∃ (ps:List PairL) (a1:Option Addr) (c1:Nat) (rt key:List UInt8),e=.returned (.tuple #[.slice a1 ps.length c1,.string ⟨rt.toArray⟩,.string ⟨key.toArray⟩])∧ps.length≤3601∧rt.length≤1048576∧key.length≤5∧(∀ p∈ps,p.1.length≤1048576∧p.2.length≤1048576)∧w'.ownsRow w.heap.size 88 2 (.slice a1 ps.length c1) ps.length (pcells ps)∧Below w.heap.size w w':=by
 have H1:=drawGet n cap a w hn h
 clear h
 go_enter Tryz.func7,Tryz.ntmps7
 go_wp2_with fail
 refine H1.mono ?_
 rintro e w1 ⟨ps,a1,c1,rt,key,rfl,hpl,hrt,hkl,hps,o1,B1⟩
 have HO:=hidOwn o1
 have HP:Hid (∀ p∈ps,p.1.length≤1048576∧p.2.length≤1048576):=hps
 clear o1 hps H1
 go_wp2
 go_ret3
 exact⟨ps,a1,c1,rt,key,rfl,hpl,hrt,hkl,HP.out,HO.out,B1⟩
end Go.Proofs.YtckoglgcjcmmkaaGreatDoor
