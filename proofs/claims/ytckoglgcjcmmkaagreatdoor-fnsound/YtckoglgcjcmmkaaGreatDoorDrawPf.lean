/-
 Contracts: a drawn proof with its store, root and key.
-/
import Derived.Test.YtckoglgcjcmmkaaGreatDoorDrawGs
import Derived.Test.YtckoglgcjcmmkaaGreatDoorAppT
import Derived.Test.YtckoglgcjcmmkaaGreatDoorIPrf2
import Derived.Test.YtckoglgcjcmmkaaGreatDoorMathPfs
import Derived.Test.YtckoglgcjcmmkaaGreatDoorBackM
namespace Go.Proofs.YtckoglgcjcmmkaaGreatDoor
open Go.RowKit
set_option linter.unusedVariables false
theorem results_tmp4 {fn:Func} {t u v x:Tmp} (h:fn.results=#[.tmp t,.tmp u,.tmp v,.tmp x]) (tmps:Array Value) (P:Program) (w:World) :
 (results fn tmps).run P w=.ok (.tuple #[tmps.getD t undef,tmps.getD u undef,tmps.getD v undef,tmps.getD x undef]) w:=by
 simp[results,h]
theorem cap_ofT {w:World} {B e n m c:Nat} {a:Option Addr} {xs:List Value} (h:w.ownsRow B e 1 (.slice a m c) n xs):n≤c:=by
 rcases h.2 with ⟨hv,h0⟩ | ⟨g,cap,cur,hv,hb,hgb,rest⟩
 · omega
 · cases hv
   exact rest.1
theorem far1 {w:World} {B e rd n:Nat} {v:Value} {xs:List Value} (h:w.ownsRow B e 1 v n xs) (hr:rd<B):∀ k,v.ownBlock=some k→(some rd)≠some k:=fun k hk e=>by have:=(h.lt k hk).1;cases e;omega
theorem grown_newD {w w1:World} {row:Option Nat} (h:w.grownBy w1 row) {p:Addr} (hp:w.heap.size≤p.block) (u:Value):w.grownBy (w1.setCell p u) row :=
 ⟨h.os,h.tape,h.output,by simpa [World.setCell] using h.size,fun k hk hne=>(Below.heap_setCell _ _ _ _ (by omega)).trans (h.block k hk hne)⟩
theorem rd_setD {rd n cap:Nat} {a:Option Addr} {w:World} (h:Rd rd a n cap w) {p:Addr} (hp:p.block≠rd) (hc:∀ cb off,a=some ⟨cb,off,none⟩→n≠0→cb≠p.block) (u:Value):Rd rd a n cap (w.setCell p u) :=
 h.kept (row:=some p.block) ⟨rfl,rfl,rfl,by simp[World.setCell],fun k hk hne=>Below.heap_setCell _ _ _ _ (fun e=>hne (by rw[e]))⟩ (by simpa using hp) (fun cb off h1 h2=>by simpa using hc cb off h1 h2)
theorem proof_small (ps:List PairL) (rt key:List UInt8):(∀ t∈(proofR ps rt key).getD [],t.length≤33006)∧((proofR ps rt key).getD []).length≤30:=by
 cases h:proofR ps rt key with
 | none=>simp
 | some T =>
   obtain⟨h1,_,_,h4,h5,_⟩:=proof_facts h
   refine⟨fun t ht=>?_,h4⟩
   have hr:=(find_sum h1 (h5 t ht)).2
   obtain⟨nd,hnd⟩:=Option.isSome_iff_exists.1 hr
   have:=(node_back t nd hnd).2
   rw[←this]
   exact nodeB_len _ _ _ _
set_option maxRecDepth 100000 in
set_option maxHeartbeats 4000000 in
theorem proof_any (rd n cap : Nat) (a : Option Addr) (w : World) (hn : n ≤ 1048576) (h : Rd rd a n cap w) :
 Calls Tryz.prog 39 #[.pointer (some ⟨rd,0,none⟩)] w fun e w'=>∃ (ps:List PairL) (a1:Option Addr) (c1:Nat) (rt key:List UInt8) (a2:Option Addr) (T:List (List UInt8)) (c2:Nat),e=.returned (.tuple #[.slice a1 ps.length c1,.string ⟨rt.toArray⟩,.string ⟨key.toArray⟩,.slice a2 T.length c2])∧ps.length≤3601∧rt.length≤1048576∧key.length≤5∧T.length≤31∧T.length≤c2∧(∀ p∈ps,p.1.length≤1048576∧p.2.length≤1048576)∧(∀ t∈T,t.length≤1048576)∧w'.ownsRow w.heap.size 88 2 (.slice a1 ps.length c1) ps.length (pcells ps)∧IsStrs w' a2 T∧Rd rd a n cap w'∧w.grownBy w' (some rd):=by
 have hrd:=h.lt
 have HCD:Hid (∀ cb off,a=some ⟨cb,off,none⟩→n≠0→cb<w.heap.size):=h.code
 obtain⟨i0,hi0,hz0,hz1,hz2⟩:=info_parts info9a
 have K1:=store_any rd n cap a w hn h
 clear h
 go_enter Tryz.func39,Tryz.ntmps39
 go_wp2_with fail
 refine K1.mono ?_
 rintro e w1 ⟨v1,rt,rfl,hrt,ps,a1,c1,rfl,hpl,HPS,HO1,HR1,HG1⟩
 have K2:=key_any rd n cap a w1 hn HR1.out
 clear K1
 go_wp2_with fail
 refine K2.mono ?_
 rintro e w2 ⟨key,hkl,rfl,R2,G2⟩
 have HO2:=hidOwn (keptR HO1.out G2 (rd_far HO1.out hrd))
 have HR2:Hid (Rd rd a n cap w2):=R2
 have HG2:Hid (w.grownBy w2 (some rd)):=HG1.out.trans G2
 have K3:=spec_proofOf a1 c1 ps rt key w2 (by omega) HPS.out (isPairs_own HO2.out).2.2 hrt (by omega)
 unfold FPost at K3
 obtain⟨ht1,hTl⟩:=proof_small ps rt key
 obtain⟨b0,hb0⟩:∃ b0,b0=(proofR ps rt key).isSome:=⟨_,rfl⟩
 obtain⟨T,hT⟩:∃ T,T=(proofR ps rt key).getD []:=⟨_,rfl⟩
 rw[←hb0,←hT] at K3
 rw[←hT] at ht1 hTl
 have HTS:Hid (∀ t∈T,t.length≤33006):=ht1
 clear K2 HO1 HR1 HG1 R2 G2 hb0 hT ht1
 go_wp2_with fail
 refine K3.mono ?_
 rintro e w3 ⟨a3,m3,c3,rfl,o3,b3⟩
 obtain⟨rfl,_,i3⟩:=strs_own o3
 have hc3:=own_noneT o3
 have HO3:=hidOwn (kept2 HO2.out b3)
 have HR3:Hid (Rd rd a n cap w3):=HR2.out.keptNone b3
 have HG3:Hid (w.grownBy w3 (some rd)):=grown_below HG2.out b3
 have hw3:=HG3.out.size
 have hrd3:rd<w3.heap.size:=by omega
 have HLT:Hid (∀ k,(Value.slice a1 ps.length c1).ownBlock=some k→k<w3.heap.size):=fun k hk=>(HO3.out.lt k hk).2
 have XE:Below w3.heap.size w3 (w3.alloc (.cells #[] 9)):=(Below.refl _ _).alloc (Nat.le_refl _) _
 have HOE:Hid ((w3.alloc (.cells #[] 9)).ownsRow w3.heap.size 9 1 (.slice (some ⟨w3.heap.size,0,none⟩) 0 0) 0 []):=World.ownsRow_lit (e:=9) (size:=1) w3 #[] 0 (base:=w3.heap.size) (Nat.le_refl _) (Nat.zero_le _) rfl
 have HIE:Hid (IsStrs (w3.alloc (.cells #[] 9)) a3 T):=strs_later i3 XE
 have HXE:Hid (Below w3.heap.size w3 (w3.alloc (.cells #[] 9))):=XE
 clear K3 o3 b3 HO2 HR2 HG2 i3 XE
 go_wp2_with (at_builtin;refine wpList_append_strs rfl _ _ 30 rfl w3.heap.size 9 i0 (.string ⟨#[]⟩) 16 Tryz.underlying30 hi0 hz0 hz1 hz2 rfl (.slice (some ⟨w3.heap.size,0,none⟩) 0 0) 0 [] rfl HOE.out a3 T T.length c3 rfl rfl hc3 HIE.out (by unfold maxLen;omega) (by omega) (by simp) ?_;intro v4 w4 o4 g4;obtain⟨a4,m4,c4,rfl⟩:=own_sliceT o4)
 have B4:Below w3.heap.size w3 w4:=HXE.out.grown g4 HXE.out.size (fun q hq=>(HOE.out.lt q hq).1)
 have OT4:Hid (w4.ownsRow w3.heap.size 9 1 (.slice a4 m4 c4) T.length (scells T)):=by rw[Hid];simpa using o4
 have hc4:=cap_ofT OT4.out
 obtain⟨rfl,_,i4⟩:=strs_own OT4.out
 have HO4:=hidOwn (kept2 HO3.out B4)
 have HR4:Hid (Rd rd a n cap w4):=HR3.out.keptNone B4
 have HG4:Hid (w.grownBy w4 (some rd)):=grown_below HG3.out B4
 have hs4:=B4.size
 have K5:=below_any rd n cap 8 8 a w4 rfl (by omega) (by omega) hn HR4.out
 clear o4 g4 i4 HO3 HR3 HG3 HOE HIE HXE B4
 refine K5.mono ?_
 rintro e w5 ⟨y,hy,rfl,R5,G5⟩
 have HO5:=hidOwn (keptR HO4.out G5 (rd_far HO4.out hrd))
 have OT5:=hidOwn (keptR OT4.out G5 (far1 OT4.out hrd3))
 have HR5:Hid (Rd rd a n cap w5):=R5
 have HG5:Hid (w.grownBy w5 (some rd)):=HG4.out.trans G5
 have hs5:w3.heap.size≤w5.heap.size:=Nat.le_trans hs4 G5.size
 clear R5 G5 HO4 OT4 HR4 HG4
 clear K5
 by_cases y0:y=0
 · subst y0
   have K6:=key_any rd n cap a w5 hn HR5.out
   go_wp2_with fail
   refine K6.mono ?_
   rintro e w6 ⟨k6,hk6,rfl,R6,G6⟩
   have HO6:=hidOwn (keptR HO5.out G6 (rd_far HO5.out hrd))
   have OT6:=hidOwn (keptR OT5.out G6 (far1 OT5.out hrd3))
   have HR6:Hid (Rd rd a n cap w6):=R6
   have HG6:Hid (w.grownBy w6 (some rd)):=HG5.out.trans G6
   have hs6:w3.heap.size≤w6.heap.size:=Nat.le_trans hs5 G6.size
   clear R6 G6 HO5 OT5 HR5 HG5
   clear K6
   go_wp2
   first | simp only[Exit.inBlock,Exit.then] | skip
   refine bodyPost_ret (results_tmp4 rfl _ _ _) rfl ?_
   exact⟨ps,a1,c1,rt,k6,a4,T,c4,(by first | rfl | (rw[h0];rfl)),hpl,hrt,by omega,by omega,hc4,HPS.out,fun t ht=>Nat.le_trans (HTS.out t ht) (by omega),HO6.out,(strs_own OT6.out).2.2,HR6.out,HG6.out⟩
 · have y0' : ((y : Int) == 0) = false := by simp only [beq_eq_false_iff_ne, ne_eq]; omega
   by_cases y1:y=1
   · subst y1
     by_cases h0:T.length=0
     · have hb:decide ((0:Int)<(T.length:Int))=false:=decide_eq_false (by omega)
       have hn0:¬ (0:Int)<(T.length:Int):=by omega
       go_wp2
       first | simp only[Exit.inBlock,Exit.then] | skip
       refine bodyPost_ret (results_tmp4 rfl _ _ _) rfl ?_
       exact⟨ps,a1,c1,rt,key,a4,T,c4,(by first | rfl | (rw[h0];rfl)),hpl,hrt,by omega,by omega,hc4,HPS.out,fun t ht=>Nat.le_trans (HTS.out t ht) (by omega),HO5.out,(strs_own OT5.out).2.2,HR5.out,HG5.out⟩
     · have hb:decide ((0:Int)<(T.length:Int))=true:=decide_eq_true (by omega)
       have hp0:(0:Int)<(T.length:Int):=by omega
       have K6:=below_gen rd n cap T.length T.length a w5 rfl (by omega) (by omega) hn HR5.out
       go_wp2_with fail
       refine K6.mono ?_
       rintro e w6 ⟨i,hi,rfl,R6,G6⟩
       have HO6:=hidOwn (keptR HO5.out G6 (rd_far HO5.out hrd))
       have OT6:=hidOwn (keptR OT5.out G6 (far1 OT5.out hrd3))
       have HR6:Hid (Rd rd a n cap w6):=R6
       have HG6:Hid (w.grownBy w6 (some rd)):=HG5.out.trans G6
       have hs6:w3.heap.size≤w6.heap.size:=Nat.le_trans hs5 G6.size
       clear R6 G6 HO5 OT5 HR5 HG5
       obtain⟨g,rfl⟩:∃ g,a4=some ⟨g,0,none⟩:=by
        rcases own_cases OT6.out with ⟨h1,h2,_⟩ | ⟨g,cap',h1,_⟩
        · omega
        · cases h1;exact⟨g,rfl⟩
       have hglt:=OT6.out.lt g rfl
       have hcell:w6.cell? ⟨g,i,none⟩=some (.string ⟨T[i].toArray⟩):=by
        have:=(strs_own OT6.out).2.2
        rcases this with h | ⟨b',off',h,hc⟩
        · rw[h] at hi;simp at hi
        · cases h;simpa using hc i hi
       have hti:=HTS.out T[i] (List.getElem_mem _)
       have K7:=hurt_any rd n cap a T[i] w6 (by omega) hn HR6.out
       have hil:(i:Int)<(T.length:Int):=by omega
       clear K6
       go_wp2_with fail
       refine K7.mono ?_
       rintro e w7 ⟨l7,hl7,rfl,R7,G7⟩
       have HO7:=hidOwn (keptR HO6.out G7 (rd_far HO6.out hrd))
       have OT7:=hidOwn (keptR OT6.out G7 (far1 OT6.out hrd3))
       have HR7:Hid (Rd rd a n cap w7):=R7
       have HG7:Hid (w.grownBy w7 (some rd)):=HG6.out.trans G7
       have hs7:w3.heap.size≤w7.heap.size:=Nat.le_trans hs6 G7.size
       clear R7 G7 HO6 OT6 HR6 HG6
       have hst:=OT7.out.stored i (.string ⟨l7.toArray⟩)
       have O8:(w7.setCell ⟨g,i,none⟩ (.string ⟨l7.toArray⟩)).ownsRow w3.heap.size 9 1 (.slice (some ⟨g,0,none⟩) T.length c4) T.length (scells (T.set i l7)):=by
        have:=hst.1
        rwa [show (scells T).set i (.string ⟨l7.toArray⟩)=scells (T.set i l7) by simp[scells,List.map_set]] at this
       have hcell7:w7.cell? ⟨g,i,none⟩=some (.string ⟨T[i].toArray⟩):=by
        have:=(strs_own OT7.out).2.2
        rcases this with h | ⟨b',off',h,hc⟩
        · rw[h] at hi;simp at hi
        · cases h;simpa using hc i hi
       have HX8:Hid ((w7.setCell ⟨g,i,none⟩ (.string ⟨l7.toArray⟩)).ownsRow w3.heap.size 9 1 (.slice (some ⟨g,0,none⟩) T.length c4) T.length (scells (T.set i l7))):=O8
       have HO8:=hidOwn (ownsRow_setCell_other (a:=⟨g,i,none⟩) HO7.out (fun e=>by have:=HLT.out _ e;simp at this;omega) (.string ⟨l7.toArray⟩))
       have HG8:Hid (w.grownBy (w7.setCell ⟨g,i,none⟩ (.string ⟨l7.toArray⟩)) (some rd)):=grown_newD HG7.out (by simp;omega) _
       have HR8:Hid (Rd rd a n cap (w7.setCell ⟨g,i,none⟩ (.string ⟨l7.toArray⟩))):=rd_setD HR7.out (by simp;omega) (fun cb off h1 h2=>by have:=HCD.out cb off h1 h2;simp;omega) _
       have hfz:w7.frozen? ⟨g,i,none⟩=false:=OT7.out.frozenAt i
       clear K7 O8 hst HO7 OT7 HR7 HG7 hcell
       go_wp2
       first | simp only[Exit.inBlock,Exit.then] | skip
       refine bodyPost_ret (results_tmp4 rfl _ _ _) rfl ?_
       exact⟨ps,a1,c1,rt,key,some ⟨g,0,none⟩,T.set i l7,c4,by simp,hpl,hrt,by omega,by simp;omega,by simpa using hc4,HPS.out,fun t ht=>by rcases List.mem_or_eq_of_mem_set ht with h | h;exact Nat.le_trans (HTS.out t h) (by omega);rw[h];omega,HO8.out,(strs_own HX8.out).2.2,HR8.out,HG8.out⟩
   · have y1' : ((y : Int) == 1) = false := by simp only [beq_eq_false_iff_ne, ne_eq]; omega
     by_cases y2:y=2
     · subst y2
       have K6:=textB_any rd n cap a w5 hn HR5.out
       go_wp2_with fail
       refine K6.mono ?_
       rintro e w6 ⟨x6,hx6,rfl,R6,G6⟩
       have HO6:=hidOwn (keptR HO5.out G6 (rd_far HO5.out hrd))
       have OT6:=hidOwn (keptR OT5.out G6 (far1 OT5.out hrd3))
       have HR6:Hid (Rd rd a n cap w6):=R6
       have HG6:Hid (w.grownBy w6 (some rd)):=HG5.out.trans G6
       have hs6:w3.heap.size≤w6.heap.size:=Nat.le_trans hs5 G6.size
       clear R6 G6 HO5 OT5 HR5 HG5
       clear K6
       go_wp2_with (at_builtin;refine wpList_append_own _ rfl _ _ 30 rfl w3.heap.size 9 i0 (.string ⟨#[]⟩) 1 16 Tryz.underlying30 hi0 hz0 hz1 hz2 rfl (by decide) (.slice a4 T.length c4) T.length (scells T) rfl (OT6.out.alloc _) ⟨w6.heap.size,0,none⟩ 1 1 [.string ⟨x6.toArray⟩] rfl rfl (World.news_of_block (cs:=#[.string ⟨x6.toArray⟩]) (t:=9) (fr:=(0,0)) (heap_alloc_new w6 _)) (by simp[Value.oneCell']) (by unfold maxLen;omega) (by omega) (by simp;omega) ?_;intro v7 w7 o7 g7 _;obtain⟨a7,m7,c7,rfl⟩:=own_sliceT o7)
       have O7:w7.ownsRow w3.heap.size 9 1 (.slice a7 m7 c7) (T.length+1) (scells (T ++ [x6])):=by rw[scells_snoc];exact o7
       have hc7:=cap_ofT O7
       obtain⟨rfl,_,i7⟩:=strs_own O7
       have hlow:∀ k,(Value.slice a4 T.length c4).ownBlock=some k→w3.heap.size≤k:=fun k hk=>(OT6.out.lt k hk).1
       have XA:Below w6.heap.size w6 (w6.alloc (.cells #[.string ⟨x6.toArray⟩] 9)):=(Below.refl _ _).alloc (Nat.le_refl _) _
       have G7:w.grownBy w7 (some rd):=grown_far (grown_below HG6.out XA) g7 (fun k hk=>Nat.le_trans hw3 (hlow k hk))
       have R7:Rd rd a n cap w7:=(HR6.out.keptNone XA).kept g7 (fun e=>by have:=hlow _ e;omega) (fun cb off h1 h2 e=>by have h3:=HCD.out cb off h1 h2;have h4:=hlow _ e.symm;omega)
       have O7p:=keptR (kept2 HO6.out XA) g7 (fun k hk e=>by have h1:=hlow _ e;have h2:=HLT.out k hk;omega)
       first | simp only[Exit.inBlock,Exit.then] | skip
       first | refine bodyPost_ret (results_tmp4 rfl _ _ _) rfl ?_ | (go_wp2;refine bodyPost_ret (results_tmp4 rfl _ _ _) rfl ?_)
       exact⟨ps,a1,c1,rt,key,a7,T ++ [x6],c7,by simp,hpl,hrt,by omega,by simp;omega,by have:=hc7;simp;omega,HPS.out,fun t ht=>by rcases List.mem_append.1 ht with h | h;exact Nat.le_trans (HTS.out t h) (by omega);rw[List.mem_singleton.1 h];omega,O7p,i7,R7,G7⟩
     · have y2' : ((y : Int) == 2) = false := by simp only [beq_eq_false_iff_ne, ne_eq]; omega
       by_cases y3:y=3
       · subst y3
         by_cases h0:T.length=0
         · have hb:decide ((0:Int)<(T.length:Int))=false:=decide_eq_false (by omega)
           have hn0:¬ (0:Int)<(T.length:Int):=by omega
           go_wp2
           first | simp only[Exit.inBlock,Exit.then] | skip
           refine bodyPost_ret (results_tmp4 rfl _ _ _) rfl ?_
           exact⟨ps,a1,c1,rt,key,a4,T,c4,(by first | rfl | (rw[h0];rfl)),hpl,hrt,by omega,by omega,hc4,HPS.out,fun t ht=>Nat.le_trans (HTS.out t ht) (by omega),HO5.out,(strs_own OT5.out).2.2,HR5.out,HG5.out⟩
         · have hb:decide ((0:Int)<(T.length:Int))=true:=decide_eq_true (by omega)
           have hp0:(0:Int)<(T.length:Int):=by omega
           obtain⟨g,rfl⟩:∃ g,a4=some ⟨g,0,none⟩:=by
            rcases own_cases OT5.out with ⟨h1,h2,_⟩ | ⟨g,cap',h1,_⟩
            · omega
            · cases h1;exact⟨g,rfl⟩
           obtain⟨k,hk⟩:∃ k,T.length=k+1:=⟨T.length - 1,by omega⟩
           have hsub:IntKind.i64.wrap ((T.length:Int) - 1)=(k:Int):=by rw[i64_wrap_small _ (by omega) (by omega)];omega
           have hs1:(T.length:Int) - 1=(k:Int):=by omega
           have hkc:(k:Int)≤(c4:Int):=by omega
           have IT:=strs_take (strs_own OT5.out).2.2 k
           have HIT:Hid (IsStrs w5 (some ⟨g,0,none⟩) (T.take k)):=IT
           have HK:Hid (T.length=k+1):=hk
           clear IT hk
           go_wp2
           first | simp only[Exit.inBlock,Exit.then] | skip
           refine bodyPost_ret (results_tmp4 rfl _ _ _) rfl ?_
           exact⟨ps,a1,c1,rt,key,some ⟨g,0,none⟩,T.take k,c4,by have:=HK.out;simp;omega,hpl,hrt,by omega,by simp;omega,by have:=HK.out;simp;omega,HPS.out,fun t ht=>Nat.le_trans (HTS.out t (List.mem_of_mem_take ht)) (by omega),HO5.out,HIT.out,HR5.out,HG5.out⟩
       · have y3' : ((y : Int) == 3) = false := by simp only [beq_eq_false_iff_ne, ne_eq]; omega
         by_cases y4:y=4
         · subst y4
           by_cases h0:ps.length=0
           · have hb:decide ((0:Int)<(ps.length:Int))=false:=decide_eq_false (by omega)
             have hn0:¬ (0:Int)<(ps.length:Int):=by omega
             go_wp2
             first | simp only[Exit.inBlock,Exit.then] | skip
             refine bodyPost_ret (results_tmp4 rfl _ _ _) rfl ?_
             exact⟨ps,a1,c1,rt,key,a4,T,c4,(by first | rfl | (rw[h0];rfl)),hpl,hrt,by omega,by omega,hc4,HPS.out,fun t ht=>Nat.le_trans (HTS.out t ht) (by omega),HO5.out,(strs_own OT5.out).2.2,HR5.out,HG5.out⟩
           · have hb:decide ((0:Int)<(ps.length:Int))=true:=decide_eq_true (by omega)
             have hp0:(0:Int)<(ps.length:Int):=by omega
             have K6:=below_gen rd n cap ps.length ps.length a w5 rfl (by omega) (by omega) hn HR5.out
             go_wp2_with fail
             refine K6.mono ?_
             rintro e w6 ⟨i,hi,rfl,R6,G6⟩
             have HO6:=hidOwn (keptR HO5.out G6 (rd_far HO5.out hrd))
             have OT6:=hidOwn (keptR OT5.out G6 (far1 OT5.out hrd3))
             have HR6:Hid (Rd rd a n cap w6):=R6
             have HG6:Hid (w.grownBy w6 (some rd)):=HG5.out.trans G6
             have hs6:w3.heap.size≤w6.heap.size:=Nat.le_trans hs5 G6.size
             clear R6 G6 HO5 OT5 HR5 HG5
             have hI:=(isPairs_own HO6.out).2.2
             obtain⟨gp,rfl,hcells⟩:∃ gp,a1=some ⟨gp,0,none⟩∧w6.cell? ⟨gp,i*2+1,none⟩=some (.string ⟨ps[i].2.toArray⟩):=by
              rcases HO6.out.2 with ⟨h1,h2⟩ | ⟨g,c',cur,h1,_⟩
              · omega
              · cases h1
                refine⟨g,rfl,?_⟩
                rcases hI with h' | ⟨b',off',h',hc⟩
                · rw[h'] at hi;simp at hi
                · cases h';simpa using (hc i hi).2
             have hil:(i:Int)<(ps.length:Int):=by omega
             have hsm:=(HPS.out ps[i] (List.getElem_mem _)).2
             obtain⟨x6,hx6⟩:∃ x6,x6=ps[i].2:=⟨_,rfl⟩
             rw[←hx6] at hcells hsm
             clear K6 hI hx6
             go_wp2_with (at_builtin;refine wpList_append_own _ rfl _ _ 30 rfl w3.heap.size 9 i0 (.string ⟨#[]⟩) 1 16 Tryz.underlying30 hi0 hz0 hz1 hz2 rfl (by decide) (.slice a4 T.length c4) T.length (scells T) rfl (OT6.out.alloc _) ⟨w6.heap.size,0,none⟩ 1 1 [.string ⟨x6.toArray⟩] rfl rfl (World.news_of_block (cs:=#[.string ⟨x6.toArray⟩]) (t:=9) (fr:=(0,0)) (heap_alloc_new w6 _)) (by simp[Value.oneCell']) (by unfold maxLen;omega) (by omega) (by simp;omega) ?_;intro v7 w7 o7 g7 _;obtain⟨a7,m7,c7,rfl⟩:=own_sliceT o7)
             have O7:w7.ownsRow w3.heap.size 9 1 (.slice a7 m7 c7) (T.length+1) (scells (T ++ [x6])):=by rw[scells_snoc];exact o7
             have hc7:=cap_ofT O7
             obtain⟨rfl,_,i7⟩:=strs_own O7
             have hlow:∀ k,(Value.slice a4 T.length c4).ownBlock=some k→w3.heap.size≤k:=fun k hk=>(OT6.out.lt k hk).1
             have XA:Below w6.heap.size w6 (w6.alloc (.cells #[.string ⟨x6.toArray⟩] 9)):=(Below.refl _ _).alloc (Nat.le_refl _) _
             have G7:w.grownBy w7 (some rd):=grown_far (grown_below HG6.out XA) g7 (fun k hk=>Nat.le_trans hw3 (hlow k hk))
             have R7:Rd rd a n cap w7:=(HR6.out.keptNone XA).kept g7 (fun e=>by have:=hlow _ e;omega) (fun cb off h1 h2 e=>by have h3:=HCD.out cb off h1 h2;have h4:=hlow _ e.symm;omega)
             have O7p:=keptR (kept2 HO6.out XA) g7 (fun k hk e=>by have h1:=hlow _ e;have h2:=HLT.out k hk;omega)
             first | simp only[Exit.inBlock,Exit.then] | skip
             first | refine bodyPost_ret (results_tmp4 rfl _ _ _) rfl ?_ | (go_wp2;refine bodyPost_ret (results_tmp4 rfl _ _ _) rfl ?_)
             exact⟨ps,some ⟨gp,0,none⟩,c1,rt,key,a7,T ++ [x6],c7,by simp,hpl,hrt,by omega,by simp;omega,by have:=hc7;simp;omega,HPS.out,fun t ht=>by rcases List.mem_append.1 ht with h | h;exact Nat.le_trans (HTS.out t h) (by omega);rw[List.mem_singleton.1 h];exact hsm,O7p,i7,R7,G7⟩
         · have y4':((y:Int) == 4)=false:=by simp only[beq_eq_false_iff_ne,ne_eq];omega
           go_wp2
           first | simp only[Exit.inBlock,Exit.then] | skip
           refine bodyPost_ret (results_tmp4 rfl _ _ _) rfl ?_
           exact⟨ps,a1,c1,rt,key,a4,T,c4,(by first | rfl | (rw[h0];rfl)),hpl,hrt,by omega,by omega,hc4,HPS.out,fun t ht=>Nat.le_trans (HTS.out t ht) (by omega),HO5.out,(strs_own OT5.out).2.2,HR5.out,HG5.out⟩
set_option maxRecDepth 100000 in
set_option maxHeartbeats 1000000 in
theorem drawCheckProof (n cap:Nat) (a:Option Addr) (w:World) (hn:n≤1048576) (h:Code w a n) :
 Calls Tryz.prog 16 #[.slice a n cap] w fun e w'=>∃ (rt key:List UInt8) (a2:Option Addr) (T:List (List UInt8)) (c2:Nat),e=.returned (.tuple #[.string ⟨rt.toArray⟩,.string ⟨key.toArray⟩,.slice a2 T.length c2])∧rt.length≤1048576∧key.length≤5∧T.length≤31∧T.length≤c2∧(∀ t∈T,t.length≤1048576)∧IsStrs w' a2 T∧Below w.heap.size w w':=by
 have H1:=open_any n cap a w h
 clear h
 go_enter Tryz.func16,Tryz.ntmps16
 go_wp2_with fail
 refine H1.mono ?_
 rintro e w1 ⟨rfl,hR1,b1⟩
 have HR1:Hid (Rd w.heap.size a n cap w1):=hR1
 clear hR1 H1
 go_wp2_with fail
 refine (proof_any w.heap.size n cap a w1 hn HR1.out).mono ?_
 rintro e w2 ⟨ps,a1,c1,rt,key,a2,T,c2,rfl,hpl,hrt,hkl,hTl,hc2,hps,hts,o2,i2,R2,G2⟩
 have B2:=below_rd b1 G2
 have HI:Hid (IsStrs w2 a2 T):=i2
 have HS:Hid (∀ t∈T,t.length≤1048576):=hts
 clear R2 G2 o2 i2 hts hps HR1
 go_wp2
 go_ret3
 exact⟨rt,key,a2,T,c2,rfl,hrt,hkl,hTl,hc2,HS.out,HI.out,B2⟩
set_option maxRecDepth 100000 in
set_option maxHeartbeats 1000000 in
theorem drawAgrees (n cap:Nat) (a:Option Addr) (w:World) (hn:n≤1048576) (h:Code w a n) :
 Calls Tryz.prog 18 #[.slice a n cap] w fun e w'=>∃ (ps:List PairL) (a1:Option Addr) (c1:Nat) (v2:Value),e=.returned (.tuple #[.slice a1 ps.length c1,v2])∧ps.length≤3601∧(∀ p∈ps,p.1.length≤1048576∧p.2.length≤1048576)∧w'.ownsRow w.heap.size 88 2 (.slice a1 ps.length c1) ps.length (pcells ps)∧Below w.heap.size w w':=by
 have H1:=open_any n cap a w h
 clear h
 go_enter Tryz.func18,Tryz.ntmps18
 go_wp2_with fail
 refine H1.mono ?_
 rintro e w1 ⟨rfl,hR1,b1⟩
 have HR1:Hid (Rd w.heap.size a n cap w1):=hR1
 have hlt1:=hR1.lt
 clear hR1 H1
 go_wp2_with fail
 refine (proof_any w.heap.size n cap a w1 hn HR1.out).mono ?_
 rintro e w2 ⟨ps,a1,c1,rt,key,a2,T,c2,rfl,hpl,hrt,hkl,hTl,hc2,hps,hts,o2,i2,R2,G2⟩
 have B2:=below_rd b1 G2
 have HO:Hid _:=hidOwn (o2.mono (Nat.le_of_lt hlt1))
 have HS:Hid (∀ p∈ps,p.1.length≤1048576∧p.2.length≤1048576):=hps
 clear R2 G2 o2 i2 hts hps HR1
 go_wp2
 go_ret2
 exact⟨ps,a1,c1,_,rfl,hpl,HS.out,HO.out,B2⟩
end Go.Proofs.YtckoglgcjcmmkaaGreatDoor
