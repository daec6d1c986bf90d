/-
 Contract: the model's nodes of paths with values (l5Build), at a branch (written by mkbranch.py).
-/
import Derived.Test.YtcoahmldmodmlaaGreatDoorSBuild
namespace Go.Proofs.YtcoahmldmodmlaaGreatDoor
open Go.RowKit
set_option linter.unusedVariables false
def kidsTo (f:Nat) (es:List PairL) (d:Nat):List PairL:=((List.range d).map fun d=>buildL f (grp d es)).flatten
def hashTo (f:Nat) (es:List PairL) (d:Nat):List (List UInt8):=(List.range d).map fun d=>rootH (buildL f (grp d es))
theorem kidsTo_succ (f:Nat) (es:List PairL) (d:Nat):kidsTo f es (d+1)=kidsTo f es d ++ buildL f (grp d es):=by simp[kidsTo,List.range_succ]
theorem hashTo_succ (f:Nat) (es:List PairL) (d:Nat):hashTo f es (d+1)=hashTo f es d ++ [rootH (buildL f (grp d es))]:=by simp[hashTo,List.range_succ]
theorem hashTo_length (f:Nat) (es:List PairL) (d:Nat):(hashTo f es d).length=d:=by simp[hashTo]
theorem small_grp {d:Nat} {es:List PairL} (h:smallE es):smallE (grp d es):=by
 intro e he
 obtain⟨x,hx,he⟩:=List.mem_filterMap.1 he
 have h1:=h x hx
 unfold grp1 at he
 split at he
 · cases he
 · rename_i y ys hy
   split at he
   · cases he
     rw[hy] at h1
     simp at h1
     exact⟨by simp only;omega,h1.2⟩
   · cases he
theorem pone (qs:List PairL):∀ u∈pcells qs,u.oneCell'=true:=by
 induction qs with
 | nil=>simp[pcells]
 | cons p ps ih=>simp[pcells,Value.oneCell'];exact ih
theorem own_flat {w:World} {B e g m c:Nat} {ns:List PairL} (hm:ns.length=m) (h:w.ownsRow B e 2 (.slice (some ⟨g,0,none⟩) m c) m (pcells ns)):∀ j u,(pcells ns)[j]? = some u→w.cell? ((⟨g,0,none⟩:Addr).add j)=some u:=by
 intro j u hu
 have hj:=(List.getElem?_eq_some_iff.1 hu).1
 rw[pcells_length,hm] at hj
 have ea:(⟨g,0,none⟩:Addr).add j=⟨g,j,none⟩:=by
  simp only[Addr.add]
  split
  · rename_i h9;rw[h9]
  · simp
 rw[ea]
 rcases h.2 with ⟨h',_⟩ | ⟨g',cap',cur,h',_⟩
 · cases h'
 · cases h'
   rw[h.cellAt j hj,hu]
theorem endV_len (es:List PairL) (h:∀ j (h:j<es.length),es[j].2.length≤60):∀ j,j≤es.length→(endV (es.take j)).length≤60
 | 0,_=>by simp[endV]
 | j + 1, hj => by
   rw[endV_snoc es j (by omega)]
   split
   · exact h j (by omega)
   · exact endV_len es h j (by omega)
theorem hash_flat (f:Nat) (es:List PairL):∀ d,(∀ d,(rootH (buildL f (grp d es))).length≤32)→(hashTo f es d).flatten.length≤32*d
 | 0,_=>by simp[hashTo]
 | d + 1, h => by
   have:=hash_flat f es d h
   have h2:=h d
   have e : [rootH (buildL f (grp d es))].flatten=rootH (buildL f (grp d es)):=by simp
   rw[hashTo_succ,List.flatten_append,List.length_append,e]
   omega
theorem keptS {w w':World} {b e sz n:Nat} {v:Value} {xs:List Value} {row:Option Nat} (h:w.ownsRow b e sz v n xs) (g:w.grownBy w' row) (hne:∀ k,v.ownBlock=some k→row≠some k):w'.ownsRow b e sz v n xs :=
 h.kept g (by
  cases hv:v.ownBlock with
  | none=>exact .inl rfl
  | some q=>exact .inr (fun e=>hne q hv e.symm))
theorem own_lit2 (w:World) (o:Obj) (base:Nat) (hb:base≤w.heap.size):((w.alloc o).alloc (.cells #[] 9)).ownsRow base 9 1 (.slice (some ⟨w.heap.size+1,0,none⟩) 0 0) 0 []:=by
 have:=World.ownsRow_lit (e:=9) (size:=1) (w.alloc o) #[] 0 (base:=base) (by simp;omega) (Nat.zero_le _) rfl
 simpa using this
theorem grown_new {w w':World} {b:Nat} {row:Option Nat} (h:Below b w w') {w2:World} (hg:w'.grownBy w2 row) (hb:b≤w'.heap.size) (hr:∀ k,row=some k→b≤k):Below b w w2:=h.grown hg hb hr
set_option maxRecDepth 100000 in
set_option maxHeartbeats 8000000 in
theorem spec_buildBranch (f : Nat) (IH : BuildAt f) (es : List PairL) (a b : Option Addr) (ca cb : Nat) (w : World) (h2 : 2 ≤ es.length) (hl : es.length ≤ 60) (hf : Fits (f + 1) es) (hsm : smallE es) (hc : ¬ 0 < commonL es) (hr : ∀ d, (rootH (buildL f (grp d es))).length ≤ 32) (hne : ∀ d, grp d es ≠ [] → 0 < (buildL f (grp d es)).length) (hbl : ∀ d, d ≤ 16 → (kidsTo f es d).length ≤ 10000) (ha : IsStrs w a (es.map (·.1))) (hb : IsStrs w b (es.map (·.2))) :
 Calls Tryz.prog 61 #[.slice a es.length ca,.slice b es.length cb] w fun r w'=>∃ g c:Nat,r=.returned (.slice (some ⟨g,0,none⟩) (buildL (f+1) es).length c)∧w'.ownsRow w.heap.size 83 2 (.slice (some ⟨g,0,none⟩) (buildL (f+1) es).length c) (buildL (f+1) es).length (pcells (buildL (f+1) es))∧Below w.heap.size w w':=by
 obtain⟨i0,hi0,hz0,hz1,hz2⟩:=info_parts infoStored
 obtain⟨j0,hj0,hy0,hy1,hy2⟩:=info_parts info9t
 have hes:es≠[]:=fun e=>by rw[e] at h2;simp at h2
 obtain⟨g,off,rfl,hg,hcg⟩:=strs_atB ha (by simpa using hes)
 obtain⟨q,of2,rfl,hq,hcq⟩:=strs_atB hb (by simpa using hes)
 have HCG:Hid (∀ j (h:j<es.length),w.cell? ⟨g,off+j,none⟩=some (.string ⟨es[j].1.toArray⟩)):=fun j h=>by have:=hcg j (by simpa using h);simpa using this
 have HCQ:Hid (∀ j (h:j<es.length),w.cell? ⟨q,of2+j,none⟩=some (.string ⟨es[j].2.toArray⟩)):=fun j h=>by have:=hcq j (by simpa using h);simpa using this
 have HS1:Hid (∀ j (h:j<es.length),es[j].1.length≤24∧es[j].2.length≤60):=fun j h=>hsm _ (List.getElem_mem h)
 have HBL:Hid (buildL (f+1) es=kidsTo f es 16 ++ [nodeP (branchT (hashTo f es 16) (endV es))]):=build_branch f es h2 hc
 have HK1:Hid (Calls Tryz.prog 78 #[.slice (some ⟨g,off,none⟩) es.length ca] w fun e w'=>e=.returned (.int .i64 ((commonL es:Nat):Int))∧Below w.heap.size w w'):=spec_common es (some ⟨g,off,none⟩) ca w (by omega) hl hsm ha
 have hc0:commonL es=0:=by omega
 rw[hc0] at HK1
 have HIH:Hid (∀ d a' b' ca' cb' W,grp d es≠[]→IsStrs W a' ((grp d es).map (·.1))→IsStrs W b' ((grp d es).map (·.2))→Calls Tryz.prog 61 #[.slice a' (grp d es).length ca',.slice b' (grp d es).length cb'] W fun e w'=>∃ g c:Nat,e=.returned (.slice (some ⟨g,0,none⟩) (buildL f (grp d es)).length c)∧w'.ownsRow W.heap.size 83 2 (.slice (some ⟨g,0,none⟩) (buildL f (grp d es)).length c) (buildL f (grp d es)).length (pcells (buildL f (grp d es)))∧Below W.heap.size W w'):=fun d a' b' ca' cb' W h0 k1 k2=>IH (grp d es) a' b' ca' cb' W h0 (Nat.le_trans (grp_length d es) hl) (fits_grp hf) (small_grp hsm) k1 k2
 have HR:Hid ((∀ d,(rootH (buildL f (grp d es))).length≤32)∧(∀ d,grp d es≠[]→0<(buildL f (grp d es)).length)∧∀ d,d≤16→(kidsTo f es d).length≤10000):=⟨hr,hne,hbl⟩
 have HGL:Hid (∀ d j,(grp d (es.take j)).length≤j):=fun d j=>by have:=grp_length d (es.take j);rw[List.length_take] at this;omega
 have hl1:¬ (es.length:Int)=1:=by omega
 clear ha hb hcg hcq hf hsm IH hc hc0 hr hne hbl hes
 go_enter Tryz.func61,Tryz.ntmps61
 go_wp2_with fail
 refine HK1.out.mono ?_
 rintro e w1 ⟨rfl,b1⟩
 have s1:=b1.size
 have B1b:Below w.heap.size w ((w1.alloc (.cells #[] 83)).alloc (.cells #[] 9)):=(b1.alloc s1 _).alloc (by simp;omega) _
 clear HK1
 go_wp2
 go_loopw [11,12,13] (fun o pa i wr=>∃ (d go co gp cp:Nat),d≤16∧i=.int .i64 (d:Int)∧o=.slice (some ⟨go,0,none⟩) (kidsTo f es d).length co∧pa=.slice (some ⟨gp,0,none⟩) d cp∧go≠gp∧Hid (wr.ownsRow w.heap.size 83 2 (.slice (some ⟨go,0,none⟩) (kidsTo f es d).length co) (kidsTo f es d).length (pcells (kidsTo f es d)))∧Hid (wr.ownsRow w.heap.size 9 1 (.slice (some ⟨gp,0,none⟩) d cp) d (scells (hashTo f es d)))∧Below w.heap.size w wr) (fun _ _ i _=>16 - (intOf i).toNat)
 case atStart=>exact⟨0,w1.heap.size,0,w1.heap.size+1,0,by omega,rfl,rfl,by simp,by omega,by have:=World.ownsRow_lit (e:=83) (size:=2) w1 #[] 0 s1 (Nat.zero_le _) rfl;exact this.alloc _,own_lit2 w1 _ w.heap.size s1,B1b⟩
 case round =>
  obtain⟨d,go,co,gp,cp,hd,rfl,rfl,rfl,hgne,HO,HP,hbel⟩:=hrel
  obtain⟨wo,rfl⟩:∃ wo,wo=wr:=⟨_,rfl⟩
  have hsz:=hbel.size
  clear B1b
  by_cases hlt:d<16
  · have hd1 : (d : Int) < 16 := by omega
    have Bw:Below wo.heap.size wo ((wo.alloc (.cells #[] 9)).alloc (.cells #[] 9)):=((Below.refl _ _).alloc (Nat.le_refl _) _).alloc (by simp) _
    go_wp2
    go_loopw [14,15,16] (fun pp vv i wx=>∃ (j g1 c1 g2 c2:Nat),j≤es.length∧i=.int .i64 (j:Int)∧pp=.slice (some ⟨g1,0,none⟩) (grp d (es.take j)).length c1∧vv=.slice (some ⟨g2,0,none⟩) (grp d (es.take j)).length c2∧g1≠g2∧Hid (wx.ownsRow wo.heap.size 9 1 (.slice (some ⟨g1,0,none⟩) (grp d (es.take j)).length c1) (grp d (es.take j)).length (scells ((grp d (es.take j)).map (·.1))))∧Hid (wx.ownsRow wo.heap.size 9 1 (.slice (some ⟨g2,0,none⟩) (grp d (es.take j)).length c2) (grp d (es.take j)).length (scells ((grp d (es.take j)).map (·.2))))∧Below wo.heap.size wo wx) (fun _ _ i _=>es.length - (intOf i).toNat)
    case atStart=>exact⟨0,wo.heap.size,0,wo.heap.size+1,0,by omega,rfl,rfl,by simp;rfl,by omega,by have:=World.ownsRow_lit (e:=9) (size:=1) wo #[] 0 (Nat.le_refl _) (Nat.zero_le _) rfl;exact this.alloc _,own_lit2 wo _ wo.heap.size (Nat.le_refl _),Bw⟩
    case round =>
     obtain⟨j,g1,c1,g2,c2,hj,rfl,rfl,rfl,hg12,H1,H2,hb2⟩:=hrel
     have hsz2:=hb2.size
     have B2:=hbel.trans (hb2.mono hsz)
     clear Bw
     by_cases hlt2:j<es.length
     · have cj := (B2.cell (p := ⟨g, off + j, none⟩) hg).trans (HCG.out j hlt2)
       have cq:=(B2.cell (p:=⟨q,of2+j,none⟩) hq).trans (HCQ.out j hlt2)
       have HX:=grp_snoc d es j hlt2
       have hml:=HS1.out j hlt2
       have hgl:=HGL.out d j
       have hj1:(j:Int)<(es.length:Int):=by omega
       have hj0':(0:Int)≤(j:Int):=by omega
       obtain⟨e,hev⟩:∃ e,e=es[j]:=⟨_,rfl⟩
       rw[←hev] at cj cq HX hml
       obtain⟨p,v⟩:=e
       simp only at cj cq hml
       by_cases hpe:p=[]
       · have HX2:Hid (grp d (es.take (j+1))=grp d (es.take j)):=by rw[Hid,HX,hpe];simp[grp1]
         have hpe':p.isEmpty=true:=by rw[hpe];rfl
         clear HX hev
         subst hpe
         go_wp2
         go_roundw
         case rel=>exact⟨j+1,g1,c1,g2,c2,by omega,by go_num,by rw[HX2.out],by rw[HX2.out],hg12,by rw[HX2.out];exact H1,by rw[HX2.out];exact H2,hb2⟩
         case measure=>simp[intOf];omega
       · obtain⟨x,xs,hpx⟩:∃ x xs,p=x :: xs:=by cases p with | nil=>exact absurd rfl hpe | cons x xs=>exact⟨x,xs,rfl⟩
         have hpe':p.isEmpty=false:=by rw[hpx];rfl
         have hpl:0<p.length:=by rw[hpx];simp
         have hpl':(0:Int)<(p.length:Int):=by omega
         have hps:0<(ByteArray.mk p.toArray).size:=by simpa [ByteArray.size] using hpl
         have hb0:(((ByteArray.mk p.toArray)[0]'hps).toNat:Int)=(x.toNat:Int):=by subst hpx;rfl
         have hxl:=x.toNat_lt
         by_cases hx:x.toNat=d
         · have HX2:Hid (grp d (es.take (j+1))=grp d (es.take j) ++ [(xs,v)]):=by rw[Hid,HX,hpx];simp[grp1,hx]
           have hex:=ext_from p 1 (by omega)
           have hdr:p.drop 1=xs:=by rw[hpx];rfl
           rw[hdr] at hex
           have hxd:(x.toNat:Int)=(d:Int):=by omega
           have hex':(1:Int)≤(p.length:Int):=by omega
           rw[hxd] at hb0
           clear HX hev hpx hdr hx hpe
           have CQ:Hid (w.cell? ⟨q,of2+j,none⟩=some (.string ⟨v.toArray⟩)):=(B2.cell (p:=⟨q,of2+j,none⟩) hq).symm.trans cq
           have hg1l:=(H1.out.lt g1 rfl)
           have hg2l:=(H2.out.lt g2 rfl)
           go_wp2_with (first | (at_builtin;refine wpList_append_lies _ rfl _ _ 76 rfl wo.heap.size 9 j0 (.string ⟨#[]⟩) 1 16 Tryz.underlying76 hj0 hy0 hy1 hy2 rfl (by decide) (.slice (some ⟨g2,0,none⟩) (grp d (es.take j)).length c2) (grp d (es.take j)).length _ rfl (HV4.out.alloc _) ⟨w4.heap.size,0,none⟩ 1 1 [.string ⟨v.toArray⟩] rfl rfl (World.news_of_block (cs:=#[.string ⟨v.toArray⟩]) (t:=9) (fr:=(0,0)) (heap_alloc_new w4 _)) (by simp[Value.oneCell']) (by omega) (by unfold maxLen;omega) (by omega) (by simp;omega) (w4.heap.size+1) (by simp) ?_;intro g5 cap5 w5 hown5 hgrow5 hat5 hlt5) | (at_builtin;refine wpList_append_lies _ rfl _ _ 76 rfl wo.heap.size 9 j0 (.string ⟨#[]⟩) 1 16 Tryz.underlying76 hj0 hy0 hy1 hy2 rfl (by decide) (.slice (some ⟨g1,0,none⟩) (grp d (es.take j)).length c1) (grp d (es.take j)).length _ rfl (H1.out.alloc _) ⟨wr.heap.size,0,none⟩ 1 1 [.string ⟨xs.toArray⟩] rfl rfl (World.news_of_block (cs:=#[.string ⟨xs.toArray⟩]) (t:=9) (fr:=(0,0)) (heap_alloc_new wr _)) (by simp[Value.oneCell']) (by omega) (by unfold maxLen;omega) (by omega) (by simp;omega) (wr.heap.size+1) (by simp) ?_;intro g4 cap4 w4 hown4 hgrow4 hat4 hlt4;have B4:Below wo.heap.size wo w4:=(hb2.alloc hsz2 _).grown hgrow4 (by simp;omega) (fun k hk=>by simp[Value.ownBlock] at hk;omega);have s4:=B4.size;have HV4:=hidOwn (keptS (H2.out.alloc _) hgrow4 (fun k hk e=>by simp[Value.ownBlock] at hk e;omega));have HQ4:=hidOwn hown4;have s24:=hgrow4.size;have cq4:=((hbel.trans (B4.mono hsz)).cell (p:=⟨q,of2+j,none⟩) hq).trans (CQ.out);clear hown4 hgrow4 cj cq))
           have hg45:g4≠g5:=by
            simp only[Value.ownBlock,Option.some.injEq] at hat4 hat5
            rcases hat5 with h5 | h5
            · rcases hat4 with h4 | h4
              · omega
              · omega
            · omega
           have hg42:g4≠g2:=by
            simp only[Value.ownBlock,Option.some.injEq] at hat4
            rcases hat4 with h4 | h4
            · omega
            · omega
           have B5:Below wo.heap.size wo w5:=(B4.alloc s4 _).grown hgrow5 (by simp;omega) (fun k hk=>by simp[Value.ownBlock] at hk;omega)
           have H4:Hid (w5.ownsRow wo.heap.size 9 1 (.slice (some ⟨g4,0,none⟩) ((grp d (es.take j)).length+1) cap4) (grp d (es.take (j+1))).length (scells ((grp d (es.take (j+1))).map (·.1)))):=by
            rw[Hid,HX2.out,List.map_append,List.length_append]
            have e1:scells ((grp d (es.take j)).map (·.1) ++ [(xs,v)].map (·.1))=scells ((grp d (es.take j)).map (·.1)) ++ [.string ⟨xs.toArray⟩]:=scells_snoc _ _
            rw[e1]
            exact keptS (HQ4.out.alloc _) hgrow5 (fun k hk e=>by simp[Value.ownBlock] at hk e;omega)
           have H5:Hid (w5.ownsRow wo.heap.size 9 1 (.slice (some ⟨g5,0,none⟩) ((grp d (es.take j)).length+1) cap5) (grp d (es.take (j+1))).length (scells ((grp d (es.take (j+1))).map (·.2)))):=by
            rw[Hid,HX2.out,List.map_append,List.length_append]
            have e1:scells ((grp d (es.take j)).map (·.2) ++ [(xs,v)].map (·.2))=scells ((grp d (es.take j)).map (·.2)) ++ [.string ⟨v.toArray⟩]:=scells_snoc _ _
            rw[e1]
            exact hown5
           have HLX:Hid ((grp d (es.take j)).length+1=(grp d (es.take (j+1))).length):=by rw[Hid,HX2.out,List.length_append];rfl
           clear hown5 hgrow5 hat5 hat4 HQ4 HV4 H1 H2 HX2
           rw[HLX.out] at H4 H5
           rw[HLX.out]
           go_wp2
           go_roundw
           case rel=>exact⟨j+1,g4,cap4,g5,cap5,by omega,by go_num,rfl,rfl,hg45,H4,H5,B5⟩
           case measure=>simp[intOf];omega
         · have HX2:Hid (grp d (es.take (j+1))=grp d (es.take j)):=by rw[Hid,HX,hpx];simp[grp1,hx]
           have hxd:((x.toNat:Int) == (d:Int))=false:=by simp only[beq_eq_false_iff_ne,ne_eq];omega
           clear HX hev hpx hpe
           go_wp2
           go_roundw
           case rel=>exact⟨j+1,g1,c1,g2,c2,by omega,by go_num,by rw[HX2.out],by rw[HX2.out],hg12,by rw[HX2.out];exact H1,by rw[HX2.out];exact H2,hb2⟩
           case measure=>simp[intOf];omega
     · obtain rfl:j=es.length:=by omega
       rw[List.take_length] at H1 H2 ⊢
       have hj1:¬ (es.length:Int)<(es.length:Int):=by omega
       have HP2:=hidOwn (keptN HP.out hb2)
       have HO2:=hidOwn (keptN HO.out hb2)
       have hgol:=(HO2.out.lt go rfl)
       have hgpl:=(HP2.out.lt gp rfl)
       have HKS:Hid (kidsTo f es (d+1)=kidsTo f es d ++ buildL f (grp d es)∧hashTo f es (d+1)=hashTo f es d ++ [rootH (buildL f (grp d es))]):=⟨kidsTo_succ f es d,hashTo_succ f es d⟩
       have s2:=B2.size
       clear HP HO
       by_cases hge:grp d es=[]
       · have HKE:Hid (kidsTo f es (d+1)=kidsTo f es d∧hashTo f es (d+1)=hashTo f es d ++ [[]]):=by
          have:=HKS.out
          rw[hge,build_nil,rootH_nil,List.append_nil] at this
          exact this
         have hl0:(grp d es).length=0:=by rw[hge];rfl
         rw[hl0]
         clear HKS hge hl0 H1 H2
         go_wp2_with (at_builtin;refine wpList_append_lies _ rfl _ _ 76 rfl w.heap.size 9 j0 (.string ⟨#[]⟩) 1 16 Tryz.underlying76 hj0 hy0 hy1 hy2 rfl (by decide) (.slice (some ⟨gp,0,none⟩) d cp) d _ rfl (HP2.out.alloc _) ⟨wr.heap.size,0,none⟩ 1 1 [.string ⟨#[]⟩] rfl rfl (World.news_of_block (cs:=#[.string ⟨#[]⟩]) (t:=9) (fr:=(0,0)) (heap_alloc_new wr _)) (by simp[Value.oneCell']) (by omega) (by unfold maxLen;omega) (by omega) (by simp;omega) (wr.heap.size+1) (by simp) ?_;intro g6 cap6 w6 hown6 hgrow6 hat6 hlt6)
         have B6:Below w.heap.size w w6:=(B2.alloc s2 _).grown hgrow6 (by simp;omega) (fun k hk=>by simp[Value.ownBlock] at hk;omega)
         have hg6:go≠g6:=by
          simp only[Value.ownBlock,Option.some.injEq] at hat6
          rcases hat6 with h | h <;> omega
         have HO6:Hid (w6.ownsRow w.heap.size 83 2 (.slice (some ⟨go,0,none⟩) (kidsTo f es (d+1)).length co) (kidsTo f es (d+1)).length (pcells (kidsTo f es (d+1)))):=by
          rw[Hid,HKE.out.1]
          exact keptS (HO2.out.alloc _) hgrow6 (fun k hk e=>by simp[Value.ownBlock] at hk e;omega)
         have HP6:Hid (w6.ownsRow w.heap.size 9 1 (.slice (some ⟨g6,0,none⟩) (d+1) cap6) (d+1) (scells (hashTo f es (d+1)))):=by
          rw[Hid,HKE.out.2,scells_snoc];exact hown6
         have HE1:Hid ((kidsTo f es d).length=(kidsTo f es (d+1)).length):=by rw[Hid,HKE.out.1]
         clear hown6 hgrow6 hat6 HO2 HP2
         rw[HE1.out]
         go_wp2
         go_roundw
         case rel=>exact⟨d+1,go,co,g6,cap6,by omega,by go_num,rfl,rfl,hg6,HO6,HP6,B6⟩
         case measure=>simp[intOf];omega
       · have KI:=HIH.out d (some ⟨g1,0,none⟩) (some ⟨g2,0,none⟩) c1 c2 wr hge (strs_own9 H1.out) (strs_own9 H2.out)
         have hnl:=HR.out.2.1 d hge
         have hrl:=HR.out.1 d
         have hbt:=HR.out.2.2 (d+1) (by omega)
         have hnz:¬ ((grp d es).length:Int)=0:=fun h=>hge (List.length_eq_zero_iff.1 (by omega))
         have hnz':¬ (grp d es).length=0:=fun h=>hge (List.length_eq_zero_iff.1 h)
         obtain⟨N,hN⟩:∃ N,N=buildL f (grp d es):=⟨_,rfl⟩
         rw[←hN] at KI HKS hnl hrl
         clear hN hge H1 H2
         go_wp2_with fail
         refine KI.mono ?_
         rintro e w6 ⟨g7,c7,rfl,o7,b6⟩
         have C6:Below w.heap.size w w6:=B2.trans (b6.mono s2)
         have s6:=C6.size
         have sw6:=b6.size
         have HP6:=hidOwn (keptN HP2.out b6)
         have HO6:=hidOwn (keptN HO2.out b6)
         have z1:=last_cell o7 hnl
         have hg7:=own_lt o7
         have hg7l:=(o7.lt g7 rfl).1
         obtain⟨k,hk⟩:∃ k,N.length=k+1:=⟨N.length - 1,by omega⟩
         rw[show N.length - 1=k by omega] at z1
         have HNL:Hid (kidsTo f es (d+1)=kidsTo f es d ++ N∧hashTo f es (d+1)=hashTo f es d ++ [rootH N]):=HKS.out
         have HO7:=hidOwn o7
         obtain⟨m,hm⟩:∃ m,m=N.length:=⟨_,rfl⟩
         have hkl:(kidsTo f es d).length+m≤10000:=by rw[hm];have:=HNL.out.1;rw[this,List.length_append] at hbt;exact hbt
         rw[←hm] at HO7 hnl hk ⊢
         obtain⟨x,hx⟩:∃ x,x=rootH N:=⟨_,rfl⟩
         rw[←hx] at z1 HNL hrl
         have i0':(0:Int)≤(k:Int):=by omega
         have i1:(k:Int)<(m:Int):=by omega
         have i2:(m:Int) - 1=(k:Int):=by omega
         have i3:(k:Int)≤100000:=by omega
         have i4:k<m:=by omega
         have i5:IntKind.i64.wrap (k:Int)=(k:Int):=i64_wrap_small _ (by omega) (by omega)
         have HM:Hid (N.length=m):=hm.symm
         have HA8:Hid (∀ g8 cap8 w8,w8.ownsRow w.heap.size 9 1 (.slice (some ⟨g8,0,none⟩) (d+1) cap8) (d+1) (scells (hashTo f es d) ++ [.string ⟨x.toArray⟩])→(w6.alloc (.cells #[.string ⟨x.toArray⟩] 9)).grownBy w8 (Value.slice (some ⟨gp,0,none⟩) d cp).ownBlock→((Value.slice (some ⟨gp,0,none⟩) d cp).ownBlock=some g8∨g8=w6.heap.size+1)→g8<w8.heap.size →
          Below w.heap.size w w8∧w.heap.size≤w8.heap.size∧Hid (w8.ownsRow w.heap.size 83 2 (.slice (some ⟨go,0,none⟩) (kidsTo f es d).length co) (kidsTo f es d).length (pcells (kidsTo f es d)))∧Hid (∀ i u,(pcells N)[i]? = some u→w8.cell? ((⟨g7,0,none⟩:Addr).add i)=some u)∧go≠g8∧g8<w8.heap.size):=by
          intro g8 cap8 w8 _ hg8 hat8 hlt8
          have B8:Below w.heap.size w w8:=(C6.alloc s6 _).grown hg8 (by simp;omega) (fun k hk=>by simp[Value.ownBlock] at hk;omega)
          refine⟨B8,B8.size,?_,?_,?_,hlt8⟩
          · exact keptS (HO6.out.alloc _) hg8 (fun k hk e=>by simp[Value.ownBlock] at hk e;omega)
          · exact own_flat HM.out (keptS (HO7.out.alloc _) hg8 (fun k hk e=>by simp[Value.ownBlock] at hk e;omega))
          · simp only[Value.ownBlock,Option.some.injEq] at hat8
            rcases hat8 with h | h <;> omega
         clear KI HKS o7 hx HP2 HO2 hbt hm HO6 hk
         go_wp2_with (first | (at_builtin;refine wpList_append_lies _ rfl _ _ 52 rfl w.heap.size 83 i0 (.agg #[.string ⟨#[]⟩,.string ⟨#[]⟩]) 2 32 Tryz.underlying52 hi0 hz0 hz1 hz2 rfl (by decide) (.slice (some ⟨go,0,none⟩) (kidsTo f es d).length co) (kidsTo f es d).length _ rfl HO8.out ⟨g7,0,none⟩ m c7 (pcells N) rfl (by rw[pcells_length,HM.out]) HF8.out (pone N) hnl (by unfold maxLen;omega) (by omega) s8 w8.heap.size rfl ?_;intro g9 cap9 w9 hown9 hgrow9 hat9 hlt9) | (at_builtin;refine wpList_append_lies _ rfl _ _ 76 rfl w.heap.size 9 j0 (.string ⟨#[]⟩) 1 16 Tryz.underlying76 hj0 hy0 hy1 hy2 rfl (by decide) (.slice (some ⟨gp,0,none⟩) d cp) d _ rfl (HP6.out.alloc _) ⟨w6.heap.size,0,none⟩ 1 1 [.string ⟨x.toArray⟩] rfl rfl (World.news_of_block (cs:=#[.string ⟨x.toArray⟩]) (t:=9) (fr:=(0,0)) (heap_alloc_new w6 _)) (by simp[Value.oneCell']) (by omega) (by unfold maxLen;omega) (by omega) (by simp;omega) (w6.heap.size+1) (by simp) ?_;intro g8 cap8 w8 hown8 hgrow8 hat8 hlt8;obtain⟨B8,s8,HO8,HF8,hgo8,hgp8⟩:=HA8.out g8 cap8 w8 hown8 hgrow8 hat8 hlt8;have HP8:=hidOwn hown8;clear hown8 hgrow8 hat8 z1))
         have B9:Below w.heap.size w w9:=B8.grown hgrow9 s8 (fun k hk=>by simp[Value.ownBlock] at hk;omega)
         have hg98:g9≠g8:=by
          simp only[Value.ownBlock,Option.some.injEq] at hat9
          rcases hat9 with h | h <;> omega
         have HO9:Hid (w9.ownsRow w.heap.size 83 2 (.slice (some ⟨g9,0,none⟩) ((kidsTo f es d).length+m) cap9) (kidsTo f es (d+1)).length (pcells (kidsTo f es (d+1)))):=by
          rw[Hid,HNL.out.1,List.length_append,HM.out,pcells_app];exact hown9
         have HP9:Hid (w9.ownsRow w.heap.size 9 1 (.slice (some ⟨g8,0,none⟩) (d+1) cap8) (d+1) (scells (hashTo f es (d+1)))):=by
          rw[Hid,HNL.out.2,scells_snoc]
          exact keptS HP8.out hgrow9 (fun k hk e=>by simp[Value.ownBlock] at hk e;omega)
         have HE1:Hid ((kidsTo f es d).length+m=(kidsTo f es (d+1)).length):=by rw[Hid,HNL.out.1,List.length_append,HM.out]
         clear hown9 hgrow9 hat9
         rw[HE1.out] at HO9
         rw[HE1.out]
         go_wp2
         go_roundw
         case rel=>exact⟨d+1,g9,cap9,g8,cap8,by omega,by go_num,rfl,rfl,hg98,HO9,HP9,B9⟩
         case measure=>simp[intOf];omega
  · obtain rfl:d=16:=by omega
    have hd1:¬ (16:Int)<16:=by omega
    have HEL:Hid (∀ j,j≤es.length→(endV (es.take j)).length≤60):=fun j hj=>endV_len es (fun j h=>(HS1.out j h).2) j hj
    clear HIH HGL
    go_wp2
    go_loopw [18,19] (fun la i wx=>∃ j:Nat,j≤es.length∧i=.int .i64 (j:Int)∧la=.string ⟨(endV (es.take j)).toArray⟩∧wx=wo) (fun _ i _=>es.length - (intOf i).toNat)
    case atStart=>exact⟨0,Nat.zero_le _,rfl,rfl,rfl⟩
    case round =>
     obtain⟨j,hj,rfl,rfl,hwx⟩:=hrel
     subst hwx
     by_cases hlt2:j<es.length
     · have cj:=(hbel.cell (p:=⟨g,off+j,none⟩) hg).trans (HCG.out j hlt2)
       have cq:=(hbel.cell (p:=⟨q,of2+j,none⟩) hq).trans (HCQ.out j hlt2)
       have HX:Hid (endV (es.take (j+1))=if es[j].1=[] then es[j].2 else endV (es.take j)):=endV_snoc es j hlt2
       have hj1:(j:Int)<(es.length:Int):=by omega
       have hj0':(0:Int)≤(j:Int):=by omega
       obtain⟨p,hp⟩:∃ p,p=es[j].1:=⟨_,rfl⟩
       obtain⟨v,hv⟩:∃ v,v=es[j].2:=⟨_,rfl⟩
       rw[←hp] at cj HX
       rw[←hv] at cq HX
       obtain⟨la,hla⟩:∃ la,la=endV (es.take j):=⟨_,rfl⟩
       rw[←hla] at HX ⊢
       clear hp hv hla
       by_cases hpe:p=[]
       · have HX2:Hid (endV (es.take (j+1))=v):=by rw[Hid,HX.out,if_pos hpe]
         subst hpe
         clear HX
         go_wp2
         go_roundw
         case rel=>exact⟨j+1,by omega,by go_num,by rw[HX2.out],by first | rfl | trivial⟩
         case measure=>simp[intOf];omega
       · have HX2:Hid (endV (es.take (j+1))=la):=by rw[Hid,HX.out,if_neg hpe]
         have hpe':p.isEmpty=false:=by cases p with | nil=>exact absurd rfl hpe | cons _ _=>rfl
         clear HX hpe
         go_wp2
         go_roundw
         case rel=>exact⟨j+1,by omega,by go_num,by rw[HX2.out],by first | rfl | trivial⟩
         case measure=>simp[intOf];omega
     · obtain rfl:j=es.length:=by omega
       have hj1:¬ (es.length:Int)<(es.length:Int):=by omega
       have hel:=HEL.out es.length (Nat.le_refl _)
       rw[List.take_length] at hel ⊢
       have hfl:(hashTo f es 16 ++ [endV es]).flatten.length≤1000:=by
        have:=hash_flat f es 16 (fun d=>HR.out.1 d)
        have e : [endV es].flatten=endV es:=by simp
        rw[List.flatten_append,List.length_append,e]
        omega
       have hkl:=HR.out.2.2 16 (Nat.le_refl _)
       have HTX:Hid (branchT (hashTo f es 16) (endV es)=listB (hashTo f es 16 ++ [endV es])):=rfl
       have htl:=(listB_len (hashTo f es 16 ++ [endV es]) (by omega) (by simp[hashTo_length])).2
       have HKL:Hid (∀ W r cp',W.ownsRow w.heap.size 9 1 (.slice (some ⟨r,0,none⟩) 17 cp') 17 (scells (hashTo f es 16) ++ [.string ⟨(endV es).toArray⟩])→Calls Tryz.prog 76 #[.slice (some ⟨r,0,none⟩) 17 cp'] W fun e w'=>e=.returned (.string ⟨(listB (hashTo f es 16 ++ [endV es])).toArray⟩)∧Below W.heap.size W w'):=fun W r cp' ho=>by
        have e0:(hashTo f es 16 ++ [endV es]).length=17:=by simp[hashTo_length]
        have:=spec_l1List r cp' (hashTo f es 16 ++ [endV es]) w.heap.size W (by omega) (by omega) (by rw[e0,scells_snoc];exact ho)
        rw[e0] at this
        exact this
       rw[←HTX.out] at HKL htl
       obtain⟨t,ht⟩:∃ t,t=branchT (hashTo f es 16) (endV es):=⟨_,rfl⟩
       rw[←ht] at HKL htl HBL
       rw[show nodeP t=(sumL t,t) from rfl] at HBL
       have KS:=fun W=>spec_sum t W (by omega)
       obtain⟨s,hs⟩:∃ s,s=sumL t:=⟨_,rfl⟩
       rw[←hs] at KS HBL
       obtain⟨la,hla⟩:∃ la,la=endV es:=⟨_,rfl⟩
       rw[←hla] at HKL ⊢
       have hgol:=(HO.out.lt go rfl)
       have hgpl:=(HP.out.lt gp rfl)
       have HA6:Hid (∀ w6:World,(wr.alloc (.cells #[.string ⟨la.toArray⟩] 9)).grownBy w6 (Value.slice (some ⟨gp,0,none⟩) 16 cp).ownBlock→Below w.heap.size w w6∧Hid (w6.ownsRow w.heap.size 83 2 (.slice (some ⟨go,0,none⟩) (kidsTo f es 16).length co) (kidsTo f es 16).length (pcells (kidsTo f es 16)))):=fun w6 hg6=>⟨(hbel.alloc hsz _).grown hg6 (by simp;omega) (fun k hk=>by simp[Value.ownBlock] at hk;omega),keptS (HO.out.alloc _) hg6 (fun k hk e=>by simp[Value.ownBlock] at hk e;omega)⟩
       clear ht hs hla HTX hfl HEL HCG HCQ HS1 hel HR
       go_wp2_with (first | (at_builtin;refine wpList_append_lies _ rfl _ _ 76 rfl w.heap.size 9 j0 (.string ⟨#[]⟩) 1 16 Tryz.underlying76 hj0 hy0 hy1 hy2 rfl (by decide) (.slice (some ⟨gp,0,none⟩) 16 cp) 16 _ rfl (HP.out.alloc _) ⟨wr.heap.size,0,none⟩ 1 1 [.string ⟨la.toArray⟩] rfl rfl (World.news_of_block (cs:=#[.string ⟨la.toArray⟩]) (t:=9) (fr:=(0,0)) (heap_alloc_new wr _)) (by simp[Value.oneCell']) (by omega) (by unfold maxLen;omega) (by omega) (by simp;omega) (wr.heap.size+1) (by simp) ?_;intro g6 cap6 w6 hown6 hgrow6 hat6 hlt6) | fail)
       obtain⟨B6,HO6⟩:=HA6.out w6 hgrow6
       have KL:=HKL.out w6 g6 cap6 hown6
       have s6:=B6.size
       have hgo6:=(HO6.out.lt go rfl)
       clear hown6 hgrow6 hat6 HO HP HA6 HKL
       refine KL.mono ?_
       rintro e w7 ⟨rfl,b7⟩
       have B7:=B6.trans (b7.mono s6)
       have HO7:=hidOwn (keptN HO6.out b7)
       clear KL b7 HO6
       go_wp2_with fail
       refine (KS _).mono ?_
       rintro e w8 ⟨rfl,b8⟩
       have B8:=B7.trans (b8.mono B7.size)
       have HO8:=hidOwn (keptN HO7.out b8)
       have s8:=B8.size
       clear b8 HO7
       go_wp2_with (at_builtin;refine wpList_append_lies _ rfl _ _ 52 rfl w.heap.size 83 i0 (.agg #[.string ⟨#[]⟩,.string ⟨#[]⟩]) 2 32 Tryz.underlying52 hi0 hz0 hz1 hz2 rfl (by decide) (.slice (some ⟨go,0,none⟩) (kidsTo f es 16).length co) (kidsTo f es 16).length _ rfl (HO8.out.alloc _) ⟨w8.heap.size,0,none⟩ 1 1 [.string ⟨s.toArray⟩,.string ⟨t.toArray⟩] rfl rfl (World.news_of_block (cs:=#[.string ⟨s.toArray⟩,.string ⟨t.toArray⟩]) (t:=83) (fr:=(0,0)) (heap_alloc_new w8 _)) (by simp[Value.oneCell']) (by omega) (by unfold maxLen;omega) (by omega) (by simp;omega) (w8.heap.size+1) (by simp) ?_;intro g9 cap9 w9 hown9 hgrow9 hat9 hlt9)
       have B9:Below w.heap.size w w9:=(B8.alloc s8 _).grown hgrow9 (by simp;omega) (fun q hq=>by simp[Value.ownBlock] at hq;omega)
       have H9:Hid (w9.ownsRow w.heap.size 83 2 (.slice (some ⟨g9,0,none⟩) (buildL (f+1) es).length cap9) (buildL (f+1) es).length (pcells (buildL (f+1) es))):=by
        have e1:(buildL (f+1) es).length=(kidsTo f es 16).length+1:=by rw[HBL.out,List.length_append];rfl
        rw[Hid,e1,HBL.out,pcells_app];exact hown9
       have HL9:Hid ((kidsTo f es 16).length+1=(buildL (f+1) es).length):=by rw[Hid,HBL.out,List.length_append];rfl
       clear hown9 hgrow9 hat9
       rw[HL9.out]
       go_wp2
       go_ret
       exact⟨_,_,rfl,H9.out,B9⟩
end Go.Proofs.YtcoahmldmodmlaaGreatDoor
