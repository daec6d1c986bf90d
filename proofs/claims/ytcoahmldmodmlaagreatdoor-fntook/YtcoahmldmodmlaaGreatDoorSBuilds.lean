/-
 Texts that are laid as one: SBuildT, SAll.
-/
import Derived.Test.YtcoahmldmodmlaaGreatDoorSBranch
import Derived.Test.YtcoahmldmodmlaaGreatDoorMath2
import Derived.Test.YtcoahmldmodmlaaGreatDoorHexAll
import Derived.Test.YtcoahmldmodmlaaGreatDoorPairs
namespace Go.Proofs.YtcoahmldmodmlaaGreatDoor
open Go.RowKit
set_option linter.unusedVariables false
theorem build_last (f:Nat) (es:List PairL) (h:es≠[]):∃ ns t,buildL (f+1) es=ns ++ [nodeP t]:=by
 by_cases h1:es.length=1
 · obtain⟨e,rfl⟩:=List.length_eq_one_iff.1 h1
   exact⟨[],_,rfl⟩
 · have h2:2≤es.length:=by have:es.length≠0:=fun h0=>h (List.length_eq_zero_iff.1 h0);omega
   by_cases hc:0<commonL es
   · exact⟨_,_,build_long f es h2 hc⟩
   · exact⟨_,_,build_branch f es h2 hc⟩
theorem build_pos {f:Nat} {es:List PairL} (hf:Fits f es) (h:es≠[]):0<(buildL f es).length:=by
 obtain⟨g,rfl⟩:=fits_pos hf h
 obtain⟨ns,t,e⟩:=build_last g es h
 rw[e];simp
theorem root_len (f:Nat) (es:List PairL):(rootH (buildL f es)).length≤32:=by
 by_cases h:es=[]
 · rw[h,build_nil];simp[rootH]
 · cases f with
   | zero=>simp[buildL,rootH]
   | succ f =>
     obtain⟨ns,t,e⟩:=build_last f es h
     rw[e,rootH_snoc]
     exact Nat.le_of_eq (sumL_len t)
theorem kids_mono (f:Nat) (es:List PairL):∀ m d,d+m=16→(kidsTo f es d).length≤(kidsTo f es 16).length
 | 0,d,h=>by rw[show d=16 by omega];exact Nat.le_refl _
 | m + 1, d, h => by
   have:=kids_mono f es m (d+1) (by omega)
   rw[kidsTo_succ,List.length_append] at this
   omega
theorem spec_l5Build : ∀ f : Nat, f ≤ 100 → BuildAt f
 | 0,_=>fun es a b ca cb w hne _ hf=>by obtain⟨g,h⟩:=fits_pos hf hne;omega
 | f + 1, hf1 => fun es a b ca cb w hne hl hf hsm ha hb => by
   have IH:=spec_l5Build f (by omega)
   by_cases h1:es.length=1
   · obtain⟨e,rfl⟩:=List.length_eq_one_iff.1 h1
     have:=hsm e (by simp)
     exact spec_buildLeaf f e a b ca cb w this.1 this.2 ha hb
   · have h2:2≤es.length:=by have:es.length≠0:=fun h0=>hne (List.length_eq_zero_iff.1 h0);omega
     by_cases hc:0<commonL es
     · have hb1:=build_len f (cutE (commonL es) es)
       rw[cutE_length] at hb1
       have hb2:es.length*f≤60*100:=Nat.mul_le_mul hl (by omega)
       exact spec_buildLong f IH es a b ca cb w h2 hl hf hsm hc (Nat.le_trans (root_len _ _) (by omega)) (build_pos (fits_cut hf hc) (fun e=>by have h9:=cutE_length (commonL es) es;rw[e,List.length_nil] at h9;omega)) (by omega) ha hb
     · have hb1:=build_len (f+1) es
       rw[build_branch f es h2 hc,List.length_append] at hb1
       have hb2:es.length*(f+1)≤60*101:=Nat.mul_le_mul hl (by omega)
       have hb3:(kidsTo f es 16).length≤10000:=by
        have:(kidsTo f es 16).length=(((List.range 16).map fun d=>buildL f (grp d es)).flatten).length:=rfl
        rw[this];omega
       exact spec_buildBranch f IH es a b ca cb w h2 hl hf hsm hc (fun d=>root_len _ _) (fun d hd=>build_pos (fits_grp hf) hd) (fun d hd=>Nat.le_trans (kids_mono f es (16 - d) d (by omega)) hb3) ha hb
def esOf (ps:List PairL):List PairL:=ps.map fun p=>(nibs p.1,p.2)
def allL (ps:List PairL):List PairL:=buildL 60 (esOf ps)
def fitP (ps:List PairL):Prop:=ps.length≤60∧∀ p∈ps,p.1.length≤12∧p.2.length≤60
theorem fit_of (ps:List PairL) (h:pairsOkL ps=true):fitP ps:=by
 obtain⟨h1,h2⟩:=pairsOk_of ps h
 refine⟨h1,fun p hp=>?_⟩
 obtain⟨j,hj,rfl⟩:=List.getElem_of_mem hp
 have:=h2 j hj
 simp only[okAt,Bool.and_eq_true,decide_eq_true_eq] at this
 rw[keyAt_lt ps j hj,valAt_lt ps j hj] at this
 obtain⟨⟨⟨a,b⟩,c⟩,_⟩:=this
 exact⟨a,c⟩
theorem nibs_len (l:List UInt8):(nibs l).length=2*l.length:=by
 induction l with
 | nil=>rfl
 | cons x xs ih=>simp only[nibs,List.flatMap_cons,List.length_append,List.length_cons,List.length_nil] at ih ⊢;omega
theorem es_small {ps:List PairL} (h:fitP ps):smallE (esOf ps):=fun e he=>by
 obtain⟨p,hp,rfl⟩:=List.mem_map.1 he
 have:=h.2 p hp
 exact⟨by simp only[nibs_len];omega,this.2⟩
theorem es_fits {ps:List PairL} (h:fitP ps):Fits 60 (esOf ps):=fun e he=>by
 obtain⟨p,hp,rfl⟩:=List.mem_map.1 he
 have:=h.2 p hp
 simp only[nibs_len];omega
theorem es_snoc (ps:List PairL) (j:Nat) (h:j<ps.length):esOf (ps.take (j+1))=esOf (ps.take j) ++ [(nibs ps[j].1,ps[j].2)]:=by rw[take_snocP ps j h,esOf,List.map_append];rfl
theorem es_length (ps:List PairL):(esOf ps).length=ps.length:=by simp[esOf]
theorem all_len (ps:List PairL) (h:fitP ps):(allL ps).length≤3600:=by
 have:=build_len 60 (esOf ps)
 rw[es_length] at this
 have h2:=h.1
 show (buildL 60 (esOf ps)).length≤3600
 omega
theorem nib_at (l:List UInt8) (w:World) (hl:l.length≤1000) :
 Calls Tryz.prog 60 #[.string ⟨l.toArray⟩] w fun e w'=>e=.returned (.string ⟨(nibs l).toArray⟩)∧Below w.heap.size w w':=by
 have h:=spec_nibbles ⟨l.toArray⟩ w (by simp[ByteArray.size];omega)
 have e1:(ByteArray.mk l.toArray).data.toList=l:=by simp
 rw[e1] at h
 exact h
set_option maxRecDepth 100000 in
set_option maxHeartbeats 4000000 in
theorem spec_l5All (a:Option Addr) (cp:Nat) (ps:List PairL) (w:World) (hfit:fitP ps) (hs:IsPairs w a ps) :
 Calls Tryz.prog 42 #[.slice a ps.length cp] w fun e w'=>∃ (a':Option Addr) (c:Nat),e=.returned (.slice a' (allL ps).length c)∧w'.ownsRow w.heap.size 83 2 (.slice a' (allL ps).length c) (allL ps).length (pcells (allL ps))∧Below w.heap.size w w':=by
 by_cases hps:ps=[]
 · subst hps
   have e0:allL []=[]:=rfl
   rw[e0]
   have HN:Hid (w.ownsRow w.heap.size 83 2 (.slice none 0 0) 0 []):=World.ownsRow_nil _ _ _ _
   clear hs hfit
   go_enter Tryz.func42,Tryz.ntmps42
   go_wp2
   go_ret
   exact⟨none,0,rfl,HN.out,Below.refl _ _⟩
 · obtain⟨j0,hj0,hy0,hy1,hy2⟩:=info_parts info9t
   have hpl:0<ps.length:=by rcases Nat.eq_zero_or_pos ps.length with h | h;exact absurd (List.length_eq_zero_iff.1 h) hps;exact h
   obtain⟨b,off,rfl,hc⟩:∃ b off,a=some ⟨b,off,none⟩∧∀ j (h:j<ps.length),w.cell? ⟨b,off+j*2,none⟩=some (.string ⟨ps[j].1.toArray⟩)∧w.cell? ⟨b,off+j*2+1,none⟩=some (.string ⟨ps[j].2.toArray⟩):=by
    rcases hs with h | ⟨b,off,h1,h2⟩
    · exact absurd h hps
    · exact⟨b,off,h1,h2⟩
   have hblt:=World.block_lt_of_cell? w _ (hc 0 hpl).1
   simp only at hblt
   have hl60:=hfit.1
   have HF2:Hid (∀ j (h:j<ps.length),ps[j].1.length≤12):=fun j h=>(hfit.2 _ (List.getElem_mem h)).1
   have HC:Hid (∀ j (h:j<ps.length),w.cell? ⟨b,off+j*2,none⟩=some (.string ⟨ps[j].1.toArray⟩)∧w.cell? ⟨b,off+j*2+1,none⟩=some (.string ⟨ps[j].2.toArray⟩)):=hc
   have HES:Hid (∀ j (h:j<ps.length),esOf (ps.take (j+1))=esOf (ps.take j) ++ [(nibs ps[j].1,ps[j].2)]):=fun j h=>es_snoc ps j h
   have HEL:Hid (∀ j,j≤ps.length→(esOf (ps.take j)).length=j):=fun j h=>by rw[es_length,List.length_take];omega
   have HIH:Hid (∀ a' b' ca' cb' W,IsStrs W a' ((esOf ps).map (·.1))→IsStrs W b' ((esOf ps).map (·.2))→Calls Tryz.prog 61 #[.slice a' ps.length ca',.slice b' ps.length cb'] W fun e w'=>∃ g c:Nat,e=.returned (.slice (some ⟨g,0,none⟩) (allL ps).length c)∧w'.ownsRow W.heap.size 83 2 (.slice (some ⟨g,0,none⟩) (allL ps).length c) (allL ps).length (pcells (allL ps))∧Below W.heap.size W w'):=fun a' b' ca' cb' W k1 k2=>by
    have:=spec_l5Build 60 (by omega) (esOf ps) a' b' ca' cb' W (by intro e;have:=es_length ps;rw[e] at this;simp at this;omega) (by rw[es_length];exact hl60) (es_fits hfit) (es_small hfit) k1 k2
    rw[es_length] at this
    exact this
   have hpz:((ps.length:Int) == 0)=false:=by simp only[beq_eq_false_iff_ne,ne_eq];omega
   have Bw:Below w.heap.size w ((w.alloc (.cells #[] 9)).alloc (.cells #[] 9)):=((Below.refl _ _).alloc (Nat.le_refl _) _).alloc (by simp) _
   clear hs hc hps hfit
   go_enter Tryz.func42,Tryz.ntmps42
   go_wp2
   go_loopw [3,4,5] (fun pp vv i wx=>∃ (j g1 c1 g2 c2:Nat),j≤ps.length∧i=.int .i64 (j:Int)∧pp=.slice (some ⟨g1,0,none⟩) j c1∧vv=.slice (some ⟨g2,0,none⟩) j c2∧g1≠g2∧Hid (wx.ownsRow w.heap.size 9 1 (.slice (some ⟨g1,0,none⟩) j c1) j (scells ((esOf (ps.take j)).map (·.1))))∧Hid (wx.ownsRow w.heap.size 9 1 (.slice (some ⟨g2,0,none⟩) j c2) j (scells ((esOf (ps.take j)).map (·.2))))∧Below w.heap.size w wx) (fun _ _ i _=>ps.length - (intOf i).toNat)
   case atStart=>exact⟨0,w.heap.size,0,w.heap.size+1,0,by omega,rfl,rfl,rfl,by omega,by have:=World.ownsRow_lit (e:=9) (size:=1) w #[] 0 (Nat.le_refl _) (Nat.zero_le _) rfl;exact this.alloc _,own_lit2 w _ w.heap.size (Nat.le_refl _),Bw⟩
   case round =>
    obtain⟨j,g1,c1,g2,c2,hj,rfl,rfl,rfl,hg12,H1,H2,hb2⟩:=hrel
    have hsz2:=hb2.size
    clear Bw
    by_cases hlt2:j<ps.length
    · have cj:=(hb2.cell (p:=⟨b,off+j*2,none⟩) hblt).trans (HC.out j hlt2).1
      have HX:Hid (esOf (ps.take (j+1))=esOf (ps.take j) ++ [(nibs ps[j].1,ps[j].2)]):=HES.out j hlt2
      have hkl:=HF2.out j hlt2
      have CQ:Hid (w.cell? ⟨b,off+j*2+1,none⟩=some (.string ⟨ps[j].2.toArray⟩)):=(HC.out j hlt2).2
      obtain⟨k,hk⟩:∃ k,k=ps[j].1:=⟨_,rfl⟩
      obtain⟨v,hv⟩:∃ v,v=ps[j].2:=⟨_,rfl⟩
      rw[←hk] at cj HX hkl
      rw[←hv] at CQ HX
      have KN:=fun W=>nib_at k W (by omega)
      obtain⟨x,hx⟩:∃ x,x=nibs k:=⟨_,rfl⟩
      rw[←hx] at KN HX
      have hj1:(j:Int)<(ps.length:Int):=by omega
      have hj0':(0:Int)≤(j:Int):=by omega
      clear hk hv hx
      go_wp2_with fail
      refine (KN _).mono ?_
      rintro e w3 ⟨rfl,b3⟩
      have B3:=hb2.trans (b3.mono hsz2)
      have s3:=B3.size
      have H1a:=hidOwn (keptN H1.out b3)
      have H2a:=hidOwn (keptN H2.out b3)
      have hg1l:=(H1a.out.lt g1 rfl)
      have hg2l:=(H2a.out.lt g2 rfl)
      have HA4:Hid (∀ w4:World,(w3.alloc (.cells #[.string ⟨x.toArray⟩] 9)).grownBy w4 (Value.slice (some ⟨g1,0,none⟩) j c1).ownBlock→Below w.heap.size w w4∧w.heap.size≤w4.heap.size∧w3.heap.size<w4.heap.size∧Hid (w4.ownsRow w.heap.size 9 1 (.slice (some ⟨g2,0,none⟩) j c2) j (scells ((esOf (ps.take j)).map (·.2))))∧w4.cell? ⟨b,off+j*2+1,none⟩=some (.string ⟨v.toArray⟩)):=by
       intro w4 hg4
       have B4:Below w.heap.size w w4:=(B3.alloc s3 _).grown hg4 (by simp;omega) (fun k hk=>by simp[Value.ownBlock] at hk;omega)
       exact⟨B4,B4.size,by have:=hg4.size;simp at this;omega,keptS (H2a.out.alloc _) hg4 (fun k hk e=>by simp[Value.ownBlock] at hk e;omega),(B4.cell (p:=⟨b,off+j*2+1,none⟩) hblt).trans CQ.out⟩
      clear cj b3 H1 H2 H2a KN
      go_wp2_with (first | (at_builtin;refine wpList_append_lies _ rfl _ _ 76 rfl w.heap.size 9 j0 (.string ⟨#[]⟩) 1 16 Tryz.underlying76 hj0 hy0 hy1 hy2 rfl (by decide) (.slice (some ⟨g2,0,none⟩) j c2) j _ rfl (HV4.out.alloc _) ⟨w4.heap.size,0,none⟩ 1 1 [.string ⟨v.toArray⟩] rfl rfl (World.news_of_block (cs:=#[.string ⟨v.toArray⟩]) (t:=9) (fr:=(0,0)) (heap_alloc_new w4 _)) (by simp[Value.oneCell']) (by omega) (by unfold maxLen;omega) (by omega) (by simp;omega) (w4.heap.size+1) (by simp) ?_;intro g5 cap5 w5 hown5 hgrow5 hat5 hlt5) | (at_builtin;refine wpList_append_lies _ rfl _ _ 76 rfl w.heap.size 9 j0 (.string ⟨#[]⟩) 1 16 Tryz.underlying76 hj0 hy0 hy1 hy2 rfl (by decide) (.slice (some ⟨g1,0,none⟩) j c1) j _ rfl (H1a.out.alloc _) ⟨w3.heap.size,0,none⟩ 1 1 [.string ⟨x.toArray⟩] rfl rfl (World.news_of_block (cs:=#[.string ⟨x.toArray⟩]) (t:=9) (fr:=(0,0)) (heap_alloc_new w3 _)) (by simp[Value.oneCell']) (by omega) (by unfold maxLen;omega) (by omega) (by simp;omega) (w3.heap.size+1) (by simp) ?_;intro g4 cap4 w4 hown4 hgrow4 hat4 hlt4;obtain⟨B4,s4,sw4,HV4,cq4⟩:=HA4.out w4 hgrow4;have HQ4:=hidOwn hown4;clear hown4 hgrow4))
      have hg45:g4≠g5∧g4≠g2:=by
       simp only[Value.ownBlock,Option.some.injEq] at hat4 hat5
       constructor
       · rcases hat5 with h5 | h5 <;> rcases hat4 with h4 | h4 <;> omega
       · rcases hat4 with h4 | h4 <;> omega
      have B5:Below w.heap.size w w5:=(B4.alloc s4 _).grown hgrow5 (by simp;omega) (fun k hk=>by simp[Value.ownBlock] at hk;omega)
      have H4:Hid (w5.ownsRow w.heap.size 9 1 (.slice (some ⟨g4,0,none⟩) (j+1) cap4) (j+1) (scells ((esOf (ps.take (j+1))).map (·.1)))):=by
       rw[Hid,HX.out,List.map_append]
       have e1:scells ((esOf (ps.take j)).map (·.1) ++ [(x,v)].map (·.1))=scells ((esOf (ps.take j)).map (·.1)) ++ [.string ⟨x.toArray⟩]:=scells_snoc _ _
       rw[e1]
       exact keptS (HQ4.out.alloc _) hgrow5 (fun k hk e=>by simp[Value.ownBlock] at hk e;omega)
      have H5:Hid (w5.ownsRow w.heap.size 9 1 (.slice (some ⟨g5,0,none⟩) (j+1) cap5) (j+1) (scells ((esOf (ps.take (j+1))).map (·.2)))):=by
       rw[Hid,HX.out,List.map_append]
       have e1:scells ((esOf (ps.take j)).map (·.2) ++ [(x,v)].map (·.2))=scells ((esOf (ps.take j)).map (·.2)) ++ [.string ⟨v.toArray⟩]:=scells_snoc _ _
       rw[e1]
       exact hown5
      clear hown5 hgrow5 hat5 hat4 HQ4 HV4 HX HA4 H1a
      go_wp2
      go_roundw
      case rel=>exact⟨j+1,g4,cap4,g5,cap5,by omega,by go_num,rfl,rfl,hg45.1,H4,H5,B5⟩
      case measure=>simp[intOf];omega
    · obtain rfl:j=ps.length:=by omega
      have hj1:¬ (ps.length:Int)<(ps.length:Int):=by omega
      rw[List.take_length] at H1 H2
      have KI:=HIH.out (some ⟨g1,0,none⟩) (some ⟨g2,0,none⟩) c1 c2 _ (strs_own9 H1.out) (strs_own9 H2.out)
      clear HIH H1 H2 HC HES HEL HF2
      go_wp2_with fail
      refine KI.mono ?_
      rintro e w6 ⟨g7,c7,rfl,o7,b6⟩
      have B6:=hb2.trans (b6.mono hsz2)
      have O7:=hidOwn (o7.mono hsz2)
      clear KI o7 b6
      go_wp2
      go_ret
      exact⟨_,_,rfl,O7.out,B6⟩
end Go.Proofs.YtcoahmldmodmlaaGreatDoor
