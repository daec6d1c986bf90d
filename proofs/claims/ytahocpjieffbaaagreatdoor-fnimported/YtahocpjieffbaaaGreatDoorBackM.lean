/-
 Texts that are laid as one: MathBT, MathNF, MathTell, MathBk.
-/
import Derived.Test.YtahocpjieffbaaaGreatDoorMathRs
import Derived.Test.YtahocpjieffbaaaGreatDoorIReads
import Derived.Test.YtahocpjieffbaaaGreatDoorLaidAll
import Derived.Test.YtahocpjieffbaaaGreatDoorGatAll
namespace Go.Proofs.YtahocpjieffbaaaGreatDoor
open Go.RowKit
set_option linter.unusedVariables false
theorem textsF_map:∀ ts:List (List UInt8),(∀ t∈ts,t.length≤60000)→textsF (ts.map textB)=some ts
 | [],_=>rfl
 | t :: ts, h => by
   have h1:textOf (textB t)=some t:=textOf_some _ t [] (by have:=takeL_text_fore t [] (h t (by simp));simpa using this)
   have h2:=textsF_map ts (fun x hx=>h x (by simp[hx]))
   simp only[List.map_cons,textsF,h1,h2];rfl
theorem texts_fore (ts:List (List UInt8)) (h:ts.flatten.length≤30000) (hl:ts.length≤1001):textsL (listB ts)=some ts:=by
 have e:=listL_texts ts h hl
 have hs:∀ t∈ts,t.length≤60000:=fun t ht=>by
  obtain⟨j,hj,rfl⟩:=List.getElem_of_mem ht
  have:=each_le ts j hj
  omega
 rcases items_list (ts.map textB) with ⟨h0,_⟩ | ⟨_,h1⟩
 · rw[e] at h0
   exfalso
   simp[listB,wrapB] at h0
   split at h0 <;> simp at h0
 · rw[e] at h1
   simp only[textsL,h1]
   exact textsF_map ts hs
theorem textsF_back : ∀ (ls ts : List (List UInt8)), ls.all isItemL = true → textsF ls = some ts → ls = ts.map textB
 | [],ts,_,h=>by simp[textsF] at h;subst h;rfl
 | l :: ls, ts, ha, h => by
   simp only[List.all_cons,Bool.and_eq_true] at ha
   obtain⟨k,bd,hk⟩:=isItem_is l ha.1
   cases h1:textOf l with
   | none=>simp[textsF,h1] at h
   | some t =>
     cases h2:textsF ls with
     | none=>simp[textsF,h1,h2] at h
     | some tr =>
       simp only[textsF,h1,h2] at h
       have h':t :: tr=ts:=by simpa using h
       subst h'
       clear h
       have hk1:k=1∧bd=t:=by
        rcases takeL_kind l k bd [] hk with rfl | rfl
        · rw[textOf_some l bd [] hk] at h1;cases h1;exact⟨rfl,rfl⟩
        · rw[textOf_list l bd [] hk] at h1;cases h1
       obtain⟨rfl,rfl⟩:=hk1
       have:=(takeL_text_back l bd [] hk).1
       rw[List.append_nil] at this
       rw[List.map_cons,this,←textsF_back ls tr ha.2 h2]
theorem texts_back (s:List UInt8) (ts:List (List UInt8)) (h:textsL s=some ts):listB ts=s:=by
 unfold textsL at h
 cases hi:itemsL s with
 | none=>rw[hi] at h;cases h
 | some ls =>
   rw[hi] at h
   have hb:=list_items s ls hi
   by_cases hc:ls.flatten.length≤60000∧ls.all isItemL=true
   · have e:=textsF_back ls ts hc.2 h
     rw[listL_yes ls hc.1 hc.2] at hb
     rw[←hb,listB,textsB,e]
   · have h0:listL ls=[]:=if_neg hc
     rw[h0] at hb
     subst hb
     simp[itemsL,takeL] at hi
theorem readI_pack (p:List UInt8) (leaf:Bool) (hq:isNibs p=true) (hl:p.length≤24):readI (pack (withFlag p leaf))=some (p,leaf):=by
 have h:=hexlen p leaf
 rw[readI,if_pos (by omega),readL_pack p leaf hq]
theorem node_parts (k:Int) (p:List UInt8) (ls:List (List UInt8)) (v:List UInt8) (h:nodeOk k p ls v=true):nodeOfI (nodeTs k p ls v)=⟨k,p,ls,v⟩∧(nodeTs k p ls v).length≤17∧(nodeTs k p ls v).flatten.length≤1000:=by
 simp only[nodeOk,headOk,Bool.and_eq_true,decide_eq_true_eq] at h
 obtain⟨⟨hp,hn,hv⟩,hk⟩:=h
 unfold kindOk at hk
 by_cases h1:k=1
 · rw[if_pos h1] at hk
   simp only[Bool.and_eq_true,decide_eq_true_eq] at hk
   have e:ls=[]:=List.length_eq_zero_iff.1 hk.2
   subst h1 e
   have hx:=hexlen p true
   refine⟨?_,by simp[nodeTs],by simp[nodeTs];omega⟩
   simp[nodeTs,nodeOfI,readI_pack p true hn hp,ofRead]
 · rw [if_neg h1] at hk
   by_cases h2:k=2
   · rw[if_pos h2] at hk
     simp only[Bool.and_eq_true,decide_eq_true_eq] at hk
     obtain⟨_,hve,hl,h32⟩:=hk
     have ev:v=[]:=by simpa using hve
     obtain⟨t,rfl⟩:∃ t,ls=[t]:=by
      match ls,hl with
      | [t],_=>exact⟨t,rfl⟩
     subst h2 ev
     have hx:=hexlen p false
     simp only[List.getD_cons_zero] at h32
     refine⟨?_,by simp[nodeTs],by simp[nodeTs];omega⟩
     simp[nodeTs,nodeOfI,readI_pack p false hn hp,ofRead]
   · rw[if_neg h2] at hk
     by_cases h3:k=3
     · rw[if_pos h3] at hk
       simp only[branchOk,Bool.and_eq_true,decide_eq_true_eq] at hk
       obtain⟨hpe,h16,hkids,_⟩:=hk
       have ep:p=[]:=by simpa using hpe
       subst h3 ep
       have hf:=flat_kids ls hkids
       refine⟨?_,by simp[nodeTs,h16],by simp[nodeTs];rw[List.length_flatten] at hf;omega⟩
       have e:nodeTs 3 [] ls v=ls ++ [v]:=by simp[nodeTs]
       have e1:(ls ++ [v]).take 16=ls:=by rw[←h16];simp
       have e2:(ls ++ [v]).getD 16 []=v:=by rw[List.getD_eq_getElem?_getD,List.getElem?_append_right (by omega)];simp[h16]
       rw[e,nodeOfI,if_pos (by simp[h16]),e1,e2]
     · rw[if_neg h3] at hk
       cases hk
theorem node_fore (k:Int) (p:List UInt8) (ls:List (List UInt8)) (v:List UInt8) (h:nodeOk k p ls v=true):readNode (nodeB k p ls v)=some ⟨k,p,ls,v⟩:=by
 obtain⟨h1,h2,h3⟩:=node_parts k p ls v h
 have ht:textsL (nodeB k p ls v)=some (nodeTs k p ls v):=by
  rw[nodeB,if_pos h]
  exact texts_fore _ (by omega) (by omega)
 rw[readNode,ht]
 simp only
 rw[h1]
 exact keepN_yes _ _ h rfl
theorem node_not (k:Int) (p:List UInt8) (ls:List (List UInt8)) (v:List UInt8) (h:nodeOk k p ls v=false):nodeB k p ls v=[]:=if_neg (by rw[h];simp)
theorem node_empty:readNode []=none:=by rfl
theorem node_back (s:List UInt8) (n:NodeL) (h:readNode s=some n):n.ok=true∧nodeB n.k n.p n.ls n.v=s:=by
 unfold readNode at h
 cases ht:textsL s with
 | none=>rw[ht] at h;cases h
 | some ts =>
   rw[ht] at h
   simp only[keepN] at h
   split at h
   · next hh=>cases h;exact⟨hh.1,hh.2⟩
   · cases h
theorem nodeB_len (k:Int) (p:List UInt8) (ls:List (List UInt8)) (v:List UInt8):(nodeB k p ls v).length≤33006:=by
 by_cases h:nodeOk k p ls v=true
 · rw[nodeB,if_pos h]
   obtain⟨h1,h2,h3⟩:=node_parts k p ls v h
   exact (listB_len _ (by omega) (by omega)).2
 · rw[nodeB,if_neg h];simp
theorem listB_inj {a b:List (List UInt8)} (ha:a.flatten.length≤30000) (hal:a.length≤1001) (hb:b.flatten.length≤30000) (hbl:b.length≤1001) (h:listB a=listB b):a=b:=by
 have h1:=texts_fore a ha hal
 rw[h,texts_fore b hb hbl] at h1
 exact (Option.some.inj h1).symm
theorem hex_inj {a b:List UInt8} {x y:Bool} (ha:isNibs a=true) (hb:isNibs b=true) (h:pack (withFlag a x)=pack (withFlag b y)):a=b∧x=y:=by
 have h1:=readL_pack a x ha
 rw[h,readL_pack b y hb] at h1
 have:=Option.some.inj h1
 exact⟨(congrArg Prod.fst this).symm,(congrArg Prod.snd this).symm⟩
theorem two_flat (a b:List UInt8) : [a,b].flatten.length=a.length+b.length:=by simp
theorem hex_len24 (p:List UInt8) (x:Bool) (h:p.length≤24):(pack (withFlag p x)).length≤26:=by
 have h1:=pack_le (withFlag p x)
 have h2:(withFlag p x).length≤p.length+2:=by unfold withFlag;split <;> simp
 omega
structure GE (f:Nat) (es:List PairL):Prop where
 fits:Fits f es
 small:smallE es
 nib:nibE es
 rise:RiseE es
 val:∀ e∈es,e.2≠[]
theorem GE.cut {f:Nat} {es:List PairL} (h:GE (f+1) es) (hc:0<commonL es):GE f (cutE (commonL es) es) :=
 ⟨fits_cut h.fits hc, small_cut9 h.small, nib_cut h.nib, rise_cut h.rise (Nat.le_refl _), fun e he => by
  obtain⟨x,hx,rfl⟩:=List.mem_map.1 he
  exact h.val x hx⟩
theorem GE.grp {f:Nat} {es:List PairL} (h:GE (f+1) es) (d:Nat):GE f (grp d es) :=
 ⟨fits_grp h.fits, small_grp h.small, nib_grp h.nib, rise_grp h.rise, fun e he => by
  obtain⟨x,hx,he⟩:=List.mem_filterMap.1 he
  obtain⟨_,_,_,h3⟩:=grp1_some he
  rw[←h3];exact h.val x hx⟩
theorem rise_lt {es:List PairL} (h:RiseE es):es.Pairwise (fun x y=>x.1<y.1):=h.imp fun {a b} hab=>(less_iff _ _).1 hab
theorem mem_cons_grp {es:List PairL} {x:UInt8} {xs v:List UInt8}:(x :: xs,v)∈es↔(xs,v)∈grp x.toNat es:=by
 constructor
 · intro h
   exact List.mem_filterMap.2 ⟨_,h,by simp[grp1]⟩
 · intro h
   obtain⟨e,he,hg⟩:=List.mem_filterMap.1 h
   obtain⟨y,h1,h2,h3⟩:=grp1_some hg
   have:y=x:=UInt8.toNat_inj.1 h2
   subst this
   have:e=(y :: xs,v):=Prod.ext h1 h3
   rw[←this];exact he
theorem end_mem {es:List PairL} (h:RiseE es) (hv:∀ e∈es,e.2≠[]) (v:List UInt8):([],v)∈es↔(endV es=v∧v≠[]):=by
 by_cases h0:es=[]
 · subst h0
   simp[endV]
   try (intro e;exact e.symm)
 · have hl:0<es.length:=List.length_pos_iff.2 h0
   obtain⟨h1,h2⟩:=end_rise h hl
   constructor
   · intro hm
     obtain⟨k,hk,he⟩:=List.getElem_of_mem hm
     have hk0:k=0:=by
      rcases Nat.eq_zero_or_pos k with h' | h'
      · exact h'
      · exact absurd (by rw[he]) (h1 k hk h')
     subst hk0
     rw[h2,if_pos (by rw[he]),he]
     exact⟨rfl,hv _ hm⟩
   · rintro⟨e1,e2⟩
     rw[h2] at e1
     split at e1
     · rename_i hz
       have:es[0]=([],v):=Prod.ext hz e1
       rw[←this];exact List.getElem_mem _
     · exact absurd e1.symm e2
theorem es_unique {a b:List PairL} (ha:RiseE a) (hb:RiseE b) (hva:∀ e∈a,e.2≠[]) (hvb:∀ e∈b,e.2≠[]) (hna:nibE a) (hnb:nibE b) (he:endV a=endV b) (hg:∀ d,d<16→grp d a=grp d b):a=b:=by
 refine rise_unique a b (rise_lt ha) (rise_lt hb) fun e=>?_
 obtain⟨p,v⟩:=e
 cases p with
 | nil=>rw[end_mem ha hva,end_mem hb hvb,he]
 | cons x xs =>
   rw[mem_cons_grp,mem_cons_grp]
   by_cases hx:x.toNat<16
   · rw[hg _ hx]
   · constructor
     · intro h
       have:=hna _ (mem_cons_grp.2 h)
       simp[isNibs] at this
       omega
     · intro h
       have:=hnb _ (mem_cons_grp.2 h)
       simp[isNibs] at this
       omega
theorem cut_back {es:List PairL} {n:Nat} (hn:n≤commonL es):es=(cutE n es).map fun e=>((headP es).take n ++ e.1,e.2):=by
 unfold cutE
 rw[List.map_map]
 have:es.map (fun e=>e)=es.map ((fun e=>((headP es).take n ++ e.1,e.2)) ∘ fun e=>(e.1.drop n,e.2)):=by
  apply List.map_congr_left
  intro e he
  have h1:=common_take es n hn e he
  show e=((headP es).take n ++ e.1.drop n,e.2)
  rw[←h1,List.take_append_drop]
 simpa using this
theorem root_last {f:Nat} {es:List PairL} {ns:List PairL} {t:List UInt8} (h:buildL f es=ns ++ [nodeP t]):rootH (buildL f es)=sumL t:=by rw[h,rootH_snoc];rfl
theorem shapes (f:Nat) (es:List PairL) (h0:es≠[]) :
 (∃ e,es=[e]∧buildL (f+1) es=[] ++ [nodeP (leafT e)]) ∨
 (0<commonL es∧2≤es.length∧buildL (f+1) es=buildL f (cutE (commonL es) es) ++ [nodeP (longT ((headP es).take (commonL es)) (rootH (buildL f (cutE (commonL es) es))))]) ∨
 (¬ 0<commonL es∧2≤es.length∧buildL (f+1) es=((List.range 16).map fun d=>buildL f (grp d es)).flatten ++ [nodeP (branchT ((List.range 16).map fun d=>rootH (buildL f (grp d es))) (endV es))]):=by
 have hl:0<es.length:=List.length_pos_iff.2 h0
 by_cases h1:es.length=1
 · obtain⟨e,rfl⟩:=List.length_eq_one_iff.1 h1
   exact .inl ⟨e,rfl,rfl⟩
 · by_cases hc:0<commonL es
   · exact .inr (.inl ⟨hc,by omega,build_long f es (by omega) hc⟩)
   · exact .inr (.inr ⟨hc,by omega,build_branch f es (by omega) hc⟩)
theorem leaf_list {f:Nat} {e:PairL} (h:GE f [e]) : [pack (withFlag e.1 true),e.2].flatten.length≤30000:=by
 have h1:=h.small e (by simp)
 have h2:=hex_len24 e.1 true h1.1
 rw[two_flat];omega
theorem long_list {f:Nat} {es:List PairL} (h:GE f es) (h0:es≠[]) (n:Nat) (hh:List UInt8) (hl:hh.length≤32) : [pack (withFlag ((headP es).take n) false),hh].flatten.length≤30000∧isNibs ((headP es).take n)=true:=by
 have hhd:headP es∈es.map (·.1):=by cases es with | nil=>exact absurd rfl h0 | cons e es=>simp[headP]
 obtain⟨e0,he0,hh0⟩:=List.mem_map.1 hhd
 have h1:=(h.small e0 he0).1
 have h2:=hex_len24 ((headP es).take n) false (by rw[List.length_take,←hh0];omega)
 refine⟨by rw[two_flat];omega,isNibs_take _ _ (by rw[←hh0];exact h.nib e0 he0)⟩
theorem branch_list {f:Nat} {es:List PairL} (h:GE (f+1) es):((List.range 16).map (fun d=>rootH (buildL f (grp d es))) ++ [endV es]).flatten.length≤30000:=by
 have h1:=hash_flat f es 16 (fun d=>root_len f _)
 have h2:=end_le h.small
 unfold hashTo at h1
 rw[List.flatten_append,List.length_append,List.flatten_singleton]
 omega
theorem tellE : ∀ (f : Nat) (a b : List PairL), GE f a → GE f b → a ≠ [] → b ≠ [] → rootH (buildL f a) = rootH (buildL f b) → a = b ∨ ∃ x ∈ buildL f a, ∃ y ∈ buildL f b, x.1 = y.1 ∧ x.2 ≠ y.2
 | 0, a, b, ha, _, h0, _, _ => by
   obtain⟨g,hg⟩:=fits_pos ha.fits h0
   omega
 | f + 1, a, b, ha, hb, ha0, hb0, hr => by
   have key:∀ {na nb:List PairL} {ta tb:List UInt8},buildL (f+1) a=na ++ [nodeP ta]→buildL (f+1) b=nb ++ [nodeP tb]→(ta=tb→a=b∨∃ x∈buildL (f+1) a,∃ y∈buildL (f+1) b,x.1=y.1∧x.2≠y.2)→a=b∨∃ x∈buildL (f+1) a,∃ y∈buildL (f+1) b,x.1=y.1∧x.2≠y.2:=by
    intro na nb ta tb ea eb hh
    by_cases ht:ta=tb
    · exact hh ht
    · refine .inr ⟨nodeP ta,by rw[ea];simp,nodeP tb,by rw[eb];simp,?_,ht⟩
      rw[root_last ea,root_last eb] at hr
      exact hr
   rcases shapes f a ha0 with ⟨e1,rfl,ea⟩ | ⟨hca,hla,ea⟩ | ⟨hca,hla,ea⟩ <;> rcases shapes f b hb0 with ⟨e2,rfl,eb⟩ | ⟨hcb,hlb,eb⟩ | ⟨hcb,hlb,eb⟩
   · refine key ea eb fun ht=>.inl ?_
     have h1:=listB_inj (leaf_list ha) (by simp) (leaf_list hb) (by simp) ht
     simp only[List.cons.injEq,and_true] at h1
     have h2:=(hex_inj (ha.nib e1 (by simp)) (hb.nib e2 (by simp)) h1.1).1
     rw[Prod.ext h2 h1.2]
   · refine key ea eb fun ht=>?_
     exfalso
     have hl:=long_list hb hb0 (commonL b) _ (root_len f (cutE (commonL b) b))
     have h1:=listB_inj (leaf_list ha) (by simp) hl.1 (by simp) ht
     simp only[List.cons.injEq,and_true] at h1
     have h2:=(hex_inj (ha.nib e1 (by simp)) hl.2 h1.1).2
     cases h2
   · refine key ea eb fun ht=>?_
     exfalso
     have h1:=listB_inj (leaf_list ha) (by simp) (branch_list hb) (by simp) ht
     have:=congrArg List.length h1
     simp at this
   · refine key ea eb fun ht=>?_
     exfalso
     have hl:=long_list ha ha0 (commonL a) _ (root_len f (cutE (commonL a) a))
     have h1:=listB_inj hl.1 (by simp) (leaf_list hb) (by simp) ht
     simp only[List.cons.injEq,and_true] at h1
     have h2:=(hex_inj hl.2 (hb.nib e2 (by simp)) h1.1).2
     cases h2
   · refine key ea eb fun ht=>?_
     have hl1:=long_list ha ha0 (commonL a) _ (root_len f (cutE (commonL a) a))
     have hl2:=long_list hb hb0 (commonL b) _ (root_len f (cutE (commonL b) b))
     have h1:=listB_inj hl1.1 (by simp) hl2.1 (by simp) ht
     simp only[List.cons.injEq,and_true] at h1
     have hp:=(hex_inj hl1.2 hl2.2 h1.1).1
     have hc1:cutE (commonL a) a≠[]:=fun e=>by have:=cutE_length (commonL a) a;rw[e] at this;simp at this;omega
     have hc2:cutE (commonL b) b≠[]:=fun e=>by have:=cutE_length (commonL b) b;rw[e] at this;simp at this;omega
     rcases tellE f _ _ (ha.cut hca) (hb.cut hcb) hc1 hc2 h1.2 with h | ⟨x,hx,y,hy,h⟩
     · left
       rw[cut_back (Nat.le_refl (commonL a)),cut_back (Nat.le_refl (commonL b)),h,hp]
     · exact .inr ⟨x,by rw[ea];simp[hx],y,by rw[eb];simp[hy],h⟩
   · refine key ea eb fun ht=>?_
     exfalso
     have hl:=long_list ha ha0 (commonL a) _ (root_len f (cutE (commonL a) a))
     have h1:=listB_inj hl.1 (by simp) (branch_list hb) (by simp) ht
     have:=congrArg List.length h1
     simp at this
   · refine key ea eb fun ht=>?_
     exfalso
     have h1:=listB_inj (branch_list ha) (by simp) (leaf_list hb) (by simp) ht
     have:=congrArg List.length h1
     simp at this
   · refine key ea eb fun ht=>?_
     exfalso
     have hl:=long_list hb hb0 (commonL b) _ (root_len f (cutE (commonL b) b))
     have h1:=listB_inj (branch_list ha) (by simp) hl.1 (by simp) ht
     have:=congrArg List.length h1
     simp at this
   · refine key ea eb fun ht=>?_
     have h1:=listB_inj (branch_list ha) (by simp) (branch_list hb) (by simp) ht
     have h2:=List.append_inj h1 (by simp)
     have hend:endV a=endV b:=by simpa using h2.2
     have hgr:∀ d,d<16→rootH (buildL f (grp d a))=rootH (buildL f (grp d b)):=by
      intro d hd
      have:=congrArg (fun l=>l[d]?) h2.1
      simpa [hd] using this
     by_cases hall:∀ d,d<16→grp d a=grp d b
     · exact .inl (es_unique ha.rise hb.rise ha.val hb.val ha.nib hb.nib hend hall)
     · right
       simp only[Classical.not_forall] at hall
       obtain⟨d,hd,hne⟩:=hall
       have hrd:=hgr d hd
       have memA:∀ x∈buildL f (grp d a),x∈buildL (f+1) a:=fun x hx=>by
        rw[ea];refine List.mem_append_left _ (List.mem_flatten.2 ⟨_,List.mem_map.2 ⟨d,List.mem_range.2 hd,rfl⟩,hx⟩)
       have memB:∀ x∈buildL f (grp d b),x∈buildL (f+1) b:=fun x hx=>by
        rw[eb];refine List.mem_append_left _ (List.mem_flatten.2 ⟨_,List.mem_map.2 ⟨d,List.mem_range.2 hd,rfl⟩,hx⟩)
       by_cases g1:grp d a=[]
       · by_cases g2:grp d b=[]
         · exact absurd (g1.trans g2.symm) hne
         · have:=root_32 (hb.grp d).fits g2
           rw[←hrd,g1,build_nil] at this
           simp[rootH] at this
       · by_cases g2:grp d b=[]
         · have:=root_32 (ha.grp d).fits g1
           rw[hrd,g2,build_nil] at this
           simp[rootH] at this
         · rcases tellE f _ _ (ha.grp d) (hb.grp d) g1 g2 hrd with h | ⟨x,hx,y,hy,h⟩
           · exact absurd h hne
           · exact⟨x,memA x hx,y,memB y hy,h⟩
theorem nodeAt_of {k:Int} {p:List UInt8} {ls:List (List UInt8)} {v:List UInt8} (h:nodeOk k p ls v=true):nodeAt (nodeB k p ls v)=⟨k,p,ls,v⟩:=by
 unfold nodeAt;rw[node_fore k p ls v h];rfl
theorem nodeB_ok {k:Int} {p:List UInt8} {ls:List (List UInt8)} {v:List UInt8} (h:nodeOk k p ls v=true):nodeB k p ls v=listB (nodeTs k p ls v):=by rw[nodeB,if_pos h]
theorem leaf_node {f:Nat} {e:PairL} (h:GE f [e]):nodeOk 1 e.1 [] e.2=true∧leafT e=nodeB 1 e.1 [] e.2:=by
 have h1:=h.small e (by simp)
 have h2:=h.nib e (by simp)
 have h3:=h.val e (by simp)
 have hok:nodeOk 1 e.1 [] e.2=true:=by simp[nodeOk,headOk,kindOk,h1.1,h1.2,h2,h3]
 exact⟨hok,by rw[nodeB_ok hok];rfl⟩
theorem long_node {f:Nat} {es:List PairL} (h:GE (f+1) es) (h0:es≠[]) (hc:0<commonL es) (hh:List UInt8) (hl:hh.length=32):nodeOk 2 ((headP es).take (commonL es)) [hh] []=true∧longT ((headP es).take (commonL es)) hh=nodeB 2 ((headP es).take (commonL es)) [hh] []:=by
 obtain⟨e0,es',rfl⟩:∃ e0 es',es=e0 :: es':=by cases es with | nil=>exact absurd rfl h0 | cons e es=>exact⟨e,es,rfl⟩
 have h1:=h.small e0 (by simp)
 have h2:=h.nib e0 (by simp)
 have h3:=commonL_le (e0 :: es') e0 (by simp)
 have h4:=isNibs_take e0.1 (commonL (e0 :: es')) h2
 have hok:nodeOk 2 ((headP (e0 :: es')).take (commonL (e0 :: es'))) [hh] []=true:=by
  have hlen:((headP (e0 :: es')).take (commonL (e0 :: es'))).length=commonL (e0 :: es'):=by simp only[headP,List.length_take];omega
  have hne:((headP (e0 :: es')).take (commonL (e0 :: es'))).isEmpty=false:=by
   rw[List.isEmpty_eq_false_iff];intro e;rw[e] at hlen;simp at hlen;omega
  have h5:((headP (e0 :: es')).take (commonL (e0 :: es'))).length≤24:=by rw[hlen];omega
  simp only[nodeOk,headOk,kindOk,hne,h5]
  simp[hl]
  exact h4
 exact⟨hok,by rw[nodeB_ok hok];rfl⟩
theorem kidsN_two:∀ (ls:List (List UInt8)),(∀ i (hi:i<ls.length),ls[i]≠[]→1≤kidsN ls)∧(∀ i j (hi:i<ls.length) (hj:j<ls.length),i<j→ls[i]≠[]→ls[j]≠[]→2≤kidsN ls)
 | []=>⟨fun i hi=>by simp at hi,fun i j hi=>by simp at hi⟩
 | l :: r => by
   have ih:=kidsN_two r
   have one:l≠[]→oneN l=1:=fun h=>by simp[oneN,h]
   refine⟨fun i hi hne=>?_,fun i j hi hj hij h1 h2=>?_⟩
   · cases i with
     | zero=>have:=one hne;simp only[kidsN];omega
     | succ i=>have:=ih.1 i (by simpa using hi) (by simpa using hne);simp only[kidsN];omega
   · cases j with
     | zero=>omega
     | succ j =>
       cases i with
       | zero=>have:=one h1;have:=ih.1 j (by simpa using hj) (by simpa using h2);simp only[kidsN];omega
       | succ i=>have:=ih.2 i j (by simpa using hi) (by simpa using hj) (by omega) (by simpa using h1) (by simpa using h2);simp only[kidsN];omega
def kidsH (f:Nat) (es:List PairL):List (List UInt8):=(List.range 16).map fun d=>rootH (buildL f (grp d es))
theorem kidsH_length (f:Nat) (es:List PairL):(kidsH f es).length=16:=by simp[kidsH]
theorem kidsH_at (f:Nat) (es:List PairL) (d:Nat) (h:d<16):(kidsH f es)[d]'(by rw[kidsH_length];exact h)=rootH (buildL f (grp d es)):=by simp[kidsH]
theorem kidsH_ne {f:Nat} {es:List PairL} (h:GE (f+1) es) (d:Nat) (hg:grp d es≠[]):rootH (buildL f (grp d es))≠[]:=fun e=>by
 have:=root_32 (h.grp d).fits hg
 rw[e] at this;simp at this
theorem lcp_zero_heads {x y:UInt8} {xs ys:List UInt8} (h:lcp (x :: xs) (y :: ys)=0):x≠y:=fun e=>by
 subst e;simp[lcp] at h
theorem lcp_drop:∀ a b:List UInt8,lcp (a.drop (lcp a b)) (b.drop (lcp a b))=0
 | [],b=>by simp[lcp]
 | x :: xs,[]=>by simp[lcp]
 | x :: xs, y :: ys => by
   by_cases e:x=y
   · have:lcp (x :: xs) (y :: ys)=lcp xs ys+1:=by simp[lcp,e]
     rw[this];exact lcp_drop xs ys
   · have:lcp (x :: xs) (y :: ys)=0:=by simp[lcp,e]
     rw[this];simpa using this
theorem branch_two {f:Nat} {es:List PairL} (h:GE (f+1) es) (h2:2≤es.length) (hc:¬ 0<commonL es):2≤oneN (endV es)+kidsN (kidsH f es):=by
 have hce:=common_ends es h2 h.rise
 have hz:lcp (es[0]'(by omega)).1 (es[es.length - 1]'(by omega)).1=0:=by omega
 obtain⟨e1,e2⟩:=end_rise h.rise (by omega)
 have hlast:=e1 (es.length - 1) (by omega) (by omega)
 have hk:=kidsN_two (kidsH f es)
 have inG:∀ (k:Nat) (hk:k<es.length) (x:UInt8) (xs:List UInt8),es[k].1=x :: xs→x.toNat<16∧grp x.toNat es≠[]:=fun k hk x xs hx=>by
  have hm:(x :: xs,es[k].2)∈es:=by
   have:es[k]=(x :: xs,es[k].2):=Prod.ext hx rfl
   rw[←this];exact List.getElem_mem _
  refine⟨?_,fun e=>by have:=mem_cons_grp.1 hm;rw[e] at this;simp at this⟩
  have:=h.nib _ hm
  simp[isNibs] at this
  omega
 obtain⟨y,ys,hy⟩:∃ y ys,(es[es.length - 1]'(by omega)).1=y :: ys:=by
  cases hq:(es[es.length - 1]'(by omega)).1 with
  | nil=>exact absurd hq hlast
  | cons y ys=>exact⟨y,ys,rfl⟩
 obtain⟨hy16,hyg⟩:=inG _ _ y ys hy
 have ny:(kidsH f es)[y.toNat]'(by rw[kidsH_length];exact hy16)≠[]:=by rw[kidsH_at f es _ hy16];exact kidsH_ne h _ hyg
 cases hq:(es[0]'(by omega)).1 with
 | nil =>
   rw[if_pos hq] at e2
   have hv:endV es≠[]:=by rw[e2];exact h.val _ (List.getElem_mem _)
   have h1:oneN (endV es)=1:=by simp[oneN,hv]
   have:=hk.1 y.toNat (by rw[kidsH_length];exact hy16) ny
   omega
 | cons x xs =>
   obtain⟨hx16,hxg⟩:=inG 0 (by omega) x xs hq
   have nx:(kidsH f es)[x.toNat]'(by rw[kidsH_length];exact hx16)≠[]:=by rw[kidsH_at f es _ hx16];exact kidsH_ne h _ hxg
   rw[hq,hy] at hz
   have hne:=lcp_zero_heads hz
   have hne':x.toNat≠y.toNat:=fun e=>hne (UInt8.toNat_inj.1 e)
   rcases Nat.lt_or_gt_of_ne hne' with hlt | hlt
   · have:=hk.2 x.toNat y.toNat (by rw[kidsH_length];exact hx16) (by rw[kidsH_length];exact hy16) hlt nx ny
     omega
   · have:=hk.2 y.toNat x.toNat (by rw[kidsH_length];exact hy16) (by rw[kidsH_length];exact hx16) hlt ny nx
     omega
theorem branch_node {f:Nat} {es:List PairL} (h:GE (f+1) es) (h2:2≤es.length) (hc:¬ 0<commonL es):nodeOk 3 [] (kidsH f es) (endV es)=true∧branchT (kidsH f es) (endV es)=nodeB 3 [] (kidsH f es) (endV es):=by
 have hv:=end_le h.small
 have hk:(kidsH f es).all kidOk=true:=by
  rw[List.all_eq_true]
  intro l hl
  obtain⟨d,hd,rfl⟩:=List.mem_map.1 hl
  by_cases hg:grp d es=[]
  · rw[hg,build_nil];rfl
  · simp[kidOk,root_32 (h.grp d).fits hg]
 have hok:nodeOk 3 [] (kidsH f es) (endV es)=true:=by
  simp[nodeOk,headOk,kindOk,branchOk,kidsH_length,hk,branch_two h h2 hc,hv,isNibs]
 exact⟨hok,by rw[nodeB_ok hok];rfl⟩
theorem built_read:∀ (f:Nat) (es:List PairL),GE f es→∀ x∈buildL f es,(readNode x.2).isSome=true∧sumL x.2=x.1
 | 0,es,h,x,hx=>by simp[buildL] at hx
 | f + 1, es, h, x, hx => by
   by_cases h0:es=[]
   · subst h0;rw[build_nil] at hx;simp at hx
   · have rd:∀ {k p ls v},nodeOk k p ls v=true→(readNode (nodeB k p ls v)).isSome=true:=fun {k p ls v} hk=>by rw[node_fore k p ls v hk];rfl
     rcases shapes f es h0 with ⟨e,rfl,eb⟩ | ⟨hc,hl,eb⟩ | ⟨hc,hl,eb⟩
     · rw[eb] at hx
       simp only[List.nil_append,List.mem_singleton] at hx
       subst hx
       obtain⟨hk,ht⟩:=leaf_node h
       exact⟨by show (readNode (leafT e)).isSome=true;rw[ht];exact rd hk,rfl⟩
     · rw[eb] at hx
       rcases List.mem_append.1 hx with hx | hx
       · exact built_read f _ (h.cut hc) x hx
       · simp only[List.mem_singleton] at hx
         subst hx
         have hc1:cutE (commonL es) es≠[]:=fun e=>by have:=cutE_length (commonL es) es;rw[e] at this;simp at this;omega
         obtain⟨hk,ht⟩:=long_node h h0 hc _ (root_32 (h.cut hc).fits hc1)
         exact⟨by show (readNode (longT _ _)).isSome=true;rw[ht];exact rd hk,rfl⟩
     · rw[eb] at hx
       rcases List.mem_append.1 hx with hx | hx
       · obtain⟨l,hl1,hx1⟩:=List.mem_flatten.1 hx
         obtain⟨d,_,rfl⟩:=List.mem_map.1 hl1
         exact built_read f _ (h.grp d) x hx1
       · simp only[List.mem_singleton] at hx
         subst hx
         obtain⟨hk,ht⟩:=branch_node h hl hc
         exact⟨by show (readNode (branchT (kidsH f es) (endV es))).isSome=true;rw[ht];exact rd hk,rfl⟩
def partsE (es:List PairL):List PairL:=(if endV es=[] then [] else [([],endV es)]) ++ ((List.range 16).map fun d=>(grp d es).map fun e=>(UInt8.ofNat d :: e.1,e.2)).flatten
theorem ofNat_toNat16 (d:Nat) (h:d<16):(UInt8.ofNat d).toNat=d:=by simp;omega
theorem parts_eq {f : Nat} {es : List PairL} (h : GE f es) : es = partsE es := by
 refine rise_unique es (partsE es) (rise_lt h.rise) ?_ ?_
 · unfold partsE
   refine List.pairwise_append.2 ⟨by split <;> simp,?_,?_⟩
   · rw [List.pairwise_flatten]
     refine⟨fun l hl=>?_,?_⟩
     · obtain⟨d,_,rfl⟩:=List.mem_map.1 hl
       rw[List.pairwise_map]
       exact (rise_lt (rise_grp h.rise)).imp fun {a b} hab=>by
        show UInt8.ofNat d :: a.1<UInt8.ofNat d :: b.1
        rw[List.cons_lt_cons_iff];exact .inr ⟨rfl,hab⟩
     · rw[List.pairwise_map]
       refine List.pairwise_lt_range.imp_of_mem fun {a b} ha hb hab=>?_
       intro x hx y hy
       obtain⟨x',_,rfl⟩:=List.mem_map.1 hx
       obtain⟨y',_,rfl⟩:=List.mem_map.1 hy
       show UInt8.ofNat a :: x'.1<UInt8.ofNat b :: y'.1
       rw[List.cons_lt_cons_iff]
       left
       rw[UInt8.lt_iff_toNat_lt,ofNat_toNat16 a (List.mem_range.1 ha),ofNat_toNat16 b (List.mem_range.1 hb)]
       exact hab
   · intro x hx y hy
     obtain⟨l,hl,hy1⟩:=List.mem_flatten.1 hy
     obtain⟨d,_,rfl⟩:=List.mem_map.1 hl
     obtain⟨y',_,rfl⟩:=List.mem_map.1 hy1
     split at hx
     · simp at hx
     · simp only[List.mem_singleton] at hx
       subst hx
       exact List.nil_lt_cons _ _
 · intro e
   obtain⟨p,v⟩:=e
   unfold partsE
   rw[List.mem_append,List.mem_flatten]
   cases p with
   | nil =>
     rw[end_mem h.rise h.val]
     constructor
     · rintro⟨h1,h2⟩
       left
       rw[if_neg (by rw[h1];exact h2),h1]
       simp
     · rintro (hx | ⟨l,hl,hx⟩)
       · split at hx
         · simp at hx
         · rename_i hne
           simp only[List.mem_singleton,Prod.mk.injEq,true_and] at hx
           subst hx
           exact⟨rfl,hne⟩
       · obtain⟨d,_,rfl⟩:=List.mem_map.1 hl
         obtain⟨y,_,hy⟩:=List.mem_map.1 hx
         simp at hy
   | cons x xs =>
     rw[mem_cons_grp]
     constructor
     · intro hm
       have hx16:x.toNat<16:=by
        have:=h.nib _ (mem_cons_grp.2 hm)
        simp[isNibs] at this
        omega
       right
       refine⟨_,List.mem_map.2 ⟨x.toNat,List.mem_range.2 hx16,rfl⟩,List.mem_map.2 ⟨(xs,v),hm,?_⟩⟩
       simp
     · rintro (hx | ⟨l,hl,hx⟩)
       · split at hx <;> simp at hx
       · obtain⟨d,hd,rfl⟩:=List.mem_map.1 hl
         obtain⟨y,hy,he⟩:=List.mem_map.1 hx
         simp only[Prod.mk.injEq,List.cons.injEq] at he
         obtain⟨⟨h1,h2⟩,h3⟩:=he
         have:x.toNat=d:=by rw[←h1];exact ofNat_toNat16 d (List.mem_range.1 hd)
         rw[this,←h2,←h3];exact hy
theorem back (find : List UInt8 → Option (List UInt8)) : ∀ (f : Nat) (es : List PairL) (F : Nat) (path : List UInt8), GE f es → es ≠ [] → (∀ x ∈ buildL f es, find x.1 = some x.2) → (∀ e ∈ es, e.1.length + 1 ≤ F) → (∀ e ∈ es, path.length + e.1.length ≤ 24 ∧ (path.length + e.1.length) % 2 = 0) →
 atF find F (rootH (buildL f es)) path=some (es.map fun e=>(pack (path ++ e.1),e.2))
 | 0,es,F,path,h,h0,_,_,_=>by obtain⟨g,hg⟩:=fits_pos h.fits h0;omega
 | f + 1, es, F, path, h, h0, hf, hF, hp => by
   obtain⟨F',rfl⟩:∃ F',F=F'+1:=by
    obtain⟨e,he⟩:=List.exists_mem_of_ne_nil es h0
    have:=hF e he
    exact⟨F - 1,by omega⟩
   rcases shapes f es h0 with ⟨e,rfl,eb⟩ | ⟨hc,hl,eb⟩ | ⟨hc,hl,eb⟩
   · obtain⟨hk,ht⟩:=leaf_node h
     have hr:=root_last eb
     have hfi:find (sumL (leafT e))=some (leafT e):=hf (nodeP (leafT e)) (by rw[eb];simp)
     rw[hr,atF_some find F' _ path (leafT e) 1 e.1 e.2 [] hfi (by rw[ht];exact nodeAt_of hk)]
     have hpe:=hp e (by simp)
     have hv:=h.val e (by simp)
     rw[if_pos (by simp only[fullOk,List.length_append,Bool.and_eq_true,Bool.or_eq_true,decide_eq_true_eq];exact⟨hpe.1,.inr hpe.2⟩)]
     simp[underTo,ownP,hv]
   · have hc1:cutE (commonL es) es≠[]:=fun e=>by have:=cutE_length (commonL es) es;rw[e] at this;simp at this;omega
     have h32:=root_32 (h.cut hc).fits hc1
     obtain⟨hk,ht⟩:=long_node h h0 hc _ h32
     have hr:=root_last eb
     obtain⟨pp,hpp⟩:∃ pp,pp=(headP es).take (commonL es):=⟨_,rfl⟩
     have hplen:pp.length=commonL es:=by
      obtain⟨e0,es',rfl⟩:∃ e0 es',es=e0 :: es':=by cases es with | nil=>exact absurd rfl h0 | cons e es=>exact⟨e,es,rfl⟩
      have:=commonL_le (e0 :: es') e0 (by simp)
      rw[hpp];simp only[headP,List.length_take];omega
     have hback:=cut_back (Nat.le_refl (commonL es))
     rw[←hpp] at hk ht hr hback eb
     have hcutlen:∀ e∈cutE (commonL es) es,∃ x∈es,x.1.length=commonL es+e.1.length:=fun e he=>by
      obtain⟨x,hx,rfl⟩:=List.mem_map.1 he
      have:=commonL_le es x hx
      exact⟨x,hx,by simp only[List.length_drop];omega⟩
     have hfi:find (sumL (longT pp (rootH (buildL f (cutE (commonL es) es)))))=some (longT pp (rootH (buildL f (cutE (commonL es) es)))):=hf (nodeP _) (by rw[eb];simp)
     have ih:=back find f (cutE (commonL es) es) F' (path ++ pp) (h.cut hc) hc1 (fun x hx=>hf x (by rw[eb];exact List.mem_append_left _ hx)) (fun e he=>by
      obtain⟨x,hx,hlx⟩:=hcutlen e he
      have:=hF x hx;omega) (fun e he=>by
      obtain⟨x,hx,hlx⟩:=hcutlen e he
      have:=hp x hx
      rw[List.length_append,hplen]
      have e1:path.length+commonL es+e.1.length=path.length+x.1.length:=by omega
      rw[e1];exact this)
     rw[hr,atF_some find F' _ path (longT pp (rootH (buildL f (cutE (commonL es) es)))) 2 pp [] [rootH (buildL f (cutE (commonL es) es))] hfi (by rw[ht];exact nodeAt_of hk)]
     have hfull:fullOk (path ++ pp) []=true:=by
      obtain⟨e,he⟩:=List.exists_mem_of_ne_nil _ hc1
      obtain⟨x,hx,hlx⟩:=hcutlen e he
      have:=hp x hx
      simp only[fullOk,List.length_append,Bool.and_eq_true,Bool.or_eq_true,decide_eq_true_eq]
      exact⟨by omega,by first | exact .inl rfl | exact .inl trivial⟩
     rw[if_pos hfull]
     have hne:rootH (buildL f (cutE (commonL es) es))≠[]:=fun e=>by rw[e] at h32;simp at h32
     have hu:underTo (atF find F') 2 (path ++ pp) [rootH (buildL f (cutE (commonL es) es))] 1=some ((cutE (commonL es) es).map fun e=>(pack (path ++ pp ++ e.1),e.2)):=by
      rw[underTo_on (l:=[]) rfl (by simpa using hne)]
      show Option.map _ (atF find F' (rootH (buildL f (cutE (commonL es) es))) (path ++ pp))=_
      rw[ih];simp
     show Option.map _ (underTo (atF find F') 2 (path ++ pp) [rootH (buildL f (cutE (commonL es) es))] 1)=_
     rw[hu]
     have hm:es.map (fun e=>(pack (path ++ e.1),e.2))=(cutE (commonL es) es).map fun e=>(pack (path ++ pp ++ e.1),e.2):=by
      conv=>lhs;rw[hback]
      rw[List.map_map]
      apply List.map_congr_left
      intro e _
      simp[List.append_assoc]
     rw[hm]
     simp[ownP]
   · obtain⟨hk,ht⟩:=branch_node h hl hc
     have hr:=root_last eb
     have hrt:rootH (buildL (f+1) es)=sumL (branchT (kidsH f es) (endV es)):=hr
     have hfi:find (sumL (branchT (kidsH f es) (endV es)))=some (branchT (kidsH f es) (endV es)):=hf (nodeP (branchT (kidsH f es) (endV es))) (by rw[eb];simp[kidsH])
     rw[hrt,atF_some find F' _ path (branchT (kidsH f es) (endV es)) 3 [] (endV es) (kidsH f es) hfi (by rw[ht];exact nodeAt_of hk),List.append_nil]
     have hfull:fullOk path (endV es)=true:=by
      simp only[fullOk,Bool.and_eq_true,Bool.or_eq_true,decide_eq_true_eq]
      obtain⟨e,he⟩:=List.exists_mem_of_ne_nil es h0
      refine⟨by have:=(hp e he).1;omega,?_⟩
      by_cases hv:endV es=[]
      · exact .inl hv
      · right
        have hm:=(end_mem h.rise h.val (endV es)).2 ⟨rfl,hv⟩
        simpa using (hp _ hm).2
     rw[if_pos hfull,kidsH_length]
     have hu : ∀ j, j ≤ 16 → underTo (atF find F') 3 path (kidsH f es) j = some (((List.range j).map fun d => (grp d es).map fun e => (pack (path ++ UInt8.ofNat d :: e.1), e.2)).flatten) := by
      intro j
      induction j with
      | zero=>intro _;rfl
      | succ j ih =>
        intro hj
        have ihj:=ih (by omega)
        have hat:(kidsH f es).getD j []=rootH (buildL f (grp j es)):=by
         rw[List.getD_eq_getElem?_getD,List.getElem?_eq_getElem (by rw[kidsH_length];omega),kidsH_at f es j (by omega)];rfl
        rw[List.range_succ,List.map_append,List.flatten_append,List.map_singleton,List.flatten_singleton]
        by_cases hg:grp j es=[]
        · rw[underTo_skip ihj (by rw[hat,hg,build_nil];rfl),hg]
          simp
        · rw[underTo_on ihj (by rw[hat];exact kidsH_ne h j hg),hat]
          have hmem:∀ e∈grp j es,(UInt8.ofNat j :: e.1,e.2)∈es:=fun e he=>by
           refine mem_cons_grp.2 ?_
           rw[ofNat_toNat16 j (by omega)];exact he
          have ihb:=back find f (grp j es) F' (path ++ [UInt8.ofNat j]) (h.grp j) hg (fun x hx=>hf x (by
           rw[eb]
           exact List.mem_append_left _ (List.mem_flatten.2 ⟨_,List.mem_map.2 ⟨j,List.mem_range.2 (by omega),rfl⟩,hx⟩))) (fun e he=>by
           have:=hF _ (hmem e he)
           simp at this
           omega) (fun e he=>by
           have:=hp _ (hmem e he)
           simp only[List.length_cons] at this
           rw[List.length_append,List.length_singleton]
           have e1:path.length+1+e.1.length=path.length+(e.1.length+1):=by omega
           rw[e1];exact this)
          rw[show stepK 3 path j=path ++ [UInt8.ofNat j] from rfl,ihb]
          simp[List.append_assoc]
     rw[hu 16 (Nat.le_refl _)]
     have hes:=parts_eq h
     have hm:es.map (fun e=>(pack (path ++ e.1),e.2))=ownP path (endV es) ++ ((List.range 16).map fun d=>(grp d es).map fun e=>(pack (path ++ UInt8.ofNat d :: e.1),e.2)).flatten:=by
      conv=>lhs;rw[hes]
      unfold partsE ownP
      rw[List.map_append,List.map_flatten,List.map_map]
      congr 1
      · split <;> simp
      · congr 1
        apply List.map_congr_left
        intro d _
        simp[List.map_map]
     rw[hm];rfl
theorem common_cut {es:List PairL} (h2:2≤es.length) (hr:RiseE es):commonL (cutE (commonL es) es)=0:=by
 have h1:=common_ends es h2 hr
 have h3:=common_ends (cutE (commonL es) es) (by rw[cutE_length];exact h2) (rise_cut hr (Nat.le_refl _))
 rw[h3]
 simp only[cutE_length]
 have a0:((cutE (commonL es) es)[0]'(by rw[cutE_length];omega)).1=(es[0]'(by omega)).1.drop (commonL es):=by simp[cutE]
 have a1:((cutE (commonL es) es)[es.length - 1]'(by rw[cutE_length];omega)).1=(es[es.length - 1]'(by omega)).1.drop (commonL es):=by simp[cutE]
 rw[a0,a1,h1]
 exact lcp_drop _ _
theorem kids_sum (f:Nat) (es:List PairL) (h:GE (f+1) es) (ih:∀ d,grp d es≠[]→(buildL f (grp d es)).length+2≤3*(grp d es).length):∀ j,j≤16→(((List.range j).map fun d=>buildL f (grp d es)).flatten).length+2*kidsN ((kidsH f es).take j)≤3*(((List.range j).map fun d=>(grp d es).map fun e=>(UInt8.ofNat d :: e.1,e.2)).flatten).length:=by
 intro j
 induction j with
 | zero=>intro _;simp[kidsN]
 | succ j ihj =>
   intro hj
   have h1:=ihj (by omega)
   have hk:=kidsN_take (kidsH f es) j (by rw[kidsH_length];omega)
   rw[kidsH_at f es j (by omega)] at hk
   rw[hk,List.range_succ,List.map_append,List.flatten_append,List.map_singleton,List.flatten_singleton,List.length_append,List.map_append,List.flatten_append,List.map_singleton,List.flatten_singleton,List.length_append,List.length_map]
   by_cases hg:grp j es=[]
   · have:oneN (rootH (buildL f (grp j es)))=0:=by rw[hg,build_nil];rfl
     rw[this,hg,build_nil]
     simp only[List.length_nil]
     omega
   · have h2:=ih j hg
     have h3:oneN (rootH (buildL f (grp j es)))≤1:=by unfold oneN;split <;> omega
     omega
theorem build_three:∀ (f:Nat) (es:List PairL),GE f es→es≠[]→(buildL f es).length+2≤3*es.length∧(¬ 0<commonL es→2≤es.length→(buildL f es).length+3≤3*es.length)
 | 0,es,h,h0=>by obtain⟨g,hg⟩:=fits_pos h.fits h0;omega
 | f + 1, es, h, h0 => by
   rcases shapes f es h0 with ⟨e,rfl,eb⟩ | ⟨hc,hl,eb⟩ | ⟨hc,hl,eb⟩
   · rw[eb];simp
   · have hc1:cutE (commonL es) es≠[]:=fun e=>by have:=cutE_length (commonL es) es;rw[e] at this;simp at this;omega
     have ih:=(build_three f _ (h.cut hc) hc1).2 (by rw[common_cut hl h.rise];omega) (by rw[cutE_length];exact hl)
     rw[cutE_length] at ih
     rw[eb]
     simp only[List.length_append,List.length_singleton]
     exact⟨by omega,fun hn=>absurd hc hn⟩
   · have h2:=branch_two h hl hc
     have hs:=kids_sum f es h (fun d hg=>(build_three f _ (h.grp d) hg).1) 16 (Nat.le_refl _)
     rw[List.take_of_length_le (by rw[kidsH_length];exact Nat.le_refl _)] at hs
     have hlen:es.length=oneN (endV es)+(((List.range 16).map fun d=>(grp d es).map fun e=>(UInt8.ofNat d :: e.1,e.2)).flatten).length:=by
      conv=>lhs;rw[parts_eq h]
      unfold partsE
      rw[List.length_append]
      congr 1
      unfold oneN
      by_cases hv:endV es=[]
      · simp[hv]
      · simp[hv]
     have h1:oneN (endV es)≤1:=by unfold oneN;split <;> omega
     rw[eb]
     simp only[List.length_append,List.length_singleton]
     exact⟨by omega,fun _ _=>by omega⟩
theorem ge_of (ps:List PairL) (h:pairsOkL ps=true):GE 60 (esOf ps):=by
 have hfit:=fit_of ps h
 refine⟨es_fits hfit,es_small hfit,fun e he=>?_,pairs_rise ps h,fun e he=>?_⟩
 · obtain⟨x,_,rfl⟩:=List.mem_map.1 he
   exact nibs_isNibs _
 · obtain⟨x,hx,rfl⟩:=List.mem_map.1 he
   obtain⟨i,hi,rfl⟩:=List.getElem_of_mem hx
   unfold pairsOkL at h
   rw[Bool.and_eq_true,List.all_eq_true] at h
   have:=h.2 i (List.mem_range.2 hi)
   unfold okAt at this
   rw[valAt_get ps i hi] at this
   simp only[Bool.and_eq_true,decide_eq_true_iff] at this
   intro e
   have h1:=this.1.1.2
   simp only at e
   rw[e] at h1
   simp at h1
theorem nodes_mem {ps:List PairL} (h:rootOk ps=true) {x:PairL} (hx:x∈allL ps):x∈nodesR ps:=by
 have hm:madeOk (allL ps)=true:=by simp only[rootOk,Bool.and_eq_true] at h;exact h.2
 have hg:=(made_good _).1 hm
 obtain⟨s1,s2,s3⟩:=sorted_facts (allL ps)
 rw[nodesR,if_pos h]
 obtain⟨y,hy,he⟩:=s3 x hx
 have:=hg.2 y (s2 y hy) x hx he
 rw[←this];exact hy
theorem root_ne_empty {ps:List PairL} (h:rootOk ps=true) (h0:ps≠[]):rootR ps=rootH (allL ps)∧rootR ps≠emptyL:=by
 obtain⟨nn,tt,hall⟩:=all_ne ps h0
 have hna:allL ps≠[]:=by rw[hall];simp
 have e1:rootR ps=rootH (allL ps):=by rw[rootR,if_pos h,rootOr,if_neg hna]
 refine⟨e1,?_⟩
 have hm:madeOk (allL ps)=true:=by simp only[rootOk,Bool.and_eq_true] at h;exact h.2
 have hg:=(made_good _).1 hm
 rw[e1,hall,rootH_snoc]
 exact hg.1 (nodeP tt) (by rw[hall];simp)
theorem nodes_facts {l:List PairL} (h:rootOk l=true):pairsOkL l=true∧nodesR l=sortedL (allL l)∧(nodesR l).length≤3*l.length∧(nodesR l).Pairwise (fun x y=>x.1<y.1)∧(∀ x∈nodesR l,x∈allL l):=by
 have hp:pairsOkL l=true:=by simp only[rootOk,Bool.and_eq_true] at h;exact h.1
 obtain⟨s1,s2,s3⟩:=sorted_facts (allL l)
 have e:nodesR l=sortedL (allL l):=by rw[nodesR,if_pos h]
 refine⟨hp,e,?_,by rw[e];exact s1,fun x hx=>s2 x (by rw[←e];exact hx)⟩
 have hlen:=sorted_len (allL l) (allL l).length (Nat.le_refl _)
 rw[List.take_length] at hlen
 rw[e]
 by_cases h0:l=[]
 · subst h0
   have ea:allL []=[]:=build_nil 60
   rw[ea] at hlen ⊢
   simpa using hlen
 · have hne:esOf l≠[]:=fun e=>h0 (by have:=es_length l;rw[e] at this;exact List.length_eq_zero_iff.1 this.symm)
   have:=(build_three 60 (esOf l) (ge_of l hp) hne).1
   rw[es_length] at this
   have e2:(allL l).length=(buildL 60 (esOf l)).length:=rfl
   omega
theorem nodes_store {l:List PairL} (h:rootOk l=true):storeOkL (nodesR l)=true:=by
 obtain⟨hp,e,h3,hr,hm⟩:=nodes_facts h
 have h60:=(pairsOk_of l hp).1
 refine storeOk_all _ (by omega) fun j hj=>?_
 have hx:=hm _ (List.getElem_mem (h:=hj))
 obtain⟨b1,b2⟩:=built_read 60 (esOf l) (ge_of l hp) _ hx
 unfold stOk
 rw[valAt_get _ j hj,keyAt_get _ j hj,b1,b2]
 simp only[Bool.true_and,beq_self_eq_true,Bool.or_eq_true,decide_eq_true_eq]
 by_cases hz:j=0
 · exact .inl hz
 · right
   rw[keyAt_get _ (j - 1) (by omega),less_iff]
   exact List.pairwise_iff_getElem.1 hr (j - 1) j (by omega) hj (by omega)
theorem pairs_back {l:List PairL} (h:rootOk l=true):pairsAtR (nodesR l) (rootR l)=some l:=by
 have hst:=nodes_store h
 obtain⟨hp,e,h3,hr,hm⟩:=nodes_facts h
 by_cases h0:l=[]
 · subst h0
   have ea:allL []=[]:=build_nil 60
   exact pairsAt_empty hst (by rw[rootR,if_pos h,ea,rootOr,if_pos rfl])
 · obtain⟨hroot,hne⟩:=root_ne_empty h h0
   have hes:esOf l≠[]:=fun e=>h0 (by have:=es_length l;rw[e] at this;exact List.length_eq_zero_iff.1 this.symm)
   have hfit:=fit_of l hp
   have hlen:∀ e∈esOf l,e.1.length≤24∧e.1.length % 2=0:=fun e he=>by
    obtain⟨x,hx,rfl⟩:=List.mem_map.1 he
    have:=(hfit.2 x hx).1
    simp only[nibs_len]
    omega
   have hb:=back (findL (nodesR l)) 60 (esOf l) 26 [] (ge_of l hp) hes (fun x hx=>find_mem _ hr x (nodes_mem h hx)) (fun e he=>by have:=hlen e he;omega) (fun e he=>by simpa using hlen e he)
   have hl:(esOf l).map (fun e=>(pack ([] ++ e.1),e.2))=l:=by
    unfold esOf
    rw[List.map_map]
    conv=>rhs;rw[←List.map_id l]
    apply List.map_congr_left
    intro x _
    simp[pack_nibs]
   rw[hl] at hb
   have hroot':rootR l=rootH (buildL 60 (esOf l)):=hroot
   rw[←hroot'] at hb
   rw[pairsAt_some hst hne hb,if_pos ⟨h,rfl⟩]
theorem pairs_back_in {l T:List PairL} (h:rootOk l=true) (hT:storeOkL T=true) (hsub:∀ x∈allL l,findL T x.1=some x.2):pairsAtR T (rootR l)=some l:=by
 obtain⟨hp,e,h3,hr,hm⟩:=nodes_facts h
 by_cases h0:l=[]
 · subst h0
   have ea:allL []=[]:=build_nil 60
   exact pairsAt_empty hT (by rw[rootR,if_pos h,ea,rootOr,if_pos rfl])
 · obtain⟨hroot,hne⟩:=root_ne_empty h h0
   have hes:esOf l≠[]:=fun e=>h0 (by have:=es_length l;rw[e] at this;exact List.length_eq_zero_iff.1 this.symm)
   have hfit:=fit_of l hp
   have hlen:∀ e∈esOf l,e.1.length≤24∧e.1.length % 2=0:=fun e he=>by
    obtain⟨x,hx,rfl⟩:=List.mem_map.1 he
    have:=(hfit.2 x hx).1
    simp only[nibs_len]
    omega
   have hb:=back (findL T) 60 (esOf l) 26 [] (ge_of l hp) hes hsub (fun e he=>by have:=hlen e he;omega) (fun e he=>by simpa using hlen e he)
   have hl:(esOf l).map (fun e=>(pack ([] ++ e.1),e.2))=l:=by
    unfold esOf
    rw[List.map_map]
    conv=>rhs;rw[←List.map_id l]
    apply List.map_congr_left
    intro x _
    simp[pack_nibs]
   rw[hl] at hb
   have hroot':rootR l=rootH (buildL 60 (esOf l)):=hroot
   rw[←hroot'] at hb
   rw[pairsAt_some hT hne hb,if_pos ⟨h,rfl⟩]
end Go.Proofs.YtahocpjieffbaaaGreatDoor
