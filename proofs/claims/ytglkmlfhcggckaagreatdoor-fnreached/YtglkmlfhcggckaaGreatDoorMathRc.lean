/-
 What a root of pairs leads to, on lists: all their nodes; what Reached tells.
-/
import Derived.Test.YtglkmlfhcggckaaGreatDoorReached
import Derived.Test.YtglkmlfhcggckaaGreatDoorBackM
namespace Go.Proofs.YtglkmlfhcggckaaGreatDoor
open Go.RowKit
set_option linter.unusedVariables false
theorem kidsW_of {T:List PairL} {k:Int} {p:List UInt8} {ls:List Bs} {v t:List UInt8} (hk:nodeOk k p ls v=true) (ht:t=nodeB k p ls v) (hf:findL T (sumL t)=some t):kidsW T (sumL t)=ls.filter (fun x => !x.isEmpty) :=
 kidsW_some hf (by rw[ht];exact nodeAt_of hk)
theorem root_in {f:Nat} {es:List PairL} (h:GE f es) (h0:es≠[]):∃ y∈buildL f es,y.1=rootH (buildL f es):=by
 obtain⟨g,rfl⟩:=fits_pos h.fits h0
 obtain⟨ns,t,hb⟩:=build_last g es h0
 exact⟨nodeP t,by rw[hb];simp,by rw[hb,rootH_snoc]⟩
theorem not_empty32 {x:List UInt8} (h:x.length=32):(!x.isEmpty)=true:=by
 cases x with
 | nil=>simp at h
 | cons _ _=>rfl
theorem built_leads (T:List PairL) (R:Bs→Prop):∀ (f:Nat) (es:List PairL),GE f es→es≠[]→(∀ x∈buildL f es,findL T x.1=some x.2) →
 (LeadsR (kidsW T) R (rootH (buildL f es))→∀ x∈buildL f es,LeadsR (kidsW T) R x.1)∧(∀ x∈buildL f es,∀ k∈kidsW T x.1,∃ y∈buildL f es,y.1=k)
 | 0,es,h,h0,_=>by obtain⟨g,hg⟩:=fits_pos h.fits h0;omega
 | f + 1, es, h, h0, hf => by
   rcases shapes f es h0 with ⟨e,rfl,eb⟩ | ⟨hc,hl,eb⟩ | ⟨hc,hl,eb⟩
   · obtain⟨hk,ht⟩:=leaf_node h
     have hr:=root_last eb
     have hfi:findL T (sumL (leafT e))=some (leafT e):=hf (nodeP (leafT e)) (by rw[eb];simp)
     have hkw:kidsW T (sumL (leafT e))=[]:=by rw[kidsW_of hk ht hfi];rfl
     refine⟨fun hL x hx=>?_,fun x hx k hkk=>?_⟩
     · rw[eb] at hx
       simp only[List.nil_append,List.mem_singleton] at hx
       subst hx
       rw[hr] at hL
       exact hL
     · rw[eb] at hx
       simp only[List.nil_append,List.mem_singleton] at hx
       subst hx
       have hk2:k∈kidsW T (sumL (leafT e)):=hkk
       rw[hkw] at hk2
       simp at hk2
   · have hc1:cutE (commonL es) es≠[]:=fun e=>by have:=cutE_length (commonL es) es;rw[e] at this;simp at this;omega
     have h32:=root_32 (h.cut hc).fits hc1
     obtain⟨hk,ht⟩:=long_node h h0 hc _ h32
     have hr:=root_last eb
     have hin:=root_in (h.cut hc) hc1
     obtain⟨tt,htt⟩:∃ tt,tt=longT ((headP es).take (commonL es)) (rootH (buildL f (cutE (commonL es) es))):=⟨_,rfl⟩
     rw[←htt] at ht hr eb
     have hfi:findL T (sumL tt)=some tt:=hf (nodeP tt) (by rw[eb];simp)
     have hkw:kidsW T (sumL tt)=[rootH (buildL f (cutE (commonL es) es))]:=by
      rw[kidsW_of hk ht hfi]
      simp[not_empty32 h32]
     obtain⟨ih1,ih2⟩:=built_leads T R f _ (h.cut hc) hc1 (fun x hx=>hf x (by rw[eb];exact List.mem_append_left _ hx))
     refine⟨fun hL x hx=>?_,fun x hx k hkk=>?_⟩
     · rw[hr] at hL
       rw[eb] at hx
       rcases List.mem_append.1 hx with hx | hx
       · exact ih1 (.kid hL (by rw[hkw];simp)) x hx
       · simp only[List.mem_singleton] at hx
         subst hx
         exact hL
     · rw[eb] at hx ⊢
       rcases List.mem_append.1 hx with hx | hx
       · obtain⟨y,hy,e⟩:=ih2 x hx k hkk
         exact⟨y,List.mem_append_left _ hy,e⟩
       · simp only[List.mem_singleton] at hx
         subst hx
         have hk2:k∈kidsW T (sumL tt):=hkk
         rw[hkw,List.mem_singleton] at hk2
         obtain⟨y,hy,e⟩:=hin
         exact⟨y,List.mem_append_left _ hy,by rw[hk2];exact e⟩
   · obtain⟨hk,ht⟩:=branch_node h hl hc
     have eb':buildL (f+1) es=((List.range 16).map fun d=>buildL f (grp d es)).flatten ++ [nodeP (branchT (kidsH f es) (endV es))]:=eb
     clear eb
     have hr:=root_last eb'
     obtain⟨tt,htt⟩:∃ tt,tt=branchT (kidsH f es) (endV es):=⟨_,rfl⟩
     rw[←htt] at ht hr eb'
     have hfi:findL T (sumL tt)=some tt:=hf (nodeP tt) (by rw[eb'];simp)
     have hkw:kidsW T (sumL tt)=(kidsH f es).filter (fun x => !x.isEmpty):=kidsW_of hk ht hfi
     have hsub:∀ d,d<16→∀ x∈buildL f (grp d es),x∈buildL (f+1) es:=fun d hd x hx=>by
      rw[eb']
      exact List.mem_append_left _ (List.mem_flatten.2 ⟨_,List.mem_map.2 ⟨d,List.mem_range.2 hd,rfl⟩,hx⟩)
     have hne:∀ d x,x∈buildL f (grp d es)→grp d es≠[]:=fun d x hx e=>by rw[e,build_nil] at hx;simp at hx
     refine⟨fun hL x hx=>?_,fun x hx k hkk=>?_⟩
     · rw[hr] at hL
       rw[eb'] at hx
       rcases List.mem_append.1 hx with hx | hx
       · obtain⟨l,hl1,hx1⟩:=List.mem_flatten.1 hx
         obtain⟨d,hd,rfl⟩:=List.mem_map.1 hl1
         have hd16:=List.mem_range.1 hd
         have hg:=hne d x hx1
         have ih:=built_leads T R f _ (h.grp d) hg (fun y hy=>hf y (hsub d hd16 y hy))
         refine ih.1 (.kid hL ?_) x hx1
         rw[hkw]
         exact List.mem_filter.2 ⟨List.mem_map.2 ⟨d,hd,rfl⟩,not_empty32 (root_32 (h.grp d).fits hg)⟩
       · simp only[List.mem_singleton] at hx
         subst hx
         exact hL
     · rw[eb'] at hx
       rcases List.mem_append.1 hx with hx | hx
       · obtain⟨l,hl1,hx1⟩:=List.mem_flatten.1 hx
         obtain⟨d,hd,rfl⟩:=List.mem_map.1 hl1
         have hd16:=List.mem_range.1 hd
         have ih:=built_leads T R f _ (h.grp d) (hne d x hx1) (fun y hy=>hf y (hsub d hd16 y hy))
         obtain⟨y,hy,e⟩:=ih.2 x hx1 k hkk
         exact⟨y,hsub d hd16 y hy,e⟩
       · simp only[List.mem_singleton] at hx
         subst hx
         have hk2:k∈kidsW T (sumL tt):=hkk
         rw[hkw] at hk2
         obtain⟨h1,h2⟩:=List.mem_filter.1 hk2
         obtain⟨d,hd,rfl⟩:=List.mem_map.1 h1
         have hg:grp d es≠[]:=fun e=>by rw[e,build_nil] at h2;simp[rootH] at h2
         obtain⟨y,hy,e⟩:=root_in (h.grp d) hg
         exact⟨y,hsub d (List.mem_range.1 hd) y hy,e⟩
theorem leads_nodes {l T:List PairL} (h:rootOk l=true) (h0:l≠[]) (hsub:∀ x∈allL l,findL T x.1=some x.2) (x:Bs):Leads (kidsW T) (rootR l) x↔x∈(nodesR l).map (·.1):=by
 obtain⟨hp,e,h3,hr,hm⟩:=nodes_facts h
 obtain⟨hroot,hne⟩:=root_ne_empty h h0
 have hes:esOf l≠[]:=fun e=>h0 (by have:=es_length l;rw[e] at this;exact List.length_eq_zero_iff.1 this.symm)
 obtain⟨k1,k2⟩:=built_leads T (· = rootR l) 60 (esOf l) (ge_of l hp) hes hsub
 have hroot':rootR l=rootH (buildL 60 (esOf l)):=hroot
 constructor
 · intro hx
   have:∃ y∈allL l,y.1=x:=by
    induction hx with
    | root hx =>
      obtain⟨y,hy,e⟩:=root_in (ge_of l hp) hes
      exact⟨y,hy,by rw[e,hx,hroot']⟩
    | kid _ hk ih =>
      obtain⟨y,hy,rfl⟩:=ih
      exact k2 y hy _ hk
   obtain⟨y,hy,rfl⟩:=this
   exact List.mem_map.2 ⟨y,nodes_mem h hy,rfl⟩
 · intro hx
   obtain⟨y,hy,rfl⟩:=List.mem_map.1 hx
   exact k1 (.root hroot'.symm) y (hm y hy)
theorem reach_nodes {l:List PairL} (h:rootOk l=true):∃ L,reachedR (nodesR l) (rootR l)=some L∧L.length=(nodesR l).length:=by
 have hst:=nodes_store h
 obtain⟨hp,e,h3,hr,hm⟩:=nodes_facts h
 rw[reached_yes hst]
 by_cases h0:l=[]
 · subst h0
   have ea:allL []=[]:=build_nil 60
   refine⟨[],reach_empty (by rw[rootR,if_pos h,ea,rootOr,if_pos rfl]),?_⟩
   rw[e,ea];rfl
 · obtain⟨hroot,hne⟩:=root_ne_empty h h0
   have hL:=leads_nodes h h0 (fun x hx=>find_mem _ hr x (nodes_mem h hx))
   refine⟨(nodesR l).map (·.1),?_,by simp⟩
   unfold reachR
   rw[if_neg hne,if_pos (all_yes fun x hx=>?_),leads_is _ _ _ (by rw[List.pairwise_map];exact hr) (fun x=>(hL x).symm)]
   obtain⟨y,hy,rfl⟩:=List.mem_map.1 ((hL x).1 hx)
   unfold thereN
   rw[find_mem _ hr y hy];rfl
open Classical in
theorem led_facts {ps:List PairL} {root:Bs} (h:AllThere (kidsW ps) (thereN ps) root):(ledL (kidsW ps) root).Pairwise (· < ·)∧∀ x,x∈ledL (kidsW ps) root↔Leads (kidsW ps) root x:=by
 obtain⟨h1,h2⟩:=textsR_facts ((ps.map (·.1)).filter fun x=>decide (Leads (kidsW ps) root x))
 have h3:∀ x,x∈textsR ((ps.map (·.1)).filter fun x=>decide (Leads (kidsW ps) root x))↔Leads (kidsW ps) root x:=fun x=>by
  rw[h2,List.mem_filter,decide_eq_true_iff]
  exact⟨fun hx=>hx.2,fun hx=>⟨there_mem ps x (h x hx),hx⟩⟩
 rw[leads_is _ _ _ h1 h3]
 exact⟨h1,h3⟩
theorem reach_facts {ps : List PairL} {root : Bs} {L : List Bs} (h : reachedR ps root = some L) : storeOkL ps = true ∧ L.Pairwise (· < ·) ∧ (∀ x ∈ L, thereN ps x = true) ∧ (root = emptyL ∨ root ∈ L) := by
 unfold reachedR at h
 split at h
 · rename_i hst
   unfold reachR at h
   split at h
   · rename_i he
     cases h
     exact⟨hst,List.Pairwise.nil,fun x hx=>by simp at hx,.inl he⟩
   · split at h
     · rename_i hne ha
       cases h
       have hall:AllThere (kidsW ps) (thereN ps) root:=Classical.byContradiction fun hn=>by
        rw[all_no hn] at ha
        cases ha
       obtain⟨h1,h2⟩:=led_facts hall
       exact⟨hst,h1,fun x hx=>hall x ((h2 x).1 hx),.inr ((h2 root).2 (.root rfl))⟩
     · cases h
 · cases h
theorem reach_len {ps:List PairL} {root:Bs}:((reachedR ps root).getD []).length≤ps.length:=by
 cases h:reachedR ps root with
 | none=>simp
 | some L =>
   obtain⟨h1,h2,h3,_⟩:=reach_facts h
   have:=nodup_le L (ps.map (·.1)) (h2.imp fun {a b} hab e=>by rw[e] at hab;exact List.lt_irrefl _ hab) (fun x hx=>there_mem ps x (h3 x hx))
   simpa using this
end Go.Proofs.YtglkmlfhcggckaaGreatDoor
