/-
 Texts that are laid as one: MathSd, MathPr.
-/
import Derived.Test.YtokfcfcdfhoejaaGreatDoorSAdds
import Derived.Test.YtokfcfcdfhoejaaGreatDoorReaches
import Derived.Test.YtokfcfcdfhoejaaGreatDoorPrunes
import Derived.Test.YtokfcfcdfhoejaaGreatDoorGatAll
namespace Go.Proofs.YtokfcfcdfhoejaaGreatDoor
open Go.RowKit
set_option linter.unusedVariables false
theorem store_each {ps:List PairL} (h:storeOkL ps=true):∀ p∈ps,(readNode p.2).isSome=true∧sumL p.2=p.1:=fun p hp=>by
 obtain⟨j,hj,rfl⟩:=List.getElem_of_mem hp
 simp only[storeOkL,Bool.and_eq_true,decide_eq_true_eq,List.all_eq_true,List.mem_range] at h
 have:=h.2 j hj
 unfold stOk at this
 rw[keyAt_lt ps j hj,valAt_lt ps j hj] at this
 simp only[Bool.and_eq_true,beq_iff_eq] at this
 exact⟨this.1.1,this.1.2⟩
theorem store_of {l:List PairL} (h4:l.length≤400) (hr:l.Pairwise (fun x y=>x.1<y.1)) (he:∀ p∈l,(readNode p.2).isSome=true∧sumL p.2=p.1):storeOkL l=true:=by
 refine storeOk_all _ h4 fun j hj=>?_
 obtain⟨b1,b2⟩:=he _ (List.getElem_mem (h:=hj))
 unfold stOk
 rw[valAt_lt _ j hj,keyAt_lt _ j hj,b1,b2]
 simp only[Bool.true_and,beq_self_eq_true,Bool.or_eq_true,decide_eq_true_eq]
 by_cases hz:j=0
 · exact .inl hz
 · right
   rw[keyAt_lt _ (j - 1) (by omega),less_iff]
   exact List.pairwise_iff_getElem.1 hr (j - 1) j (by omega) hj (by omega)
theorem leads_trans {kids:Bs→List Bs} {R:Bs→Prop} {y x:Bs} (hy:LeadsR kids R y) (hx:LeadsR kids (· = y) x):LeadsR kids R x:=by
 induction hx with
 | root h=>rw[h];exact hy
 | kid _ hk ih=>exact .kid ih hk
theorem underTo_congr {g g':List UInt8→List UInt8→Option (List PairL)} {k:Int} {full:List UInt8} {ls:List (List UInt8)}:∀ n,(∀ j,j<n→ls.getD j []≠[]→∀ b,g (ls.getD j []) b=g' (ls.getD j []) b)→underTo g k full ls n=underTo g' k full ls n
 | 0,_=>rfl
 | n + 1, h => by
   have ih:=underTo_congr (g:=g) (g':=g') (k:=k) (full:=full) (ls:=ls) n (fun j hj=>h j (by omega))
   unfold underTo
   rw[ih]
   cases underTo g' k full ls n with
   | none=>rfl
   | some l =>
     show (if ls.getD n []=[] then some l else _)=(if ls.getD n []=[] then some l else _)
     by_cases h0:ls.getD n []=[]
     · rw[if_pos h0,if_pos h0]
     · rw[if_neg h0,if_neg h0,h n (by omega) h0]
theorem atF_led {ps:List PairL} {find':List UInt8→Option (List UInt8)}:∀ (f:Nat) (h path:List UInt8),(∀ x,LeadsR (kidsW ps) (· = h) x→find' x=findL ps x)→atF find' f h path=atF (findL ps) f h path
 | 0,h,path,_=>rfl
 | f + 1, h, path, hl => by
   have h0:=hl h (.root rfl)
   cases hf:findL ps h with
   | none=>rw[atF_none _ _ _ _ hf,atF_none _ _ _ _ (h0.trans hf)]
   | some t =>
     have hn:nodeAt t=⟨(nodeAt t).k,(nodeAt t).p,(nodeAt t).ls,(nodeAt t).v⟩:=rfl
     have hkw:=kidsW_some hf hn
     rw[atF_some _ f h path t _ _ _ _ hf hn,atF_some _ f h path t _ _ _ _ (h0.trans hf) hn]
     rw[underTo_congr (g:=atF find' f) (g':=atF (findL ps) f) (nodeAt t).ls.length]
     intro j hj hne b
     refine atF_led f _ b fun x hx=>hl x (leads_trans (.kid (.root rfl) ?_) hx)
     rw[hkw]
     refine List.mem_filter.2 ⟨?_,?_⟩
     · have:(nodeAt t).ls.getD j []=(nodeAt t).ls[j]:=by simp[hj]
       rw[this];exact List.getElem_mem _
     · cases hq:(nodeAt t).ls.getD j [] with
       | nil=>exact absurd hq hne
       | cons _ _=>rfl
open Classical in
theorem led_congr {k1 k2:Bs→List Bs} {r:Bs} (h:∀ x,Leads k1 r x↔Leads k2 r x):ledL k1 r=ledL k2 r:=by
 have e:LeadsR k1 (· = r)=LeadsR k2 (· = r):=funext fun x=>propext (h x)
 unfold ledL
 show (if h:∃ L:List Bs,L.Pairwise (· < ·)∧∀ x,x∈L↔LeadsR k1 (· = r) x then h.choose else [])=(if h:∃ L:List Bs,L.Pairwise (· < ·)∧∀ x,x∈L↔LeadsR k2 (· = r) x then h.choose else [])
 rw[e]
structure PrF (ps:List PairL) (rts:List Bs) (q:List PairL):Prop where
 okP:storeOkL ps=true
 ok:storeOkL q=true
 few:q.length≤ps.length
 sub:∀ p∈q,p∈ps
 led:∀ r∈rts,∃ A,reachedR ps r=some A∧reachedR q r=some A
 pairs:∀ r∈rts,pairsAtR q r=pairsAtR ps r
 again:prunedR q rts=some q
 most:q.length≤(keepR ps rts).length
theorem pruned_facts {ps:List PairL} {rts:List Bs} {q:List PairL} (h:prunedR ps rts=some q):PrF ps rts q:=by
 unfold prunedR at h
 split at h
 · rename_i h0
   obtain⟨h1,h2,h3⟩:=h0
   rw[List.all_eq_true] at h3
   have hq:q=ps.filter fun p=>(keepR ps rts).contains p.1:=(Option.some.inj h).symm
   have r1:=store_rises ps h1
   have hsub:∀ p∈q,p∈ps:=fun p hp=>by rw[hq] at hp;exact (List.mem_filter.1 hp).1
   have hkey:∀ p∈q,p.1∈keepR ps rts:=fun p hp=>by rw[hq] at hp;simpa using (List.mem_filter.1 hp).2
   have r2:q.Pairwise (fun x y=>x.1<y.1):=by rw[hq];exact r1.filter _
   have hfew:q.length≤ps.length:=by rw[hq];exact List.length_filter_le _ _
   have h4:=store_400P ps h1
   have hok:storeOkL q=true:=store_of (by omega) r2 fun p hp=>store_each h1 p (hsub p hp)
   have hin:∀ r∈rts,∀ x∈(reachR ps r).getD [],x∈keepR ps rts:=fun r hr x hx=>List.mem_flatMap.2 ⟨r,hr,hx⟩
   have hth:∀ x∈keepR ps rts,findL q x=findL ps x∧thereN ps x=true:=fun x hx=>by
    obtain⟨r,hr,hxr⟩:=List.mem_flatMap.1 hx
    have hs:=h3 r hr
    have hne:¬ r=emptyL:=fun e=>by rw[reach_empty' e] at hxr;simp at hxr
    obtain⟨l1,l2⟩:=reach_leads hs hne
    have ht:=l2 x ((l1 x).1 hxr)
    refine⟨?_,ht⟩
    unfold thereN at ht
    obtain⟨t,ht⟩:=Option.isSome_iff_exists.1 ht
    rw[ht,find_iff q r2,hq]
    exact List.mem_filter.2 ⟨(find_iff ps r1 x t).1 ht,by simpa using hx⟩
   have hkids:∀ x∈keepR ps rts,kidsW q x=kidsW ps x:=fun x hx=>by unfold kidsW;rw[(hth x hx).1]
   have hboth:∀ r∈rts,¬ r=emptyL→(∀ x,Leads (kidsW q) r x↔Leads (kidsW ps) r x)∧(∀ x,Leads (kidsW ps) r x→x∈keepR ps rts):=fun r hr hne=>by
    obtain⟨l1,l2⟩:=reach_leads (h3 r hr) hne
    have hk:∀ x,Leads (kidsW ps) r x→x∈keepR ps rts:=fun x hx=>hin r hr x ((l1 x).2 hx)
    refine⟨fun x=>⟨fun hx=>?_,fun hx=>?_⟩,hk⟩
    · induction hx with
      | root h=>exact .root h
      | kid _ hy ih=>exact .kid ih (by rw[←hkids _ (hk _ ih)];exact hy)
    · induction hx with
      | root h=>exact .root h
      | kid hl hy ih=>exact .kid ih (by rw[hkids _ (hk _ hl)];exact hy)
   have hreach:∀ r∈rts,reachR q r=reachR ps r:=fun r hr=>by
    by_cases hne:r=emptyL
    · rw[reach_empty' hne,reach_empty' hne]
    · obtain⟨b1,b2⟩:=hboth r hr hne
      obtain⟨l1,l2⟩:=reach_leads (h3 r hr) hne
      have hA:AllThere (kidsW q) (thereN q) r:=fun x hx=>by
       have hx':=(b1 x).1 hx
       have hk:=hth x (b2 x hx')
       unfold thereN
       rw[hk.1];exact hk.2
      unfold reachR
      rw[if_neg hne,if_neg hne,if_pos (all_yes hA),if_pos (all_yes l2),led_congr b1]
   have hkeep:keepR q rts=keepR ps rts:=by
    unfold keepR
    have:∀ (l:List Bs),(∀ r∈l,r∈rts)→(l.flatMap fun r=>(reachR q r).getD [])=l.flatMap fun r=>(reachR ps r).getD []:=by
     intro l
     induction l with
     | nil=>intro _;rfl
     | cons r l ih =>
       intro hl
       rw[List.flatMap_cons,List.flatMap_cons,ih (fun x hx=>hl x (List.mem_cons_of_mem _ hx)),hreach r (hl r (by simp))]
    exact this rts fun r hr=>hr
   refine⟨h1,hok,hfew,hsub,fun r hr=>?_,fun r hr=>?_,?_,?_⟩
   · obtain⟨A,hA⟩:=Option.isSome_iff_exists.1 (h3 r hr)
     refine⟨A,?_,?_⟩
     · rw[reached_yes h1];exact hA
     · rw[reached_yes hok,hreach r hr];exact hA
   · unfold pairsAtR
     rw[if_pos hok,if_pos h1]
     by_cases hne:r=emptyL
     · rw[if_pos hne,if_pos hne]
     · obtain⟨b1,b2⟩:=hboth r hr hne
       rw[if_neg hne,if_neg hne,atF_led 26 r [] fun x hx=>(hth x (b2 x hx)).1]
   · have:=pruned_yes (ps:=q) (rts:=rts) hok h2 (fun r hr=>by rw[hreach r hr];exact h3 r hr)
     rw[this,hkeep]
     congr 1
     rw[List.filter_eq_self]
     intro p hp
     simpa using hkey p hp
   · have:=nodup_le (q.map (·.1)) (keepR ps rts) (by
      rw[List.pairwise_map]
      exact r2.imp fun {a b} hab e=>by rw[e] at hab;exact List.lt_irrefl _ hab) (fun x hx=>by
      obtain⟨p,hp,rfl⟩:=List.mem_map.1 hx
      exact hkey p hp)
     simpa using this
 · cases h
end Go.Proofs.YtokfcfcdfhoejaaGreatDoor
