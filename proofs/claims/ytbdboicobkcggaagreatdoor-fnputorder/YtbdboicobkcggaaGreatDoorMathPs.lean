/-
 Texts that are laid as one: MathSd, MathPt, MathGw, MathPq.
-/
import Derived.Test.YtbdboicobkcggaaGreatDoorSAdds
import Derived.Test.YtbdboicobkcggaaGreatDoorUpdAll
import Derived.Test.YtbdboicobkcggaaGreatDoorBackM
import Derived.Test.YtbdboicobkcggaaGreatDoorGatAll
import Derived.Test.YtbdboicobkcggaaGreatDoorLaidAll
import Derived.Test.YtbdboicobkcggaaGreatDoorDrawSs
namespace Go.Proofs.YtbdboicobkcggaaGreatDoor
open Go.RowKit
set_option linter.unusedVariables false
theorem store_each {ps:List PairL} (h:storeOkL ps=true):∀ p∈ps,(readNode p.2).isSome=true∧sumL p.2=p.1:=fun p hp=>by
 obtain⟨j,hj,rfl⟩:=List.getElem_of_mem hp
 simp only[storeOkL,Bool.and_eq_true,decide_eq_true_eq,List.all_eq_true,List.mem_range] at h
 have:=h.2 j hj
 unfold stOk at this
 rw[keyAt_lt ps j hj,valAt_lt ps j hj] at this
 simp only[Bool.and_eq_true,beq_iff_eq] at this
 exact⟨this.1.1,this.1.2⟩
theorem store_of {l:List PairL} (h4:l.length≤400) (hr:l.Pairwise (fun x y=>x.1<y.1)) (he:∀ p∈l,(readNode p.2).isSome=true∧sumL p.2=p.1):storeOkL l=true:=by
 refine storeOk_all _ h4 fun j hj=>?_
 obtain⟨b1,b2⟩:=he _ (List.getElem_mem (h:=hj))
 unfold stOk
 rw[valAt_lt _ j hj,keyAt_lt _ j hj,b1,b2]
 simp only[Bool.true_and,beq_self_eq_true,Bool.or_eq_true,decide_eq_true_eq]
 by_cases hz:j=0
 · exact .inl hz
 · right
   rw[keyAt_lt _ (j - 1) (by omega),less_iff]
   exact List.pairwise_iff_getElem.1 hr (j - 1) j (by omega) hj (by omega)
theorem sorted_mem {l:List PairL} (hs:∀ x∈l,∀ y∈l,x.1=y.1→x=y) (x:PairL):x∈sortedL l↔x∈l:=by
 obtain⟨_,s2,s3⟩:=sorted_facts l
 refine⟨s2 x,fun hx=>?_⟩
 obtain⟨y,hy,he⟩:=s3 x hx
 have:=hs y (s2 y hy) x hx he
 rw[←this];exact hy
theorem clash_of {ps qs:List PairL} (hp:ps.Pairwise (fun x y=>x.1<y.1)) (hs:∀ x∈ps,∀ y∈qs,x.1=y.1→x=y):clashB ps qs=false :=
 clash_all ps qs fun j hj t' ht=>by
  have h1:=(find_iff ps hp _ _).1 ht
  have:=hs _ h1 _ (List.getElem_mem (h:=hj)) rfl
  rw[←this]
structure AddF (ps qs R:List PairL):Prop where
 ok:storeOkL R=true
 swap:addOk qs ps=true∧addR qs ps=R
 again:addOk R ps=true∧addR R ps=R
 all:∀ x∈ps ++ qs,findL R x.1=some x.2
 few:R.length≤ps.length+qs.length
theorem add_facts {ps qs:List PairL} (h:addOk ps qs=true):AddF ps qs (addR ps qs):=by
 have hR:=addR_yes ps qs h
 simp only[addOk,Bool.and_eq_true,decide_eq_true_eq,Bool.not_eq_true'] at h
 obtain⟨h1,h2,h3,h4⟩:=h
 have r1:=store_rises ps h1
 have r2:=store_rises qs h2
 have hs:=union_same ps qs r1 r2 h3
 obtain⟨s1,s2,s3⟩:=sorted_facts (ps ++ qs)
 have hm:=sorted_mem hs
 rw[hR]
 have hok:storeOkL (sortedL (ps ++ qs))=true:=store_of h4 s1 fun p hp=>by
  rcases List.mem_append.1 (s2 p hp) with h | h
  · exact store_each h1 p h
  · exact store_each h2 p h
 have hs':∀ x∈qs ++ ps,∀ y∈qs ++ ps,x.1=y.1→x=y:=fun x hx y hy=>hs x (by simpa [or_comm] using hx) y (by simpa [or_comm] using hy)
 have hsw:sortedL (qs ++ ps)=sortedL (ps ++ qs):=rise_unique _ _ (sorted_facts (qs ++ ps)).1 s1 fun x=>by
  rw[sorted_mem hs' x,hm x];simp[or_comm]
 have hsa:∀ x∈sortedL (ps ++ qs) ++ ps,∀ y∈sortedL (ps ++ qs) ++ ps,x.1=y.1→x=y:=fun x hx y hy=>hs x (by
  rcases List.mem_append.1 hx with h | h
  · exact s2 x h
  · exact List.mem_append_left _ h) y (by
  rcases List.mem_append.1 hy with h | h
  · exact s2 y h
  · exact List.mem_append_left _ h)
 have hag:sortedL (sortedL (ps ++ qs) ++ ps)=sortedL (ps ++ qs):=rise_unique _ _ (sorted_facts _).1 s1 fun x=>by
  rw[sorted_mem hsa x]
  constructor
  · intro hx
    rcases List.mem_append.1 hx with h | h
    · exact h
    · exact (hm x).2 (List.mem_append_left _ h)
  · exact fun hx=>List.mem_append_left _ hx
 have o1:addOk qs ps=true:=addOk_yes qs ps h2 h1 (clash_of r2 fun x hx y hy=>hs x (List.mem_append_right _ hx) y (List.mem_append_left _ hy)) (by rw[hsw];exact h4)
 have o2:addOk (sortedL (ps ++ qs)) ps=true:=addOk_yes _ ps hok h1 (clash_of s1 fun x hx y hy=>hs x (s2 x hx) y (List.mem_append_left _ hy)) (by rw[hag];exact h4)
 refine⟨hok,⟨o1,by rw[addR_yes _ _ o1,hsw]⟩,⟨o2,by rw[addR_yes _ _ o2,hag]⟩,fun x hx=>find_mem _ s1 x ((hm x).2 hx),?_⟩
 have:=sorted_len (ps ++ qs) _ (Nat.le_refl _)
 rw[List.take_length,List.length_append] at this
 exact this
theorem setP_mem {k v:List UInt8}:∀ (ps:List PairL) (L:List PairL) (d:Bool),(d=true→(ps.foldl (setStep k v) (L,d)).2=true)∧∀ x,x∈(ps.foldl (setStep k v) (L,d)).1↔x∈L∨(x∈ps∧x.1≠k)∨(d=false∧(ps.foldl (setStep k v) (L,d)).2=true∧x=(k,v))
 | [], L, d => ⟨fun h => h, fun x => by
     constructor
     · exact .inl
     · rintro (h | ⟨h,_⟩ | ⟨h1,h2,_⟩)
       · exact h
       · simp at h
       · simp only[List.foldl_nil] at h2;rw[h1] at h2;cases h2⟩
 | p :: ps, L, d => by
   rw[List.foldl_cons]
   cases hd:(!d && !(Op.bytesLess p.1 k)) with
   | true =>
     have hdf:d=false:=by cases d <;> simp_all
     have e:setStep k v (L,d) p=(if p.1=k then L ++ [(k,v)] else L ++ [(k,v)] ++ [p],true):=by unfold setStep;rw[if_pos hd]
     rw[e]
     obtain⟨h1,h2⟩:=setP_mem (k:=k) (v:=v) ps (if p.1=k then L ++ [(k,v)] else L ++ [(k,v)] ++ [p]) true
     have h1':=h1 rfl
     refine⟨fun _=>h1',fun x=>?_⟩
     rw[h2]
     constructor
     · rintro (h | h | ⟨h,_⟩)
       · split at h
         · rcases List.mem_append.1 h with h | h
           · exact .inl h
           · exact .inr (.inr ⟨hdf,h1',List.mem_singleton.1 h⟩)
         · rename_i hk
           rcases List.mem_append.1 h with h | h
           · rcases List.mem_append.1 h with h | h
             · exact .inl h
             · exact .inr (.inr ⟨hdf,h1',List.mem_singleton.1 h⟩)
           · rw[List.mem_singleton] at h
             exact .inr (.inl ⟨by rw[h];simp,by rw[h];exact hk⟩)
       · exact .inr (.inl ⟨List.mem_cons_of_mem _ h.1,h.2⟩)
       · cases h
     · rintro (h | ⟨h,hx⟩ | ⟨_,_,h⟩)
       · left;split <;> simp[h]
       · rcases List.mem_cons.1 h with h | h
         · left;rw[if_neg (by rw[←h];exact hx),h];simp
         · exact .inr (.inl ⟨h,hx⟩)
       · left;rw[h];split <;> simp
   | false =>
     have e:setStep k v (L,d) p=(if p.1=k then L else L ++ [p],d):=by unfold setStep;rw[if_neg (by rw[hd];simp)]
     rw[e]
     obtain⟨h1,h2⟩:=setP_mem (k:=k) (v:=v) ps (if p.1=k then L else L ++ [p]) d
     refine⟨h1,fun x=>?_⟩
     rw[h2]
     constructor
     · rintro (h | h | h)
       · split at h
         · exact .inl h
         · rename_i hk
           rcases List.mem_append.1 h with h | h
           · exact .inl h
           · rw[List.mem_singleton] at h
             exact .inr (.inl ⟨by rw[h];simp,by rw[h];exact hk⟩)
       · exact .inr (.inl ⟨List.mem_cons_of_mem _ h.1,h.2⟩)
       · exact .inr (.inr h)
     · rintro (h | ⟨h,hx⟩ | h)
       · left;split <;> simp[h]
       · rcases List.mem_cons.1 h with h | h
         · left;rw[if_neg (by rw[←h];exact hx),h];simp
         · exact .inr (.inl ⟨h,hx⟩)
       · exact .inr (.inr h)
theorem set_mem (ps:List PairL) (k v:List UInt8) (x:PairL):x∈setL ps k v↔(x∈ps∧x.1≠k)∨(v≠[]∧x=(k,v)):=by
 obtain⟨h1,h2⟩:=setP_mem (k:=k) (v:=v) ps [] (decide (v=[]))
 have h1':decide (v=[])=true→(setFold k v ps).2=true:=h1
 have h2':∀ x,x∈(setFold k v ps).1↔x∈[]∨(x∈ps∧x.1≠k)∨(decide (v=[])=false∧(setFold k v ps).2=true∧x=(k,v)):=h2
 unfold setL
 by_cases hv:v=[]
 · rw[if_pos (h1' (by simpa using hv)),h2']
   simp[hv]
 · have hd:decide (v=[])=false:=by simpa using hv
   split
   · rename_i ht
     rw[h2',hd,ht]
     simp[hv]
   · rename_i ht
     rw[List.mem_append,h2',List.mem_singleton]
     simp[hv,ht]
theorem set_fil {k:List UInt8}:∀ (ps L:List PairL),ps.foldl (setStep k []) (L,true)=(L ++ ps.filter (fun x=>decide (x.1≠k)),true)
 | [],L=>by simp
 | p :: ps, L => by
   have e:setStep k [] (L,true) p=(if p.1=k then L else L ++ [p],true):=by unfold setStep;rw[if_neg (by simp)]
   rw[List.foldl_cons,e,set_fil ps]
   by_cases hk:p.1=k
   · simp[hk]
   · simp[hk]
theorem set_cutF (ps:List PairL) (k:List UInt8):setL ps k []=ps.filter (fun x=>decide (x.1≠k)):=by
 have h:setFold k [] ps=([] ++ ps.filter (fun x=>decide (x.1≠k)),true):=set_fil ps []
 unfold setL
 rw[if_pos (by rw[h]),h]
 rfl
theorem pairs_ltP {l:List PairL} (h:pairsOkL l=true):l.Pairwise (fun x y=>x.1<y.1):=by
 have hlt:∀ (k i:Nat) (hi:i+1+k<l.length),(l[i]'(by omega)).1<l[i+1+k].1:=by
  intro k
  induction k with
  | zero=>intro i hi;exact pairs_step l h i hi
  | succ k ih=>intro i hi;exact List.lt_trans (ih i (by omega)) (pairs_step l h (i+1+k) hi)
 refine List.pairwise_iff_getElem.2 fun i j hi hj hij=>?_
 have:=hlt (j - i - 1) i (by omega)
 have e:i+1+(j - i - 1)=j:=by omega
 simp only[e] at this
 exact this
theorem set_comm {l:List PairL} {k v k' v':List UInt8} (hk:k≠k') (h1:pairsOkL (setL (setL l k v) k' v')=true) (h2:pairsOkL (setL (setL l k' v') k v)=true):setL (setL l k v) k' v'=setL (setL l k' v') k v:=by
 refine rise_unique _ _ (pairs_ltP h1) (pairs_ltP h2) fun x=>?_
 rw[set_mem,set_mem,set_mem,set_mem]
 constructor
 · rintro (⟨⟨h,ha⟩ | ⟨h,ha⟩,hb⟩ | ⟨h,ha⟩)
   · exact .inl ⟨.inl ⟨h,hb⟩,ha⟩
   · exact .inr ⟨h,ha⟩
   · exact .inl ⟨.inr ⟨h,ha⟩,by rw[ha];exact fun e=>hk e.symm⟩
 · rintro (⟨⟨h,ha⟩ | ⟨h,ha⟩,hb⟩ | ⟨h,ha⟩)
   · exact .inl ⟨.inl ⟨h,hb⟩,ha⟩
   · exact .inr ⟨h,ha⟩
   · exact .inl ⟨.inr ⟨h,ha⟩,by rw[ha];exact hk⟩
theorem set_last {l:List PairL} {k v v':List UInt8} (h1:pairsOkL (setL (setL l k v) k v')=true) (h2:pairsOkL (setL l k v')=true):setL (setL l k v) k v'=setL l k v':=by
 refine rise_unique _ _ (pairs_ltP h1) (pairs_ltP h2) fun x=>?_
 rw[set_mem,set_mem,set_mem]
 constructor
 · rintro (⟨⟨h,ha⟩ | ⟨h,ha⟩,hb⟩ | h)
   · exact .inl ⟨h,ha⟩
   · exact absurd (by rw[ha]) hb
   · exact .inr h
 · rintro (⟨h,ha⟩ | h)
   · exact .inl ⟨.inl ⟨h,ha⟩,ha⟩
   · exact .inr h
theorem set_cut {l:List PairL} {k v:List UInt8} (h1:pairsOkL (setL l k [])=true) (h2:pairsOkL (setL (setL l k []) k v)=true):setL (setL (setL l k []) k v) k []=setL l k []:=by
 refine rise_unique _ _ (by rw[set_cutF];exact (pairs_ltP h2).filter _) (pairs_ltP h1) fun x=>?_
 rw[set_mem,set_mem]
 constructor
 · rintro (⟨⟨h,_⟩ | ⟨h,ha⟩,hb⟩ | ⟨h,_⟩)
   · exact h
   · exact absurd (by rw[ha]) hb
   · exact absurd rfl h
 · intro h
   have hk:x.1≠k:=by
    rcases (set_mem _ _ _ _).1 h with h | ⟨h,_⟩
    · exact h.2
    · exact absurd rfl h
   exact .inl ⟨.inl ⟨h,hk⟩,hk⟩
theorem underTo_mono {g g':List UInt8→List UInt8→Option (List PairL)} (h:∀ a b l,g a b=some l→g' a b=some l) (k:Int) (full:List UInt8) (ls:List (List UInt8)):∀ j l,underTo g k full ls j=some l→underTo g' k full ls j=some l
 | 0,l,e=>e
 | j + 1, l, e => by
   cases hj:underTo g k full ls j with
   | none=>simp only[underTo,hj] at e;cases e
   | some r =>
     have ih:=underTo_mono h k full ls j r hj
     simp only[underTo,hj] at e
     simp only[underTo,ih]
     split at e
     · rename_i h0
       rw[if_pos h0];exact e
     · rename_i h0
       rw[if_neg h0]
       rw[Option.map_eq_some_iff] at e ⊢
       obtain⟨x,hx,hl⟩:=e
       exact⟨x,h _ _ _ hx,hl⟩
theorem atF_mono {find find':List UInt8→Option (List UInt8)} (h:∀ x t,find x=some t→find' x=some t):∀ f a b l,atF find f a b=some l→atF find' f a b=some l
 | 0,a,b,l,e=>by cases e
 | f + 1, a, b, l, e => by
   cases hf:find a with
   | none=>rw[atF_none find _ a b hf] at e;cases e
   | some t =>
     simp only[atF,hf] at e
     simp only[atF,h a t hf]
     split at e
     · rename_i h0
       rw[if_pos h0]
       rw[Option.map_eq_some_iff] at e ⊢
       obtain⟨x,hx,hl⟩:=e
       exact⟨x,underTo_mono (atF_mono h f) _ _ _ _ _ hx,hl⟩
     · cases e
theorem pairsAt_mono {ps T:List PairL} {root:List UInt8} {l:List PairL} (hT:storeOkL T=true) (h:∀ x t,findL ps x=some t→findL T x=some t) (hp:pairsAtR ps root=some l):pairsAtR T root=some l:=by
 unfold pairsAtR at hp ⊢
 rw[if_pos hT]
 split at hp
 · split at hp
   · rename_i h0
     rw[if_pos h0];exact hp
   · rename_i h0
     rw[if_neg h0]
     rw[Option.bind_eq_some_iff] at hp ⊢
     obtain⟨x,hx,hl⟩:=hp
     exact⟨x,atF_mono h _ _ _ _ hx,hl⟩
 · cases hp
theorem add_sub {T qs:List PairL} (hT:storeOkL T=true) (hq:storeOkL qs=true) (hs:∀ x∈qs,findL T x.1=some x.2):addOk T qs=true:=by
 have r1:=store_rises T hT
 have hin:∀ x∈qs,x∈T:=fun x hx=>(find_iff T r1 x.1 x.2).1 (hs x hx)
 have huni:∀ x∈T,∀ y∈T,x.1=y.1→x=y:=fun x hx y hy e=>by
  have h1:=(find_iff T r1 x.1 x.2).2 hx
  have h2:=(find_iff T r1 y.1 y.2).2 hy
  rw[e,h2] at h1
  exact Prod.ext e (Option.some.inj h1).symm
 have hc:clashB T qs=false:=clash_of r1 fun x hx y hy=>huni x hx y (hin y hy)
 obtain⟨s1,s2,s3⟩:=sorted_facts (T ++ qs)
 have hlen:(sortedL (T ++ qs)).length≤T.length:=nodup_le _ _ (s1.imp fun {a b} hab e=>by rw[e] at hab;exact List.lt_irrefl _ hab) fun x hx=>by
  rcases List.mem_append.1 (s2 x hx) with h | h
  · exact h
  · exact hin x h
 have h4:T.length≤400:=by
  simp only[storeOkL,Bool.and_eq_true,decide_eq_true_eq] at hT
  exact hT.1
 simp only[addOk,hT,hq,hc,Bool.true_and,Bool.not_false,decide_eq_true_eq]
 omega
structure UpdF (ps:List PairL) (root key val:List UInt8) (T:List PairL) (next:List UInt8) (l:List PairL):Prop where
 was:pairsAtR ps root=some l
 okL:pairsOkL l=true
 okM:pairsOkL (setL l key val)=true
 rok:rootOk (setL l key val)=true
 rt:next=rootR (setL l key val)
 okT:storeOkL T=true
 more:∀ x t,findL ps x=some t→findL T x=some t
 nodes:∀ x∈nodesR (setL l key val),findL T x.1=some x.2
 now:pairsAtR T next=some (setL l key val)
 old:pairsAtR T root=some l
theorem pairsAt_store {ps:List PairL} {root:List UInt8} {l:List PairL} (h:pairsAtR ps root=some l):storeOkL ps=true:=by
 by_cases hs:storeOkL ps=true
 · exact hs
 · rw[pairsAt_no hs] at h;cases h
theorem upd_facts {ps:List PairL} {root key val:List UInt8} {T:List PairL} {next:List UInt8} (h:updR ps root key val=some (T,next)):∃ l,UpdF ps root key val T next l:=by
 unfold updR at h
 rw[Option.bind_eq_some_iff] at h
 obtain⟨l,hl,h⟩:=h
 split at h
 · rename_i hm
   unfold turnR at h
   split at h
   · rename_i hr
     simp only[Option.some.injEq,Prod.mk.injEq] at h
     obtain⟨h1,h2⟩:=h
     have A:=add_facts hr.2
     rw[h1] at A
     have hps:=pairsAt_store hl
     have r1:=store_rises ps hps
     have hmore:∀ x t,findL ps x=some t→findL T x=some t:=fun x t hx=>A.all (x,t) (List.mem_append_left _ ((find_iff ps r1 x t).1 hx))
     have hnod:∀ x∈nodesR (setL l key val),findL T x.1=some x.2:=fun x hx=>A.all x (List.mem_append_right _ hx)
     exact⟨l,hl,pairsAt_ok hl,hm,hr.1,h2.symm,A.ok,hmore,hnod,by rw[←h2];exact pairs_back_in hr.1 A.ok (fun x hx=>hnod x (nodes_mem hr.1 hx)),pairsAt_mono A.ok hmore hl⟩
   · cases h
 · cases h
theorem put_upd {ps:List PairL} {root key val:List UInt8} {r:List PairL × List UInt8} (h:putR ps root key val=some r):val≠[]∧updR ps root key val=some r:=by
 unfold putR at h
 split at h
 · cases h
 · rename_i hv
   exact⟨hv,h⟩
theorem cut_upd {ps:List PairL} {root key:List UInt8} {r:List PairL × List UInt8} (h:cutR ps root key=some r):key.length≤12∧updR ps root key []=some r:=by
 unfold cutR at h
 split at h
 · rename_i hv
   exact⟨hv,h⟩
 · cases h
theorem put_two {ps:List PairL} {root k v k' v':List UInt8} {A B A' B':List PairL} {x y p q:List UInt8} (h1:putR ps root k v=some (A,x)) (h2:putR ps root k' v'=some (B,y)) (h3:putR A x k' v'=some (A',p)) (h4:putR B y k v=some (B',q)):(k≠k'→p=q)∧(k=k'→p=y∧q=x):=by
 obtain⟨l1,f1⟩:=upd_facts (put_upd h1).2
 obtain⟨l2,f2⟩:=upd_facts (put_upd h2).2
 obtain⟨l3,f3⟩:=upd_facts (put_upd h3).2
 obtain⟨l4,f4⟩:=upd_facts (put_upd h4).2
 have e2:l2=l1:=Option.some.inj (f2.was.symm.trans f1.was)
 subst e2
 have e3:l3=setL l2 k v:=Option.some.inj (f3.was.symm.trans f1.now)
 have e4:l4=setL l2 k' v':=Option.some.inj (f4.was.symm.trans f2.now)
 subst e3
 subst e4
 refine⟨fun hk=>?_,fun hk=>?_⟩
 · rw[f3.rt,f4.rt,set_comm hk f3.okM f4.okM]
 · subst hk
   exact⟨by rw[f3.rt,f2.rt,set_last f3.okM f2.okM],by rw[f4.rt,f1.rt,set_last f4.okM f1.okM]⟩
theorem cut_two {ps:List PairL} {root k v:List UInt8} {T T2:List PairL} {next up:List UInt8} (h1:cutR ps root k=some (T,next)) (h2:putR T next k v=some (T2,up)):∃ T3,cutR T2 up k=some (T3,next):=by
 obtain⟨hk,u1⟩:=cut_upd h1
 obtain⟨l1,f1⟩:=upd_facts u1
 obtain⟨l2,f2⟩:=upd_facts (put_upd h2).2
 have e2:l2=setL l1 k []:=Option.some.inj (f2.was.symm.trans f1.now)
 subst e2
 have hadd:addOk T2 (nodesR (setL l1 k []))=true:=add_sub f2.okT (nodes_store f1.rok) fun x hx=>f2.more _ _ (f1.nodes x hx)
 refine⟨addR T2 (nodesR (setL l1 k [])),?_⟩
 unfold cutR updR
 rw[if_pos hk,f2.now,Option.bind_some,set_cut f1.okM f2.okM,if_pos f1.okM]
 unfold turnR
 rw[if_pos ⟨f1.rok,hadd⟩,←f1.rt]
theorem nibs_app (a b:List UInt8):isNibs (a ++ b)=true↔isNibs a=true∧isNibs b=true:=by simp[isNibs]
theorem pack_inj {a b:List UInt8} (ha:isNibs a=true) (hb:isNibs b=true) (ea:a.length % 2=0) (eb:b.length % 2=0) (h:pack a=pack b):a=b:=by
 rw[←nibs_pack a ea ha,←nibs_pack b eb hb,h]
theorem underTo_mem {g:List UInt8→List UInt8→Option (List PairL)} {k:Int} {full:List UInt8} {ls:List (List UInt8)}:∀ m x,underTo g k full ls m=some x→(∀ e∈x,∃ j,j<m∧ls.getD j []≠[]∧∃ lj,g (ls.getD j []) (stepK k full j)=some lj∧e∈lj)∧(∀ j,j<m→ls.getD j []≠[]→∃ lj,g (ls.getD j []) (stepK k full j)=some lj∧∀ e∈lj,e∈x)
 | 0,x,h=>by cases h;exact⟨fun e he=>by simp at he,fun j hj=>by omega⟩
 | m + 1, x, h => by
   cases hk:underTo g k full ls m with
   | none=>simp only[underTo,hk] at h;cases h
   | some y =>
     obtain⟨i1,i2⟩:=underTo_mem m y hk
     by_cases he:ls.getD m []=[]
     · rw[underTo_skip hk he] at h
       cases h
       refine⟨fun e h=>?_,fun j hj hn=>?_⟩
       · obtain⟨j,hj,r⟩:=i1 e h
         exact⟨j,by omega,r⟩
       · by_cases hjm:j=m
         · subst hjm;exact absurd he hn
         · exact i2 j (by omega) hn
     · rw [underTo_on hk he, Option.map_eq_some_iff] at h
       obtain⟨z,hz,rfl⟩:=h
       refine⟨fun e h=>?_,fun j hj hn=>?_⟩
       · rcases List.mem_append.1 h with h | h
         · obtain⟨j,hj,r⟩:=i1 e h
           exact⟨j,by omega,r⟩
         · exact⟨m,by omega,he,z,hz,h⟩
       · by_cases hjm:j=m
         · subst hjm;exact⟨z,hz,fun e h=>List.mem_append_right _ h⟩
         · obtain⟨lj,h1,h2⟩:=i2 j (by omega) hn
           exact⟨lj,h1,fun e h=>List.mem_append_left _ (h2 e h)⟩
theorem stepK_nib {k:Int} {full:List UInt8} {j:Nat} (h:isNibs full=true) (hj:j<16):isNibs (stepK k full j)=true:=by
 unfold stepK
 split
 · rw[nibs_app];refine⟨h,?_⟩
   simp[isNibs];omega
 · exact h
theorem kids_16 {n:NodeL} (h:n.ok=true):n.ls.length≤16:=by
 rcases (ok_parts n h).2.2.2 with ⟨_,h,_⟩ | ⟨_,_,_,x,h,_⟩ | ⟨_,_,h,_⟩
 · rw[h];simp
 · rw[h];simp
 · omega
theorem atF_pre (find:List UInt8→Option (List UInt8)) (hok:∀ h t,find h=some t→(nodeAt t).ok=true):∀ f h path l,atF find f h path=some l→isNibs path=true→∀ e∈l,e.2≠[]∧∃ r,isNibs r=true∧(path ++ r).length % 2=0∧e.1=pack (path ++ r)
 | 0,h,path,l,hl,hp,e,he=>by cases hl
 | f + 1, h, path, l, hl, hp, e, he => by
   cases hf:find h with
   | none=>rw[atF_none find _ h path hf] at hl;cases hl
   | some t =>
     have hno:=hok h t hf
     have ho:=ok_parts _ hno
     have h16:=kids_16 hno
     rw[atF_some find f h path t (nodeAt t).k (nodeAt t).p (nodeAt t).v (nodeAt t).ls hf rfl] at hl
     by_cases hfu:fullOk (path ++ (nodeAt t).p) (nodeAt t).v=true
     · rw [if_pos hfu, Option.map_eq_some_iff] at hl
       obtain⟨x,hx,rfl⟩:=hl
       simp only[fullOk,Bool.and_eq_true,Bool.or_eq_true,decide_eq_true_eq] at hfu
       rcases List.mem_append.1 he with h | h
       · unfold ownP at h
         split at h
         · cases h
         · rename_i hv
           simp only[List.mem_singleton] at h
           subst h
           exact⟨hv,(nodeAt t).p,ho.2.1,hfu.2.resolve_left hv,rfl⟩
       · obtain⟨j,hj,hne,lj,h1,h2⟩:=(underTo_mem _ x hx).1 e h
         have hfn:isNibs (path ++ (nodeAt t).p)=true:=(nibs_app _ _).2 ⟨hp,ho.2.1⟩
         obtain⟨hv,r,r1,r2,r3⟩:=atF_pre find hok f _ _ lj h1 (stepK_nib hfn (by omega)) e h2
         refine⟨hv,?_⟩
         unfold stepK at r2 r3
         split at r2
         · rename_i hk
           rw[if_pos hk] at r3
           refine⟨(nodeAt t).p ++ (UInt8.ofNat j :: r),?_,by simpa using r2,by rw[r3];simp⟩
           rw[nibs_app];refine⟨ho.2.1,?_⟩
           have:isNibs ([UInt8.ofNat j] ++ r)=true:=(nibs_app _ _).2 ⟨by simp[isNibs];omega,r1⟩
           exact this
         · rename_i hk
           rw[if_neg hk] at r3
           exact⟨(nodeAt t).p ++ r,(nibs_app _ _).2 ⟨ho.2.1,r1⟩,by simpa using r2,by rw[r3];simp⟩
     · rw[if_neg hfu] at hl
       cases hl
def SaysL (l:List PairL) (key:List UInt8) (r:Int × List UInt8):Prop:=(∃ v,(key,v)∈l∧v≠[]∧r=(1,v))∨((∀ v,(key,v) ∉ l)∧r=(0,[]))
theorem way_at (find : List UInt8 → Option (List UInt8)) (hok : ∀ h t, find h = some t → (nodeAt t).ok = true) : ∀ f g h path rest l, f ≤ g → atF find f h path = some l → isNibs path = true → isNibs rest = true → (path ++ rest).length % 2 = 0 → SaysL l (pack (path ++ rest)) (wayL find g h rest).2
 | 0,g,h,path,rest,l,hg,hl,hp,hr,hev=>by cases hl
 | f+1,0,h,path,rest,l,hg,hl,hp,hr,hev=>by omega
 | f + 1, g + 1, h, path, rest, l, hg, hl, hp, hr, hev => by
   cases hf:find h with
   | none=>rw[atF_none find _ h path hf] at hl;cases hl
   | some t =>
     have hno:=hok h t hf
     have ho:=ok_parts _ hno
     have hpr:=atF_pre find hok (f+1) h path l hl hp
     have hall:isNibs (path ++ rest)=true:=(nibs_app _ _).2 ⟨hp,hr⟩
     rw[atF_some find f h path t (nodeAt t).k (nodeAt t).p (nodeAt t).v (nodeAt t).ls hf rfl] at hl
     by_cases hfu:fullOk (path ++ (nodeAt t).p) (nodeAt t).v=true
     case neg=>rw[if_neg hfu] at hl;cases hl
     rw[if_pos hfu,Option.map_eq_some_iff] at hl
     obtain⟨x,hx,rfl⟩:=hl
     simp only[fullOk,Bool.and_eq_true,Bool.or_eq_true,decide_eq_true_eq] at hfu
     rcases hnd:nodeAt t with ⟨k,p,ls,v⟩
     rw[hnd] at ho hx hfu hpr hno
     obtain⟨o1,o2,o3,o4⟩:=ho
     simp only at o1 o2 o3 o4 hx hfu hpr
     have hU:=underTo_mem _ x hx
     rcases o4 with ⟨rfl,rfl,hv⟩ | ⟨rfl,hpn,rfl,y,rfl,hy⟩ | ⟨rfl,rfl,h16,hks⟩
     · have hxe:x=[]:=by simpa [underTo] using hx.symm
       subst hxe
       have hown:ownP (path ++ p) v=[(pack (path ++ p),v)]:=by unfold ownP;rw[if_neg hv]
       simp only[hown,List.append_nil]
       by_cases he:p=rest
       · subst he
         rw[wayL_ends find g h p t 1 v hf (by rw[hnd];simp[stepL])]
         exact .inl ⟨v,by simp,hv,rfl⟩
       · rw[wayL_ends find g h rest t 0 [] hf (by rw[hnd];simp[stepL,he])]
         refine .inr ⟨fun v' h'=>?_,rfl⟩
         simp only[List.mem_singleton,Prod.mk.injEq] at h'
         have:=pack_inj hall ((nibs_app _ _).2 ⟨hp,o2⟩) hev (hfu.2.resolve_left hv) h'.1
         exact he (List.append_cancel_left this).symm
     · have hown:ownP (path ++ p) []=[]:=by simp[ownP]
       simp only[hown,List.nil_append]
       have hyn:y≠[]:=fun e=>by subst e;simp at hy
       obtain⟨lj,h1,h2⟩:=hU.2 0 (by simp) hyn
       have hst:stepK 2 (path ++ p) 0=path ++ p:=by simp[stepK]
       have h3:∀ e∈x,e∈lj:=fun e he=>by
        obtain⟨j,hj,_,lj',h1',h2'⟩:=hU.1 e he
        obtain rfl:j=0:=by simpa using hj
        rw[h1] at h1';cases h1';exact h2'
       rw[hst] at h1
       have hpp:isNibs (path ++ p)=true:=(nibs_app _ _).2 ⟨hp,o2⟩
       by_cases he:rest.take p.length=p
       · rw[wayL_on find g h rest t y (rest.drop p.length) hf (by rw[hnd];simp[stepL,he])]
         have hrr:rest=p ++ rest.drop p.length:=by conv=>lhs;rw[←List.take_append_drop p.length rest,he]
         have hnr:isNibs (rest.drop p.length)=true:=by rw[hrr,nibs_app] at hr;exact hr.2
         have e0:path ++ p ++ rest.drop p.length=path ++ rest:=by rw[List.append_assoc,←hrr]
         have IH:=way_at find hok f g y (path ++ p) (rest.drop p.length) lj (by omega) h1 hpp hnr (by rw[e0];exact hev)
         rw[e0] at IH
         rcases IH with ⟨v,m1,m2,m3⟩ | ⟨m1,m2⟩
         · exact .inl ⟨v,h2 _ m1,m2,m3⟩
         · exact .inr ⟨fun v hm=>m1 v (h3 _ hm),m2⟩
       · rw[wayL_ends find g h rest t 0 [] hf (by rw[hnd];simp[stepL,he])]
         refine .inr ⟨fun v' h'=>?_,rfl⟩
         obtain⟨_,r,r1,r2,r3⟩:=atF_pre find hok f y (path ++ p) lj h1 hpp _ (h3 _ h')
         have:=pack_inj hall ((nibs_app _ _).2 ⟨hpp,r1⟩) hev r2 r3
         rw[List.append_assoc] at this
         have:=List.append_cancel_left this
         exact he (by rw[this];simp)
     · simp only [List.append_nil] at hx hU hfu ⊢
       have kidE:∀ e∈x,∃ j,j<16∧ls.getD j []≠[]∧∃ lj,atF find f (ls.getD j []) (path ++ [UInt8.ofNat j])=some lj∧e∈lj:=fun e he=>by
        obtain⟨j,hj,hn,lj,q1,q2⟩:=hU.1 e he
        exact⟨j,by omega,hn,lj,by simpa [stepK] using q1,q2⟩
       have nj:∀ j,j<16→isNibs (path ++ [UInt8.ofNat j])=true:=fun j hj=>(nibs_app _ _).2 ⟨hp,by simp[isNibs];omega⟩
       have kidK:∀ v',(pack (path ++ rest),v')∈x→∃ j r,j<16∧ls.getD j []≠[]∧rest=UInt8.ofNat j :: r∧∃ lj,atF find f (ls.getD j []) (path ++ [UInt8.ofNat j])=some lj∧(pack (path ++ rest),v')∈lj:=fun v' h'=>by
        obtain⟨j,hj,hn,lj,q1,q2⟩:=kidE _ h'
        obtain⟨_,r,r1,r2,r3⟩:=atF_pre find hok f _ _ lj q1 (nj j hj) _ q2
        have:=pack_inj hall ((nibs_app _ _).2 ⟨nj j hj,r1⟩) hev r2 r3
        rw[List.append_assoc] at this
        exact⟨j,r,hj,hn,by simpa using List.append_cancel_left this,lj,q1,q2⟩
       cases rest with
       | nil =>
         rw[List.append_nil] at hall hev kidK ⊢
         by_cases hv:v=[]
         · rw[wayL_ends find g h [] t 0 [] hf (by rw[hnd];simp[stepL,hv])]
           refine .inr ⟨fun v' h'=>?_,rfl⟩
           rw[hv] at h'
           have h':(pack path,v')∈x:=by simpa [ownP] using h'
           obtain⟨j,r,_,_,e,_⟩:=kidK v' h'
           cases e
         · rw[wayL_ends find g h [] t 1 v hf (by rw[hnd];simp[stepL,hv])]
           exact .inl ⟨v,List.mem_append_left _ (by simp[ownP,hv]),hv,rfl⟩
       | cons b r =>
         have notOwn:∀ v',(pack (path ++ b :: r),v')∈ownP path v→False:=fun v' h'=>by
          unfold ownP at h'
          split at h'
          · cases h'
          · rename_i hv
            simp only[List.mem_singleton,Prod.mk.injEq] at h'
            have:=pack_inj hall hp hev (hfu.2.resolve_left hv) h'.1
            simp at this
         have hb:b.toNat<16:=by
          rw[nibs_app] at hall
          have:=hall.2
          simp[isNibs] at this
          omega
         have hbb:UInt8.ofNat b.toNat=b:=by simp
         by_cases hk:ls.getD b.toNat []=[]
         · rw[wayL_ends find g h (b :: r) t 0 [] hf (by rw[hnd];simp only[stepL];rw[if_neg (by decide),if_neg (by decide),if_pos hk])]
           refine .inr ⟨fun v' h'=>?_,rfl⟩
           rcases List.mem_append.1 h' with h' | h'
           · exact notOwn v' h'
           · obtain⟨j,r',hj,hn,e,_⟩:=kidK v' h'
             simp only[List.cons.injEq] at e
             rw[e.1] at hk
             have:(UInt8.ofNat j).toNat=j:=by simp;omega
             rw[this] at hk
             exact hn hk
         · rw [wayL_on find g h (b :: r) t (ls.getD b.toNat []) r hf (by rw [hnd]; simp only [stepL]; rw [if_neg (by decide), if_neg (by decide), if_neg hk])]
           obtain⟨lj,h1,h2⟩:=hU.2 b.toNat (by omega) hk
           have hst:stepK 3 path b.toNat=path ++ [b]:=by simp[stepK]
           rw[hst] at h1
           have hnb:isNibs (path ++ [b])=true∧isNibs r=true:=by
            have:isNibs (path ++ [b] ++ r)=true:=by simpa using hall
            exact (nibs_app _ _).1 this
           have e0:path ++ [b] ++ r=path ++ b :: r:=by simp
           have IH:=way_at find hok f g (ls.getD b.toNat []) (path ++ [b]) r lj (by omega) h1 hnb.1 hnb.2 (by rw[e0];exact hev)
           rw[e0] at IH
           rcases IH with ⟨v',m1,m2,m3⟩ | ⟨m1,m2⟩
           · exact .inl ⟨v',List.mem_append_right _ (h2 _ m1),m2,m3⟩
           · refine .inr ⟨fun v' hm=>?_,m2⟩
             rcases List.mem_append.1 hm with hm | hm
             · exact notOwn v' hm
             · obtain⟨j,r',hj,hn,e,lj',q1,q2⟩:=kidK v' hm
               simp only[List.cons.injEq] at e
               have hjb:j=b.toNat:=by rw[e.1];simp;omega
               rw[hjb] at q1
               rw[hbb,h1] at q1
               cases q1
               exact m1 v' q2
theorem find_nodesW {ps:List PairL} (hs:storeOkL ps=true):∀ h t,findL ps h=some t→(nodeAt t).ok=true:=fun h t hf=>by
 obtain⟨_,_,_,_,hr⟩:=findL_ok ps hs h t hf
 exact nodeAt_ok t hr
theorem pairsLt_step {l:List PairL} (h:pairsOkL l=true) (i:Nat):∀ d,i+1+d<l.length→Op.bytesLess (keyAt l i) (keyAt l (i+1+d))=true
 | 0, hd => by
   have:=(pairsOk_of l h).2 (i+1) (by omega)
   simp only[okAt,Bool.and_eq_true,Bool.or_eq_true,decide_eq_true_eq] at this
   simpa using this.2
 | d + 1, hd => by
   have h1:=pairsLt_step h i d (by omega)
   have:=(pairsOk_of l h).2 (i+1+d+1) (by omega)
   simp only[okAt,Bool.and_eq_true,Bool.or_eq_true,decide_eq_true_eq] at this
   have h2:Op.bytesLess (keyAt l (i+1+d)) (keyAt l (i+1+d+1))=true:=by simpa using this.2
   exact stLess_trans _ _ _ h1 h2
theorem pairs_lt {l:List PairL} (h:pairsOkL l=true):l.Pairwise (fun x y=>x.1<y.1):=by
 rw[List.pairwise_iff_getElem]
 intro i j hi hj hij
 have:=pairsLt_step h i (j - i - 1) (by omega)
 rw[show i+1+(j - i - 1)=j by omega,keyAt_lt l i hi,keyAt_lt l j hj] at this
 exact (less_iff _ _).1 this
theorem get_at {ps : List PairL} {root key : List UInt8} {l : List PairL} (hk : key.length ≤ 12) (h : pairsAtR ps root = some l) : getV ps root key = (findL l key).getD [] ∧ getC ps root key = if (findL l key).getD [] = [] then 0 else 1 := by
 by_cases hs:storeOkL ps=true
 case neg=>rw[pairsAt_no hs] at h;cases h
 by_cases he:root=emptyL
 · rw[pairsAt_empty hs he] at h
   cases h
   have h32:root.length=32:=by rw[he];exact sumL_len _
   have hg:getOkL ps root key=true:=by simp[getOkL,hs,h32,hk]
   have hw:walkL ps root key=([],0,[]):=if_pos he
   unfold getV getC
   rw[if_pos hg,if_pos hg,hw]
   exact⟨rfl,rfl⟩
 · cases ha:atF (findL ps) 26 root [] with
   | none=>rw[pairsAt_lost hs he (.inl ha)] at h;cases h
   | some l' =>
     rw[pairsAt_some hs he ha] at h
     split at h
     case isFalse=>cases h
     rename_i hr
     cases h
     have hf:∃ t,findL ps root=some t:=by
      cases hf:findL ps root with
      | none=>rw[atF_none _ _ _ _ hf] at ha;cases ha
      | some t=>exact⟨t,rfl⟩
     obtain⟨t,hf⟩:=hf
     have h32:root.length=32:=by
      obtain⟨j,hj,q,_⟩:=findL_ok ps hs root t hf
      rw[←q,keyAt_lt _ _ hj]
      exact storeOk_32 ps hs _ (List.getElem_mem _)
     have hg:getOkL ps root key=true:=by simp[getOkL,hs,h32,hk]
     have hw:walkL ps root key=wayL (findL ps) 30 root (nibs key):=if_neg he
     have hpo:pairsOkL l=true:=by have:=hr.1;simp only[rootOk,Bool.and_eq_true] at this;exact this.1
     have hri:=pairs_lt hpo
     have W:=way_at _ (find_nodesW hs) 26 30 root [] (nibs key) l (by omega) ha rfl (nibs_nibs key) (by rw[List.nil_append,nibs_length];omega)
     rw[List.nil_append,pack_nibs] at W
     unfold getV getC
     rw[if_pos hg,if_pos hg,hw]
     rcases W with ⟨v,m1,m2,m3⟩ | ⟨m1,m3⟩
     · have hfv:findL l key=some v:=find_mem l hri (key,v) m1
       rw[m3,hfv]
       exact⟨rfl,(if_neg m2).symm⟩
     · have hfv:findL l key=none:=by
        cases hq:findL l key with
        | none=>rfl
        | some v =>
          exfalso
          unfold findL at hq
          rw[Option.map_eq_some_iff] at hq
          obtain⟨e,he1,he2⟩:=hq
          have h1:=List.mem_of_find?_eq_some he1
          have h2:=List.find?_some he1
          simp only[beq_iff_eq] at h2
          exact m1 e.2 (by rw[←h2];exact h1)
       rw[m3,hfv]
       exact⟨rfl,rfl⟩
def smL (l:List PairL):Prop:=∀ p∈l,p.1.length≤1048576∧p.2.length≤1048576
theorem sm_pairs {l:List PairL} (h:pairsOkL l=true):smL l:=fun p hp=>by have:=(fit_of l h).2 p hp;omega
theorem upd_small {ps:List PairL} {root key val:List UInt8} {T:List PairL} {next:List UInt8} (hps:smL ps) (h:updR ps root key val=some (T,next)):smL T∧T.length≤400∧next.length≤1048576:=by
 unfold updR at h
 rw[Option.bind_eq_some_iff] at h
 obtain⟨l,hl,h⟩:=h
 split at h
 · unfold turnR at h
   split at h
   · simp only[Option.some.injEq,Prod.mk.injEq] at h
     obtain⟨h1,h2⟩:=h
     have:=add_small hps (nodes_small (setL l key val))
     rw[h1] at this
     exact⟨this.1,this.2,by rw[←h2];exact root_le _⟩
   · cases h
 · cases h
theorem put_law {ps:List PairL} {rt key val:List UInt8} {T:List PairL} {nx:List UInt8} (hps:smL ps) (hk:key.length≤12) (h:putR ps rt key val=some (T,nx)) :
 smL T∧T.length≤400∧nx.length≤1048576∧∃ l m,pairsAtR ps rt=some l∧l.length≤60∧smL l∧setOk l key val=true∧setR l key val=m∧m.length≤60∧smL m∧rootOk m=true∧rootR m=nx∧getC T nx key=1∧getV T nx key=val∧pairsAtR T rt=some l:=by
 obtain⟨hv,hu⟩:=put_upd h
 obtain⟨s1,s2,s3⟩:=upd_small hps hu
 obtain⟨l,f⟩:=upd_facts hu
 have hso:setOk l key val=true:=by simp[setOk,f.okL,f.okM]
 have hsr:setR l key val=setL l key val:=if_pos hso
 have hf:findL (setL l key val) key=some val:=find_mem (setL l key val) (pairs_ltP f.okM) (key,val) ((set_mem _ _ _ _).2 (.inr ⟨hv,rfl⟩))
 obtain⟨g1,g2⟩:=get_at hk f.now
 rw[hf] at g1 g2
 rw[if_neg (by simpa using hv)] at g2
 exact⟨s1,s2,s3,l,_,f.was,(fit_of l f.okL).1,sm_pairs f.okL,hso,hsr,(fit_of _ f.okM).1,sm_pairs f.okM,f.rok,f.rt.symm,g2,g1,f.old⟩
theorem cut_law {ps:List PairL} {rt key:List UInt8} {T:List PairL} {nx:List UInt8} (hps:smL ps) (h:cutR ps rt key=some (T,nx)) :
 smL T∧T.length≤400∧nx.length≤1048576∧∃ l m,pairsAtR ps rt=some l∧l.length≤60∧smL l∧setOk l key []=true∧setR l key []=m∧m.length≤60∧smL m∧rootOk m=true∧rootR m=nx:=by
 obtain⟨hk,hu⟩:=cut_upd h
 obtain⟨s1,s2,s3⟩:=upd_small hps hu
 obtain⟨l,f⟩:=upd_facts hu
 have hso:setOk l key []=true:=by simp[setOk,f.okL,f.okM]
 exact⟨s1,s2,s3,l,_,f.was,(fit_of l f.okL).1,sm_pairs f.okL,hso,if_pos hso,(fit_of _ f.okM).1,sm_pairs f.okM,f.rok,f.rt.symm⟩
theorem put_small {ps:List PairL} {rt key val:List UInt8} {T:List PairL} {nx:List UInt8} (hps:smL ps) (h:putR ps rt key val=some (T,nx)):smL T∧T.length≤400∧nx.length≤1048576:=upd_small hps (put_upd h).2
end Go.Proofs.YtbdboicobkcggaaGreatDoor
