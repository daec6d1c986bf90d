/-
 Texts that are laid as one: MathUni, LaidO, SNodesO, MathNs.
-/
import Derived.Test.YtckoglgcjcmmkaaGreatDoorSortAll
import Derived.Test.YtckoglgcjcmmkaaGreatDoorSMades
import Derived.Test.YtckoglgcjcmmkaaGreatDoorHashAll
namespace Go.Proofs.YtckoglgcjcmmkaaGreatDoor
open Go.RowKit
set_option linter.unusedVariables false
theorem stIns_nil (p:PairL):stIns [] p=[p]:=by
 simp[stIns,stPlace]
theorem keyAt_zero (x:PairL) (r:List PairL):keyAt (x :: r) 0=x.1:=rfl
theorem keyAt_succ (x:PairL) (r:List PairL) (k:Nat):keyAt (x :: r) (k+1)=keyAt r k:=by simp[keyAt]
theorem stIns_cons (x:PairL) (r:List PairL) (p:PairL):stIns (x :: r) p=if x.1<p.1 then x :: stIns r p else if x.1=p.1 then x :: r else p :: x :: r:=by
 by_cases h:x.1<p.1
 · rw[if_pos h]
   have hb:Op.bytesLess x.1 p.1=true:=(less_iff _ _).2 h
   unfold stIns
   simp only[stPlace,hb,if_true,List.length_cons,keyAt_succ,Nat.add_lt_add_iff_right,List.take_succ_cons,List.drop_succ_cons]
   split <;> simp
 · rw[if_neg h]
   have hb:¬ Op.bytesLess x.1 p.1=true:=fun e=>h ((less_iff _ _).1 e)
   unfold stIns
   simp only[stPlace,if_neg hb,keyAt_zero,List.length_cons,Nat.zero_lt_succ,true_and,List.take_zero,List.nil_append,List.drop_zero]
   split <;> simp
theorem stIns_mem:∀ (out:List PairL) (p x:PairL),x∈stIns out p→x=p∨x∈out
 | [],p,x,h=>by rw[stIns_nil] at h;simpa using h
 | y :: r, p, x, h => by
   rw[stIns_cons] at h
   split at h
   · rcases List.mem_cons.1 h with h | h
     · exact .inr (by simp[h])
     · rcases stIns_mem r p x h with h | h
       · exact .inl h
       · exact .inr (by simp[h])
   · split at h
     · exact .inr h
     · rcases List.mem_cons.1 h with h | h
       · exact .inl h
       · exact .inr h
theorem stIns_old:∀ (out:List PairL) (p x:PairL),x∈out→x∈stIns out p
 | [],p,x,h=>by simp at h
 | y :: r, p, x, h => by
   rw[stIns_cons]
   split
   · rcases List.mem_cons.1 h with h | h
     · simp[h]
     · exact List.mem_cons_of_mem _ (stIns_old r p x h)
   · split
     · exact h
     · exact List.mem_cons_of_mem _ h
theorem stIns_key:∀ (out:List PairL) (p:PairL),∃ y∈stIns out p,y.1=p.1
 | [],p=>⟨p,by rw[stIns_nil];simp,rfl⟩
 | y :: r, p => by
   rw[stIns_cons]
   split
   · obtain⟨z,hz,he⟩:=stIns_key r p
     exact⟨z,List.mem_cons_of_mem _ hz,he⟩
   · split
     · rename_i h;exact⟨y,by simp,h⟩
     · exact⟨p,by simp,rfl⟩
theorem stIns_rise : ∀ (out : List PairL) (p : PairL), out.Pairwise (fun x y => x.1 < y.1) → (stIns out p).Pairwise (fun x y => x.1 < y.1)
 | [],p,_=>by rw[stIns_nil];simp
 | y :: r, p, h => by
   rw[List.pairwise_cons] at h
   rw[stIns_cons]
   split
   · rename_i hlt
     rw[List.pairwise_cons]
     refine⟨fun z hz=>?_,stIns_rise r p h.2⟩
     rcases stIns_mem r p z hz with e | e
     · rw[e];exact hlt
     · exact h.1 z e
   · split
     · exact List.pairwise_cons.2 h
     · rename_i h1 h2
       have hgt:p.1<y.1:=by
        rcases tri y.1 p.1 with e | e | e
        · exact absurd e h1
        · exact absurd e h2
        · exact e
       rw[List.pairwise_cons]
       refine⟨fun z hz=>?_,List.pairwise_cons.2 h⟩
       rcases List.mem_cons.1 hz with e | e
       · rw[e];exact hgt
       · exact List.lt_trans hgt (h.1 z e)
theorem fold_facts:∀ (ns out:List PairL),out.Pairwise (fun x y=>x.1<y.1) →
 (ns.foldl stIns out).Pairwise (fun x y=>x.1<y.1)∧(∀ x∈ns.foldl stIns out,x∈ns∨x∈out)∧(∀ x∈out,x∈ns.foldl stIns out)∧∀ x∈ns,∃ y∈ns.foldl stIns out,y.1=x.1
 | [],out,h=>⟨h,fun x hx=>.inr hx,fun x hx=>hx,fun x hx=>by simp at hx⟩
 | p :: ns, out, h => by
   obtain⟨h1,h2,h3,h4⟩:=fold_facts ns (stIns out p) (stIns_rise out p h)
   refine⟨h1,fun x hx=>?_,fun x hx=>h3 x (stIns_old out p x hx),fun x hx=>?_⟩
   · rcases h2 x hx with e | e
     · exact .inl (List.mem_cons_of_mem _ e)
     · rcases stIns_mem out p x e with e | e
       · exact .inl (by simp[e])
       · exact .inr e
   · rcases List.mem_cons.1 hx with e | e
     · obtain⟨y,hy,he⟩:=stIns_key out p
       exact⟨y,h3 y hy,by rw[he,e]⟩
     · exact h4 x e
theorem sorted_facts (ns : List PairL) : (sortedL ns).Pairwise (fun x y => x.1 < y.1) ∧ (∀ x ∈ sortedL ns, x ∈ ns) ∧ ∀ x ∈ ns, ∃ y ∈ sortedL ns, y.1 = x.1 := by
 obtain⟨h1,h2,_,h4⟩:=fold_facts ns [] List.Pairwise.nil
 exact ⟨h1, fun x hx => by rcases h2 x hx with e | e
                           · exact e
                           · simp at e,h4⟩
def nodesR (ps:List PairL):List PairL:=if rootOk ps then sortedL (allL ps) else []
theorem nodesR_len (ps:List PairL):(nodesR ps).length≤3600:=by
 unfold nodesR
 split
 · rename_i h
   simp only[rootOk,Bool.and_eq_true] at h
   have h1:=all_len ps (fit_of ps h.1)
   have h2:=sorted_len (allL ps) (allL ps).length (Nat.le_refl _)
   rw[List.take_length] at h2
   omega
 · simp
set_option maxRecDepth 100000 in
set_option maxHeartbeats 1000000 in
theorem spec_nodesOf (a:Option Addr) (cp:Nat) (ps:List PairL) (w:World) (hl:ps.length≤1048576) (hm:∀ p∈ps,p.1.length≤1048576∧p.2.length≤1048576) (hs:IsPairs w a ps) :
 Calls Tryz.prog 71 #[.slice a ps.length cp] w fun e w'=>∃ (a':Option Addr) (m c:Nat),e=.returned (.tuple #[.slice a' m c,.bool (rootOk ps)])∧w'.ownsRow w.heap.size 88 2 (.slice a' m c) (nodesR ps).length (pcells (nodesR ps))∧Below w.heap.size w w':=by
 have K1:=spec_pairsOk a cp ps w hl hm hs
 cases hp:pairsOkL ps with
 | false =>
   have e1:rootOk ps=false:=by simp[rootOk,hp]
   have e3:nodesR ps=[]:=by simp[nodesR,e1]
   rw[hp] at K1
   rw[e1,e3]
   clear hs hm hp e1 e3
   go_enter Tryz.func71,Tryz.ntmps71
   go_wp2_with fail
   refine K1.mono ?_
   rintro e w1 ⟨rfl,b1⟩
   go_wp2
   go_ret2
   exact⟨none,0,0,rfl,World.ownsRow_nil _ _ _ _,b1⟩
 | true =>
   have e1:rootOk ps=madeOk (allL ps):=by simp[rootOk,hp]
   have e2:nodesR ps=if madeOk (allL ps) then sortedL (allL ps) else []:=by simp[nodesR,e1]
   rw[hp] at K1
   have HK2:Hid (∀ W,Below w.heap.size w W→_):=fun W hW=>spec_l5Made a cp ps W (fit_of ps hp) (hs.later hW)
   rw[e1,e2]
   obtain⟨r,hr⟩:∃ r,r=(if madeOk (allL ps) then rootOr (allL ps) else []):=⟨_,rfl⟩
   obtain⟨nl,hnl⟩:∃ nl,nl=(if madeOk (allL ps) then sortedL (allL ps) else []):=⟨_,rfl⟩
   obtain⟨ok,hok⟩:∃ ok,ok=madeOk (allL ps):=⟨_,rfl⟩
   rw[←hr,←hnl] at HK2
   rw[←hnl]
   rw[←hok] at HK2 ⊢
   clear hs hm hp e1 e2 hr hok hnl
   go_enter Tryz.func71,Tryz.ntmps71
   go_wp2_with fail
   refine K1.mono ?_
   rintro e w1 ⟨rfl,b1⟩
   go_wp2_with fail
   refine (HK2.out w1 b1).mono ?_
   rintro e w2 ⟨a2,m2,c2,rfl,o2,b2⟩
   have B2:=b1.trans (b2.mono b1.size)
   have O2:=hidOwn (o2.1.mono b1.size)
   clear o2 b2 K1 HK2
   go_wp2
   go_ret2
   exact⟨a2,m2,c2,rfl,O2.out,B2⟩
theorem build_small:∀ (f:Nat) (es:List PairL),Fits f es→smallE es→∀ p∈buildL f es,p.1.length≤32∧p.2.length≤33006
 | 0,es,_,_,p,hp=>by cases hp
 | f + 1, es, hf, hs, p, hp => by
   by_cases h0:es=[]
   · subst h0;rw[build_nil] at hp;cases hp
   by_cases h1:es.length=1
   · obtain⟨e,rfl⟩:=List.length_eq_one_iff.1 h1
     rw[build_one,List.mem_singleton] at hp
     subst hp
     have he:=hs e (by simp)
     exact⟨Nat.le_of_eq (sumL_len _),leaf_len e he.1 he.2⟩
   have h2:2≤es.length:=by
    have:es.length≠0:=fun e=>h0 (List.length_eq_zero_iff.1 e)
    omega
   by_cases hc:0<commonL es
   · rw[build_long f es h2 hc] at hp
     rcases List.mem_append.1 hp with h | h
     · exact build_small f _ (fits_cut hf hc) (small_cut9 hs) p h
     · rw[List.mem_singleton] at h
       subst h
       have hhd:(headP es)∈es.map (·.1):=by cases es with | nil=>exact absurd rfl h0 | cons e es=>simp[headP]
       obtain⟨e0,he0,hh0⟩:=List.mem_map.1 hhd
       refine⟨Nat.le_of_eq (sumL_len _),long_len _ _ ?_ ?_⟩
       · rw[List.length_take,←hh0];have:=(hs e0 he0).1;omega
       · have:=root_len f (cutE (commonL es) es);omega
   · rw[build_branch f es h2 hc] at hp
     rcases List.mem_append.1 hp with h | h
     · obtain⟨l,hl,hp⟩:=List.mem_flatten.1 h
       obtain⟨d,_,rfl⟩:=List.mem_map.1 hl
       exact build_small f _ (fits_grp (d:=d) hf) (small_grp hs) p hp
     · rw[List.mem_singleton] at h
       subst h
       have hk32:∀ d,(rootH (buildL f (grp d es))).length≤32:=fun d=>root_len f _
       have hfl:=hash_flat f es 16 hk32
       have hhl16:=hashTo_length f es 16
       have hv:=end_le hs
       refine⟨Nat.le_of_eq (sumL_len _),?_⟩
       have:=(listB_len (hashTo f es 16 ++ [endV es]) (by simp only[List.flatten_append,List.length_append,List.flatten_singleton];omega) (by simp[hhl16])).2
       exact this
theorem nodes_small (ps:List PairL):∀ p∈nodesR ps,p.1.length≤1048576∧p.2.length≤1048576:=fun p hp=>by
 unfold nodesR at hp
 split at hp
 · rename_i hr
   simp only[rootOk,Bool.and_eq_true] at hr
   have hfit:=fit_of ps hr.1
   have:=build_small 60 (esOf ps) (es_fits hfit) (es_small hfit) p ((sorted_facts _).2.1 p hp)
   omega
 · cases hp
theorem root_le (ps:List PairL):(rootR ps).length≤1048576:=by
 unfold rootR
 split
 · unfold rootOr
   split
   · unfold emptyL;rw[sumL_len];omega
   · have:=root_len 60 (esOf ps)
     show (rootH (buildL 60 (esOf ps))).length≤_
     omega
 · simp
end Go.Proofs.YtckoglgcjcmmkaaGreatDoor
