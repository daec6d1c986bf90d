/-
 A batch's ops on pairs, on lists.
-/
import Derived.Test.YtlllkdioojjaeaaMathSet
import Derived.Test.YtlllkdioojjaeaaMathSm
import Derived.Test.YtlllkdioojjaeaaMathOp
namespace Go.Proofs.Ytlllkdioojjaeaa
open Go.RowKit
set_option linter.unusedVariables false
def applyL (ps:List PairL) (os:List OpL):List PairL:=os.foldl (fun l o=>setL l o.1 o.2.1) ps
def applyOk (ps:List PairL) (c n:Int) (os:List OpL):Bool:=pairsOkL ps && (batchOk c n os && pairsOkL (applyL ps os))
def applyR (ps:List PairL) (c n:Int) (os:List OpL):List PairL:=if applyOk ps c n os=true then applyL ps os else []
theorem applyL_zero (ps:List PairL) (os:List OpL):applyL ps (os.take 0)=ps:=by simp[applyL]
theorem applyL_snoc (ps:List PairL) (os:List OpL) (j:Nat) (h:j<os.length):applyL ps (os.take (j+1))=setL (applyL ps (os.take j)) os[j].1 os[j].2.1:=by
 rw[List.take_succ_eq_append_getElem h,applyL,List.foldl_append];rfl
theorem applyL_app (ps:List PairL) (os os':List OpL):applyL ps (os ++ os')=applyL (applyL ps os) os':=by rw[applyL,List.foldl_append];rfl
theorem bless_iff:∀ (x y:List UInt8),Op.bytesLess x y=true↔x<y
 | _,[]=>by simp[Op.bytesLess]
 | [],_ :: _=>by simp[Op.bytesLess]
 | a :: ra, b :: rb => by
   rw[List.cons_lt_cons_iff]
   simp only[Op.bytesLess,Bool.or_eq_true,decide_eq_true_eq,Bool.and_eq_true,beq_iff_eq]
   constructor
   · rintro (h | ⟨h1,h2⟩)
     · exact .inl h
     · exact .inr ⟨h1,(bless_iff ra rb).1 h2⟩
   · rintro (h | ⟨h1,h2⟩)
     · exact .inl h
     · exact .inr ⟨h1,(bless_iff ra rb).2 h2⟩
theorem ltK_tri (a b:List UInt8):a<b∨a=b∨b<a:=by
 rcases Decidable.em (a<b) with h | h
 · exact .inl h
 · rcases Decidable.em (b<a) with h' | h'
   · exact .inr (.inr h')
   · exact .inr (.inl (List.le_antisymm (List.not_lt.1 h') (List.not_lt.1 h)))
def Rise (ps:List PairL):Prop:=ps.Pairwise (fun x y=>x.1<y.1)
theorem rise_ok {l:List PairL} (h:pairsOkL l=true):Rise l:=by
 have ho:=(pairsOk_of l h).2
 have hs:∀ i (hi:i+1<l.length),l[i].1<l[i+1].1:=fun i hi=>by
  have:=ho (i+1) hi
  simp only[okAt,Bool.and_eq_true,Bool.or_eq_true,decide_eq_true_eq] at this
  rcases this.2 with h0 | h0
  · omega
  · have h1:Op.bytesLess (keyAt l i) (keyAt l (i+1))=true:=by simpa using h0
    rw[keyAt_lt l i (by omega),keyAt_lt l (i+1) hi,bless_iff] at h1
    exact h1
 have hlt:∀ (k i:Nat) (hi:i+1+k<l.length),(l[i]'(by omega)).1<l[i+1+k].1:=by
  intro k
  induction k with
  | zero=>intro i hi;exact hs i hi
  | succ k ih=>intro i hi;exact List.lt_trans (ih i (by omega)) (hs (i+1+k) hi)
 refine List.pairwise_iff_getElem.2 fun i j hi hj hij=>?_
 have:=hlt (j - i - 1) i (by omega)
 have e:i+1+(j - i - 1)=j:=by omega
 simp only[e] at this
 exact this
def insK (k v:List UInt8):List PairL:=if v=[] then [] else [(k,v)]
def loK (k:List UInt8) (ps:List PairL):List PairL:=ps.filter (fun x=>decide (x.1<k))
def hiK (k:List UInt8) (ps:List PairL):List PairL:=ps.filter (fun x=>decide (k<x.1))
theorem fold_true {k v:List UInt8}:∀ (ps L:List PairL),ps.foldl (setStep k v) (L,true)=(L ++ ps.filter (fun x=>decide (x.1≠k)),true)
 | [],L=>by simp
 | p :: ps, L => by
   rw[List.foldl_cons,step_less k v L true p (.inl rfl),fold_true]
   by_cases e:p.1=k
   · rw[if_pos e,List.filter_cons_of_neg (by simpa using e)]
   · rw[if_neg e,List.filter_cons_of_pos (by simpa using e)];simp
theorem filter_ne {k:List UInt8} {ps:List PairL} (h:∀ x∈ps,¬ x.1<k):ps.filter (fun x=>decide (x.1≠k))=hiK k ps:=by
 unfold hiK
 refine List.filter_congr fun x hx=>?_
 have:=h x hx
 rcases ltK_tri x.1 k with h1 | h1 | h1
 · exact absurd h1 this
 · simp[h1,List.lt_irrefl]
 · have:x.1≠k:=fun e=>by rw[e] at h1;exact List.lt_irrefl _ h1
   simp[h1,this]
theorem lo_none {k:List UInt8} {ps:List PairL} (h:∀ x∈ps,¬ x.1<k):loK k ps=[]:=by
 unfold loK
 rw[List.filter_eq_nil_iff]
 intro x hx
 simpa using h x hx
theorem rise_ge {k:List UInt8} {p:PairL} {ps:List PairL} (h:Rise (p :: ps)) (hk:¬ p.1<k):∀ x∈p :: ps,¬ x.1<k:=fun x hx h'=>by
 rcases List.mem_cons.1 hx with e | e
 · rw[e] at h';exact hk h'
 · exact hk (List.lt_trans ((List.pairwise_cons.1 h).1 x e) h')
theorem fold_lohi {k v:List UInt8}:∀ (ps L:List PairL),Rise ps→(if (ps.foldl (setStep k v) (L,false)).2=true then (ps.foldl (setStep k v) (L,false)).1 else (ps.foldl (setStep k v) (L,false)).1 ++ [(k,v)])=L ++ loK k ps ++ [(k,v)] ++ hiK k ps
 | [],L,_=>by simp[loK,hiK]
 | p :: ps, L, h => by
   rw[List.foldl_cons]
   by_cases hk:p.1<k
   · have hne:p.1≠k:=fun e=>by rw[e] at hk;exact List.lt_irrefl _ hk
     have hng:¬ k<p.1:=fun e=>List.lt_irrefl _ (List.lt_trans hk e)
     rw[step_less k v L false p (.inr ((bless_iff _ _).2 hk)),if_neg hne,fold_lohi ps (L ++ [p]) (List.pairwise_cons.1 h).2]
     simp[loK,hiK,hk,hng]
   · have hb:Op.bytesLess p.1 k=false:=by
      cases hq:Op.bytesLess p.1 k with
      | false=>rfl
      | true=>exact absurd ((bless_iff _ _).1 hq) hk
     have hge:=rise_ge h hk
     rw[step_put k v L p hb,fold_true,if_pos rfl,lo_none hge]
     show (if p.1=k then L ++ [(k,v)] else L ++ [(k,v)] ++ [p]) ++ _=_
     rw[filter_ne (fun x hx=>hge x (List.mem_cons_of_mem _ hx))]
     by_cases e:p.1=k
     · rw[if_pos e];simp[hiK,e,List.lt_irrefl]
     · have hg:k<p.1:=by rcases ltK_tri p.1 k with h1 | h1 | h1;exact absurd h1 hk;exact absurd h1 e;exact h1
       rw[if_neg e];simp[hiK,hg]
theorem ne_lohi {k:List UInt8}:∀ ps:List PairL,Rise ps→ps.filter (fun x=>decide (x.1≠k))=loK k ps ++ hiK k ps
 | [],_=>by simp[loK,hiK]
 | p :: ps, h => by
   by_cases hk:p.1<k
   · have hne:p.1≠k:=fun e=>by rw[e] at hk;exact List.lt_irrefl _ hk
     have hng:¬ k<p.1:=fun e=>List.lt_irrefl _ (List.lt_trans hk e)
     rw[List.filter_cons_of_pos (by simpa using hne),ne_lohi ps (List.pairwise_cons.1 h).2]
     simp[loK,hiK,hk,hng]
   · have hge:=rise_ge h hk
     rw[filter_ne hge,lo_none hge];rfl
theorem set_lohi (ps:List PairL) (k v:List UInt8) (h:Rise ps):setL ps k v=loK k ps ++ insK k v ++ hiK k ps:=by
 unfold setL setFold insK
 by_cases hv:v=[]
 · rw[decide_eq_true hv,fold_true,if_pos rfl,if_pos hv,ne_lohi ps h];simp
 · rw[decide_eq_false hv,fold_lohi ps [] h,if_neg hv];simp
theorem mem_lo {k:List UInt8} {ps:List PairL} {x:PairL} (h:x∈loK k ps):x∈ps∧x.1<k:=by simpa [loK] using h
theorem mem_hi {k:List UInt8} {ps:List PairL} {x:PairL} (h:x∈hiK k ps):x∈ps∧k<x.1:=by simpa [hiK] using h
theorem mem_ins {k v:List UInt8} {x:PairL} (h:x∈insK k v):x.1=k:=by
 unfold insK at h
 split at h
 · simp at h
 · rw[List.mem_singleton.1 h]
theorem rise_set (ps:List PairL) (k v:List UInt8) (h:Rise ps):Rise (setL ps k v):=by
 rw[set_lohi ps k v h]
 unfold Rise
 rw[List.pairwise_append,List.pairwise_append]
 refine⟨⟨h.sublist List.filter_sublist,?_,fun a ha b hb=>by rw[mem_ins hb];exact (mem_lo ha).2⟩,h.sublist List.filter_sublist,fun a ha b hb=>?_⟩
 · unfold insK
   split
   · exact List.Pairwise.nil
   · exact List.pairwise_singleton _ _
 · rcases List.mem_append.1 ha with ha | ha
   · exact List.lt_trans (mem_lo ha).2 (mem_hi hb).2
   · rw[mem_ins ha];exact (mem_hi hb).2
theorem rise_apply (os:List OpL):∀ ps:List PairL,Rise ps→Rise (applyL ps os):=by
 induction os with
 | nil=>exact fun ps h=>h
 | cons o r ih=>exact fun ps h=>ih _ (rise_set ps _ _ h)
def inK (k:List UInt8) (ps:List PairL):Bool:=ps.any (fun x=>decide (x.1=k))
theorem inK_iff (k:List UInt8) (ps:List PairL):inK k ps=true↔∃ u,(k,u)∈ps:=by
 unfold inK
 rw[List.any_eq_true]
 exact⟨fun ⟨x,hx,e⟩=>⟨x.2,by rw[←of_decide_eq_true e];exact hx⟩,fun ⟨u,hu⟩=>⟨_,hu,by simp⟩⟩
theorem inK_cons (k:List UInt8) (p:PairL) (ps:List PairL):inK k (p :: ps)=(decide (p.1=k) || inK k ps):=rfl
theorem lohi_len {k : List UInt8} : ∀ ps : List PairL, Rise ps → (loK k ps).length + (hiK k ps).length + (if inK k ps = true then 1 else 0) = ps.length
 | [],_=>by simp[loK,hiK,inK]
 | p :: ps, h => by
   have h2:=(List.pairwise_cons.1 h).2
   have ih:=lohi_len (k:=k) ps h2
   rcases ltK_tri p.1 k with hk | hk | hk
   · have hng:¬ k<p.1:=fun e=>List.lt_irrefl _ (List.lt_trans hk e)
     have hne:p.1≠k:=fun e=>by rw[e] at hk;exact List.lt_irrefl _ hk
     have e1:loK k (p :: ps)=p :: loK k ps:=List.filter_cons_of_pos (by simpa using hk)
     have e2:hiK k (p :: ps)=hiK k ps:=List.filter_cons_of_neg (by simpa using hng)
     rw[e1,e2,inK_cons,decide_eq_false hne,Bool.false_or,List.length_cons,List.length_cons]
     omega
   · have hno:inK k ps=false:=by
      cases hq:inK k ps with
      | false=>rfl
      | true =>
        obtain⟨u,hu⟩:=(inK_iff k ps).1 hq
        have:=(List.pairwise_cons.1 h).1 _ hu
        rw[hk] at this;exact absurd this (List.lt_irrefl _)
     have e1:loK k (p :: ps)=loK k ps:=List.filter_cons_of_neg (by simp[hk,List.lt_irrefl])
     have e2:hiK k (p :: ps)=hiK k ps:=List.filter_cons_of_neg (by simp[hk,List.lt_irrefl])
     rw[hno] at ih
     rw[e1,e2,inK_cons,decide_eq_true hk,Bool.true_or,List.length_cons]
     simp only[Bool.false_eq_true,if_false,if_true] at ih ⊢
     omega
   · have hng:¬ p.1<k:=fun e=>List.lt_irrefl _ (List.lt_trans hk e)
     have hne:p.1≠k:=fun e=>by rw[e] at hk;exact List.lt_irrefl _ hk
     have e1:loK k (p :: ps)=loK k ps:=List.filter_cons_of_neg (by simpa using hng)
     have e2:hiK k (p :: ps)=p :: hiK k ps:=List.filter_cons_of_pos (by simpa using hk)
     rw[e1,e2,inK_cons,decide_eq_false hne,Bool.false_or,List.length_cons,List.length_cons]
     omega
theorem set_lenK (ps:List PairL) (k v:List UInt8) (h:Rise ps):(setL ps k v).length+(if inK k ps=true then 1 else 0)=ps.length+(if v=[] then 0 else 1):=by
 have:=lohi_len (k:=k) ps h
 rw[set_lohi ps k v h,List.length_append,List.length_append]
 unfold insK
 split
 · simp;omega
 · simp;omega
theorem set_len1 (ps:List PairL) (k v:List UInt8) (h:Rise ps):(setL ps k v).length≤ps.length+1:=by
 have:=set_lenK ps k v h
 split at this <;> split at this <;> omega
theorem apply_len (os:List OpL):∀ ps:List PairL,Rise ps→(applyL ps os).length≤ps.length+os.length:=by
 induction os with
 | nil=>intro ps _;simp[applyL]
 | cons o r ih =>
   intro ps h
   have h1:=ih _ (rise_set ps o.1 o.2.1 h)
   have h2:=set_len1 ps o.1 o.2.1 h
   simp only[applyL,List.foldl_cons,List.length_cons] at h1 ⊢
   omega
theorem apply_small (os:List OpL):∀ ps:List PairL,(∀ p∈ps,p.1.length≤1048576∧p.2.length≤1048576)→(∀ o∈os,o.1.length≤1048576∧o.2.1.length≤1048576)→∀ p∈applyL ps os,p.1.length≤1048576∧p.2.length≤1048576:=by
 induction os with
 | nil=>exact fun ps h _=>h
 | cons o r ih =>
   intro ps h ho
   refine ih _ (fun p hp=>?_) (fun x hx=>ho x (List.mem_cons_of_mem _ hx))
   rcases (set_mem ps o.1 o.2.1 p).1 hp with ⟨h1,_⟩ | ⟨_,h1⟩
   · exact h p h1
   · rw[h1];exact ho o List.mem_cons_self
theorem applyR_no {ps:List PairL} {c n:Int} {os:List OpL} (h:applyOk ps c n os=false):applyR ps c n os=[]:=by rw[applyR,h];rfl
theorem applyR_yes {ps:List PairL} {c n:Int} {os:List OpL} (h:applyOk ps c n os=true):applyR ps c n os=applyL ps os:=if_pos h
end Go.Proofs.Ytlllkdioojjaeaa
