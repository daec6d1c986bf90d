/-
 A batch in two parts, on lists.
-/
import Derived.Test.YtdcmncjoppmlhaaMathAp
namespace Go.Proofs.Ytdcmncjoppmlhaa
open Go.RowKit
set_option linter.unusedVariables false
def smallQ (p:PairL):Prop:=p.1.length≤12∧p.2≠[]∧p.2.length≤60
theorem pairs_small {l:List PairL} (h:pairsOkL l=true):∀ p∈l,smallQ p:=fun p hp=>by
 obtain⟨j,hj,rfl⟩:=List.mem_iff_getElem.1 hp
 have:=(pairsOk_of l h).2 j hj
 simp only[okAt,Bool.and_eq_true,decide_eq_true_eq,keyAt_lt l j hj,valAt_lt l j hj] at this
 exact⟨this.1.1.1,List.ne_nil_of_length_pos this.1.1.2,this.1.2⟩
theorem pairs_ok {l:List PairL} (h60:l.length≤60) (hr:Rise l) (hs:∀ p∈l,smallQ p):pairsOkL l=true:=by
 refine pairsOk_all l h60 fun j hj=>?_
 obtain⟨h1,h2,h3⟩:=hs l[j] (List.getElem_mem _)
 have h4:=List.length_pos_iff.2 h2
 simp only[okAt,Bool.and_eq_true,Bool.or_eq_true,decide_eq_true_eq,keyAt_lt l j hj,valAt_lt l j hj]
 refine⟨⟨⟨h1,h4⟩,h3⟩,?_⟩
 by_cases e:j=0
 · exact .inl e
 · right
   rw[keyAt_lt l (j - 1) (by omega),bless_iff]
   exact List.pairwise_iff_getElem.1 hr (j - 1) j (by omega) hj (by omega)
theorem op_small {o:OpL} (h:opOk o=true):o.1.length≤12∧o.2.1.length≤60:=by
 obtain⟨k,v,c⟩:=o
 cases c with
 | true=>simp[opOk] at h;exact⟨h.1,by rw[h.2];simp⟩
 | false=>simp[opOk] at h;exact⟨h.1,h.2.2⟩
theorem apply_q (os:List OpL):∀ ps:List PairL,(∀ p∈ps,smallQ p)→(∀ o∈os,opOk o=true)→∀ p∈applyL ps os,smallQ p:=by
 induction os with
 | nil=>exact fun ps h _=>h
 | cons o r ih =>
   intro ps h ho
   refine ih _ (fun p hp=>?_) (fun x hx=>ho x (List.mem_cons_of_mem _ hx))
   rcases (set_mem ps o.1 o.2.1 p).1 hp with ⟨h1,_⟩ | ⟨h0,h1⟩
   · exact h p h1
   · rw[h1]
     have:=op_small (ho o List.mem_cons_self)
     exact⟨this.1,h0,this.2⟩
theorem apply_okL {ps:List PairL} {os:List OpL} (hp:pairsOkL ps=true) (ho:∀ o∈os,opOk o=true) (hl:ps.length+os.length≤60):pairsOkL (applyL ps os)=true :=
 pairs_ok (Nat.le_trans (apply_len os ps (rise_ok hp)) hl) (rise_apply os ps (rise_ok hp)) (apply_q os ps (pairs_small hp) ho)
theorem batch_part {c n:Int} {os qs:List OpL} (h:batchOk c n os=true) (h1:1≤qs.length) (h2:qs.length≤os.length) (hs:∀ o∈qs,o∈os):batchOk c n qs=true:=by
 simp only[batchOk,Bool.and_eq_true,decide_eq_true_eq,List.all_eq_true] at h ⊢
 exact⟨⟨⟨h.1.1.1,h1⟩,by omega⟩,fun o ho=>h.2 o (hs o ho)⟩
theorem parted {ps:List PairL} {c n:Int} {os:List OpL} {k:Nat} (h:applyOk ps c n os=true) (hk1:1≤k) (hk2:k<os.length) (hl:ps.length+os.length≤60) :
 applyOk ps c n (os.take k)=true∧applyR ps c n (os.take k)=applyL ps (os.take k)∧applyOk (applyL ps (os.take k)) c n (os.drop k)=true∧applyR (applyL ps (os.take k)) c n (os.drop k)=applyR ps c n os:=by
 have hh:=h
 simp only[applyOk,Bool.and_eq_true] at hh
 obtain⟨h1,h2,h3⟩:=hh
 have hall:∀ o∈os,opOk o=true:=by
  have:=h2
  simp only[batchOk,Bool.and_eq_true,List.all_eq_true] at this
  exact this.2
 have b1:batchOk c n (os.take k)=true:=batch_part h2 (by simp;omega) (by simp;omega) (fun o ho=>List.mem_of_mem_take ho)
 have b2:batchOk c n (os.drop k)=true:=batch_part h2 (by simp;omega) (by simp) (fun o ho=>List.mem_of_mem_drop ho)
 have p1:pairsOkL (applyL ps (os.take k))=true:=apply_okL h1 (fun o ho=>hall o (List.mem_of_mem_take ho)) (by simp;omega)
 have e:applyL (applyL ps (os.take k)) (os.drop k)=applyL ps os:=by rw[←applyL_app,List.take_append_drop]
 have a1:applyOk ps c n (os.take k)=true:=by simp[applyOk,h1,b1,p1]
 have a2:applyOk (applyL ps (os.take k)) c n (os.drop k)=true:=by simp[applyOk,p1,b2,e,h3]
 exact⟨a1,applyR_yes a1,a2,by rw[applyR_yes a2,applyR_yes h,e]⟩
end Go.Proofs.Ytdcmncjoppmlhaa
