/-
 On lists: a crash that keeps all ops, and one that keeps none.
-/
import Derived.Test.YtlllkdioojjaeaaDrawDks
import Derived.Test.YtlllkdioojjaeaaMathCs
namespace Go.Proofs.Ytlllkdioojjaeaa
open Go.RowKit
set_option linter.unusedVariables false
def allI (n:Nat):List Int:=(List.range n).map fun (i:Nat)=>((i:Nat):Int)
theorem allI_length (n:Nat):(allI n).length=n:=by simp[allI]
theorem allI_snoc (n:Nat):allI (n+1)=allI n ++ [(n:Int)]:=by simp[allI,List.range_succ]
theorem plAt_all {n i:Nat} (h:i<n):plAt (allI n) i=(i:Int):=by simp[plAt,allI,h]
theorem kept_all {ops:List DOpL} {T:Int} (hT:∀ o∈ops,(o.d.length:Int)≤T) {i:Nat} (h:i<ops.length):keptOp ops (allI ops.length) T i=ops[i]:=by
 have h1:opAt ops (plAt (allI ops.length) i)=ops[i]:=by
  rw[plAt_all h]
  simp[opAt,h]
 have h2:=hT _ (List.getElem_mem h)
 unfold keptOp
 split
 · rw[h1,tornO,if_neg (by omega)]
 · exact h1
theorem run_kept {live safe:List PairL} {ops:List DOpL} {T:Int} (hr:runF safe ops=some live) (hT:∀ o∈ops,(o.d.length:Int)≤T):∀ j,j≤ops.length→runF safe (ops.take j)=some (keptTo ops (allI ops.length) T safe j):=by
 intro j
 induction j with
 | zero=>intro _;simp[runF,keptTo]
 | succ j ih =>
   intro hj
   have h1:=ih (by omega)
   have h2:=runF_step ops safe _ j (by omega) h1
   have hk:=kept_all hT (i:=j) (by omega)
   rw[h2]
   split
   · simp only[keptTo];rw[hk]
   · rename_i hg
     rw[if_neg hg] at h2
     have:=runF_stop ops safe (j+1) h2
     rw[this] at hr;cases hr
theorem places_all (n:Nat):placesOk n (allI n)=true:=by
 refine places_end fun i hi=>?_
 rw[allI_length] at hi
 simp only[placeOk,plAt_all hi,Bool.and_eq_true,Bool.or_eq_true,decide_eq_true_eq]
 refine⟨⟨by omega,by omega⟩,?_⟩
 by_cases h0:i=0
 · exact .inl h0
 · refine .inr ?_
   rw[plAt_all (by omega)];omega
theorem crash_all {live safe:List PairL} {ops:List DOpL} {T:Int} (h0:0≤T) (hT:∀ o∈ops,(o.d.length:Int)≤T):crashB live safe ops (allI ops.length) T=diskOk live safe ops∧(diskOk live safe ops=true→crashL live safe ops (allI ops.length) T=live):=by
 by_cases hd:diskOk live safe ops=true
 · have hd':=hd
   simp only[diskOk,Bool.and_eq_true,decide_eq_true_eq] at hd'
   have hk:=run_kept hd'.2.2.2 hT ops.length (Nat.le_refl _)
   rw[List.take_length,hd'.2.2.2] at hk
   have hk':=Option.some.inj hk
   have hb:crashB live safe ops (allI ops.length) T=true:=by
    unfold crashB
    rw[hd,places_all,allI_length,←hk',hd'.1,decide_eq_true h0];rfl
   refine⟨by rw[hb,hd],fun _=>?_⟩
   unfold crashL
   rw[if_pos hb,allI_length,←hk']
 · have hd2:diskOk live safe ops=false:=by simpa using hd
   refine⟨by unfold crashB;rw[hd2];rfl,fun h=>absurd h hd⟩
theorem crash_none {live safe:List PairL} {ops:List DOpL}:crashB live safe ops [] 0=diskOk live safe ops∧(diskOk live safe ops=true→crashL live safe ops [] 0=safe):=by
 by_cases hd:diskOk live safe ops=true
 · have hd':=hd
   simp only[diskOk,Bool.and_eq_true,decide_eq_true_eq] at hd'
   have hb:crashB live safe ops [] 0=true:=by
    unfold crashB
    simp only[List.length_nil,keptTo]
    rw[hd,hd'.2.1];rfl
   refine⟨by rw[hb,hd],fun _=>?_⟩
   unfold crashL
   rw[if_pos hb];rfl
 · have hd2:diskOk live safe ops=false:=by simpa using hd
   refine⟨by unfold crashB;rw[hd2];rfl,fun h=>absurd h hd⟩
theorem crash_no {live safe:List PairL} {ops:List DOpL} {ks:List Int} {T:Int} (h:crashB live safe ops ks T=false):crashL live safe ops ks T=[]:=by
 unfold crashL;rw[h];rfl
theorem sync_yes {live safe:List PairL} {ops:List DOpL} (h:diskOk live safe ops=true):syncL live safe ops=live:=by unfold syncL;rw[if_pos h]
theorem dsz_bytes {live safe:List PairL} {ops:List DOpL} (h:DSz live safe ops) (hl:ops.length≤400):sizeD ops≤1048576:=by
 have h2:=h.2.1
 clear h
 have:sizeD ops≤ops.length*300:=by
  clear hl
  induction ops with
  | nil=>simp[sizeD]
  | cons o os ih =>
    have h1:=ih (fun p hp=>h2 p (List.mem_cons_of_mem _ hp))
    have h3:=h2 o (by simp)
    simp only[sizeD,List.map_cons,List.sum_cons,List.length_cons] at h1 ⊢
    unfold opN at h1 ⊢
    omega
 omega
end Go.Proofs.Ytlllkdioojjaeaa
