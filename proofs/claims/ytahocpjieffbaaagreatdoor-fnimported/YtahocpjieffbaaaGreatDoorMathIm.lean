/-
 What FnImported says, on lists: pairs in chunks are taken, one chunk behind the other, till all are there.
-/
import Derived.Test.YtahocpjieffbaaaGreatDoorTookGs
import Derived.Test.YtahocpjieffbaaaGreatDoorChks
import Derived.Test.YtahocpjieffbaaaGreatDoorSMades
namespace Go.Proofs.YtahocpjieffbaaaGreatDoor
open Go.RowKit
set_option linter.unusedVariables false
theorem root_is32 (ps:List PairL) (h:rootOk ps=true):(rootR ps).length=32:=by
 rw[rootR,if_pos h]
 unfold rootOr
 split
 · exact sumL_len _
 · rename_i hne
   have hes:esOf ps≠[]:=fun e=>hne (by show buildL 60 (esOf ps)=[];rw[e,build_nil])
   obtain⟨ns,t,e⟩:=build_last 59 (esOf ps) hes
   show (rootH (buildL 60 (esOf ps))).length=32
   rw[e,rootH_snoc]
   exact sumL_len t
theorem okIm_take {ps:List PairL} (h:pairsOkL ps=true) (n:Nat):pairsOkL (ps.take n)=true:=by
 obtain⟨h60,h1⟩:=pairsOk_of ps h
 refine pairsOk_all _ (by rw[List.length_take];omega) fun j hj=>?_
 rw[List.length_take] at hj
 have hg:∀ i,i<n→(ps.take n).getD i ([],[])=ps.getD i ([],[]):=fun i hi=>by
  simp[List.getD,hi]
 have:=h1 j (by omega)
 unfold okAt keyAt valAt at this ⊢
 rw[hg j (by omega),hg (j - 1) (by omega)]
 exact this
theorem chunksN_all (n m:Nat) (hm:1≤m):n≤chunksN n m*m:=by
 unfold chunksN
 split
 · omega
 · have h1:=Nat.div_add_mod (n - 1) m
   have h2:=Nat.mod_lt (n - 1) (show m > 0 by omega)
   rw[Nat.succ_mul,Nat.mul_comm ((n - 1) / m) m]
   omega
theorem chunksN_lt {n m j:Nat} (hm:1≤m) (h:j<chunksN n m):j=0∨j*m<n:=by
 unfold chunksN at h
 split at h
 · exact .inl (by omega)
 · right
   have h1:j*m≤(n - 1) / m*m:=Nat.mul_le_mul_right m (by omega)
   have h2:=Nat.div_mul_le_self (n - 1) m
   omega
theorem chunk_last {n m j:Nat} (hm:1≤m) (h:j<chunksN n m):decide (min (j*m+m) n=n)=decide (j+1=chunksN n m):=by
 by_cases e:j+1=chunksN n m
 · have h1:=chunksN_all n m hm
   rw[←e,Nat.succ_mul] at h1
   rw[decide_eq_true e,decide_eq_true (by omega)]
 · rcases chunksN_lt hm (show j+1<chunksN n m by omega) with h1 | h1
   · omega
   · rw[Nat.succ_mul] at h1
     rw[decide_eq_false e,decide_eq_false (by omega)]
theorem im_step {R:List UInt8} {ps:List PairL} {m j:Nat} (hm:1≤m) (hm8:m≤8) (hr:rootOk ps=true) (hR:R=rootR ps) (hj:j<chunksN ps.length m) :
 tookB R (ps.take (j*m)) (decide (j=chunksN ps.length m)) (chunkAt ps m j).1 (chunkAt ps m j).2.1 (chunkAt ps m j).2.2=true∧ps.take (j*m) ++ (chunkAt ps m j).2.2=ps.take ((j+1)*m)∧(chunkAt ps m j).2.1=decide (j+1=chunksN ps.length m):=by
 have hp:pairsOkL ps=true:=by simp only[rootOk,Bool.and_eq_true] at hr;exact hr.1
 have hl:=chunk_last hm hj
 have happ:ps.take (j*m) ++ (ps.drop (j*m)).take m=ps.take ((j+1)*m):=by rw[Nat.succ_mul,←List.take_add]
 refine⟨?_,happ,hl⟩
 have h32:R.length=32:=by rw[hR];exact root_is32 ps hr
 show tookB R (ps.take (j*m)) (decide (j=chunksN ps.length m)) (decide (j=0)) (decide (min (j*m+m) ps.length=ps.length)) ((ps.drop (j*m)).take m)=true
 rw[hl,decide_eq_false (show ¬ j=chunksN ps.length m by omega)]
 unfold tookB importB
 rw[happ,okIm_take hp (j*m),okIm_take hp ((j+1)*m),decide_eq_true h32]
 have hlen:(ps.take (j*m)).length=min (j*m) ps.length:=List.length_take
 have hlen2:((ps.drop (j*m)).take m).length=min m (ps.length - j*m):=by simp
 have hj0:=chunksN_lt hm hj
 have hf:followsB (ps.take (j*m)).length (decide (j=0)) (decide (j+1=chunksN ps.length m)) ((ps.drop (j*m)).take m).length=true:=by
  unfold followsB
  rw[hlen,hlen2]
  have h1 : decide (j = 0) = decide (min (j * m) ps.length = 0) := by
   by_cases e:j=0
   · subst e;simp
   · rcases hj0 with h0 | h0
     · exact absurd h0 e
     · have:1*1≤j*m:=Nat.mul_le_mul (by omega) hm
       rw[decide_eq_false e,decide_eq_false (by omega)]
  rw[h1]
  have h2:decide (min m (ps.length - j*m)≤8)=true:=decide_eq_true (by omega)
  rw[h2]
  by_cases e:0<ps.length
  · have h3:decide (0<min m (ps.length - j*m))=true:=decide_eq_true (by
     rcases hj0 with h0 | h0
     · subst h0;simp;omega
     · omega)
    rw[h3];simp
  · have e0:ps.length=0:=by omega
    have hN:chunksN ps.length m=1:=by rw[chunksN,if_pos e0]
    have hj1:j=0:=by omega
    subst hj1
    rw[hN,e0]
    simp
 rw[hf]
 by_cases e:j+1=chunksN ps.length m
 · have h1:=chunksN_all ps.length m hm
   rw[←e] at h1
   rw[List.take_of_length_le h1,hr,decide_eq_true hR.symm]
   simp
 · rw[decide_eq_false e]
   simp
theorem im_all {ps:List PairL} {m:Nat} (hm:1≤m):ps.take (chunksN ps.length m*m)=ps:=List.take_of_length_le (chunksN_all ps.length m hm)
theorem im_done {ps:List PairL} (hr:rootOk ps=true):importB (rootR ps) ps true=true:=by
 have hp:pairsOkL ps=true:=by simp only[rootOk,Bool.and_eq_true] at hr;exact hr.1
 unfold importB
 rw[decide_eq_true (root_is32 ps hr),hp,hr]
 simp
end Go.Proofs.YtahocpjieffbaaaGreatDoor
