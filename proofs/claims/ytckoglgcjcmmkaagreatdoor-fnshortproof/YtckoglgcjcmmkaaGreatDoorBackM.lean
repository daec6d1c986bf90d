/-
 Texts that are laid as one: MathBT, MathNF.
-/
import Derived.Test.YtckoglgcjcmmkaaGreatDoorMathRs
namespace Go.Proofs.YtckoglgcjcmmkaaGreatDoor
open Go.RowKit
set_option linter.unusedVariables false
theorem readI_pack (p:List UInt8) (leaf:Bool) (hq:isNibs p=true) (hl:p.length≤24):readI (pack (withFlag p leaf))=some (p,leaf):=by
 have h:=hexlen p leaf
 rw[readI,if_pos (by omega),readL_pack p leaf hq]
theorem node_parts (k:Int) (p:List UInt8) (ls:List (List UInt8)) (v:List UInt8) (h:nodeOk k p ls v=true):nodeOfI (nodeTs k p ls v)=⟨k,p,ls,v⟩∧(nodeTs k p ls v).length≤17∧(nodeTs k p ls v).flatten.length≤1000:=by
 simp only[nodeOk,headOk,Bool.and_eq_true,decide_eq_true_eq] at h
 obtain⟨⟨hp,hn,hv⟩,hk⟩:=h
 unfold kindOk at hk
 by_cases h1:k=1
 · rw[if_pos h1] at hk
   simp only[Bool.and_eq_true,decide_eq_true_eq] at hk
   have e:ls=[]:=List.length_eq_zero_iff.1 hk.2
   subst h1 e
   have hx:=hexlen p true
   refine⟨?_,by simp[nodeTs],by simp[nodeTs];omega⟩
   simp[nodeTs,nodeOfI,readI_pack p true hn hp,ofRead]
 · rw [if_neg h1] at hk
   by_cases h2:k=2
   · rw[if_pos h2] at hk
     simp only[Bool.and_eq_true,decide_eq_true_eq] at hk
     obtain⟨_,hve,hl,h32⟩:=hk
     have ev:v=[]:=by simpa using hve
     obtain⟨t,rfl⟩:∃ t,ls=[t]:=by
      match ls,hl with
      | [t],_=>exact⟨t,rfl⟩
     subst h2 ev
     have hx:=hexlen p false
     simp only[List.getD_cons_zero] at h32
     refine⟨?_,by simp[nodeTs],by simp[nodeTs];omega⟩
     simp[nodeTs,nodeOfI,readI_pack p false hn hp,ofRead]
   · rw[if_neg h2] at hk
     by_cases h3:k=3
     · rw[if_pos h3] at hk
       simp only[branchOk,Bool.and_eq_true,decide_eq_true_eq] at hk
       obtain⟨hpe,h16,hkids,_⟩:=hk
       have ep:p=[]:=by simpa using hpe
       subst h3 ep
       have hf:=flat_kids ls hkids
       refine⟨?_,by simp[nodeTs,h16],by simp[nodeTs];rw[List.length_flatten] at hf;omega⟩
       have e:nodeTs 3 [] ls v=ls ++ [v]:=by simp[nodeTs]
       have e1:(ls ++ [v]).take 16=ls:=by rw[←h16];simp
       have e2:(ls ++ [v]).getD 16 []=v:=by rw[List.getD_eq_getElem?_getD,List.getElem?_append_right (by omega)];simp[h16]
       rw[e,nodeOfI,if_pos (by simp[h16]),e1,e2]
     · rw[if_neg h3] at hk
       cases hk
theorem node_back (s:List UInt8) (n:NodeL) (h:readNode s=some n):n.ok=true∧nodeB n.k n.p n.ls n.v=s:=by
 unfold readNode at h
 cases ht:textsL s with
 | none=>rw[ht] at h;cases h
 | some ts =>
   rw[ht] at h
   simp only[keepN] at h
   split at h
   · next hh=>cases h;exact⟨hh.1,hh.2⟩
   · cases h
theorem nodeB_len (k:Int) (p:List UInt8) (ls:List (List UInt8)) (v:List UInt8):(nodeB k p ls v).length≤33006:=by
 by_cases h:nodeOk k p ls v=true
 · rw[nodeB,if_pos h]
   obtain⟨h1,h2,h3⟩:=node_parts k p ls v h
   exact (listB_len _ (by omega) (by omega)).2
 · rw[nodeB,if_neg h];simp
end Go.Proofs.YtckoglgcjcmmkaaGreatDoor
