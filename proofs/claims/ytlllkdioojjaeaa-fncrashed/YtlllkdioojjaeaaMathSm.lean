/-
 Pairs that are set: what is among them.
-/
import Derived.Test.YtlllkdioojjaeaaMathSet
namespace Go.Proofs.Ytlllkdioojjaeaa
open Go.RowKit
set_option linter.unusedVariables false
theorem setP_mem {k v:List UInt8}:∀ (ps:List PairL) (L:List PairL) (d:Bool),(d=true→(ps.foldl (setStep k v) (L,d)).2=true)∧∀ x,x∈(ps.foldl (setStep k v) (L,d)).1↔x∈L∨(x∈ps∧x.1≠k)∨(d=false∧(ps.foldl (setStep k v) (L,d)).2=true∧x=(k,v))
 | [], L, d => ⟨fun h => h, fun x => by
     constructor
     · exact .inl
     · rintro (h | ⟨h,_⟩ | ⟨h1,h2,_⟩)
       · exact h
       · simp at h
       · simp only[List.foldl_nil] at h2;rw[h1] at h2;cases h2⟩
 | p :: ps, L, d => by
   rw[List.foldl_cons]
   cases hd:(!d && !(Op.bytesLess p.1 k)) with
   | true =>
     have hdf:d=false:=by cases d <;> simp_all
     have e:setStep k v (L,d) p=(if p.1=k then L ++ [(k,v)] else L ++ [(k,v)] ++ [p],true):=by unfold setStep;rw[if_pos hd]
     rw[e]
     obtain⟨h1,h2⟩:=setP_mem (k:=k) (v:=v) ps (if p.1=k then L ++ [(k,v)] else L ++ [(k,v)] ++ [p]) true
     have h1':=h1 rfl
     refine⟨fun _=>h1',fun x=>?_⟩
     rw[h2]
     constructor
     · rintro (h | h | ⟨h,_⟩)
       · split at h
         · rcases List.mem_append.1 h with h | h
           · exact .inl h
           · exact .inr (.inr ⟨hdf,h1',List.mem_singleton.1 h⟩)
         · rename_i hk
           rcases List.mem_append.1 h with h | h
           · rcases List.mem_append.1 h with h | h
             · exact .inl h
             · exact .inr (.inr ⟨hdf,h1',List.mem_singleton.1 h⟩)
           · rw[List.mem_singleton] at h
             exact .inr (.inl ⟨by rw[h];simp,by rw[h];exact hk⟩)
       · exact .inr (.inl ⟨List.mem_cons_of_mem _ h.1,h.2⟩)
       · cases h
     · rintro (h | ⟨h,hx⟩ | ⟨_,_,h⟩)
       · left;split <;> simp[h]
       · rcases List.mem_cons.1 h with h | h
         · left;rw[if_neg (by rw[←h];exact hx),h];simp
         · exact .inr (.inl ⟨h,hx⟩)
       · left;rw[h];split <;> simp
   | false =>
     have e:setStep k v (L,d) p=(if p.1=k then L else L ++ [p],d):=by unfold setStep;rw[if_neg (by rw[hd];simp)]
     rw[e]
     obtain⟨h1,h2⟩:=setP_mem (k:=k) (v:=v) ps (if p.1=k then L else L ++ [p]) d
     refine⟨h1,fun x=>?_⟩
     rw[h2]
     constructor
     · rintro (h | h | h)
       · split at h
         · exact .inl h
         · rename_i hk
           rcases List.mem_append.1 h with h | h
           · exact .inl h
           · rw[List.mem_singleton] at h
             exact .inr (.inl ⟨by rw[h];simp,by rw[h];exact hk⟩)
       · exact .inr (.inl ⟨List.mem_cons_of_mem _ h.1,h.2⟩)
       · exact .inr (.inr h)
     · rintro (h | ⟨h,hx⟩ | h)
       · left;split <;> simp[h]
       · rcases List.mem_cons.1 h with h | h
         · left;rw[if_neg (by rw[←h];exact hx),h];simp
         · exact .inr (.inl ⟨h,hx⟩)
       · exact .inr (.inr h)
theorem set_mem (ps:List PairL) (k v:List UInt8) (x:PairL):x∈setL ps k v↔(x∈ps∧x.1≠k)∨(v≠[]∧x=(k,v)):=by
 obtain⟨h1,h2⟩:=setP_mem (k:=k) (v:=v) ps [] (decide (v=[]))
 have h1':decide (v=[])=true→(setFold k v ps).2=true:=h1
 have h2':∀ x,x∈(setFold k v ps).1↔x∈[]∨(x∈ps∧x.1≠k)∨(decide (v=[])=false∧(setFold k v ps).2=true∧x=(k,v)):=h2
 unfold setL
 by_cases hv:v=[]
 · rw[if_pos (h1' (by simpa using hv)),h2']
   simp[hv]
 · have hd:decide (v=[])=false:=by simpa using hv
   split
   · rename_i ht
     rw[h2',hd,ht]
     simp[hv]
   · rename_i ht
     rw[List.mem_append,h2',List.mem_singleton]
     simp[hv,ht]
end Go.Proofs.Ytlllkdioojjaeaa
