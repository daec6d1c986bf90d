/-
 What the draws want (written by mkapx.py).
-/
import Derived.Test.YtdcmncjoppmlhaaSSet
import Derived.Test.YtdcmncjoppmlhaaBatchS
namespace Go.Proofs.Ytdcmncjoppmlhaa
open Go.RowKit
set_option linter.unusedVariables false
theorem setStep_mem (k v:List UInt8) (st:List PairL × Bool) (p q:PairL) (h:q∈(setStep k v st p).1):q∈st.1∨q=(k,v)∨q=p:=by
 unfold setStep at h
 split at h
 · split at h
   · simp at h;rcases h with h | h
     · exact .inl h
     · exact .inr (.inl h)
   · simp at h;rcases h with h | h | h
     · exact .inl h
     · exact .inr (.inl h)
     · exact .inr (.inr h)
 · split at h
   · exact .inl h
   · simp at h;rcases h with h | h
     · exact .inl h
     · exact .inr (.inr h)
theorem setFold_mem (k v:List UInt8):∀ (ps:List PairL) (st:List PairL × Bool) (q:PairL),q∈(ps.foldl (setStep k v) st).1→q∈st.1∨q=(k,v)∨q∈ps
 | [],st,q,h=>.inl h
 | p :: ps, st, q, h => by
   rcases setFold_mem k v ps (setStep k v st p) q h with h | h | h
   · rcases setStep_mem k v st p q h with h | h | h
     · exact .inl h
     · exact .inr (.inl h)
     · exact .inr (.inr (by rw[h];simp))
   · exact .inr (.inl h)
   · exact .inr (.inr (List.mem_cons_of_mem _ h))
theorem setL_mem (ps:List PairL) (k v:List UInt8) (q:PairL) (h:q∈setL ps k v):q=(k,v)∨q∈ps:=by
 unfold setL at h
 split at h
 · rcases setFold_mem k v ps _ q h with h | h | h
   · simp at h
   · exact .inl h
   · exact .inr h
 · rw[List.mem_append] at h
   rcases h with h | h
   · rcases setFold_mem k v ps _ q h with h | h | h
     · simp at h
     · exact .inl h
     · exact .inr h
   · simp at h;exact .inl h
theorem tri_setB {w:World} {b:Nat} {u v x:Value} {t:TypeId} (z0 z1 z2:Value) (h:w.heap[b]? = some (.cells #[u,v,x] t (0,0))):(((w.setCell ⟨b,0,none⟩ z0).setCell ⟨b,1,none⟩ z1).setCell ⟨b,2,none⟩ z2).heap[b]? = some (.cells #[z0,z1,z2] t (0,0)) :=
 bat_set (j:=2) (bat_set (j:=1) (bat_set (j:=0) h))
theorem tri_own {w:World} {b base e s n:Nat} {v:Value} {xs:List Value} (h:w.ownsRow base e s v n xs) (hv:v.ownBlock≠some b) (z0 z1 z2:Value):(((w.setCell ⟨b,0,none⟩ z0).setCell ⟨b,1,none⟩ z1).setCell ⟨b,2,none⟩ z2).ownsRow base e s v n xs :=
 ownsRow_setCell_other (ownsRow_setCell_other (ownsRow_setCell_other h hv _) hv _) hv _
theorem infoO:(Try.prog.info? 53).map (fun i=>(i.zero,i.size,i.bytes))=some (some (.agg #[.string ⟨#[]⟩,.string ⟨#[]⟩,.bool false]),3,40):=by kernel_rfl
end Go.Proofs.Ytdcmncjoppmlhaa
