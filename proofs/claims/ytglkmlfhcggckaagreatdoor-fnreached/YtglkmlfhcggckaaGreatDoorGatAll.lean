import Derived.Test.YtglkmlfhcggckaaGreatDoorGetAll
import Derived.Test.YtglkmlfhcggckaaGreatDoorIReads
import Derived.Test.YtglkmlfhcggckaaGreatDoorSMades
import Derived.Test.YtglkmlfhcggckaaGreatDoorStepAll
import Derived.Test.YtglkmlfhcggckaaGreatDoorTrie
namespace Go.Proofs.YtglkmlfhcggckaaGreatDoor
open Go.RowKit
set_option linter.unusedVariables false
theorem own_blockG {w w':World} {base e size n:Nat} {v:Value} {xs:List Value} (h:w.ownsRow base e size v n xs) (hk:∀ q,v.ownBlock=some q→w'.heap[q]? = w.heap[q]?):w'.ownsRow base e size v n xs:=by
 refine⟨h.1,?_⟩
 rcases h.2 with hn | ⟨g,cap,cur,rfl,hb,hgg,rest⟩
 · exact .inl hn
 · exact .inr ⟨g,cap,cur,rfl,hb,(hk g rfl).trans hgg,rest⟩
theorem one_setG {w:World} {b:Nat} {u v:Value} {t:TypeId} (h:w.heap[b]? = some (.cells #[u] t (0,0))):(w.setCell ⟨b,0,none⟩ v).heap[b]? = some (.cells #[v] t (0,0)):=by
 have hlt:=lt_of_block h
 have h':w.heap[b]=.cells #[u] t (0,0):=by simpa [Array.getElem?_eq_getElem hlt] using h
 show (w.heap.modify b _)[b]? = _
 rw[Array.getElem?_eq_getElem (by simpa using hlt),Array.getElem_modify_self,h']
 rfl
structure GKept (w0 w:World) (bp:Nat) (v0 v:Value) (wr:World):Prop where
 below:Below w0.heap.size w0 wr
 size:w.heap.size≤wr.heap.size
 own:∀ b,v.ownBlock=some b→v0.ownBlock=some b∨w.heap.size≤b
 kept:∀ b,b<w.heap.size→b≠bp→v0.ownBlock≠some b→wr.heap[b]? = w.heap[b]?
theorem GKept.start {w0 w:World} {bp:Nat} {v:Value} (h:Below w0.heap.size w0 w):GKept w0 w bp v v w:=⟨h,Nat.le_refl _,fun b h=>.inl h,fun b _ _ _=>rfl⟩
theorem GKept.on {w0 w wr w3:World} {bp:Nat} {v0 v:Value} (h:GKept w0 w bp v0 v wr) (hb:Below wr.heap.size wr w3) (h0:w0.heap.size≤w.heap.size):GKept w0 w bp v0 v w3 :=
 ⟨h.below.trans (hb.mono (Nat.le_trans h0 h.size)),Nat.le_trans h.size hb.size,h.own,fun b h1 h2 h3=>(hb.block b (Nat.lt_of_lt_of_le h1 h.size)).trans (h.kept b h1 h2 h3)⟩
theorem GKept.trans {w0 w wr w3:World} {bp:Nat} {v0 v v3:Value} (h:GKept w0 w bp v0 v wr) (h2:GKept w0 wr bp v v3 w3):GKept w0 w bp v0 v3 w3:=by
 have hs:=h.size
 refine⟨h2.below,Nat.le_trans hs h2.size,fun b hb=>?_,fun b h1 hne hv=>(h2.kept b (by omega) hne fun e=>?_).trans (h.kept b h1 hne hv)⟩
 · rcases h2.own b hb with e | e
   · exact h.own b e
   · exact .inr (by omega)
 · rcases h.own b e with e | e
   · exact hv e
   · omega
theorem GKept.drewN {w0 w wr:World} {bp n:Nat} {v0 v:Value} (h:GKept w0 w bp v0 v wr):GKept w0 w bp v0 v (wr.drewN n):=⟨below_dr h.below,h.size,h.own,h.kept⟩
theorem GKept.drew {w0 w wr:World} {bp:Nat} {v0 v:Value} (h:GKept w0 w bp v0 v wr):GKept w0 w bp v0 v wr.drew:=⟨h.below.drew,h.size,h.own,h.kept⟩
end Go.Proofs.YtglkmlfhcggckaaGreatDoor
