import Derived.Test.YtckoglgcjcmmkaaGreatDoorTrieAll
import Derived.Test.YtckoglgcjcmmkaaGreatDoorSumI
import Derived.Test.YtckoglgcjcmmkaaGreatDoorPairs
import Derived.Deep.RegionLawGrows
import Derived.Laws.EntriesVeiled
import Derived.Test.YtckoglgcjcmmkaaGreatDoorINodes
import Derived.Deep.QuietTactic
import Derived.BigQuiet
namespace Go.Proofs.YtckoglgcjcmmkaaGreatDoor
open Go.RowKit
set_option linter.unusedVariables false
def ncells (ns:List PairL):List Value:=ns.flatMap fun e=>[.string ⟨e.1.toArray⟩,.string ⟨e.2.toArray⟩]
theorem ncells_append (a b:List PairL):ncells (a ++ b)=ncells a ++ ncells b:=by simp[ncells]
theorem own_block {w w':World} {base e size n:Nat} {v:Value} {xs:List Value} (h:w.ownsRow base e size v n xs) (hk:∀ q,v.ownBlock=some q→w'.heap[q]? = w.heap[q]?):w'.ownsRow base e size v n xs:=by
 refine⟨h.1,?_⟩
 rcases h.2 with hn | ⟨g,cap,cur,rfl,hb,hgg,rest⟩
 · exact .inl hn
 · exact .inr ⟨g,cap,cur,rfl,hb,(hk g rfl).trans hgg,rest⟩
def nibE (es:List PairL):Prop:=∀ e∈es,isNibs e.1=true
theorem isNibs_drop (l:List UInt8) (n:Nat) (h:isNibs l=true):isNibs (l.drop n)=true:=by
 have:=h;rw[←List.take_append_drop n l,isNibs_append,Bool.and_eq_true] at this;exact this.2
theorem nib_grp {d:Nat} {es:List PairL} (h:nibE es):nibE (grp d es):=by
 intro e he
 obtain⟨x,hx,he⟩:=List.mem_filterMap.1 he
 have h1:=h x hx
 unfold grp1 at he
 split at he
 · cases he
 · rename_i y ys hy
   split at he
   · cases he
     rw[hy] at h1
     exact isNibs_drop _ 1 h1
   · cases he
theorem small_cut9 {n:Nat} {es:List PairL} (h:smallE es):smallE (cutE n es):=by
 intro e he
 obtain⟨x,hx,rfl⟩:=List.mem_map.1 he
 have:=h x hx
 exact⟨by simp only[List.length_drop];omega,this.2⟩
theorem end_le {es:List PairL} (h:smallE es):(endV es).length≤60:=by
 have:=endV_len es (fun j hj=>(h _ (List.getElem_mem hj)).2) es.length (Nat.le_refl _)
 rwa [List.take_length] at this
end Go.Proofs.YtckoglgcjcmmkaaGreatDoor
