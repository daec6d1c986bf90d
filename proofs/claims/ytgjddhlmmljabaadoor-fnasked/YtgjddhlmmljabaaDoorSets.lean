import Derived.Test.YtgjddhlmmljabaaDoorBats
import Derived.Test.YtgjddhlmmljabaaDoorMath2
import Derived.BigQuiet
import Derived.Deep.QuietTactic
import Derived.Test.YtgjddhlmmljabaaDoorStrsAll
import Derived.OneCell
import Derived.Deep.RegionHeld3
import Derived.Deep.AppendLies
namespace Go.Proofs.YtgjddhlmmljabaaDoor
open Go.RowKit
set_option linter.unusedVariables false
def keyAt (ps:List PairL) (j:Nat):List UInt8:=(ps.getD j ([],[])).1
def valAt (ps:List PairL) (j:Nat):List UInt8:=(ps.getD j ([],[])).2
def okAt (ps:List PairL) (j:Nat):Bool:=decide ((keyAt ps j).length≤12) && decide (1≤(valAt ps j).length) && decide ((valAt ps j).length≤60) && (decide (j=0) || Op.bytesLess (keyAt ps (j - 1)) (keyAt ps j))
def pairsOkL (ps:List PairL):Bool:=decide (ps.length≤60) && (List.range ps.length).all (okAt ps)
theorem pairsOk_big (ps:List PairL) (h:¬ ps.length≤60):pairsOkL ps=false:=by simp[pairsOkL,h]
theorem pairsOk_bad (ps:List PairL) (j:Nat) (h:j<ps.length) (hb:okAt ps j=false):pairsOkL ps=false:=by
 have:(List.range ps.length).all (okAt ps)=false:=by
  rw[List.all_eq_false]
  exact⟨j,List.mem_range.2 h,by simp[hb]⟩
 simp[pairsOkL,this]
theorem pairsOk_all (ps:List PairL) (h60:ps.length≤60) (h:∀ j,j<ps.length→okAt ps j=true):pairsOkL ps=true:=by
 simp only[pairsOkL,Bool.and_eq_true,decide_eq_true_eq,List.all_eq_true,List.mem_range]
 exact⟨h60,h⟩
theorem pairsOk_of (ps:List PairL) (h:pairsOkL ps=true):ps.length≤60∧∀ j,j<ps.length→okAt ps j=true:=by
 simpa only[pairsOkL,Bool.and_eq_true,decide_eq_true_eq,List.all_eq_true,List.mem_range] using h
theorem keyAt_lt (ps:List PairL) (j:Nat) (h:j<ps.length):keyAt ps j=ps[j].1:=by simp[keyAt,h]
theorem valAt_lt (ps:List PairL) (j:Nat) (h:j<ps.length):valAt ps j=ps[j].2:=by simp[valAt,h]
theorem below_dr {B:Nat} {w w':World} {q:Nat} (h:Below B w w'):Below B w (w'.drewN q):=⟨h.os,h.tape,h.output,h.size,h.block⟩
theorem ba_toList (l:List UInt8):(⟨l.toArray⟩:ByteArray).toList=l:=by simp
def setStep (k v:List UInt8) (st:List PairL × Bool) (p:PairL):List PairL × Bool :=
 if (!st.2 && !(Op.bytesLess p.1 k))=true then (if p.1=k then st.1 ++ [(k,v)] else st.1 ++ [(k,v)] ++ [p],true) else (if p.1=k then st.1 else st.1 ++ [p],st.2)
def setFold (k v:List UInt8) (ps:List PairL):List PairL × Bool:=ps.foldl (setStep k v) ([],decide (v=[]))
def setL (ps:List PairL) (k v:List UInt8):List PairL:=if (setFold k v ps).2=true then (setFold k v ps).1 else (setFold k v ps).1 ++ [(k,v)]
theorem setFold_snoc (k v:List UInt8) (ps:List PairL) (j:Nat) (h:j<ps.length):setFold k v (ps.take (j+1))=setStep k v (setFold k v (ps.take j)) ps[j]:=by
 rw[take_snocP ps j h,setFold,List.foldl_append];rfl
theorem setFold_zero (k v:List UInt8) (ps:List PairL):setFold k v (ps.take 0)=([],decide (v=[])):=by simp[setFold]
theorem step_put (k v:List UInt8) (L:List PairL) (p:PairL) (h:Op.bytesLess p.1 k=false):setStep k v (L,false) p=(if p.1=k then L ++ [(k,v)] else L ++ [(k,v)] ++ [p],true):=by simp[setStep,h]
theorem step_less (k v:List UInt8) (L:List PairL) (d:Bool) (p:PairL) (h:d=true∨Op.bytesLess p.1 k=true):setStep k v (L,d) p=(if p.1=k then L else L ++ [p],d):=by
 rcases h with h | h <;> simp[setStep,h]
theorem pcells_snoc (L:List PairL) (a b:List UInt8):pcells (L ++ [(a,b)])=pcells L ++ [.string ⟨a.toArray⟩,.string ⟨b.toArray⟩]:=by rw[pcells_app];rfl
theorem bytesLess_irrefl:∀ x:List UInt8,Op.bytesLess x x=false
 | []=>rfl
 | a :: x=>by simp[Op.bytesLess,bytesLess_irrefl x]
theorem new_atP (w:World) {n:Nat} (h:w.heap.size=n) (o:Obj):(w.alloc o).heap[n]? = some o:=by rw[←h];exact heap_alloc_new w o
theorem pair_snoc {w:World} {B e n:Nat} {L:List PairL} {k v:List UInt8} {u:Value} (h:w.ownsRow B e 2 u n (pcells L ++ [.string ⟨k.toArray⟩,.string ⟨v.toArray⟩])):w.ownsRow B e 2 u n (pcells (L ++ [(k,v)])):=by rw[pcells_snoc];exact h
theorem below_app2 {B g n cap:Nat} {w wr w1:World} {o:Obj} (hbel:Below B w wr) (hB:B≤wr.heap.size) (hg:B≤g) (hgrow:(wr.alloc o).grownBy w1 (Value.slice (some ⟨g,0,none⟩) n cap).ownBlock):Below B w w1 :=
 (hbel.alloc hB o).grown hgrow (by simp;omega) (fun k hk=>by simp[Value.ownBlock] at hk;omega)
theorem setStep_mem (k v:List UInt8) (st:List PairL × Bool) (p q:PairL) (h:q∈(setStep k v st p).1):q∈st.1∨q=(k,v)∨q=p:=by
 unfold setStep at h
 split at h
 · split at h
   · simp at h;rcases h with h | h
     · exact .inl h
     · exact .inr (.inl h)
   · simp at h;rcases h with h | h | h
     · exact .inl h
     · exact .inr (.inl h)
     · exact .inr (.inr h)
 · split at h
   · exact .inl h
   · simp at h;rcases h with h | h
     · exact .inl h
     · exact .inr (.inr h)
theorem setFold_mem (k v:List UInt8):∀ (ps:List PairL) (st:List PairL × Bool) (q:PairL),q∈(ps.foldl (setStep k v) st).1→q∈st.1∨q=(k,v)∨q∈ps
 | [],st,q,h=>.inl h
 | p :: ps, st, q, h => by
   rcases setFold_mem k v ps (setStep k v st p) q h with h | h | h
   · rcases setStep_mem k v st p q h with h | h | h
     · exact .inl h
     · exact .inr (.inl h)
     · exact .inr (.inr (by rw[h];simp))
   · exact .inr (.inl h)
   · exact .inr (.inr (List.mem_cons_of_mem _ h))
theorem setL_mem (ps:List PairL) (k v:List UInt8) (q:PairL) (h:q∈setL ps k v):q=(k,v)∨q∈ps:=by
 unfold setL at h
 split at h
 · rcases setFold_mem k v ps _ q h with h | h | h
   · simp at h
   · exact .inl h
   · exact .inr h
 · rw[List.mem_append] at h
   rcases h with h | h
   · rcases setFold_mem k v ps _ q h with h | h | h
     · simp at h
     · exact .inl h
     · exact .inr h
   · simp at h;exact .inl h
theorem tri_setB {w:World} {b:Nat} {u v x:Value} {t:TypeId} (z0 z1 z2:Value) (h:w.heap[b]? = some (.cells #[u,v,x] t (0,0))):(((w.setCell ⟨b,0,none⟩ z0).setCell ⟨b,1,none⟩ z1).setCell ⟨b,2,none⟩ z2).heap[b]? = some (.cells #[z0,z1,z2] t (0,0)) :=
 bat_set (j:=2) (bat_set (j:=1) (bat_set (j:=0) h))
theorem tri_own {w:World} {b base e s n:Nat} {v:Value} {xs:List Value} (h:w.ownsRow base e s v n xs) (hv:v.ownBlock≠some b) (z0 z1 z2:Value):(((w.setCell ⟨b,0,none⟩ z0).setCell ⟨b,1,none⟩ z1).setCell ⟨b,2,none⟩ z2).ownsRow base e s v n xs :=
 ownsRow_setCell_other (ownsRow_setCell_other (ownsRow_setCell_other h hv _) hv _) hv _
theorem infoO:(Tryd.prog.info? 52).map (fun i=>(i.zero,i.size,i.bytes))=some (some (.agg #[.string ⟨#[]⟩,.string ⟨#[]⟩,.bool false]),3,40):=by kernel_rfl
end Go.Proofs.YtgjddhlmmljabaaDoor
