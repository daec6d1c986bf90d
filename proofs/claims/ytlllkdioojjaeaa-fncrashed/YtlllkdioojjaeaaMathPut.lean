/-
 Files with one of a name and data, on lists.
-/
import Derived.Test.YtlllkdioojjaeaaPairOk
namespace Go.Proofs.Ytlllkdioojjaeaa
open Go.RowKit
set_option linter.unusedVariables false
def putStep (k v:List UInt8) (st:List PairL × Bool) (p:PairL):List PairL × Bool :=
 if (!st.2 && !(Op.bytesLess p.1 k))=true then (if p.1=k then st.1 ++ [(k,v)] else st.1 ++ [(k,v)] ++ [p],true) else (if p.1=k then st.1 else st.1 ++ [p],st.2)
def putFold (k v:List UInt8) (ps:List PairL):List PairL × Bool:=ps.foldl (putStep k v) ([],false)
def putL (ps:List PairL) (k v:List UInt8):List PairL:=if (putFold k v ps).2=true then (putFold k v ps).1 else (putFold k v ps).1 ++ [(k,v)]
theorem putFold_snoc (k v:List UInt8) (ps:List PairL) (j:Nat) (h:j<ps.length):putFold k v (ps.take (j+1))=putStep k v (putFold k v (ps.take j)) ps[j]:=by
 rw[take_snocP ps j h,putFold,List.foldl_append];rfl
theorem putFold_zero (k v:List UInt8) (ps:List PairL):putFold k v (ps.take 0)=([],false):=by simp[putFold]
theorem pstep_put (k v:List UInt8) (L:List PairL) (p:PairL) (h:Op.bytesLess p.1 k=false):putStep k v (L,false) p=(if p.1=k then L ++ [(k,v)] else L ++ [(k,v)] ++ [p],true):=by simp[putStep,h]
theorem pstep_less (k v:List UInt8) (L:List PairL) (d:Bool) (p:PairL) (h:d=true∨Op.bytesLess p.1 k=true):putStep k v (L,d) p=(if p.1=k then L else L ++ [p],d):=by
 rcases h with h | h <;> simp[putStep,h]
theorem fcells_snoc (L:List PairL) (a b:List UInt8):pcells (L ++ [(a,b)])=pcells L ++ [.string ⟨a.toArray⟩,.string ⟨b.toArray⟩]:=by rw[pcells_app];rfl
end Go.Proofs.Ytlllkdioojjaeaa
