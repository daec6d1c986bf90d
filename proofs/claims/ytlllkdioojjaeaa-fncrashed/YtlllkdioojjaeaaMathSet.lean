/-
 Pairs with another value for a key, on lists.
-/
import Derived.Test.YtlllkdioojjaeaaPairOk
namespace Go.Proofs.Ytlllkdioojjaeaa
open Go.RowKit
set_option linter.unusedVariables false
def setStep (k v:List UInt8) (st:List PairL × Bool) (p:PairL):List PairL × Bool :=
 if (!st.2 && !(Op.bytesLess p.1 k))=true then (if p.1=k then st.1 ++ [(k,v)] else st.1 ++ [(k,v)] ++ [p],true) else (if p.1=k then st.1 else st.1 ++ [p],st.2)
def setFold (k v:List UInt8) (ps:List PairL):List PairL × Bool:=ps.foldl (setStep k v) ([],decide (v=[]))
def setL (ps:List PairL) (k v:List UInt8):List PairL:=if (setFold k v ps).2=true then (setFold k v ps).1 else (setFold k v ps).1 ++ [(k,v)]
theorem setFold_snoc (k v:List UInt8) (ps:List PairL) (j:Nat) (h:j<ps.length):setFold k v (ps.take (j+1))=setStep k v (setFold k v (ps.take j)) ps[j]:=by
 rw[take_snocP ps j h,setFold,List.foldl_append];rfl
theorem setFold_zero (k v:List UInt8) (ps:List PairL):setFold k v (ps.take 0)=([],decide (v=[])):=by simp[setFold]
theorem step_put (k v:List UInt8) (L:List PairL) (p:PairL) (h:Op.bytesLess p.1 k=false):setStep k v (L,false) p=(if p.1=k then L ++ [(k,v)] else L ++ [(k,v)] ++ [p],true):=by simp[setStep,h]
theorem step_less (k v:List UInt8) (L:List PairL) (d:Bool) (p:PairL) (h:d=true∨Op.bytesLess p.1 k=true):setStep k v (L,d) p=(if p.1=k then L else L ++ [p],d):=by
 rcases h with h | h <;> simp[setStep,h]
theorem pcells_snoc (L:List PairL) (a b:List UInt8):pcells (L ++ [(a,b)])=pcells L ++ [.string ⟨a.toArray⟩,.string ⟨b.toArray⟩]:=by rw[pcells_app];rfl
end Go.Proofs.Ytlllkdioojjaeaa
