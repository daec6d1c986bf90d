/-
 A list of pairs that came in, opened.
-/
import Derived.Test.YtdcmncjoppmlhaaPairs
import Derived.Test.YtdcmncjoppmlhaaRows
import Derived.ProofKit
import Derived.Deep.SlicePairs
namespace Go.Proofs.Ytdcmncjoppmlhaa
open Go.ChangeShapes Go.WideShapes Go.ChangeAt Go.RowKit
set_option linter.unusedVariables false
def bytesOf:Value→List UInt8
 | .string s=>s.data.toList
 | _=>[]
set_option maxRecDepth 100000 in
theorem pairs_of {H:Type} {enc:TypeId × Value→H} {W:World} {fuel:Nat} {u:Value} {y:DataW H × List MemPlace} (hf:DataW.trod enc Try.prog W 0 (fun _=>true) true fuel 22 [u]=some y) :
 ∃ (a:Option Addr) (ps:List PairL) (cap:Nat),u=.slice a ps.length cap∧(∀ p∈ps,p.1.length≤9223372036854775807∧p.2.length≤9223372036854775807)∧IsPairs W a ps∧ps.length≤9223372036854775807:=by
 rcases Go.Deep.open_slice_pairs Try.underlying22 Try.underlying47 (by kernel_rfl) rfl rfl (by kernel_rfl) (by kernel_rfl) hf with ⟨hcs,_⟩ | ⟨a,len,cap,m,n,V0,V1,D0,D1,P0,P1,hcs,_,hl,hm,hmm,_,hx⟩
 · simp at hcs
   exact⟨none,[],0,hcs,by simp,.inl rfl,by simp⟩
 · simp at hcs
   unfold maxLen at hm
   simp only[if_true] at hmm
   have each:∀ i,i<len→W.cell? (a.add (i*2))=some (.string ⟨(bytesOf (V0 i)).toArray⟩)∧W.cell? (a.add (i*2+1))=some (.string ⟨(bytesOf (V1 i)).toArray⟩)∧(bytesOf (V0 i)).length≤9223372036854775807∧(bytesOf (V1 i)).length≤9223372036854775807:=by
    intro i hi
    obtain⟨e0,e1,t0,t1⟩:=hx i (by omega)
    obtain⟨s0,hs0,_,w0⟩:=DataW.trod_string Try.underlying9 t0
    obtain⟨s1,hs1,_,w1⟩:=DataW.trod_string Try.underlying9 t1
    simp at hs0 hs1
    unfold maxLen at w0 w1
    rw[hs0] at e0 ⊢
    rw[hs1] at e1 ⊢
    refine⟨by rw[e0];simp[bytesOf],by rw[e1];simp[bytesOf],?_,?_⟩
    · simp only[bytesOf,Array.length_toList];exact w0
    · simp only[bytesOf,Array.length_toList];exact w1
   refine⟨some a,(List.range len).map (fun i=>(bytesOf (V0 i),bytesOf (V1 i))),cap,by rw[hcs];simp,?_,?_,by simp;omega⟩
   · intro p hp
     simp only[List.mem_map,List.mem_range] at hp
     obtain⟨i,hi,rfl⟩:=hp
     exact⟨(each i hi).2.2.1,(each i hi).2.2.2⟩
   · by_cases h0:len=0
     · exact .inl (by simp[h0])
     · obtain⟨b,off,spot⟩:=a
       have hc:=(each 0 (by omega)).1
       have hspot:spot=none:=by simpa [Addr.add] using World.cell?_spot hc
       subst hspot
       refine .inr ⟨b,off,rfl,fun j hj=>?_⟩
       simp at hj
       have hcj:=each j hj
       have e1:(⟨b,off,none⟩:Addr).add (j*2)=⟨b,off+j*2,none⟩:=by simp[Addr.add]
       have e2:(⟨b,off,none⟩:Addr).add (j*2+1)=⟨b,off+j*2+1,none⟩:=by simp[Addr.add,Nat.add_assoc]
       rw[e1,e2] at hcj
       simp only[List.getElem_map,List.getElem_range]
       exact⟨hcj.1,hcj.2.1⟩
end Go.Proofs.Ytdcmncjoppmlhaa
