import Derived.Test.YtbpgpmchnjbclaaDoorMathOp
import Derived.Test.YtbpgpmchnjbclaaDoorRows
import Derived.ProofKit
import Derived.Deep.SlicePairs
import Derived.Lib.SmallJoins
namespace Go.Proofs.YtbpgpmchnjbclaaDoor
open Go.ChangeShapes Go.WideShapes Go.ChangeAt Go.RowKit
set_option linter.unusedVariables false
def bytesV:Value→List UInt8
 | .string s=>s.data.toList
 | _=>[]
def boolV:Value→Bool
 | .bool b=>b
 | _=>false
set_option maxRecDepth 100000 in
theorem ops_of {H : Type} {enc : TypeId × Value → H} {W : World} {fuel : Nat} {u : Value} {y : DataW H × List MemPlace} (hf : DataW.trod enc Tryd.prog W 0 (fun _ => true) true fuel 25 [u] = some y) :
 ∃ (a:Option Addr) (ps:List OpL) (cap:Nat),u=.slice a ps.length cap∧(∀ p∈ps,p.1.length≤9223372036854775807∧p.2.1.length≤9223372036854775807)∧IsOps W a ps∧ps.length≤9223372036854775807:=by
 rcases Go.Deep.open_slice Tryd.underlying25 hf with ⟨hcs,_⟩ | ⟨a,len,cap,m,n,D,Pl,hcs,_,hl,hm,hmm,_,hx⟩
 · simp at hcs
   exact⟨none,[],0,hcs,by simp,.inl rfl,by simp⟩
 · simp at hcs
   unfold maxLen at hm
   simp only[if_true] at hmm
   have ce:Tryd.prog.cellsOf 51=3:=by kernel_rfl
   have each : ∀ i, ∃ q : OpL, i < len → W.cell? (a.add (i * 3)) = some (.string ⟨q.1.toArray⟩) ∧ W.cell? (a.add (i * 3 + 1)) = some (.string ⟨q.2.1.toArray⟩) ∧ W.cell? (a.add (i * 3 + 2)) = some (.bool q.2.2) ∧ q.1.length ≤ 9223372036854775807 ∧ q.2.1.length ≤ 9223372036854775807 := by
    intro i
    by_cases hi:i<len
    · obtain⟨cs',h1,h2⟩:=hx i (by omega)
      rw[ce] at h1
      obtain⟨_,hlen,hcell⟩:=World.cells?_some h1
      obtain⟨xs,k,hk,hxy,_,hxl,hf⟩:=DataW.trod_struct Tryd.underlying51 h2
      match xs,hxl,cs',hlen with
      | [y0, y1, y2], _, [v0, v1, v2], _ =>
        have g0:=hf 0 _ rfl
        have g1:=hf 1 _ rfl
        have g2:=hf 2 _ rfl
        have k0:Tryd.prog.cellsOf 9=1:=by kernel_rfl
        have k1:Tryd.prog.cellsOf 4=1:=by kernel_rfl
        simp[k0,k1] at g0 g1 g2
        have e0:=hcell 0 (by omega)
        have e1:=hcell 1 (by omega)
        have e2:=hcell 2 (by omega)
        rw[Go.Deep.add_add] at e0 e1 e2
        obtain⟨s0,hs0,_,w0⟩:=DataW.trod_string Tryd.underlying9 g0
        obtain⟨s1,hs1,_,w1⟩:=DataW.trod_string Tryd.underlying9 g1
        obtain⟨s2,hs2,_⟩:=DataW.trod_bool Tryd.underlying4 g2
        simp at hs0 hs1 hs2
        subst hs0 hs1 hs2
        unfold maxLen at w0 w1
        refine⟨(s0.data.toList,s1.data.toList,s2),fun _=>⟨by simpa using e0,by simpa using e1,by simpa using e2,?_,?_⟩⟩
        · simp only[Array.length_toList];exact w0
        · simp only[Array.length_toList];exact w1
    · exact⟨([],[],false),fun h=>absurd h hi⟩
   obtain⟨q,hq⟩:=Classical.skolem.1 each
   refine⟨some a,(List.range len).map q,cap,by rw[hcs];simp,?_,?_,by simp;omega⟩
   · intro p hp
     simp only[List.mem_map,List.mem_range] at hp
     obtain⟨i,hi,rfl⟩:=hp
     exact⟨(hq i hi).2.2.2.1,(hq i hi).2.2.2.2⟩
   · by_cases h0:len=0
     · exact .inl (by simp[h0])
     · obtain⟨b,off,spot⟩:=a
       have hc:=(hq 0 (by omega)).1
       have hspot:spot=none:=by simpa [Addr.add] using World.cell?_spot hc
       subst hspot
       refine .inr ⟨b,off,rfl,fun j hj=>?_⟩
       simp at hj
       have hcj:=hq j hj
       have e1:(⟨b,off,none⟩:Addr).add (j*3)=⟨b,off+j*3,none⟩:=by simp[Addr.add]
       have e2:(⟨b,off,none⟩:Addr).add (j*3+1)=⟨b,off+j*3+1,none⟩:=by simp[Addr.add,Nat.add_assoc]
       have e3:(⟨b,off,none⟩:Addr).add (j*3+2)=⟨b,off+j*3+2,none⟩:=by simp[Addr.add,Nat.add_assoc]
       rw[e1,e2,e3] at hcj
       simp only[List.getElem_map,List.getElem_range]
       exact⟨hcj.1,hcj.2.1,hcj.2.2.1⟩
end Go.Proofs.YtbpgpmchnjbclaaDoor
