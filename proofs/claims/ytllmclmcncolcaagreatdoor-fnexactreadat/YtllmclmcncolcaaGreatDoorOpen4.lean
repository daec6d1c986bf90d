/-
 A signature that came in, opened: its number, its two lists of texts.
-/
import Derived.Test.YtllmclmcncolcaaGreatDoorStrsAll
import Derived.ProofKit
import Derived.SliceStrings
import Derived.Lib.SmallJoins
namespace Go.Proofs.YtllmclmcncolcaaGreatDoor
open Go.ChangeShapes Go.WideShapes Go.ChangeAt Go.RowKit
set_option linter.unusedVariables false
theorem strs_of {H:Type} {enc:TypeId × Value→H} {W:World} {fuel:Nat} {u:Value} {y:DataW H × List MemPlace} (hf:DataW.trod enc Tryz.prog W 0 (fun _=>true) true fuel 22 [u]=some y) :
 ∃ (a:Option Addr) (ls:List (List UInt8)) (cap:Nat),u=.slice a ls.length cap∧(∀ l∈ls,l.length≤9223372036854775807)∧IsStrs W a ls∧ls.length≤9223372036854775807:=by
 rcases open_strings Tryz.underlying22 Tryz.underlying9 (by kernel_rfl) hf with ⟨hcs,_⟩ | ⟨x,l,c,ss,hcs,_,hl,hm,hz,_,hcell,hwz⟩
 · simp at hcs
   exact⟨none,[],0,hcs,by simp,.inl rfl,by simp⟩
 · simp at hcs
   unfold maxLen at hm
   have hz':ss.length=c:=by simpa using hz
   refine⟨some x,(ss.take l).map (·.data.toList),c,by rw[hcs];simp;omega,?_,?_,by simp;omega⟩
   · intro l hlm
     simp only[List.mem_map] at hlm
     obtain⟨s,hs1,rfl⟩:=hlm
     have:=hwz s (List.mem_of_mem_take hs1)
     unfold maxLen at this
     rw[Array.length_toList];exact this
   · by_cases h0:l=0
     · exact .inl (by simp[h0])
     · obtain⟨b,off,spot⟩:=x
       have hc:=hcell 0 (by omega)
       have hspot:spot=none:=by simpa [Addr.add] using World.cell?_spot hc
       subst hspot
       refine .inr ⟨b,off,rfl,fun j hj=>?_⟩
       simp at hj
       have hjs:j<ss.length:=by omega
       have hcj:=hcell j hjs
       have e1:(⟨b,off,none⟩:Addr).add j=⟨b,off+j,none⟩:=by simp[Addr.add]
       rw[e1,List.getD_eq_getElem?_getD,List.getElem?_eq_getElem hjs,Option.getD_some] at hcj
       rw[hcj]
       simp only[List.getElem_map,List.getElem_take]
theorem int_of {H:Type} {enc:TypeId × Value→H} {W:World} {fuel:Nat} {u:Value} {y:DataW H × List MemPlace} (hf:DataW.trod enc Tryz.prog W 0 (fun _=>true) true fuel 2 [u]=some y):∃ n:Int,u=.int .i64 n:=by
 obtain⟨n,h,_,_⟩:=DataW.trod_int Tryz.underlying2 hf
 simp at h
 exact⟨n,h⟩
end Go.Proofs.YtllmclmcncolcaaGreatDoor
