import Derived.Test.YtcoahmldmodmlaaGreatDoorChunkS
import Derived.Test.YtcoahmldmodmlaaGreatDoorSetAll
import Derived.Test.YtcoahmldmodmlaaGreatDoorPairs
namespace Go.Proofs.YtcoahmldmodmlaaGreatDoor
open Go.RowKit
set_option linter.unusedVariables false
theorem infoPart:(Tryz.prog.info? 48).map (fun i=>(i.zero,i.size,i.bytes))=some (some (.agg #[.bool false,.bool false,.slice none 0 0]),3,32):=by kernel_rfl
theorem infoChunk:(Tryz.prog.info? 28).map (fun i=>(i.zero,i.size,i.bytes))=some (some (.agg #[.bool false,.bool false,.slice none 0 0]),3,32):=by kernel_rfl
theorem piece_isPairs {w:World} {b off:Nat} {ps:List PairL} {p m:Nat} (h:IsPairs w (some ⟨b,off,none⟩) ps):IsPairs w (some ⟨b,off+p*2,none⟩) ((ps.drop p).take m):=by
 rcases h with rfl | ⟨b',off',he,hc⟩
 · exact .inl (by simp)
 · cases he
   refine .inr ⟨b,off+p*2,rfl,fun j hj=>?_⟩
   simp at hj
   have:=hc (p+j) (by omega)
   simp only[List.getElem_take,List.getElem_drop]
   rw[show off+p*2+j*2=off+(p+j)*2 by omega]
   exact this
theorem OwnC.moved {wp w':World} {lo e e':Nat} {v c:Value} {cs:List ChL} {vs:List Value} (h:OwnC wp lo e v cs vs) (hlo:lo≤wp.heap.size) (hb:Below wp.heap.size wp w') (hr:w'.ownsRow wp.heap.size e' 3 c cs.length (ccells cs vs)):OwnC w' lo e' c cs vs :=
 ⟨h.len,hr.mono hlo,fun j x u h1 h2=>kept_new (h.kid j x u h1 h2) hb,h.apart,fun i u k hu hk e=>by have:=(h.lt hu hk).2;have:=(hr.lt k e).1;omega⟩
theorem ccells_take (cs:List ChL) (vs:List Value) (j:Nat) (c:ChL) (u:Value) (hl:vs.length=cs.length) (hc:cs[j]? = some c) (hu:vs[j]? = some u):ccells (cs.take (j+1)) (vs.take (j+1))=ccells (cs.take j) (vs.take j) ++ [.bool c.1,.bool c.2.1,u]:=by
 obtain⟨h1,e1⟩:=List.getElem?_eq_some_iff.1 hc
 obtain⟨h2,e2⟩:=List.getElem?_eq_some_iff.1 hu
 rw[List.take_succ_eq_append_getElem h1,List.take_succ_eq_append_getElem h2,e1,e2]
 exact ccells_snoc _ _ _ _ (by simp[hl])
def chunksOkL (ps:List PairL) (mo:Int):Bool:=pairsOkL ps && (decide (1≤mo) && decide (mo≤8))
def chunksR (ps:List PairL) (mo:Int):List ChL:=if chunksOkL ps mo=true then chunksL ps mo.toNat else []
theorem chunksN_le {n m:Nat} (hn:n≤60):chunksN n m≤61:=by
 unfold chunksN
 split
 · omega
 · have:=Nat.div_le_self (n - 1) m;omega
theorem chunksL_length (ps:List PairL) (m:Nat):(chunksL ps m).length=chunksN ps.length m:=chunksTo_length _ _ _
theorem chunksN_pos (n m:Nat):1≤chunksN n m:=by
 unfold chunksN
 split
 · omega
 · exact Nat.le_add_left 1 _
end Go.Proofs.YtcoahmldmodmlaaGreatDoor
