import Derived.Test.YtllmclmcncolcaaGreatDoorMathAll
import Derived.Test.YtllmclmcncolcaaGreatDoorStrsAll
import Derived.OneCell
import Derived.Deep.RegionHeld3
import Derived.Test.YtllmclmcncolcaaGreatDoorMath2
import Derived.BigQuiet
import Derived.Deep.QuietTactic
namespace Go.Proofs.YtllmclmcncolcaaGreatDoor
open Go.RowKit
set_option linter.unusedVariables false
abbrev PairL:=List UInt8 × List UInt8
def IsPairs (w:World) (a:Option Addr) (ps:List PairL):Prop :=
 ps=[]∨∃ b off,a=some ⟨b,off,none⟩∧∀ j (h:j<ps.length),w.cell? ⟨b,off+j*2,none⟩=some (.string ⟨ps[j].1.toArray⟩)∧w.cell? ⟨b,off+j*2+1,none⟩=some (.string ⟨ps[j].2.toArray⟩)
theorem IsPairs.later {w w':World} {a:Option Addr} {ps:List PairL} (h:IsPairs w a ps) (hb:Below w.heap.size w w'):IsPairs w' a ps:=by
 rcases h with h | ⟨b,off,h1,h2⟩
 · exact .inl h
 · exact .inr ⟨b,off,h1,fun j h=>⟨(hb.cell (p:=⟨b,off+j*2,none⟩) (World.block_lt_of_cell? w _ (h2 j h).1)).trans (h2 j h).1,(hb.cell (p:=⟨b,off+j*2+1,none⟩) (World.block_lt_of_cell? w _ (h2 j h).2)).trans (h2 j h).2⟩⟩
abbrev OpL:=List UInt8 × List UInt8 × Bool
def ocells:List OpL→List Value
 | []=>[]
 | p :: ps=>.string ⟨p.1.toArray⟩ :: .string ⟨p.2.1.toArray⟩ :: .bool p.2.2 :: ocells ps
theorem ocells_length (ps:List OpL):(ocells ps).length=ps.length*3:=by
 induction ps with
 | nil=>rfl
 | cons p ps ih=>simp[ocells,ih];omega
theorem ocells_app (a b:List OpL):ocells (a ++ b)=ocells a ++ ocells b:=by
 induction a with
 | nil=>rfl
 | cons p ps ih=>simp[ocells,ih]
theorem ocells_at (ps:List OpL) (j:Nat) (h:j<ps.length):(ocells ps)[j*3]? = some (.string ⟨ps[j].1.toArray⟩)∧(ocells ps)[j*3+1]? = some (.string ⟨ps[j].2.1.toArray⟩)∧(ocells ps)[j*3+2]? = some (.bool ps[j].2.2):=by
 induction ps generalizing j with
 | nil=>simp at h
 | cons p ps ih =>
   match j,h with
   | 0,_=>exact⟨rfl,rfl,rfl⟩
   | j + 1, h =>
     have:=ih j (by simpa using h)
     have e:(j+1)*3=j*3+1+1+1:=by omega
     rw[e]
     simpa [ocells] using this
def IsOps (w:World) (a:Option Addr) (ps:List OpL):Prop :=
 ps=[]∨∃ b off,a=some ⟨b,off,none⟩∧∀ j (h:j<ps.length),w.cell? ⟨b,off+j*3,none⟩=some (.string ⟨ps[j].1.toArray⟩)∧w.cell? ⟨b,off+j*3+1,none⟩=some (.string ⟨ps[j].2.1.toArray⟩)∧w.cell? ⟨b,off+j*3+2,none⟩=some (.bool ps[j].2.2)
theorem IsOps.later {w w':World} {a:Option Addr} {ps:List OpL} (h:IsOps w a ps) (hb:Below w.heap.size w w'):IsOps w' a ps:=by
 rcases h with h | ⟨b,off,h1,h2⟩
 · exact .inl h
 · exact .inr ⟨b,off,h1,fun j h=>⟨(hb.cell (p:=⟨b,off+j*3,none⟩) (World.block_lt_of_cell? w _ (h2 j h).1)).trans (h2 j h).1,(hb.cell (p:=⟨b,off+j*3+1,none⟩) (World.block_lt_of_cell? w _ (h2 j h).2.1)).trans (h2 j h).2.1,(hb.cell (p:=⟨b,off+j*3+2,none⟩) (World.block_lt_of_cell? w _ (h2 j h).2.2)).trans (h2 j h).2.2⟩⟩
theorem own_cases3 {w:World} {base e n:Nat} {v:Value} {xs:List Value} (h:w.ownsRow base e 3 v n xs) :
 (v=.slice none 0 0∧n=0∧xs=[])∨∃ g cap,v=.slice (some ⟨g,0,none⟩) n cap∧base≤g∧g<w.heap.size∧(∀ j,j<n*3→w.cell? ⟨g,j,none⟩=xs[j]?)∧∀ j,w.frozen? ⟨g,j,none⟩=false:=by
 rcases h.2 with ⟨rfl,hn⟩ | ⟨g,cap,cur,rfl,hb,hg,_⟩
 · exact .inl ⟨rfl,hn,List.length_eq_zero_iff.1 (by rw[h.1,hn])⟩
 · exact .inr ⟨g,cap,rfl,hb,lt_of_block hg,fun j hj=>h.cellAt j hj,fun j=>h.frozenAt j⟩
theorem kept3 {w w':World} {b e n:Nat} {v:Value} {xs:List Value} (h:w.ownsRow b e 3 v n xs) (hb:Below w.heap.size w w'):w'.ownsRow b e 3 v n xs :=
 h.kept (row:=none) ⟨hb.os,hb.tape,hb.output,hb.size,fun k hk _=>hb.block k hk⟩ (by cases v.ownBlock with | none=>exact .inl rfl | some k=>exact .inr (by simp))
theorem take_snocO (ps:List OpL) (j:Nat) (h:j<ps.length):ps.take (j+1)=ps.take j ++ [ps[j]]:=by rw[List.take_succ_eq_append_getElem h]
def marksO (k n:Nat):List OpL:=(List.range n).map fun i=>(markT (k+3*i),markT (k+3*i+1),decide ((k+3*i+2) % 3=0))
theorem marksO_length (k n:Nat):(marksO k n).length=n:=by simp[marksO]
theorem marksO_at (k n j:Nat) (h:j<(marksO k n).length):(marksO k n)[j]=(markT (k+3*j),markT (k+3*j+1),decide ((k+3*j+2) % 3=0)):=by simp[marksO]
theorem marksO_snoc (k j:Nat):marksO k (j+1)=marksO k j ++ [(markT (k+3*j),markT (k+3*j+1),decide ((k+3*j+2) % 3=0))]:=by simp[marksO,List.range_succ]
def markedO (k j:Nat) (ps:List OpL):List Value:=ocells (marksO k j) ++ ocells (ps.drop j)
theorem markedO_zero (k:Nat) (ps:List OpL):markedO k 0 ps=ocells ps:=by simp[markedO,marksO,ocells]
theorem markedO_all (k:Nat) (ps:List OpL):markedO k ps.length ps=ocells (marksO k ps.length):=by simp[markedO,ocells]
theorem markedO_length (k j:Nat) (ps:List OpL) (h:j≤ps.length):(markedO k j ps).length=ps.length*3:=by simp[markedO,ocells_length,marksO_length];omega
theorem markedO_step (k j:Nat) (ps:List OpL) (h:j<ps.length):(((markedO k j ps).set (j*3) (.string ⟨(markT (k+3*j)).toArray⟩)).set (j*3+1) (.string ⟨(markT (k+3*j+1)).toArray⟩)).set (j*3+2) (.bool (decide ((k+3*j+2) % 3=0)))=markedO k (j+1) ps:=by
 have hl:(ocells (marksO k j)).length=j*3:=by rw[ocells_length,marksO_length]
 have e:ps.drop j=ps[j] :: ps.drop (j+1):=by rw[List.drop_eq_getElem_cons h]
 simp only[markedO,marksO_snoc,ocells_app,e,ocells]
 rw[List.set_append_right _ _ (by omega),hl,Nat.sub_self,List.set_append_right _ _ (by omega),hl,List.set_append_right _ _ (by omega),hl]
 simp
def sizeO (ps:List OpL):Nat:=(ps.map fun p=>p.1.length+p.2.1.length).sum
theorem sizeO_snoc (ps:List OpL) (j:Nat) (h:j<ps.length):sizeO (ps.take (j+1))=sizeO (ps.take j)+(ps[j].1.length+ps[j].2.1.length):=by
 rw[take_snocO ps j h];simp only[sizeO,List.map_append,List.sum_append,List.map_cons,List.map_nil,List.sum_cons,List.sum_nil,Nat.add_zero]
theorem bat_cells {w:World} {b:Nat} {u v x:Value} {t:TypeId} (h:w.heap[b]? = some (.cells #[u,v,x] t (0,0))) :
 w.cell? ⟨b,0,none⟩=some u∧w.cell? ⟨b,1,none⟩=some v∧w.cell? ⟨b,2,none⟩=some x∧∀ j,w.frozen? ⟨b,j,none⟩=false:=by
 refine⟨?_,?_,?_,fun j=>frozen_of_row w b j _ t h⟩ <;> simp only[World.cell?,h] <;> rfl
theorem bat_set {w:World} {b j:Nat} {u v x y:Value} {t:TypeId} (h:w.heap[b]? = some (.cells #[u,v,x] t (0,0))):(w.setCell ⟨b,j,none⟩ y).heap[b]? = some (.cells (#[u,v,x].setIfInBounds j y) t (0,0)):=by
 have hlt:=lt_of_block h
 have h':w.heap[b]=.cells #[u,v,x] t (0,0):=by simpa [Array.getElem?_eq_getElem hlt] using h
 show (w.heap.modify b _)[b]? = _
 rw[Array.getElem?_eq_getElem (by simpa using hlt),Array.getElem_modify_self,h']
 rfl
def valAt (ps:List PairL) (j:Nat):List UInt8:=(ps.getD j ([],[])).2
theorem below_dr {B:Nat} {w w':World} {q:Nat} (h:Below B w w'):Below B w (w'.drewN q):=⟨h.os,h.tape,h.output,h.size,h.block⟩
end Go.Proofs.YtllmclmcncolcaaGreatDoor
