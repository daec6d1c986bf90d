/-
 Rows of two texts each, on lists: their cells, copies under way, marks.
-/
import Derived.Test.YtlllkdioojjaeaaMathAll
namespace Go.Proofs.Ytlllkdioojjaeaa
open Go.RowKit
set_option linter.unusedVariables false
abbrev PairL:=List UInt8 × List UInt8
def pcells:List PairL→List Value
 | []=>[]
 | p :: ps=>.string ⟨p.1.toArray⟩ :: .string ⟨p.2.toArray⟩ :: pcells ps
theorem pcells_length (ps:List PairL):(pcells ps).length=ps.length*2:=by
 induction ps with
 | nil=>rfl
 | cons p ps ih=>simp[pcells,ih];omega
theorem pcells_app (a b:List PairL):pcells (a ++ b)=pcells a ++ pcells b:=by
 induction a with
 | nil=>rfl
 | cons p ps ih=>simp[pcells,ih]
theorem pcells_at (ps:List PairL) (j:Nat) (h:j<ps.length):(pcells ps)[j*2]? = some (.string ⟨ps[j].1.toArray⟩)∧(pcells ps)[j*2+1]? = some (.string ⟨ps[j].2.toArray⟩):=by
 induction ps generalizing j with
 | nil=>simp at h
 | cons p ps ih =>
   match j,h with
   | 0,_=>exact⟨rfl,rfl⟩
   | j + 1, h =>
     have:=ih j (by simpa using h)
     have e:(j+1)*2=j*2+1+1:=by omega
     rw[e]
     simpa [pcells] using this
def IsPairs (w:World) (a:Option Addr) (ps:List PairL):Prop :=
 ps=[]∨∃ b off,a=some ⟨b,off,none⟩∧∀ j (h:j<ps.length),w.cell? ⟨b,off+j*2,none⟩=some (.string ⟨ps[j].1.toArray⟩)∧w.cell? ⟨b,off+j*2+1,none⟩=some (.string ⟨ps[j].2.toArray⟩)
theorem IsPairs.later {w w':World} {a:Option Addr} {ps:List PairL} (h:IsPairs w a ps) (hb:Below w.heap.size w w'):IsPairs w' a ps:=by
 rcases h with h | ⟨b,off,h1,h2⟩
 · exact .inl h
 · exact .inr ⟨b,off,h1,fun j h=>⟨(hb.cell (p:=⟨b,off+j*2,none⟩) (World.block_lt_of_cell? w _ (h2 j h).1)).trans (h2 j h).1,(hb.cell (p:=⟨b,off+j*2+1,none⟩) (World.block_lt_of_cell? w _ (h2 j h).2)).trans (h2 j h).2⟩⟩
theorem isPairs_own {w:World} {base e n:Nat} {a:Option Addr} {m cap:Nat} {ps:List PairL} (h:w.ownsRow base e 2 (.slice a m cap) n (pcells ps)):m=ps.length∧n=ps.length∧IsPairs w a ps:=by
 have hl:ps.length=n:=by have:=h.1;rw[pcells_length] at this;omega
 rcases h.2 with ⟨h',h0⟩ | ⟨g,cap',cur,h',_⟩
 · cases h'
   exact⟨by omega,by omega,.inl (List.length_eq_zero_iff.1 (by omega))⟩
 · cases h'
   exact⟨by omega,by omega,.inr ⟨g,0,rfl,fun j hj=>by
    rw[Nat.zero_add,h.cellAt (j*2) (by omega),h.cellAt (j*2+1) (by omega)]
    exact pcells_at ps j hj⟩⟩
theorem own_cases2 {w:World} {base e n:Nat} {v:Value} {xs:List Value} (h:w.ownsRow base e 2 v n xs) :
 (v=.slice none 0 0∧n=0∧xs=[])∨∃ g cap,v=.slice (some ⟨g,0,none⟩) n cap∧base≤g∧g<w.heap.size∧(∀ j,j<n*2→w.cell? ⟨g,j,none⟩=xs[j]?)∧∀ j,w.frozen? ⟨g,j,none⟩=false:=by
 rcases h.2 with ⟨rfl,hn⟩ | ⟨g,cap,cur,rfl,hb,hg,_⟩
 · exact .inl ⟨rfl,hn,List.length_eq_zero_iff.1 (by rw[h.1,hn])⟩
 · exact .inr ⟨g,cap,rfl,hb,lt_of_block hg,fun j hj=>h.cellAt j hj,fun j=>h.frozenAt j⟩
theorem own_slice2 {w:World} {base e size n:Nat} {v:Value} {xs:List Value} (h:w.ownsRow base e size v n xs):∃ a m c,v=.slice a m c:=by
 rcases h.2 with ⟨rfl,_⟩ | ⟨g,cap,cur,rfl,_⟩
 · exact⟨_,_,_,rfl⟩
 · exact⟨_,_,_,rfl⟩
theorem kept2 {w w':World} {b e n:Nat} {v:Value} {xs:List Value} (h:w.ownsRow b e 2 v n xs) (hb:Below w.heap.size w w'):w'.ownsRow b e 2 v n xs :=
 h.kept (row:=none) ⟨hb.os,hb.tape,hb.output,hb.size,fun k hk _=>hb.block k hk⟩ (by cases v.ownBlock with | none=>exact .inl rfl | some k=>exact .inr (by simp))
def laidP (ps:List PairL) (j:Nat):List Value:=pcells (ps.take j) ++ List.replicate ((ps.length - j)*2) (.string ⟨#[]⟩)
theorem laidP_length (ps:List PairL) (j:Nat) (h:j≤ps.length):(laidP ps j).length=ps.length*2:=by
 simp[laidP,pcells_length,Nat.min_eq_left h]
 try omega
theorem laidP_all (ps:List PairL):laidP ps ps.length=pcells ps:=by simp[laidP]
theorem laidP_zero (ps:List PairL):laidP ps 0=List.replicate (ps.length*2) (.string ⟨#[]⟩):=by simp[laidP,pcells]
theorem take_snocP (ps:List PairL) (j:Nat) (h:j<ps.length):ps.take (j+1)=ps.take j ++ [ps[j]]:=by rw[List.take_succ_eq_append_getElem h]
theorem laidP_step (ps:List PairL) (j:Nat) (h:j<ps.length):((laidP ps j).set (j*2) (.string ⟨ps[j].1.toArray⟩)).set (j*2+1) (.string ⟨ps[j].2.toArray⟩)=laidP ps (j+1):=by
 have hl:(pcells (ps.take j)).length=j*2:=by rw[pcells_length,List.length_take];omega
 have e:(ps.length - j)*2=(ps.length - (j+1))*2+1+1:=by omega
 simp only[laidP,take_snocP ps j h,pcells_app,e,List.replicate_succ]
 rw[List.set_append_right _ _ (by omega),hl,Nat.sub_self,List.set_append_right _ _ (by omega),hl]
 simp[pcells]
def marksP (k n:Nat):List PairL:=(List.range n).map fun i=>(markT (k+2*i),markT (k+2*i+1))
theorem marksP_length (k n:Nat):(marksP k n).length=n:=by simp[marksP]
theorem marksP_at (k n j:Nat) (h:j<(marksP k n).length):(marksP k n)[j]=(markT (k+2*j),markT (k+2*j+1)):=by simp[marksP]
theorem marksP_snoc (k j:Nat):marksP k (j+1)=marksP k j ++ [(markT (k+2*j),markT (k+2*j+1))]:=by simp[marksP,List.range_succ]
def markedP (k j:Nat) (ps:List PairL):List Value:=pcells (marksP k j) ++ pcells (ps.drop j)
theorem markedP_zero (k:Nat) (ps:List PairL):markedP k 0 ps=pcells ps:=by simp[markedP,marksP,pcells]
theorem markedP_all (k:Nat) (ps:List PairL):markedP k ps.length ps=pcells (marksP k ps.length):=by simp[markedP,pcells]
theorem markedP_length (k j:Nat) (ps:List PairL) (h:j≤ps.length):(markedP k j ps).length=ps.length*2:=by simp[markedP,pcells_length,marksP_length];omega
theorem markedP_step (k j:Nat) (ps:List PairL) (h:j<ps.length):((markedP k j ps).set (j*2) (.string ⟨(markT (k+2*j)).toArray⟩)).set (j*2+1) (.string ⟨(markT (k+2*j+1)).toArray⟩)=markedP k (j+1) ps:=by
 have hl:(pcells (marksP k j)).length=j*2:=by rw[pcells_length,marksP_length]
 have e:ps.drop j=ps[j] :: ps.drop (j+1):=by rw[List.drop_eq_getElem_cons h]
 simp only[markedP,marksP_snoc,pcells_app,e,pcells]
 rw[List.set_append_right _ _ (by omega),hl,Nat.sub_self,List.set_append_right _ _ (by omega),hl]
 simp
theorem made_pairs (n:Nat):(madeCells (Value.agg #[.string ⟨#[]⟩,.string ⟨#[]⟩]).cells (n*2)).toList=List.replicate (n*2) (.string ⟨#[]⟩):=by
 apply List.ext_getElem?
 intro j
 by_cases hj:j<n*2
 · rcases Nat.mod_two_eq_zero_or_one j with h | h <;> simp[madeCells,hj,Value.cells,h]
 · simp[madeCells,hj]
theorem duo_set_cell {w:World} {b j:Nat} {x y:Value} {a:Addr} (h:a.block≠b):((w.setCell ⟨b,j,none⟩ x).setCell ⟨b,j+1,none⟩ y).cell? a=w.cell? a :=
 World.cell?_of_block ((Below.heap_setCell _ _ _ _ (by simpa using h)).trans (Below.heap_setCell _ _ _ _ (by simpa using h)))
def sizeP (ps:List PairL):Nat:=(ps.map fun p=>p.1.length+p.2.length).sum
theorem sizeP_snoc (ps:List PairL) (j:Nat) (h:j<ps.length):sizeP (ps.take (j+1))=sizeP (ps.take j)+(ps[j].1.length+ps[j].2.length):=by
 rw[take_snocP ps j h];simp only[sizeP,List.map_append,List.sum_append,List.map_cons,List.map_nil,List.sum_cons,List.sum_nil,Nat.add_zero]
theorem sizeP_le (ps:List PairL) (j:Nat) (h:j<ps.length):ps[j].1.length+ps[j].2.length≤sizeP ps:=by
 have h1:sizeP ps=sizeP (ps.take (j+1))+sizeP (ps.drop (j+1)):=by
  conv=>lhs;rw[←List.take_append_drop (j+1) ps]
  simp only[sizeP,List.map_append,List.sum_append]
 rw[h1,sizeP_snoc ps j h];omega
end Go.Proofs.Ytlllkdioojjaeaa
