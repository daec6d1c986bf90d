/-
 Rows of disk ops (a number and three texts each), on lists: their cells, copies under way, marks (written by mkdop.py).
-/
import Derived.Test.YtlllkdioojjaeaaMathDisk
namespace Go.Proofs.Ytlllkdioojjaeaa
open Go.RowKit
set_option linter.unusedVariables false
def dcells:List DOpL→List Value
 | []=>[]
 | p :: ps=>.int .i64 p.k :: .string ⟨p.n.toArray⟩ :: .string ⟨p.t.toArray⟩ :: .string ⟨p.d.toArray⟩ :: dcells ps
theorem dcells_length (ps:List DOpL):(dcells ps).length=ps.length*4:=by
 induction ps with
 | nil=>rfl
 | cons p ps ih=>simp[dcells,ih];omega
theorem dcells_app (a b:List DOpL):dcells (a ++ b)=dcells a ++ dcells b:=by
 induction a with
 | nil=>rfl
 | cons p ps ih=>simp[dcells,ih]
theorem dcells_at (ps:List DOpL) (j:Nat) (h:j<ps.length):(dcells ps)[j*4]? = some (.int .i64 ps[j].k)∧(dcells ps)[j*4+1]? = some (.string ⟨ps[j].n.toArray⟩)∧(dcells ps)[j*4+2]? = some (.string ⟨ps[j].t.toArray⟩)∧(dcells ps)[j*4+3]? = some (.string ⟨ps[j].d.toArray⟩):=by
 induction ps generalizing j with
 | nil=>simp at h
 | cons p ps ih =>
   match j,h with
   | 0,_=>exact⟨rfl,rfl,rfl,rfl⟩
   | j + 1, h =>
     have:=ih j (by simpa using h)
     have e:(j+1)*4=j*4+1+1+1+1:=by omega
     rw[e]
     simpa [dcells] using this
def IsDOps (w:World) (a:Option Addr) (ps:List DOpL):Prop :=
 ps=[]∨∃ b off,a=some ⟨b,off,none⟩∧∀ j (h:j<ps.length),w.cell? ⟨b,off+j*4,none⟩=some (.int .i64 ps[j].k)∧w.cell? ⟨b,off+j*4+1,none⟩=some (.string ⟨ps[j].n.toArray⟩)∧w.cell? ⟨b,off+j*4+2,none⟩=some (.string ⟨ps[j].t.toArray⟩)∧w.cell? ⟨b,off+j*4+3,none⟩=some (.string ⟨ps[j].d.toArray⟩)
theorem IsDOps.later {w w':World} {a:Option Addr} {ps:List DOpL} (h:IsDOps w a ps) (hb:Below w.heap.size w w'):IsDOps w' a ps:=by
 rcases h with h | ⟨b,off,h1,h2⟩
 · exact .inl h
 · exact .inr ⟨b,off,h1,fun j h=>⟨(hb.cell (p:=⟨b,off+j*4,none⟩) (World.block_lt_of_cell? w _ (h2 j h).1)).trans (h2 j h).1,(hb.cell (p:=⟨b,off+j*4+1,none⟩) (World.block_lt_of_cell? w _ (h2 j h).2.1)).trans (h2 j h).2.1,(hb.cell (p:=⟨b,off+j*4+2,none⟩) (World.block_lt_of_cell? w _ (h2 j h).2.2.1)).trans (h2 j h).2.2.1,(hb.cell (p:=⟨b,off+j*4+3,none⟩) (World.block_lt_of_cell? w _ (h2 j h).2.2.2)).trans (h2 j h).2.2.2⟩⟩
theorem isDOps_own {w:World} {base e n:Nat} {a:Option Addr} {m cap:Nat} {ps:List DOpL} (h:w.ownsRow base e 4 (.slice a m cap) n (dcells ps)):m=ps.length∧n=ps.length∧IsDOps w a ps:=by
 have hl:ps.length=n:=by have:=h.1;rw[dcells_length] at this;omega
 rcases h.2 with ⟨h',h0⟩ | ⟨g,cap',cur,h',_⟩
 · cases h'
   exact⟨by omega,by omega,.inl (List.length_eq_zero_iff.1 (by omega))⟩
 · cases h'
   exact⟨by omega,by omega,.inr ⟨g,0,rfl,fun j hj=>by
    rw[Nat.zero_add,h.cellAt (j*4) (by omega),h.cellAt (j*4+1) (by omega),h.cellAt (j*4+2) (by omega),h.cellAt (j*4+3) (by omega)]
    exact dcells_at ps j hj⟩⟩
theorem own_cases4 {w:World} {base e n:Nat} {v:Value} {xs:List Value} (h:w.ownsRow base e 4 v n xs) :
 (v=.slice none 0 0∧n=0∧xs=[])∨∃ g cap,v=.slice (some ⟨g,0,none⟩) n cap∧base≤g∧g<w.heap.size∧(∀ j,j<n*4→w.cell? ⟨g,j,none⟩=xs[j]?)∧∀ j,w.frozen? ⟨g,j,none⟩=false:=by
 rcases h.2 with ⟨rfl,hn⟩ | ⟨g,cap,cur,rfl,hb,hg,_⟩
 · exact .inl ⟨rfl,hn,List.length_eq_zero_iff.1 (by rw[h.1,hn])⟩
 · exact .inr ⟨g,cap,rfl,hb,lt_of_block hg,fun j hj=>h.cellAt j hj,fun j=>h.frozenAt j⟩
theorem kept4 {w w':World} {b e n:Nat} {v:Value} {xs:List Value} (h:w.ownsRow b e 4 v n xs) (hb:Below w.heap.size w w'):w'.ownsRow b e 4 v n xs :=
 h.kept (row:=none) ⟨hb.os,hb.tape,hb.output,hb.size,fun k hk _=>hb.block k hk⟩ (by cases v.ownBlock with | none=>exact .inl rfl | some k=>exact .inr (by simp))
def noDOps:Nat→List Value
 | 0=>[]
 | n+1=>.int .i64 0 :: .string ⟨#[]⟩ :: .string ⟨#[]⟩ :: .string ⟨#[]⟩ :: noDOps n
theorem noDOps_length (n:Nat):(noDOps n).length=n*4:=by
 induction n with
 | zero=>rfl
 | succ n ih=>simp[noDOps,ih];omega
theorem noDOps_at (n j:Nat) (h:j<n):(noDOps n)[j*4]? = some (.int .i64 0)∧(noDOps n)[j*4+1]? = some (.string ⟨#[]⟩)∧(noDOps n)[j*4+2]? = some (.string ⟨#[]⟩)∧(noDOps n)[j*4+3]? = some (.string ⟨#[]⟩):=by
 induction n generalizing j with
 | zero=>omega
 | succ n ih =>
   match j,h with
   | 0,_=>exact⟨rfl,rfl,rfl,rfl⟩
   | j + 1, h =>
     have:=ih j (by omega)
     have e:(j+1)*4=j*4+1+1+1+1:=by omega
     rw[e]
     simpa [noDOps] using this
def laidD (ps:List DOpL) (j:Nat):List Value:=dcells (ps.take j) ++ noDOps (ps.length - j)
theorem laidD_length (ps:List DOpL) (j:Nat) (h:j≤ps.length):(laidD ps j).length=ps.length*4:=by
 simp[laidD,dcells_length,noDOps_length,Nat.min_eq_left h]
 try omega
theorem laidD_all (ps:List DOpL):laidD ps ps.length=dcells ps:=by simp[laidD,noDOps]
theorem laidD_zero (ps:List DOpL):laidD ps 0=noDOps ps.length:=by simp[laidD,dcells]
theorem take_snocD (ps:List DOpL) (j:Nat) (h:j<ps.length):ps.take (j+1)=ps.take j ++ [ps[j]]:=by rw[List.take_succ_eq_append_getElem h]
theorem laidD_step (ps:List DOpL) (j:Nat) (h:j<ps.length):(((((laidD ps j).set (j*4) (.int .i64 ps[j].k)).set (j*4+1) (.string ⟨ps[j].n.toArray⟩)).set (j*4+2) (.string ⟨ps[j].t.toArray⟩)).set (j*4+3) (.string ⟨ps[j].d.toArray⟩))=laidD ps (j+1):=by
 have hl:(dcells (ps.take j)).length=j*4:=by rw[dcells_length,List.length_take];omega
 obtain⟨n,hn⟩:∃ n,n=ps.length - (j+1):=⟨_,rfl⟩
 have e:ps.length - j=n+1:=by omega
 simp only[laidD,take_snocD ps j h,dcells_app,e,←hn,noDOps]
 rw[List.set_append_right _ _ (by omega),hl,Nat.sub_self,List.set_append_right _ _ (by omega),hl,List.set_append_right _ _ (by omega),hl,List.set_append_right _ _ (by omega),hl]
 simp[dcells]
def marksD (k n:Nat):List DOpL:=(List.range n).map fun i=>⟨((k+4*i:Nat):Int),markT (k+4*i+1),markT (k+4*i+2),markT (k+4*i+3)⟩
theorem marksD_length (k n:Nat):(marksD k n).length=n:=by simp[marksD]
theorem marksD_at (k n j:Nat) (h:j<(marksD k n).length):(marksD k n)[j]=⟨((k+4*j:Nat):Int),markT (k+4*j+1),markT (k+4*j+2),markT (k+4*j+3)⟩:=by simp[marksD]
theorem marksD_snoc (k j:Nat):marksD k (j+1)=marksD k j ++ [⟨((k+4*j:Nat):Int),markT (k+4*j+1),markT (k+4*j+2),markT (k+4*j+3)⟩]:=by simp[marksD,List.range_succ]
def markedD (k j:Nat) (ps:List DOpL):List Value:=dcells (marksD k j) ++ dcells (ps.drop j)
theorem markedD_zero (k:Nat) (ps:List DOpL):markedD k 0 ps=dcells ps:=by simp[markedD,marksD,dcells]
theorem markedD_all (k:Nat) (ps:List DOpL):markedD k ps.length ps=dcells (marksD k ps.length):=by simp[markedD,dcells]
theorem markedD_length (k j:Nat) (ps:List DOpL) (h:j≤ps.length):(markedD k j ps).length=ps.length*4:=by simp[markedD,dcells_length,marksD_length];omega
theorem markedD_step (k j:Nat) (ps:List DOpL) (h:j<ps.length):(((((markedD k j ps).set (j*4) (.int .i64 ((k+4*j:Nat):Int))).set (j*4+1) (.string ⟨(markT (k+4*j+1)).toArray⟩)).set (j*4+2) (.string ⟨(markT (k+4*j+2)).toArray⟩)).set (j*4+3) (.string ⟨(markT (k+4*j+3)).toArray⟩))=markedD k (j+1) ps:=by
 have hl:(dcells (marksD k j)).length=j*4:=by rw[dcells_length,marksD_length]
 have e:ps.drop j=ps[j] :: ps.drop (j+1):=by rw[List.drop_eq_getElem_cons h]
 simp only[markedD,marksD_snoc,dcells_app,e,dcells]
 rw[List.set_append_right _ _ (by omega),hl,Nat.sub_self,List.set_append_right _ _ (by omega),hl,List.set_append_right _ _ (by omega),hl,List.set_append_right _ _ (by omega),hl]
 simp
theorem made_dops (n:Nat):(madeCells (Value.agg #[.int .i64 0,.string ⟨#[]⟩,.string ⟨#[]⟩,.string ⟨#[]⟩]).cells (n*4)).toList=noDOps n:=by
 apply List.ext_getElem?
 intro j
 by_cases hj:j<n*4
 · obtain⟨q,r,hr,rfl⟩:∃ q r,r<4∧j=q*4+r:=⟨j / 4,j % 4,by omega,by omega⟩
   have hq:q<n:=by omega
   have ha:=noDOps_at n q hq
   match r,hr with
   | 0,_=>rw[Nat.add_zero] at hj ⊢;rw[ha.1];simp[madeCells,hj,Value.cells]
   | 1,_=>rw[ha.2.1];simp[madeCells,hj,Value.cells,Nat.add_mod]
   | 2,_=>rw[ha.2.2.1];simp[madeCells,hj,Value.cells,Nat.add_mod]
   | 3,_=>rw[ha.2.2.2];simp[madeCells,hj,Value.cells,Nat.add_mod]
 · have h1:(noDOps n)[j]? = none:=List.getElem?_eq_none (by rw[noDOps_length];omega)
   rw[h1]
   simp[madeCells,hj]
def opN (p:DOpL):Nat:=p.n.length+p.t.length+p.d.length
def sizeD (ps:List DOpL):Nat:=(ps.map opN).sum
theorem sizeD_snoc (ps:List DOpL) (j:Nat) (h:j<ps.length):sizeD (ps.take (j+1))=sizeD (ps.take j)+opN ps[j]:=by
 rw[take_snocD ps j h];simp only[sizeD,List.map_append,List.sum_append,List.map_cons,List.map_nil,List.sum_cons,List.sum_nil,Nat.add_zero]
theorem sizeD_le (ps:List DOpL) (j:Nat) (h:j<ps.length):opN ps[j]≤sizeD ps:=by
 have h1:sizeD ps=sizeD (ps.take (j+1))+sizeD (ps.drop (j+1)):=by
  conv=>lhs;rw[←List.take_append_drop (j+1) ps]
  simp only[sizeD,List.map_append,List.sum_append]
 rw[h1,sizeD_snoc ps j h];omega
end Go.Proofs.Ytlllkdioojjaeaa
