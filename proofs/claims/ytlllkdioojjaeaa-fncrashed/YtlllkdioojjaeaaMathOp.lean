/-
 Rows of ops (two texts and a bool each), on lists: their cells, copies under way, marks; batches.
-/
import Derived.Test.YtlllkdioojjaeaaMathPair
namespace Go.Proofs.Ytlllkdioojjaeaa
open Go.RowKit
set_option linter.unusedVariables false
abbrev OpL:=List UInt8 × List UInt8 × Bool
def ocells:List OpL→List Value
 | []=>[]
 | p :: ps=>.string ⟨p.1.toArray⟩ :: .string ⟨p.2.1.toArray⟩ :: .bool p.2.2 :: ocells ps
theorem ocells_length (ps:List OpL):(ocells ps).length=ps.length*3:=by
 induction ps with
 | nil=>rfl
 | cons p ps ih=>simp[ocells,ih];omega
theorem ocells_app (a b:List OpL):ocells (a ++ b)=ocells a ++ ocells b:=by
 induction a with
 | nil=>rfl
 | cons p ps ih=>simp[ocells,ih]
theorem ocells_at (ps:List OpL) (j:Nat) (h:j<ps.length):(ocells ps)[j*3]? = some (.string ⟨ps[j].1.toArray⟩)∧(ocells ps)[j*3+1]? = some (.string ⟨ps[j].2.1.toArray⟩)∧(ocells ps)[j*3+2]? = some (.bool ps[j].2.2):=by
 induction ps generalizing j with
 | nil=>simp at h
 | cons p ps ih =>
   match j,h with
   | 0,_=>exact⟨rfl,rfl,rfl⟩
   | j + 1, h =>
     have:=ih j (by simpa using h)
     have e:(j+1)*3=j*3+1+1+1:=by omega
     rw[e]
     simpa [ocells] using this
def IsOps (w:World) (a:Option Addr) (ps:List OpL):Prop :=
 ps=[]∨∃ b off,a=some ⟨b,off,none⟩∧∀ j (h:j<ps.length),w.cell? ⟨b,off+j*3,none⟩=some (.string ⟨ps[j].1.toArray⟩)∧w.cell? ⟨b,off+j*3+1,none⟩=some (.string ⟨ps[j].2.1.toArray⟩)∧w.cell? ⟨b,off+j*3+2,none⟩=some (.bool ps[j].2.2)
theorem IsOps.later {w w':World} {a:Option Addr} {ps:List OpL} (h:IsOps w a ps) (hb:Below w.heap.size w w'):IsOps w' a ps:=by
 rcases h with h | ⟨b,off,h1,h2⟩
 · exact .inl h
 · exact .inr ⟨b,off,h1,fun j h=>⟨(hb.cell (p:=⟨b,off+j*3,none⟩) (World.block_lt_of_cell? w _ (h2 j h).1)).trans (h2 j h).1,(hb.cell (p:=⟨b,off+j*3+1,none⟩) (World.block_lt_of_cell? w _ (h2 j h).2.1)).trans (h2 j h).2.1,(hb.cell (p:=⟨b,off+j*3+2,none⟩) (World.block_lt_of_cell? w _ (h2 j h).2.2)).trans (h2 j h).2.2⟩⟩
theorem isOps_own {w:World} {base e n:Nat} {a:Option Addr} {m cap:Nat} {ps:List OpL} (h:w.ownsRow base e 3 (.slice a m cap) n (ocells ps)):m=ps.length∧n=ps.length∧IsOps w a ps:=by
 have hl:ps.length=n:=by have:=h.1;rw[ocells_length] at this;omega
 rcases h.2 with ⟨h',h0⟩ | ⟨g,cap',cur,h',_⟩
 · cases h'
   exact⟨by omega,by omega,.inl (List.length_eq_zero_iff.1 (by omega))⟩
 · cases h'
   exact⟨by omega,by omega,.inr ⟨g,0,rfl,fun j hj=>by
    rw[Nat.zero_add,h.cellAt (j*3) (by omega),h.cellAt (j*3+1) (by omega),h.cellAt (j*3+2) (by omega)]
    exact ocells_at ps j hj⟩⟩
theorem own_cases3 {w:World} {base e n:Nat} {v:Value} {xs:List Value} (h:w.ownsRow base e 3 v n xs) :
 (v=.slice none 0 0∧n=0∧xs=[])∨∃ g cap,v=.slice (some ⟨g,0,none⟩) n cap∧base≤g∧g<w.heap.size∧(∀ j,j<n*3→w.cell? ⟨g,j,none⟩=xs[j]?)∧∀ j,w.frozen? ⟨g,j,none⟩=false:=by
 rcases h.2 with ⟨rfl,hn⟩ | ⟨g,cap,cur,rfl,hb,hg,_⟩
 · exact .inl ⟨rfl,hn,List.length_eq_zero_iff.1 (by rw[h.1,hn])⟩
 · exact .inr ⟨g,cap,rfl,hb,lt_of_block hg,fun j hj=>h.cellAt j hj,fun j=>h.frozenAt j⟩
theorem kept3 {w w':World} {b e n:Nat} {v:Value} {xs:List Value} (h:w.ownsRow b e 3 v n xs) (hb:Below w.heap.size w w'):w'.ownsRow b e 3 v n xs :=
 h.kept (row:=none) ⟨hb.os,hb.tape,hb.output,hb.size,fun k hk _=>hb.block k hk⟩ (by cases v.ownBlock with | none=>exact .inl rfl | some k=>exact .inr (by simp))
def noOps:Nat→List Value
 | 0=>[]
 | n+1=>.string ⟨#[]⟩ :: .string ⟨#[]⟩ :: .bool false :: noOps n
theorem noOps_length (n:Nat):(noOps n).length=n*3:=by
 induction n with
 | zero=>rfl
 | succ n ih=>simp[noOps,ih];omega
theorem noOps_at (n j:Nat) (h:j<n):(noOps n)[j*3]? = some (.string ⟨#[]⟩)∧(noOps n)[j*3+1]? = some (.string ⟨#[]⟩)∧(noOps n)[j*3+2]? = some (.bool false):=by
 induction n generalizing j with
 | zero=>omega
 | succ n ih =>
   match j,h with
   | 0,_=>exact⟨rfl,rfl,rfl⟩
   | j + 1, h =>
     have:=ih j (by omega)
     have e:(j+1)*3=j*3+1+1+1:=by omega
     rw[e]
     simpa [noOps] using this
def laidO (ps:List OpL) (j:Nat):List Value:=ocells (ps.take j) ++ noOps (ps.length - j)
theorem laidO_length (ps:List OpL) (j:Nat) (h:j≤ps.length):(laidO ps j).length=ps.length*3:=by
 simp[laidO,ocells_length,noOps_length,Nat.min_eq_left h]
 try omega
theorem laidO_all (ps:List OpL):laidO ps ps.length=ocells ps:=by simp[laidO,noOps]
theorem laidO_zero (ps:List OpL):laidO ps 0=noOps ps.length:=by simp[laidO,ocells]
theorem take_snocO (ps:List OpL) (j:Nat) (h:j<ps.length):ps.take (j+1)=ps.take j ++ [ps[j]]:=by rw[List.take_succ_eq_append_getElem h]
theorem laidO_step (ps:List OpL) (j:Nat) (h:j<ps.length):(((laidO ps j).set (j*3) (.string ⟨ps[j].1.toArray⟩)).set (j*3+1) (.string ⟨ps[j].2.1.toArray⟩)).set (j*3+2) (.bool ps[j].2.2)=laidO ps (j+1):=by
 have hl:(ocells (ps.take j)).length=j*3:=by rw[ocells_length,List.length_take];omega
 obtain⟨n,hn⟩:∃ n,n=ps.length - (j+1):=⟨_,rfl⟩
 have e:ps.length - j=n+1:=by omega
 simp only[laidO,take_snocO ps j h,ocells_app,e,←hn,noOps]
 rw[List.set_append_right _ _ (by omega),hl,Nat.sub_self,List.set_append_right _ _ (by omega),hl,List.set_append_right _ _ (by omega),hl]
 simp[ocells]
def marksO (k n:Nat):List OpL:=(List.range n).map fun i=>(markT (k+3*i),markT (k+3*i+1),decide ((k+3*i+2) % 3=0))
theorem marksO_length (k n:Nat):(marksO k n).length=n:=by simp[marksO]
theorem marksO_at (k n j:Nat) (h:j<(marksO k n).length):(marksO k n)[j]=(markT (k+3*j),markT (k+3*j+1),decide ((k+3*j+2) % 3=0)):=by simp[marksO]
theorem marksO_snoc (k j:Nat):marksO k (j+1)=marksO k j ++ [(markT (k+3*j),markT (k+3*j+1),decide ((k+3*j+2) % 3=0))]:=by simp[marksO,List.range_succ]
def markedO (k j:Nat) (ps:List OpL):List Value:=ocells (marksO k j) ++ ocells (ps.drop j)
theorem markedO_zero (k:Nat) (ps:List OpL):markedO k 0 ps=ocells ps:=by simp[markedO,marksO,ocells]
theorem markedO_all (k:Nat) (ps:List OpL):markedO k ps.length ps=ocells (marksO k ps.length):=by simp[markedO,ocells]
theorem markedO_length (k j:Nat) (ps:List OpL) (h:j≤ps.length):(markedO k j ps).length=ps.length*3:=by simp[markedO,ocells_length,marksO_length];omega
theorem markedO_step (k j:Nat) (ps:List OpL) (h:j<ps.length):(((markedO k j ps).set (j*3) (.string ⟨(markT (k+3*j)).toArray⟩)).set (j*3+1) (.string ⟨(markT (k+3*j+1)).toArray⟩)).set (j*3+2) (.bool (decide ((k+3*j+2) % 3=0)))=markedO k (j+1) ps:=by
 have hl:(ocells (marksO k j)).length=j*3:=by rw[ocells_length,marksO_length]
 have e:ps.drop j=ps[j] :: ps.drop (j+1):=by rw[List.drop_eq_getElem_cons h]
 simp only[markedO,marksO_snoc,ocells_app,e,ocells]
 rw[List.set_append_right _ _ (by omega),hl,Nat.sub_self,List.set_append_right _ _ (by omega),hl,List.set_append_right _ _ (by omega),hl]
 simp
theorem made_ops (n:Nat):(madeCells (Value.agg #[.string ⟨#[]⟩,.string ⟨#[]⟩,.bool false]).cells (n*3)).toList=noOps n:=by
 apply List.ext_getElem?
 intro j
 by_cases hj:j<n*3
 · obtain⟨q,r,hr,rfl⟩:∃ q r,r<3∧j=q*3+r:=⟨j / 3,j % 3,by omega,by omega⟩
   have hq:q<n:=by omega
   have ha:=noOps_at n q hq
   match r,hr with
   | 0,_=>rw[Nat.add_zero] at hj ⊢;rw[ha.1];simp[madeCells,hj,Value.cells]
   | 1,_=>rw[ha.2.1];simp[madeCells,hj,Value.cells,Nat.add_mod]
   | 2,_=>rw[ha.2.2];simp[madeCells,hj,Value.cells,Nat.add_mod]
 · have h1:(noOps n)[j]? = none:=List.getElem?_eq_none (by rw[noOps_length];omega)
   rw[h1]
   simp[madeCells,hj]
def sizeO (ps:List OpL):Nat:=(ps.map fun p=>p.1.length+p.2.1.length).sum
theorem sizeO_snoc (ps:List OpL) (j:Nat) (h:j<ps.length):sizeO (ps.take (j+1))=sizeO (ps.take j)+(ps[j].1.length+ps[j].2.1.length):=by
 rw[take_snocO ps j h];simp only[sizeO,List.map_append,List.sum_append,List.map_cons,List.map_nil,List.sum_cons,List.sum_nil,Nat.add_zero]
theorem sizeO_le (ps:List OpL) (j:Nat) (h:j<ps.length):ps[j].1.length+ps[j].2.1.length≤sizeO ps:=by
 have h1:sizeO ps=sizeO (ps.take (j+1))+sizeO (ps.drop (j+1)):=by
  conv=>lhs;rw[←List.take_append_drop (j+1) ps]
  simp only[sizeO,List.map_append,List.sum_append]
 rw[h1,sizeO_snoc ps j h];omega
theorem sizesO_le (ps:List OpL) (h:ps.length+sizeO ps≤1048576):∀ p∈ps,p.1.length≤1048576∧p.2.1.length≤1048576:=by
 intro p hp
 obtain⟨j,hj,rfl⟩:=List.getElem_of_mem hp
 have:=sizeO_le ps j hj
 exact⟨by omega,by omega⟩
def opOk (p:OpL):Bool:=decide (p.1.length≤12) && (if p.2.2 then p.2.1.isEmpty else (!p.2.1.isEmpty && decide (p.2.1.length≤60)))
def numOk (n:Int):Bool:=decide (1≤n∧n≤1000000000000)
def batchOk (c n:Int) (ps:List OpL):Bool:=numOk c && numOk n && decide (1≤ps.length) && decide (ps.length≤12) && ps.all opOk
theorem batchOk_bad (c n:Int) (ps:List OpL) (j:Nat) (h:j<ps.length) (hb:opOk ps[j]=false):batchOk c n ps=false:=by
 have:ps.all opOk=false:=by
  rw[List.all_eq_false]
  exact⟨ps[j],List.getElem_mem _,by simp[hb]⟩
 simp[batchOk,this]
theorem batchOk_all (c n:Int) (ps:List OpL) (h1:numOk c=true) (h2:numOk n=true) (h3:1≤ps.length) (h4:ps.length≤12) (h:∀ j (hj:j<ps.length),opOk ps[j]=true):batchOk c n ps=true:=by
 simp only[batchOk,Bool.and_eq_true,decide_eq_true_eq,List.all_eq_true]
 refine⟨⟨⟨⟨h1,h2⟩,h3⟩,h4⟩,fun p hp=>?_⟩
 obtain⟨j,hj,rfl⟩:=List.getElem_of_mem hp
 exact h j hj
end Go.Proofs.Ytlllkdioojjaeaa
