import Derived.Test.YtkagiehbjnfabaaDoorVoteL
import Derived.Test.YtkagiehbjnfabaaDoorIListAll
import Derived.Laws.OwnMore
namespace Go.Proofs.YtkagiehbjnfabaaDoor
open Go.RowKit
set_option linter.unusedVariables false
structure VoteV where
 nd:Int
 i:Int
 os:List (List UInt8)
 ps:List (List UInt8)
def IsVotes (w:World) (a:Option Addr) (vs:List VoteV):Prop :=
 vs=[]∨∃ b off,a=some ⟨b,off,none⟩∧∀ j (h:j<vs.length),∃ ao co ap cp,w.cell? ⟨b,off+j*4,none⟩=some (.int .i64 vs[j].nd)∧w.cell? ⟨b,off+j*4+1,none⟩=some (.int .i64 vs[j].i)∧w.cell? ⟨b,off+j*4+2,none⟩=some (.slice ao vs[j].os.length co)∧w.cell? ⟨b,off+j*4+3,none⟩=some (.slice ap vs[j].ps.length cp)∧IsStrs w ao vs[j].os∧IsStrs w ap vs[j].ps
theorem IsVotes.later {w w':World} {a:Option Addr} {vs:List VoteV} (h:IsVotes w a vs) (hb:Below w.heap.size w w'):IsVotes w' a vs:=by
 rcases h with h | ⟨b,off,h1,h2⟩
 · exact .inl h
 · refine .inr ⟨b,off,h1,fun j hj=>?_⟩
   obtain⟨ao,co,ap,cp,c0,c1,c2,c3,s1,s2⟩:=h2 j hj
   have hl:=World.block_lt_of_cell? w _ c0
   exact⟨ao,co,ap,cp,(hb.cell (p:=⟨b,off+j*4,none⟩) hl).trans c0,(hb.cell (p:=⟨b,off+j*4+1,none⟩) hl).trans c1,(hb.cell (p:=⟨b,off+j*4+2,none⟩) hl).trans c2,(hb.cell (p:=⟨b,off+j*4+3,none⟩) hl).trans c3,strs_later s1 hb,strs_later s2 hb⟩
def sizeV (v:VoteV):Nat:=v.os.length+v.os.flatten.length+v.ps.length+v.ps.flatten.length
def sizeVs (vs:List VoteV):Nat:=(vs.map sizeV).sum
theorem sizeVs_take (vs:List VoteV) (j:Nat) (h:j<vs.length):sizeVs (vs.take (j+1))=sizeVs (vs.take j)+sizeV vs[j]:=by
 rw[List.take_succ_eq_append_getElem h,sizeVs,sizeVs,List.map_append,List.sum_append];simp
theorem sizeVs_at (vs:List VoteV) (j:Nat) (h:j<vs.length):sizeV vs[j]≤sizeVs vs:=by
 have:∀ (l:List VoteV) (v:VoteV),v∈l→sizeV v≤sizeVs l:=fun l=>by
  induction l with
  | nil=>simp
  | cons x r ih =>
    intro v hv
    rcases List.mem_cons.1 hv with rfl | h1
    · simp[sizeVs]
    · have:=ih v h1;simp only[sizeVs,List.map_cons,List.sum_cons] at this ⊢;omega
 exact this vs _ (List.getElem_mem h)
def bigV (v:VoteV):Prop:=v.os.length≤9223372036854775807∧v.ps.length≤9223372036854775807∧(∀ l∈v.os,l.length≤9223372036854775807)∧(∀ l∈v.ps,l.length≤9223372036854775807)
theorem hidOwn4 {w:World} {b e n:Nat} {v:Value} {xs:List Value} (h:w.ownsRow b e 4 v n xs):Hid (w.ownsRow b e 4 v n xs):=h
theorem own_lt4 {w:World} {b e n g m cap:Nat} {xs:List Value} (h:w.ownsRow b e 4 (.slice (some ⟨g,0,none⟩) m cap) n xs):g<w.heap.size:=(h.lt g (by simp[Value.ownBlock])).2
theorem strs_store {w:World} {a:Option Addr} {ls:List (List UInt8)} {g j:Nat} (h:IsStrs w a ls) (hne:∀ b off,a=some ⟨b,off,none⟩→b≠g) (y:Value):IsStrs (w.setCell ⟨g,j,none⟩ y) a ls:=by
 rcases h with h | ⟨b,off,h1,h2⟩
 · exact .inl h
 · exact .inr ⟨b,off,h1,fun q hq=>(World.cell?_of_block (a:=⟨b,off+q,none⟩) (Below.heap_setCell _ _ _ _ (hne b off h1))).trans (h2 q hq)⟩
def VoteRow (w:World) (g:Nat) (vs:List VoteV) (xs:List Value) (j:Nat):Prop:=∀ q (h:q<vs.length),q<j→∃ g1 g2:Nat,g1≠g∧g2≠g∧xs[q*4]? = some (.int .i64 vs[q].nd)∧xs[q*4+1]? = some (.int .i64 vs[q].i)∧xs[q*4+2]? = some (.slice (some ⟨g1,0,none⟩) vs[q].os.length vs[q].os.length)∧xs[q*4+3]? = some (.slice (some ⟨g2,0,none⟩) vs[q].ps.length vs[q].ps.length)∧IsStrs w (some ⟨g1,0,none⟩) vs[q].os∧IsStrs w (some ⟨g2,0,none⟩) vs[q].ps
theorem voteRow_step {w w':World} {g:Nat} {vs:List VoteV} {xs:List Value} {j g1 g2:Nat} (hx:xs.length=vs.length*4) (h:VoteRow w g vs xs j) (hj:j<vs.length) (hb:Below w.heap.size w w') (n1:g1≠g) (n2:g2≠g) (i1:IsStrs w' (some ⟨g1,0,none⟩) vs[j].os) (i2:IsStrs w' (some ⟨g2,0,none⟩) vs[j].ps) (W:World) (hW:W=(((w'.setCell ⟨g,j*4,none⟩ (.int .i64 vs[j].nd)).setCell ⟨g,j*4+1,none⟩ (.int .i64 vs[j].i)).setCell ⟨g,j*4+2,none⟩ (.slice (some ⟨g1,0,none⟩) vs[j].os.length vs[j].os.length)).setCell ⟨g,j*4+3,none⟩ (.slice (some ⟨g2,0,none⟩) vs[j].ps.length vs[j].ps.length)) :
 VoteRow W g vs ((((xs.set (j*4) (.int .i64 vs[j].nd)).set (j*4+1) (.int .i64 vs[j].i)).set (j*4+2) (.slice (some ⟨g1,0,none⟩) vs[j].os.length vs[j].os.length)).set (j*4+3) (.slice (some ⟨g2,0,none⟩) vs[j].ps.length vs[j].ps.length)) (j+1):=by
 subst hW
 have keep:∀ {b:Nat} {ls:List (List UInt8)},b≠g→IsStrs w' (some ⟨b,0,none⟩) ls→IsStrs ((((w'.setCell ⟨g,j*4,none⟩ (.int .i64 vs[j].nd)).setCell ⟨g,j*4+1,none⟩ (.int .i64 vs[j].i)).setCell ⟨g,j*4+2,none⟩ (.slice (some ⟨g1,0,none⟩) vs[j].os.length vs[j].os.length)).setCell ⟨g,j*4+3,none⟩ (.slice (some ⟨g2,0,none⟩) vs[j].ps.length vs[j].ps.length)) (some ⟨b,0,none⟩) ls:=fun hne hi =>
  have q:=fun b' off (e:some (⟨_,0,none⟩:Addr)=some ⟨b',off,none⟩)=>(by cases e;exact hne:b'≠g)
  strs_store (strs_store (strs_store (strs_store hi q _) q _) q _) q _
 intro q hq hqj
 by_cases e:q=j
 · subst e
   refine⟨g1,g2,n1,n2,?_,?_,?_,?_,keep n1 i1,keep n2 i2⟩ <;> simp[List.getElem?_set] <;> omega
 · obtain⟨h1,h2,m1,m2,c0,c1,c2,c3,s1,s2⟩:=h q hq (by omega)
   refine⟨h1,h2,m1,m2,?_,?_,?_,?_,keep m1 (strs_later s1 hb),keep m2 (strs_later s2 hb)⟩
   · rw[List.getElem?_set_ne (by omega),List.getElem?_set_ne (by omega),List.getElem?_set_ne (by omega),List.getElem?_set_ne (by omega)];exact c0
   · rw[List.getElem?_set_ne (by omega),List.getElem?_set_ne (by omega),List.getElem?_set_ne (by omega),List.getElem?_set_ne (by omega)];exact c1
   · rw[List.getElem?_set_ne (by omega),List.getElem?_set_ne (by omega),List.getElem?_set_ne (by omega),List.getElem?_set_ne (by omega)];exact c2
   · rw[List.getElem?_set_ne (by omega),List.getElem?_set_ne (by omega),List.getElem?_set_ne (by omega),List.getElem?_set_ne (by omega)];exact c3
theorem infoVt:(Tryd.prog.info? 35).map (fun i=>(i.zero,i.size,i.bytes))=some (some (.agg #[.int .i64 0,.int .i64 0,.slice none 0 0,.slice none 0 0]),4,64):=by kernel_rfl
theorem keptV4 {w w':World} {b e n:Nat} {v:Value} {xs:List Value} (h:w.ownsRow b e 4 v n xs) (hb:Below w.heap.size w w'):w'.ownsRow b e 4 v n xs :=
 h.kept (row:=none) ⟨hb.os,hb.tape,hb.output,hb.size,fun k hk _=>hb.block k hk⟩ (by cases v.ownBlock with | none=>exact .inl rfl | some k=>exact .inr (by simp))
def smallV (v:VoteV):Prop:=v.os.length≤1048576∧v.ps.length≤1048576
end Go.Proofs.YtkagiehbjnfabaaDoor
