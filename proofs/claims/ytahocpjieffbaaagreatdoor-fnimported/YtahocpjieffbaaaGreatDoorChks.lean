import Derived.Test.YtahocpjieffbaaaGreatDoorPairs
import Derived.Test.YtahocpjieffbaaaGreatDoorImp
import Derived.Deep.RegionHeld3
import Derived.Test.YtahocpjieffbaaaGreatDoorSetAll
namespace Go.Proofs.YtahocpjieffbaaaGreatDoor
open Go.RowKit
set_option linter.unusedVariables false
abbrev ChL:=Bool × Bool × List PairL
def chunkAt (ps:List PairL) (m i:Nat):ChL:=(decide (i=0),decide (min (i*m+m) ps.length=ps.length),(ps.drop (i*m)).take m)
def chunksN (n m:Nat):Nat:=if n=0 then 1 else (n - 1) / m+1
def chunksTo (ps:List PairL) (m j:Nat):List ChL:=(List.range j).map (chunkAt ps m)
def chunksL (ps:List PairL) (m:Nat):List ChL:=chunksTo ps m (chunksN ps.length m)
theorem chunksN_of {n m j:Nat} (h1:1≤j) (h2:n≤j*m) (h3:j=1∨(j - 1)*m<n):j=chunksN n m:=by
 unfold chunksN
 split
 · rename_i h
   rcases h3 with h3 | h3
   · exact h3
   · omega
 · rename_i h
   obtain⟨i,rfl⟩:∃ i,j=i+1:=⟨j - 1,by omega⟩
   have h4:i*m≤n - 1:=by
    rcases h3 with h3 | h3
    · obtain rfl:i=0:=by omega
      simp
    · simp at h3;omega
   rw[Nat.div_eq_of_lt_le h4 (by omega)]
theorem chunksTo_zero (ps:List PairL) (m:Nat):chunksTo ps m 0=[]:=rfl
theorem chunksTo_succ (ps:List PairL) (m j:Nat):chunksTo ps m (j+1)=chunksTo ps m j ++ [chunkAt ps m j]:=by simp[chunksTo,List.range_succ]
theorem chunksTo_length (ps:List PairL) (m j:Nat):(chunksTo ps m j).length=j:=by simp[chunksTo]
theorem chunkAt_len (ps:List PairL) (m i:Nat):(chunkAt ps m i).2.2.length=min m (ps.length - i*m):=by simp[chunkAt]
def ccells:List ChL→List Value→List Value
 | c :: cs,v :: vs=>.bool c.1 :: .bool c.2.1 :: v :: ccells cs vs
 | _,_=>[]
theorem ccells_length:∀ (cs:List ChL) (vs:List Value),vs.length=cs.length→(ccells cs vs).length=cs.length*3
 | [],[],_=>rfl
 | c :: cs,v :: vs,h=>by simp only[ccells,List.length_cons];rw[ccells_length cs vs (by simpa using h)];omega
theorem ccells_at:∀ (cs:List ChL) (vs:List Value) (j:Nat) (c:ChL) (u:Value),cs[j]? = some c→vs[j]? = some u→(ccells cs vs)[j*3]? = some (.bool c.1)∧(ccells cs vs)[j*3+1]? = some (.bool c.2.1)∧(ccells cs vs)[j*3+2]? = some u
 | [],_,j,c,u,h,_=>by simp at h
 | _ :: _,[],j,c,u,_,h=>by simp at h
 | c0 :: cs,v0 :: vs,0,c,u,h1,h2=>by simp at h1 h2;subst h1 h2;exact⟨rfl,rfl,rfl⟩
 | c0 :: cs, v0 :: vs, j + 1, c, u, h1, h2 => by
   have:=ccells_at cs vs j c u (by simpa using h1) (by simpa using h2)
   have e:(j+1)*3=j*3+1+1+1:=by omega
   rw[e,show j*3+1+1+1+1=j*3+1+1+1+1 from rfl]
   simp only[ccells]
   refine⟨?_,?_,?_⟩
   · simpa using this.1
   · simpa [Nat.add_assoc] using this.2.1
   · simpa [Nat.add_assoc] using this.2.2
theorem ccells_snoc:∀ (cs:List ChL) (vs:List Value) (c:ChL) (u:Value),vs.length=cs.length→ccells (cs ++ [c]) (vs ++ [u])=ccells cs vs ++ [.bool c.1,.bool c.2.1,u]
 | [],[],c,u,_=>rfl
 | c0 :: cs,v0 :: vs,c,u,h=>by simp only[List.cons_append,ccells];rw[ccells_snoc cs vs c u (by simpa using h)]
theorem ccells_set:∀ (cs:List ChL) (vs:List Value) (j:Nat) (c:ChL) (u:Value) (a b:Bool) (ps:List PairL),cs[j]? = some c→vs[j]? = some u→((ccells cs vs).set (j*3) (.bool a)).set (j*3+1) (.bool b)=ccells (cs.set j (a,b,ps)) vs
 | [],_,j,c,u,_,_,_,h,_=>by simp at h
 | _ :: _,[],j,c,u,_,_,_,_,h=>by simp at h
 | c0 :: cs,v0 :: vs,0,c,u,a,b,ps,h1,h2=>by simp[ccells]
 | c0 :: cs, v0 :: vs, j + 1, c, u, a, b, ps, h1, h2 => by
   have:=ccells_set cs vs j c u a b ps (by simpa using h1) (by simpa using h2)
   have e:(j+1)*3=j*3+1+1+1:=by omega
   rw[e]
   simp only[ccells,List.set_cons_succ]
   rw[this]
theorem kept_row {w w':World} {b e sz n:Nat} {v:Value} {xs:List Value} {row:Option Nat} (h:w.ownsRow b e sz v n xs) (g:w.grownBy w' row) (hne:∀ k,v.ownBlock=some k→row≠some k):w'.ownsRow b e sz v n xs :=
 h.kept g (by
  cases hv:v.ownBlock with
  | none=>exact .inl rfl
  | some q=>exact .inr (fun e=>hne q hv e.symm))
theorem kept_new {w w':World} {b e sz n:Nat} {v:Value} {xs:List Value} (h:w.ownsRow b e sz v n xs) (hb:Below w.heap.size w w'):w'.ownsRow b e sz v n xs :=
 kept_row (row:=none) h ⟨hb.os,hb.tape,hb.output,hb.size,fun k hk _=>hb.block k hk⟩ (fun _ _=>by simp)
structure OwnC (w:World) (lo:Nat) (e2:TypeId) (v:Value) (cs:List ChL) (vs:List Value):Prop where
 len:vs.length=cs.length
 row:w.ownsRow lo e2 3 v cs.length (ccells cs vs)
 kid:∀ (j:Nat) (c:ChL) (u:Value),cs[j]? = some c→vs[j]? = some u→w.ownsRow lo 56 2 u c.2.2.length (pcells c.2.2)
 apart:∀ (i j:Nat) (u x:Value) (k:Nat),vs[i]? = some u→vs[j]? = some x→u.ownBlock=some k→x.ownBlock=some k→i=j
 far:∀ (i:Nat) (u:Value) (k:Nat),vs[i]? = some u→u.ownBlock=some k→v.ownBlock≠some k
theorem OwnC.has {w:World} {lo e2:Nat} {v:Value} {cs:List ChL} {vs:List Value} (h:OwnC w lo e2 v cs vs) {i:Nat} {u:Value} (hi:vs[i]? = some u):∃ c,cs[i]? = some c:=by
 have h1:=(List.getElem?_eq_some_iff.1 hi).1
 rw[h.len] at h1
 exact⟨_,List.getElem?_eq_getElem h1⟩
theorem OwnC.lt {w:World} {lo e2:Nat} {v:Value} {cs:List ChL} {vs:List Value} (h:OwnC w lo e2 v cs vs) {i:Nat} {u:Value} {k:Nat} (hi:vs[i]? = some u) (hk:u.ownBlock=some k):lo≤k∧k<w.heap.size:=by
 obtain⟨c,hc⟩:=h.has hi
 exact (h.kid i c u hc hi).lt k hk
theorem OwnC.later {w w':World} {lo e2:Nat} {v:Value} {cs:List ChL} {vs:List Value} (h:OwnC w lo e2 v cs vs) (hb:Below w.heap.size w w'):OwnC w' lo e2 v cs vs :=
 ⟨h.len,kept_new h.row hb,fun j c u h1 h2=>kept_new (h.kid j c u h1 h2) hb,h.apart,h.far⟩
theorem OwnC.grown {w w':World} {lo e2:Nat} {v:Value} {cs:List ChL} {vs:List Value} {row:Option Nat} (h:OwnC w lo e2 v cs vs) (hg:w.grownBy w' row) (hne:∀ k,lo≤k→k<w.heap.size→row≠some k):OwnC w' lo e2 v cs vs :=
 ⟨h.len,kept_row h.row hg (fun k hk=>hne k (h.row.lt k hk).1 (h.row.lt k hk).2),fun j c u h1 h2=>kept_row (h.kid j c u h1 h2) hg (fun k hk=>hne k ((h.kid j c u h1 h2).lt k hk).1 ((h.kid j c u h1 h2).lt k hk).2),h.apart,h.far⟩
theorem OwnC.nil (w:World) (lo e2:Nat) (v:Value) (h:w.ownsRow lo e2 3 v 0 []):OwnC w lo e2 v [] [] :=
 ⟨rfl,h,fun _ _ _ h=>by simp at h,fun _ _ _ _ _ h=>by simp at h,fun _ _ _ h=>by simp at h⟩
theorem OwnC.snoc {wr w1 w2 w3:World} {lo e2:Nat} {v u:Value} {cs:List ChL} {vs:List Value} {c:ChL} {g cap:Nat} {o:Obj} (h:OwnC wr lo e2 v cs vs) (hlo:lo≤wr.heap.size) (b1:Below wr.heap.size wr w1) (hu:w1.ownsRow wr.heap.size 56 2 u c.2.2.length (pcells c.2.2)) (e2':w2=w1.alloc o)
 (h3:w3.ownsRow lo e2 3 (.slice (some ⟨g,0,none⟩) (cs.length+1) cap) (cs.length+1) (ccells cs vs ++ [.bool c.1,.bool c.2.1,u])) (hg:w2.grownBy w3 v.ownBlock) (hat:v.ownBlock=some g∨g=w1.heap.size+1) :
 OwnC w3 lo e2 (.slice (some ⟨g,0,none⟩) (cs ++ [c]).length cap) (cs ++ [c]) (vs ++ [u]):=by
 subst e2'
 have hl:(vs ++ [u]).length=(cs ++ [c]).length:=by simp[h.len]
 have vlt:∀ k,v.ownBlock=some k→k<wr.heap.size:=fun k hk=>(h.row.lt k hk).2
 have ulo:∀ k,u.ownBlock=some k→wr.heap.size≤k∧k<w1.heap.size:=fun k hk=>hu.lt k hk
 have split:∀ i x,(vs ++ [u])[i]? = some x→vs[i]? = some x∨(i=cs.length∧x=u):=by
  intro i x hx
  by_cases hi:i<vs.length
  · left;rwa [List.getElem?_append_left hi] at hx
  · right
    rw[List.getElem?_append_right (by omega)] at hx
    have:=(List.getElem?_eq_some_iff.1 hx).1
    simp at this
    have e0:i - vs.length=0:=by omega
    rw[e0] at hx
    simp at hx
    exact⟨by rw[←h.len];omega,hx.symm⟩
 have ha:∀ k,k<w1.heap.size→(w1.alloc o).heap[k]? = w1.heap[k]? := fun k hk=>Below.heap_alloc _ _ _ (by omega)
 have ba:Below w1.heap.size w1 (w1.alloc o):=(Below.refl _ _).alloc (Nat.le_refl _) _
 refine⟨hl,?_,?_,?_,?_⟩
 · rw[ccells_snoc cs vs c u h.len,List.length_append];exact h3
 · intro j c' x hc hx
   rcases split j x hx with hx' | ⟨rfl,rfl⟩
   · have hj:=(List.getElem?_eq_some_iff.1 hx').1
     rw[List.getElem?_append_left (by rw[←h.len];exact hj)] at hc
     have k1:=kept_new (kept_new (h.kid j c' x hc hx') b1) ba
     exact kept_row k1 hg (fun k hk=>h.far j x k hx' hk)
   · rw[List.getElem?_append_right (Nat.le_refl _)] at hc
     simp at hc
     subst hc
     have k1:=kept_new (hu.mono hlo) ba
     exact kept_row k1 hg (fun k hk e=>by have:=vlt k e;have:=ulo k hk;omega)
 · intro i j x y k hx hy hxk hyk
   rcases split i x hx with hx' | ⟨rfl,rfl⟩
   · rcases split j y hy with hy' | ⟨rfl,rfl⟩
     · exact h.apart i j x y k hx' hy' hxk hyk
     · have:=(h.lt hx' hxk).2;have:=ulo k hyk;omega
   · rcases split j y hy with hy' | ⟨rfl,rfl⟩
     · have:=(h.lt hy' hyk).2;have:=ulo k hxk;omega
     · rfl
 · intro i x k hx hxk e
   simp[Value.ownBlock] at e
   rcases split i x hx with hx' | ⟨rfl,rfl⟩
   · rcases hat with hv | hv
     · exact h.far i x k hx' hxk (by rw[hv,e])
     · have:=(h.lt hx' hxk).2;have:=b1.size;omega
   · rcases hat with hv | hv
     · have:=vlt g hv;have:=ulo k hxk;omega
     · have:=ulo k hxk;omega
def mark1 (k:Nat) (c:ChL):ChL:=(decide (k % 3=0),decide ((k+1) % 3=0),marksP (k+2) c.2.2.length)
def endC (k:Nat):List ChL→Nat
 | []=>k
 | c :: cs=>endC (k+2+2*c.2.2.length) cs
def marksC (k:Nat):List ChL→List ChL
 | []=>[]
 | c :: cs=>mark1 k c :: marksC (k+2+2*c.2.2.length) cs
theorem endC_app (k:Nat):∀ (a b:List ChL),endC k (a ++ b)=endC (endC k a) b:=by
 intro a
 induction a generalizing k with
 | nil=>intro b;rfl
 | cons c a ih=>intro b;exact ih _ b
theorem marksC_app (k:Nat):∀ (a b:List ChL),marksC k (a ++ b)=marksC k a ++ marksC (endC k a) b:=by
 intro a
 induction a generalizing k with
 | nil=>intro b;rfl
 | cons c a ih=>intro b;simp only[List.cons_append,marksC,endC];rw[ih]
theorem endC_le (k:Nat):∀ (a:List ChL),k≤endC k a:=by
 intro a
 induction a generalizing k with
 | nil=>exact Nat.le_refl _
 | cons c a ih=>simp only[endC];exact Nat.le_trans (by omega) (ih _)
theorem marksC_length (k:Nat):∀ (a:List ChL),(marksC k a).length=a.length:=by
 intro a
 induction a generalizing k with
 | nil=>rfl
 | cons c a ih=>simp[marksC,ih]
theorem endC_take (k:Nat) (cs:List ChL) (j:Nat):endC k (cs.take j)≤endC k cs:=by
 conv=>rhs;rw[←List.take_append_drop j cs]
 rw[endC_app];exact endC_le _ _
theorem endC_step (k:Nat) (cs:List ChL) (j:Nat) (c:ChL) (h:cs[j]? = some c):endC k (cs.take (j+1))=endC k (cs.take j)+2+2*c.2.2.length:=by
 obtain⟨hj,e⟩:=List.getElem?_eq_some_iff.1 h
 rw[List.take_succ_eq_append_getElem hj,endC_app,e];rfl
def markedC (k j:Nat) (cs:List ChL):List ChL:=marksC k (cs.take j) ++ cs.drop j
theorem markedC_zero (k:Nat) (cs:List ChL):markedC k 0 cs=cs:=by simp[markedC,marksC]
theorem markedC_all (k:Nat) (cs:List ChL):markedC k cs.length cs=marksC k cs:=by simp[markedC]
theorem markedC_length (k j:Nat) (cs:List ChL):(markedC k j cs).length=cs.length:=by simp[markedC,marksC_length];omega
theorem markedC_at (k:Nat) (cs:List ChL) (j:Nat) (c:ChL) (h:cs[j]? = some c):(markedC k j cs)[j]? = some c:=by
 obtain⟨hj,e⟩:=List.getElem?_eq_some_iff.1 h
 rw[markedC,List.getElem?_append_right (by rw[marksC_length];simp;omega),marksC_length,List.getElem?_drop]
 rw[show j+(j - (cs.take j).length)=j by simp;omega];exact h
theorem markedC_step (k:Nat) (cs:List ChL) (j:Nat) (c:ChL) (h:cs[j]? = some c):(markedC k j cs).set j (mark1 (endC k (cs.take j)) c)=markedC k (j+1) cs:=by
 obtain⟨hj,e⟩:=List.getElem?_eq_some_iff.1 h
 have hl:(marksC k (cs.take j)).length=j:=by rw[marksC_length];simp;omega
 have ed:cs.drop j=c :: cs.drop (j+1):=by rw[List.drop_eq_getElem_cons hj,e]
 rw[markedC,markedC,List.take_succ_eq_append_getElem hj,marksC_app,e,ed,List.set_append_right _ _ (by omega),hl,Nat.sub_self]
 simp[marksC]
theorem marksC_at (k:Nat) (cs:List ChL) (j:Nat) (c:ChL) (h:cs[j]? = some c):(marksC k cs)[j]? = some (mark1 (endC k (cs.take j)) c):=by
 obtain⟨hj,e⟩:=List.getElem?_eq_some_iff.1 h
 have ed:cs=cs.take j ++ (c :: cs.drop (j+1)):=by rw[←e,←List.drop_eq_getElem_cons hj,List.take_append_drop]
 have hl:(marksC k (cs.take j)).length=j:=by rw[marksC_length];simp;omega
 conv=>lhs;rw[ed]
 rw[marksC_app,List.getElem?_append_right (by omega),hl,Nat.sub_self]
 simp[marksC]
theorem OwnC.marked {w w2:World} {lo e2 g n cap:Nat} {cs:List ChL} {vs:List Value} {j:Nat} {c:ChL} {u:Value} {a b:Bool} {ps:List PairL} (hn:n=cs.length) (h:OwnC w lo e2 (.slice (some ⟨g,0,none⟩) n cap) cs vs) (hc:cs[j]? = some c) (hu:vs[j]? = some u) (hp:ps.length=c.2.2.length)
 (hg:((w.setCell ⟨g,j*3,none⟩ (.bool a)).setCell ⟨g,j*3+1,none⟩ (.bool b)).grownBy w2 u.ownBlock) (ho:w2.ownsRow lo 56 2 u c.2.2.length (pcells ps)) :
 OwnC w2 lo e2 (.slice (some ⟨g,0,none⟩) n cap) (cs.set j (a,b,ps)) vs∧Below lo w w2:=by
 subst hn
 have s1:=h.row.stored (j*3) (.bool a)
 have s2:=s1.1.stored (j*3+1) (.bool b)
 have g2:=s1.2.trans s2.2
 have hjl:=(List.getElem?_eq_some_iff.1 hc).1
 have hgb:lo≤g:=(h.row.lt g rfl).1
 refine⟨⟨by rw[List.length_set];exact h.len,?_,?_,h.apart,h.far⟩,?_⟩
 · have:=s2.1
   rw[ccells_set cs vs j c u a b ps hc hu] at this
   rw[List.length_set]
   exact kept_row this hg (fun k hk e=>h.far j u k hu e hk)
 · intro i c' x hc' hx
   by_cases hij:i=j
   · subst hij
     rw[hu] at hx
     cases hx
     rw[List.getElem?_set_self hjl] at hc'
     cases hc'
     show w2.ownsRow lo _ 2 u ps.length (pcells ps)
     rw[hp];exact ho
   · rw[List.getElem?_set_ne (fun e=>hij e.symm)] at hc'
     have k1:=kept_row (h.kid i c' x hc' hx) g2 (fun k hk=>h.far i x k hx hk)
     exact kept_row k1 hg (fun k hk e=>hij (h.apart i j x u k hx hu hk e))
 · have b0:Below lo w ((w.setCell ⟨g,j*3,none⟩ (.bool a)).setCell ⟨g,j*3+1,none⟩ (.bool b)):=((Below.refl lo w).setCell (p:=⟨g,j*3,none⟩) hgb _).setCell (p:=⟨g,j*3+1,none⟩) hgb _
   exact⟨hg.os.trans b0.os,hg.tape.trans b0.tape,hg.output.trans b0.output,Nat.le_trans b0.size hg.size,fun k hk=>by
    by_cases hk2:k<w.heap.size
    · rw[hg.block k (Nat.lt_of_lt_of_le hk2 b0.size) (fun e=>by have:=(h.lt hu e.symm).1;omega)];exact b0.block k hk
    · have:=(h.row.lt g rfl).2;omega⟩
theorem OwnC.slice {w:World} {lo e2:Nat} {v:Value} {cs:List ChL} {vs:List Value} (h:OwnC w lo e2 v cs vs):(v=.slice none 0 0∧cs=[])∨∃ g cap,v=.slice (some ⟨g,0,none⟩) cs.length cap∧lo≤g∧g<w.heap.size:=by
 rcases h.row.2 with ⟨rfl,h0⟩ | ⟨g,cap,cur,rfl,hb,hg,_⟩
 · exact .inl ⟨rfl,List.length_eq_zero_iff.1 h0⟩
 · exact .inr ⟨g,cap,rfl,hb,lt_of_block hg⟩
theorem OwnC.cells {w:World} {lo e2 g n cap:Nat} {cs:List ChL} {vs:List Value} (h:OwnC w lo e2 (.slice (some ⟨g,0,none⟩) n cap) cs vs) {j:Nat} {c:ChL} {u:Value} (hc:cs[j]? = some c) (hu:vs[j]? = some u) :
 w.cell? ⟨g,j*3,none⟩=some (.bool c.1)∧w.cell? ⟨g,j*3+1,none⟩=some (.bool c.2.1)∧w.cell? ⟨g,j*3+2,none⟩=some u:=by
 have hj:=(List.getElem?_eq_some_iff.1 hc).1
 have:=ccells_at cs vs j c u hc hu
 have r:=h.row
 rcases r.2 with ⟨e,h0⟩ | ⟨g',cap',cur,e,hb,hg,_⟩
 · cases e
 · cases e
   exact⟨(r.cellAt (j*3) (by omega)).trans this.1,(r.cellAt (j*3+1) (by omega)).trans this.2.1,(r.cellAt (j*3+2) (by omega)).trans this.2.2⟩
theorem OwnC.kids {w:World} {lo e2:Nat} {v:Value} {cs:List ChL} {vs:List Value} (h:OwnC w lo e2 v cs vs) {j:Nat} (hj:j<cs.length):∃ c u,cs[j]? = some c∧vs[j]? = some u∧∃ a cap,u=.slice a c.2.2.length cap∧IsPairs w a c.2.2∧w.ownsRow lo 56 2 (.slice a c.2.2.length cap) c.2.2.length (pcells c.2.2):=by
 have hv:j<vs.length:=by rw[h.len];exact hj
 have k:=h.kid j cs[j] vs[j] (List.getElem?_eq_getElem hj) (List.getElem?_eq_getElem hv)
 obtain⟨a,m,cap,e⟩:=own_slice2 k
 rw[e] at k
 obtain⟨rfl,_,i⟩:=isPairs_own k
 exact⟨cs[j],vs[j],List.getElem?_eq_getElem hj,List.getElem?_eq_getElem hv,a,cap,e,i,k⟩
theorem OwnC.kidAt {w:World} {lo e2 g n cap:Nat} {cs:List ChL} {vs:List Value} {j:Nat} {c:ChL} {u:Value} (x y:Value) (hn:n=cs.length) (h:OwnC w lo e2 (.slice (some ⟨g,0,none⟩) n cap) cs vs) (hc:cs[j]? = some c) (hu:vs[j]? = some u):((w.setCell ⟨g,j*3,none⟩ x).setCell ⟨g,j*3+1,none⟩ y).ownsRow lo 56 2 u c.2.2.length (pcells c.2.2):=by
 subst hn
 have s1:=h.row.stored (j*3) x
 have s2:=s1.1.stored (j*3+1) y
 exact kept_row (h.kid j c u hc hu) (s1.2.trans s2.2) (fun k hk=>h.far j u k hu hk)
theorem mod3 (q:Nat):((q:Int) % 3 == 0)=decide (q % 3=0)∧(((q:Int)+1) % 3 == 0)=decide ((q+1) % 3=0):=by
 constructor <;> (rw[Bool.eq_iff_iff];simp;omega)
theorem infoPart:(Tryz.prog.info? 58).map (fun i=>(i.zero,i.size,i.bytes))=some (some (.agg #[.bool false,.bool false,.slice none 0 0]),3,32):=by kernel_rfl
theorem infoChunk:(Tryz.prog.info? 38).map (fun i=>(i.zero,i.size,i.bytes))=some (some (.agg #[.bool false,.bool false,.slice none 0 0]),3,32):=by kernel_rfl
theorem piece_isPairs {w:World} {b off:Nat} {ps:List PairL} {p m:Nat} (h:IsPairs w (some ⟨b,off,none⟩) ps):IsPairs w (some ⟨b,off+p*2,none⟩) ((ps.drop p).take m):=by
 rcases h with rfl | ⟨b',off',he,hc⟩
 · exact .inl (by simp)
 · cases he
   refine .inr ⟨b,off+p*2,rfl,fun j hj=>?_⟩
   simp at hj
   have:=hc (p+j) (by omega)
   simp only[List.getElem_take,List.getElem_drop]
   rw[show off+p*2+j*2=off+(p+j)*2 by omega]
   exact this
set_option maxHeartbeats 2000000 in
set_option maxRecDepth 100000 in
theorem impl_partsOf (b off cp : Nat) (ps : List PairL) (m : Nat) (w : World) (hl : ps.length ≤ 60) (hcap : ps.length ≤ cp) (hm1 : 1 ≤ m) (hm8 : m ≤ 8) (hs : IsPairs w (some ⟨b, off, none⟩) ps) :
 Calls Tryz.prog 23 #[.slice (some ⟨b,off,none⟩) ps.length cp,.int .i64 (m:Int)] w fun e w'=>∃ (v:Value) (vs:List Value),e=.returned v∧OwnC w' w.heap.size 58 v (chunksL ps m) vs∧Below w.heap.size w w':=by
 obtain⟨i0,hi0,hz0,hz1,hz2⟩:=info_parts infoPart
 have HIS:Hid (∀ W,Below w.heap.size w W→IsPairs W (some ⟨b,off,none⟩) ps):=fun W hW=>hs.later hW
 clear hs
 go_enter Tryz.func23,Tryz.ntmps23
 go_wp2
 go_loopw [5,6] (fun v i wr=>∃ (j f:Nat) (vs:List Value),Hid (f=j*m)∧j≤61∧f≤600∧(j=0∨j=1∨(f - m<ps.length))∧i=.int .i64 (f:Int)∧Hid (OwnC wr w.heap.size 58 v (chunksTo ps m j) vs)∧Below w.heap.size w wr) (fun _ i _=>700 - (intOf i).toNat)
 case atStart=>exact⟨0,0,[],by rw[Hid];simp,by omega,by omega,.inl rfl,rfl,OwnC.nil _ _ _ _ (World.ownsRow_nil _ _ _ _),Below.refl _ _⟩
 case round =>
  obtain⟨j,f,vs,HF,hj,hf,hr,rfl,HO,hbel⟩:=hrel
  have hsz:=hbel.size
  by_cases hgo:f=0∨f<ps.length
  · have hj0 : (f : Int) = 0 ∨ (¬ (f : Int) = 0 ∧ (f : Int) < (ps.length : Int)) := by omega
    have hf0:(0:Int)≤(f:Int):=by omega
    rcases hj0 with h0 | ⟨h0,h1⟩
    · obtain rfl:f=0:=by omega
      by_cases hmin:m≤ps.length
      · have hmin':(m:Int)≤(ps.length:Int):=by omega
        have hjz:Hid (j=0):=by rw[Hid];rcases Nat.eq_zero_or_pos j with h | h;exact h;exact absurd HF.out (Nat.ne_of_lt (Nat.mul_pos h hm1))
        have HP:Hid (((ps.drop 0).take m).length=m):=by rw[Hid];first | (simp;done) | (simp;omega)
        have K3:=clone_any b off cp ((ps.drop 0).take m) wr (by rw[HP.out];omega) (by have:=piece_isPairs (p:=0) (m:=m) (HIS.out wr hbel);simpa using this)
        rw[HP.out] at K3
        have HC:Hid (chunkAt ps m j=(true,((m:Int) == (ps.length:Int)),(ps.drop 0).take m)):=by
         rw[Hid,chunkAt,←HF.out]
         refine Prod.ext ?_ (Prod.ext ?_ rfl)
         · exact decide_eq_true hjz.out
         · show decide _=_;rw[Bool.eq_iff_iff];simp;omega
        obtain⟨qs,hqs⟩:∃ qs,qs=(ps.drop 0).take m:=⟨_,rfl⟩
        rw[←hqs] at K3 HC HP
        clear hqs
        have hmm:min (m:Int) (ps.length:Int)=(m:Int):=by omega
        go_wp2_with fail
        refine K3.mono ?_
        rintro e w3 ⟨a3,m3,c3,rfl,o3,b3⟩
        have s3:=b3.size
        have OU:Hid (w3.ownsRow wr.heap.size 56 2 (.slice a3 m3 c3) qs.length (pcells qs)):=by rw[Hid,HP.out];exact o3
        have OR:Hid (w3.ownsRow w.heap.size 58 3 u5 (chunksTo ps m j).length (ccells (chunksTo ps m j) vs)):=kept_new HO.out.row b3
        have HL:Hid ((chunksTo ps m j).length=j):=chunksTo_length ps m j
        have B3:=hbel.trans (b3.mono hsz)
        clear K3 o3
        go_wp2_with (at_builtin;refine wpList_append_lies _ rfl _ _ 53 rfl w.heap.size 58 i0 (.agg #[.bool false,.bool false,.slice none 0 0]) 3 32 Tryz.underlying53 hi0 hz0 hz1 hz2 rfl (by decide) u5 (chunksTo ps m j).length _ rfl (OR.out.alloc _) ⟨w3.heap.size,0,none⟩ 1 1 [.bool true,.bool ((m:Int) == (ps.length:Int)),.slice a3 m3 c3] rfl rfl (World.news_of_block (cs:=#[.bool true,.bool ((m:Int) == (ps.length:Int)),.slice a3 m3 c3]) (t:=58) (fr:=(0,0)) (heap_alloc_new w3 _)) (by simp[Value.oneCell']) (by omega) (by unfold maxLen;rw[HL.out];omega) (by rw[HL.out];omega) (by simp;omega) (w3.heap.size+1) (by simp) ?_;intro g4 cap4 w4 hown4 hgrow4 hat4 hlt4)
        have HO4:=HO.out.snoc (c:=chunkAt ps m j) hsz b3 (by rw[HC.out];exact OU.out) rfl (by rw[HC.out];exact hown4) hgrow4 hat4
        rw[←chunksTo_succ] at HO4
        have B4:Below w.heap.size w w4:=(B3.alloc B3.size _).grown hgrow4 (by have:=B3.size;simp;omega) (fun q hq=>(HO.out.row.lt q hq).1)
        have H4:Hid (OwnC w4 w.heap.size 58 (.slice (some ⟨g4,0,none⟩) (chunksTo ps m (j+1)).length cap4) (chunksTo ps m (j+1)) (vs ++ [.slice a3 m3 c3])):=HO4
        have HF2:Hid (0+m=(j+1)*m):=by rw[Hid,Nat.succ_mul,←HF.out]
        have HL2:Hid ((chunksTo ps m (j+1)).length=(chunksTo ps m j).length+1):=by rw[Hid,chunksTo_length,chunksTo_length]
        rw[HL2.out] at H4
        clear HO4 hown4 hgrow4 hat4 OU OR HO HC
        go_wp2
        go_roundw
        case rel=>exact⟨j+1,0+m,vs ++ [.slice a3 m3 c3],HF2,by have:=hjz.out;omega,by omega,by have:=hjz.out;omega,by go_num,H4,B4⟩
        case measure=>simp[intOf];omega
      · have hmin':¬ (m:Int)≤(ps.length:Int):=by omega
        have hjz:Hid (j=0):=by rw[Hid];rcases Nat.eq_zero_or_pos j with h | h;exact h;exact absurd HF.out (Nat.ne_of_lt (Nat.mul_pos h hm1))
        have HP:Hid (((ps.drop 0).take m).length=ps.length):=by rw[Hid];first | (simp;done) | (simp;omega)
        have K3:=clone_any b off cp ((ps.drop 0).take m) wr (by rw[HP.out];omega) (by have:=piece_isPairs (p:=0) (m:=m) (HIS.out wr hbel);simpa using this)
        rw[HP.out] at K3
        have HC:Hid (chunkAt ps m j=(true,true,(ps.drop 0).take m)):=by
         rw[Hid,chunkAt,←HF.out]
         refine Prod.ext ?_ (Prod.ext ?_ rfl)
         · exact decide_eq_true hjz.out
         · exact decide_eq_true (by first | omega | (simp;done))
        obtain⟨qs,hqs⟩:∃ qs,qs=(ps.drop 0).take m:=⟨_,rfl⟩
        rw[←hqs] at K3 HC HP
        clear hqs
        have hmm:min (m:Int) (ps.length:Int)=(ps.length:Int):=by omega
        go_wp2_with fail
        refine K3.mono ?_
        rintro e w3 ⟨a3,m3,c3,rfl,o3,b3⟩
        have s3:=b3.size
        have OU:Hid (w3.ownsRow wr.heap.size 56 2 (.slice a3 m3 c3) qs.length (pcells qs)):=by rw[Hid,HP.out];exact o3
        have OR:Hid (w3.ownsRow w.heap.size 58 3 u5 (chunksTo ps m j).length (ccells (chunksTo ps m j) vs)):=kept_new HO.out.row b3
        have HL:Hid ((chunksTo ps m j).length=j):=chunksTo_length ps m j
        have B3:=hbel.trans (b3.mono hsz)
        clear K3 o3
        go_wp2_with (at_builtin;refine wpList_append_lies _ rfl _ _ 53 rfl w.heap.size 58 i0 (.agg #[.bool false,.bool false,.slice none 0 0]) 3 32 Tryz.underlying53 hi0 hz0 hz1 hz2 rfl (by decide) u5 (chunksTo ps m j).length _ rfl (OR.out.alloc _) ⟨w3.heap.size,0,none⟩ 1 1 [.bool true,.bool true,.slice a3 m3 c3] rfl rfl (World.news_of_block (cs:=#[.bool true,.bool true,.slice a3 m3 c3]) (t:=58) (fr:=(0,0)) (heap_alloc_new w3 _)) (by simp[Value.oneCell']) (by omega) (by unfold maxLen;rw[HL.out];omega) (by rw[HL.out];omega) (by simp;omega) (w3.heap.size+1) (by simp) ?_;intro g4 cap4 w4 hown4 hgrow4 hat4 hlt4)
        have HO4:=HO.out.snoc (c:=chunkAt ps m j) hsz b3 (by rw[HC.out];exact OU.out) rfl (by rw[HC.out];exact hown4) hgrow4 hat4
        rw[←chunksTo_succ] at HO4
        have B4:Below w.heap.size w w4:=(B3.alloc B3.size _).grown hgrow4 (by have:=B3.size;simp;omega) (fun q hq=>(HO.out.row.lt q hq).1)
        have H4:Hid (OwnC w4 w.heap.size 58 (.slice (some ⟨g4,0,none⟩) (chunksTo ps m (j+1)).length cap4) (chunksTo ps m (j+1)) (vs ++ [.slice a3 m3 c3])):=HO4
        have HF2:Hid (0+m=(j+1)*m):=by rw[Hid,Nat.succ_mul,←HF.out]
        have HL2:Hid ((chunksTo ps m (j+1)).length=(chunksTo ps m j).length+1):=by rw[Hid,chunksTo_length,chunksTo_length]
        rw[HL2.out] at H4
        clear HO4 hown4 hgrow4 hat4 OU OR HO HC
        go_wp2
        go_roundw
        case rel=>exact⟨j+1,0+m,vs ++ [.slice a3 m3 c3],HF2,by have:=hjz.out;omega,by omega,by have:=hjz.out;omega,by go_num,H4,B4⟩
        case measure=>simp[intOf];omega
    · by_cases hmin:f+m≤ps.length
      · have hmin':(f:Int)+(m:Int)≤(ps.length:Int):=by omega
        have hjf:j≤f:=by have h9:j*1≤j*m:=Nat.mul_le_mul_left j hm1;have:=HF.out;omega
        have HP:Hid (((ps.drop f).take m).length=m):=by rw[Hid];first | (simp;done) | (simp;omega)
        have K3:=clone_any b (off+f*2) (cp - f) ((ps.drop f).take m) wr (by rw[HP.out];omega) (by have:=piece_isPairs (p:=f) (m:=m) (HIS.out wr hbel);simpa using this)
        rw[HP.out] at K3
        have HC:Hid (chunkAt ps m j=(((f:Int) == 0),((f:Int)+(m:Int) == (ps.length:Int)),(ps.drop f).take m)):=by
         rw[Hid,chunkAt,←HF.out]
         refine Prod.ext ?_ (Prod.ext ?_ rfl)
         · show decide _=_;rw[decide_eq_false (fun h:j=0=>by have:=HF.out;rw[h] at this;simp at this;omega)];symm;simp;omega
         · show decide _=_;rw[Bool.eq_iff_iff];simp;omega
        obtain⟨qs,hqs⟩:∃ qs,qs=(ps.drop f).take m:=⟨_,rfl⟩
        rw[←hqs] at K3 HC HP
        clear hqs
        have hmm:min ((f:Int)+(m:Int)) (ps.length:Int)=((f:Int)+(m:Int)):=by omega
        have hmt:((f:Int)+(m:Int)).toNat=f+m:=by omega
        go_wp2_with fail
        refine K3.mono ?_
        rintro e w3 ⟨a3,m3,c3,rfl,o3,b3⟩
        have s3:=b3.size
        have OU:Hid (w3.ownsRow wr.heap.size 56 2 (.slice a3 m3 c3) qs.length (pcells qs)):=by rw[Hid,HP.out];exact o3
        have OR:Hid (w3.ownsRow w.heap.size 58 3 u5 (chunksTo ps m j).length (ccells (chunksTo ps m j) vs)):=kept_new HO.out.row b3
        have HL:Hid ((chunksTo ps m j).length=j):=chunksTo_length ps m j
        have B3:=hbel.trans (b3.mono hsz)
        clear K3 o3
        go_wp2_with (at_builtin;refine wpList_append_lies _ rfl _ _ 53 rfl w.heap.size 58 i0 (.agg #[.bool false,.bool false,.slice none 0 0]) 3 32 Tryz.underlying53 hi0 hz0 hz1 hz2 rfl (by decide) u5 (chunksTo ps m j).length _ rfl (OR.out.alloc _) ⟨w3.heap.size,0,none⟩ 1 1 [.bool ((f:Int) == 0),.bool ((f:Int)+(m:Int) == (ps.length:Int)),.slice a3 m3 c3] rfl rfl (World.news_of_block (cs:=#[.bool ((f:Int) == 0),.bool ((f:Int)+(m:Int) == (ps.length:Int)),.slice a3 m3 c3]) (t:=58) (fr:=(0,0)) (heap_alloc_new w3 _)) (by simp[Value.oneCell']) (by omega) (by unfold maxLen;rw[HL.out];omega) (by rw[HL.out];omega) (by simp;omega) (w3.heap.size+1) (by simp) ?_;intro g4 cap4 w4 hown4 hgrow4 hat4 hlt4)
        have HO4:=HO.out.snoc (c:=chunkAt ps m j) hsz b3 (by rw[HC.out];exact OU.out) rfl (by rw[HC.out];exact hown4) hgrow4 hat4
        rw[←chunksTo_succ] at HO4
        have B4:Below w.heap.size w w4:=(B3.alloc B3.size _).grown hgrow4 (by have:=B3.size;simp;omega) (fun q hq=>(HO.out.row.lt q hq).1)
        have H4:Hid (OwnC w4 w.heap.size 58 (.slice (some ⟨g4,0,none⟩) (chunksTo ps m (j+1)).length cap4) (chunksTo ps m (j+1)) (vs ++ [.slice a3 m3 c3])):=HO4
        have HF2:Hid (f+m=(j+1)*m):=by rw[Hid,Nat.succ_mul,←HF.out]
        have HL2:Hid ((chunksTo ps m (j+1)).length=(chunksTo ps m j).length+1):=by rw[Hid,chunksTo_length,chunksTo_length]
        rw[HL2.out] at H4
        clear HO4 hown4 hgrow4 hat4 OU OR HO HC
        go_wp2
        go_roundw
        case rel=>exact⟨j+1,f+m,vs ++ [.slice a3 m3 c3],HF2,by omega,by omega,by omega,by go_num,H4,B4⟩
        case measure=>simp[intOf];omega
      · have hmin':¬ (f:Int)+(m:Int)≤(ps.length:Int):=by omega
        have hjf:j≤f:=by have h9:j*1≤j*m:=Nat.mul_le_mul_left j hm1;have:=HF.out;omega
        have HP:Hid (((ps.drop f).take m).length=(ps.length - f)):=by rw[Hid];first | (simp;done) | (simp;omega)
        have K3:=clone_any b (off+f*2) (cp - f) ((ps.drop f).take m) wr (by rw[HP.out];omega) (by have:=piece_isPairs (p:=f) (m:=m) (HIS.out wr hbel);simpa using this)
        rw[HP.out] at K3
        have HC:Hid (chunkAt ps m j=(((f:Int) == 0),true,(ps.drop f).take m)):=by
         rw[Hid,chunkAt,←HF.out]
         refine Prod.ext ?_ (Prod.ext ?_ rfl)
         · show decide _=_;rw[decide_eq_false (fun h:j=0=>by have:=HF.out;rw[h] at this;simp at this;omega)];symm;simp;omega
         · exact decide_eq_true (by first | omega | (simp;done))
        obtain⟨qs,hqs⟩:∃ qs,qs=(ps.drop f).take m:=⟨_,rfl⟩
        rw[←hqs] at K3 HC HP
        clear hqs
        have hmm:min ((f:Int)+(m:Int)) (ps.length:Int)=(ps.length:Int):=by omega
        go_wp2_with fail
        refine K3.mono ?_
        rintro e w3 ⟨a3,m3,c3,rfl,o3,b3⟩
        have s3:=b3.size
        have OU:Hid (w3.ownsRow wr.heap.size 56 2 (.slice a3 m3 c3) qs.length (pcells qs)):=by rw[Hid,HP.out];exact o3
        have OR:Hid (w3.ownsRow w.heap.size 58 3 u5 (chunksTo ps m j).length (ccells (chunksTo ps m j) vs)):=kept_new HO.out.row b3
        have HL:Hid ((chunksTo ps m j).length=j):=chunksTo_length ps m j
        have B3:=hbel.trans (b3.mono hsz)
        clear K3 o3
        go_wp2_with (at_builtin;refine wpList_append_lies _ rfl _ _ 53 rfl w.heap.size 58 i0 (.agg #[.bool false,.bool false,.slice none 0 0]) 3 32 Tryz.underlying53 hi0 hz0 hz1 hz2 rfl (by decide) u5 (chunksTo ps m j).length _ rfl (OR.out.alloc _) ⟨w3.heap.size,0,none⟩ 1 1 [.bool ((f:Int) == 0),.bool true,.slice a3 m3 c3] rfl rfl (World.news_of_block (cs:=#[.bool ((f:Int) == 0),.bool true,.slice a3 m3 c3]) (t:=58) (fr:=(0,0)) (heap_alloc_new w3 _)) (by simp[Value.oneCell']) (by omega) (by unfold maxLen;rw[HL.out];omega) (by rw[HL.out];omega) (by simp;omega) (w3.heap.size+1) (by simp) ?_;intro g4 cap4 w4 hown4 hgrow4 hat4 hlt4)
        have HO4:=HO.out.snoc (c:=chunkAt ps m j) hsz b3 (by rw[HC.out];exact OU.out) rfl (by rw[HC.out];exact hown4) hgrow4 hat4
        rw[←chunksTo_succ] at HO4
        have B4:Below w.heap.size w w4:=(B3.alloc B3.size _).grown hgrow4 (by have:=B3.size;simp;omega) (fun q hq=>(HO.out.row.lt q hq).1)
        have H4:Hid (OwnC w4 w.heap.size 58 (.slice (some ⟨g4,0,none⟩) (chunksTo ps m (j+1)).length cap4) (chunksTo ps m (j+1)) (vs ++ [.slice a3 m3 c3])):=HO4
        have HF2:Hid (f+m=(j+1)*m):=by rw[Hid,Nat.succ_mul,←HF.out]
        have HL2:Hid ((chunksTo ps m (j+1)).length=(chunksTo ps m j).length+1):=by rw[Hid,chunksTo_length,chunksTo_length]
        rw[HL2.out] at H4
        clear HO4 hown4 hgrow4 hat4 OU OR HO HC
        go_wp2
        go_roundw
        case rel=>exact⟨j+1,f+m,vs ++ [.slice a3 m3 c3],HF2,by omega,by omega,by omega,by go_num,H4,B4⟩
        case measure=>simp[intOf];omega
  · have h0:¬ (f:Int)=0:=by omega
    have h1:¬ (f:Int)<(ps.length:Int):=by omega
    have hj1:1≤j:=by rcases Nat.eq_zero_or_pos j with h | h;(exfalso;have:=HF.out;rw[h] at this;simp at this;omega);exact h
    have HN:Hid (j=chunksN ps.length m):=chunksN_of hj1 (by rw[←HF.out];omega) (by
     have e:(j - 1)*m=f - m:=by rw[Nat.sub_mul,←HF.out,Nat.one_mul]
     rw[e];omega)
    have H9:Hid (OwnC wr w.heap.size 58 u5 (chunksL ps m) vs):=by rw[Hid,chunksL,←HN.out];exact HO.out
    clear HO HN HF
    go_wp2
    go_ret
    exact⟨_,rfl,⟨vs,H9.out⟩,hbel⟩
theorem OwnC.moved {wp w':World} {lo e e':Nat} {v c:Value} {cs:List ChL} {vs:List Value} (h:OwnC wp lo e v cs vs) (hlo:lo≤wp.heap.size) (hb:Below wp.heap.size wp w') (hr:w'.ownsRow wp.heap.size e' 3 c cs.length (ccells cs vs)):OwnC w' lo e' c cs vs :=
 ⟨h.len,hr.mono hlo,fun j x u h1 h2=>kept_new (h.kid j x u h1 h2) hb,h.apart,fun i u k hu hk e=>by have:=(h.lt hu hk).2;have:=(hr.lt k e).1;omega⟩
theorem ccells_take (cs:List ChL) (vs:List Value) (j:Nat) (c:ChL) (u:Value) (hl:vs.length=cs.length) (hc:cs[j]? = some c) (hu:vs[j]? = some u):ccells (cs.take (j+1)) (vs.take (j+1))=ccells (cs.take j) (vs.take j) ++ [.bool c.1,.bool c.2.1,u]:=by
 obtain⟨h1,e1⟩:=List.getElem?_eq_some_iff.1 hc
 obtain⟨h2,e2⟩:=List.getElem?_eq_some_iff.1 hu
 rw[List.take_succ_eq_append_getElem h1,List.take_succ_eq_append_getElem h2,e1,e2]
 exact ccells_snoc _ _ _ _ (by simp[hl])
def chunksOkL (ps:List PairL) (mo:Int):Bool:=pairsOkL ps && (decide (1≤mo) && decide (mo≤8))
def chunksR (ps:List PairL) (mo:Int):List ChL:=if chunksOkL ps mo=true then chunksL ps mo.toNat else []
theorem chunksN_le {n m:Nat} (hn:n≤60):chunksN n m≤61:=by
 unfold chunksN
 split
 · omega
 · have:=Nat.div_le_self (n - 1) m;omega
theorem chunksL_length (ps:List PairL) (m:Nat):(chunksL ps m).length=chunksN ps.length m:=chunksTo_length _ _ _
theorem chunksN_pos (n m:Nat):1≤chunksN n m:=by
 unfold chunksN
 split
 · omega
 · exact Nat.le_add_left 1 _
set_option maxHeartbeats 2000000 in
set_option maxRecDepth 100000 in
theorem impl_chunksOf (b off cp:Nat) (ps:List PairL) (mo:Int) (w:World) (hl:ps.length≤1048576) (hcap:ps.length≤cp) (hm:∀ p∈ps,p.1.length≤1048576∧p.2.length≤1048576) (hs:IsPairs w (some ⟨b,off,none⟩) ps) :
 Calls Tryz.prog 6 #[.slice (some ⟨b,off,none⟩) ps.length cp,.int .i64 mo] w fun e w'=>∃ (v:Value) (vs:List Value),e=.returned (.tuple #[v,.bool (chunksOkL ps mo)])∧OwnC w' w.heap.size 38 v (chunksR ps mo) vs∧Below w.heap.size w w':=by
 obtain⟨i0,hi0,hz0,hz1,hz2⟩:=info_parts infoChunk
 have K1:=impl_pairsOk (some ⟨b,off,none⟩) cp ps w hl hm hs
 have HD:Hid (chunksOkL ps mo=(pairsOkL ps && (decide (1≤mo) && decide (mo≤8)))∧chunksR ps mo=if chunksOkL ps mo=true then chunksL ps mo.toNat else []):=⟨rfl,rfl⟩
 have HP:Hid (pairsOkL ps=true→ps.length≤60):=fun h=>(pairsOk_of ps h).1
 have HIS:Hid (∀ W,Below w.heap.size w W→IsPairs W (some ⟨b,off,none⟩) ps):=fun W hW=>hs.later hW
 obtain⟨r,hr⟩:∃ r,r=chunksR ps mo:=⟨_,rfl⟩
 obtain⟨ok,hok⟩:∃ ok,ok=chunksOkL ps mo:=⟨_,rfl⟩
 rw[←hok,←hr] at HD
 rw[←hr,←hok]
 obtain⟨pk,hpk⟩:∃ pk,pk=pairsOkL ps:=⟨_,rfl⟩
 rw[←hpk] at K1 HD HP
 clear hr hok hs hm hpk
 by_cases hgo:pk=true∧1≤mo∧mo≤8
 · obtain⟨rfl,h1,h8⟩:=hgo
   obtain⟨m,rfl⟩:∃ m:Nat,mo=(m:Int):=⟨mo.toNat,by omega⟩
   have e1:ok=true:=by rw[HD.out.1];simp[h1,h8]
   subst e1
   have HR:Hid (r=chunksL ps m):=by rw[Hid];have:=HD.out.2;simpa using this
   have h60:ps.length≤60:=HP.out rfl
   have KP:Hid (∀ W,Below w.heap.size w W→Calls Tryz.prog 23 #[.slice (some ⟨b,off,none⟩) ps.length cp,.int .i64 (m:Int)] W fun e w'=>∃ (v:Value) (vs:List Value),e=.returned v∧OwnC w' W.heap.size 58 v (chunksL ps m) vs∧Below W.heap.size W w'):=fun W hW=>impl_partsOf b off cp ps m W h60 hcap (by omega) (by omega) (HIS.out W hW)
   have HLN:Hid ((chunksL ps m).length≤61∧1≤(chunksL ps m).length):=by rw[Hid,chunksL_length];exact⟨chunksN_le h60,chunksN_pos _ _⟩
   rw[←HR.out] at KP HLN
   clear HD HP HIS HR
   go_enter Tryz.func6,Tryz.ntmps6
   go_wp2_with fail
   refine K1.mono ?_
   rintro e w1 ⟨rfl,b1⟩
   clear K1
   go_wp2_with fail
   refine (KP.out _ b1).mono ?_
   rintro e w2 ⟨v,vs,rfl,O2,b2⟩
   have B2:=b1.trans (b2.mono b1.size)
   have HO2:Hid (OwnC w2 w.heap.size 58 v r vs):=⟨O2.len,O2.row.mono b1.size,fun j c u h1 h2=>(O2.kid j c u h1 h2).mono b1.size,O2.apart,O2.far⟩
   obtain⟨g,cap,rfl,hg1,hg2⟩:∃ g cap,v=.slice (some ⟨g,0,none⟩) r.length cap∧w1.heap.size≤g∧g<w2.heap.size:=by
    rcases O2.slice with ⟨_,h0⟩ | h
    · exfalso;have:=HLN.out.2;rw[h0] at this;simp at this
    · exact h
   have hrl:=HLN.out.1
   clear O2 b2 KP HLN hg1 b1
   go_wp2
   go_loopw [6,24] (fun c i wr=>∃ j:Nat,j≤r.length∧i=.int .i64 (j:Int)∧wr.ownsRow w2.heap.size 38 3 c (r.take j).length (ccells (r.take j) (vs.take j))∧Below w2.heap.size w2 wr) (fun _ i _=>r.length - (intOf i).toNat)
   case atStart=>exact⟨0,Nat.zero_le _,rfl,World.ownsRow_nil _ _ _ _,Below.refl _ _⟩
   case round =>
    obtain⟨j,hj,rfl,hown,hbel⟩:=hrel
    have hsz:=hbel.size
    by_cases hlt:j<r.length
    · have ou:=HO2.out.later hbel
      obtain⟨⟨f,q,qs⟩,u,hc,hu,a1,cp1,rfl,i1,_⟩:=ou.kids hlt
      obtain⟨c1,c2,c3⟩:=ou.cells hc hu
      simp only at c1 c2 c3 i1
      have HCT:Hid (ccells (r.take (j+1)) (vs.take (j+1))=ccells (r.take j) (vs.take j) ++ [.bool f,.bool q,.slice a1 qs.length cp1]):=ccells_take r vs j _ _ HO2.out.len hc hu
      have HTL:Hid ((r.take j).length=j∧(r.take (j+1)).length=j+1):=⟨by simp;omega,by simp;omega⟩
      have hj0:(0:Int)≤(j:Int):=by omega
      have hj1:(j:Int)<(r.length:Int):=by omega
      have OR:=hidOwn hown
      clear ou hc hu i1 hown
      obtain⟨a5,m5,c5,rfl⟩:=own_slice2 OR.out
      have hgr:g<wr.heap.size:=by omega
      go_wp2_with (at_builtin;refine wpList_append_lies _ rfl _ _ 27 rfl w2.heap.size 38 i0 (.agg #[.bool false,.bool false,.slice none 0 0]) 3 32 Tryz.underlying27 hi0 hz0 hz1 hz2 rfl (by decide) (.slice a5 m5 c5) (r.take j).length _ rfl ((OR.out.alloc _).alloc _) ⟨wr.heap.size+1,0,none⟩ 1 1 [.bool f,.bool q,.slice a1 qs.length cp1] rfl rfl (World.news_of_block (cs:=#[.bool f,.bool q,.slice a1 qs.length cp1]) (t:=38) (fr:=(0,0)) (new_atP _ (by simp) _)) (by simp[Value.oneCell']) (by omega) (by unfold maxLen;rw[HTL.out.1];omega) (by rw[HTL.out.1];omega) (by simp;omega) (wr.heap.size+2) (by simp) ?_;intro g4 cap4 w4 hown4 hgrow4 hat4 hlt4)
      have B4:Below w2.heap.size w2 w4:=((hbel.alloc hsz _).alloc (by simp;omega) _).grown hgrow4 (by simp;omega) (fun q hq=>(OR.out.lt q hq).1)
      have H4:Hid (w4.ownsRow w2.heap.size 38 3 (.slice (some ⟨g4,0,none⟩) (j+1) cap4) (r.take (j+1)).length (ccells (r.take (j+1)) (vs.take (j+1)))):=by rw[Hid,HCT.out,HTL.out.2];have:=hown4;rw[HTL.out.1] at this;exact this
      clear hown4 hgrow4 hat4 OR HCT c1 c2 c3
      go_wp2
      go_roundw
      case rel=>exact⟨j+1,by omega,by go_num,H4.out,B4⟩
      case measure=>simp[intOf];omega
    · have hjl:j=r.length:=by omega
      subst hjl
      have h9:=hown
      rw[List.take_length,←HO2.out.len,List.take_length,HO2.out.len] at h9
      have H9:Hid (OwnC wr w.heap.size 38 u6 r vs):=HO2.out.moved B2.size hbel h9
      have B9:=B2.trans (hbel.mono B2.size)
      clear hown h9 HO2
      go_wp2
      go_ret2
      exact⟨_,vs,rfl,H9.out,B9⟩
 · have e1:ok=false:=by
    rw[HD.out.1]
    cases pk
    · rfl
    · simp only[Bool.true_and,Bool.and_eq_false_iff,decide_eq_false_iff_not]
      rcases Classical.em (1≤mo) with h | h
      · exact .inr (fun h'=>hgo ⟨rfl,h,h'⟩)
      · exact .inl h
   subst e1
   have e2:r=[]:=by rw[HD.out.2];rfl
   subst e2
   have HN:Hid (∀ W:World,OwnC W w.heap.size 38 (.slice none 0 0) [] []):=fun W=>OwnC.nil _ _ _ _ (World.ownsRow_nil _ _ _ _)
   clear HIS HP HD
   go_enter Tryz.func6,Tryz.ntmps6
   go_wp2_with fail
   refine K1.mono ?_
   rintro e w1 ⟨rfl,b1⟩
   clear K1
   cases pk
   · go_wp2
     go_ret2
     exact⟨_,[],rfl,HN.out _,b1⟩
   · rcases Classical.em (1≤mo) with h | h
     · have h':¬ mo≤8:=fun h'=>hgo ⟨rfl,h,h'⟩
       clear hgo
       go_wp2
       go_ret2
       exact⟨_,[],rfl,HN.out _,b1⟩
     · clear hgo
       go_wp2
       go_ret2
       exact⟨_,[],rfl,HN.out _,b1⟩
set_option maxHeartbeats 1000000 in
set_option maxRecDepth 100000 in
theorem spec_l13Pairs (b off cap:Nat) (qs:List PairL) (w:World) (hl:qs.length≤1000) (hs:IsPairs w (some ⟨b,off,none⟩) qs) :
 Calls Tryz.prog 26 #[.slice (some ⟨b,off,none⟩) qs.length cap] w fun e w'=>∃ (a:Option Addr) (m c:Nat),e=.returned (.slice a m c)∧w'.ownsRow w.heap.size 56 2 (.slice a m c) qs.length (pcells qs)∧Below w.heap.size w w':=by
 obtain⟨i0,hi0,hz0,hz1,hz2⟩:=info_parts infoPair
 have B0:Below w.heap.size w (w.alloc (.cells #[] 56)):=(Below.refl _ _).alloc (Nat.le_refl _) _
 have HF:Hid (∀ j u,(pcells qs)[j]? = some u→(w.alloc (.cells #[] 56)).cell? ((⟨b,off,none⟩:Addr).add j)=some u):=isPairs_flat (hs.later B0)
 have o0:=World.ownsRow_lit (e:=56) (size:=2) w #[] 0 (base:=w.heap.size) (Nat.le_refl _) (Nat.zero_le _) rfl
 have HO0:=hidOwn o0
 clear hs o0
 go_enter Tryz.func26,Tryz.ntmps26
 go_wp2_with (at_builtin;refine wpList_append_own _ rfl _ _ 24 rfl w.heap.size 56 i0 (.agg #[.string ⟨#[]⟩,.string ⟨#[]⟩]) 2 32 Tryz.underlying24 hi0 hz0 hz1 hz2 rfl (by decide) (.slice (some ⟨w.heap.size,0,none⟩) 0 0) 0 _ rfl HO0.out ⟨b,off,none⟩ qs.length cap (pcells qs) rfl (pcells_length qs) HF.out (pcells_one qs) (by unfold maxLen;omega) (by omega) (by simp <;> omega) ?_;intro v3 w3 hown3 hgrow3 hnil3;obtain⟨a3,m3,c3,rfl⟩:=own_slice2 hown3)
 have B3:Below w.heap.size w w3:=B0.grown hgrow3 (by simp) (fun k hk=>by simp[Value.ownBlock] at hk;omega)
 have HO3:Hid (w3.ownsRow w.heap.size 56 2 (.slice a3 m3 c3) qs.length (pcells qs)):=by rw[Hid];simpa using hown3
 clear hown3 hgrow3 hnil3
 go_wp2
 go_ret
 exact⟨a3,m3,c3,rfl,HO3.out,B3⟩
set_option maxRecDepth 100000 in
theorem l1In_ch (n:Int) (w:World) :
 Calls Tryz.prog 25 #[.int .i64 n,.int .i64 1,.int .i64 8] w fun e w'=>e=.returned (.bool (decide (1≤n) && decide (n≤8)))∧w'=w:=by
 by_cases h1:1≤n
 · by_cases h2:n≤8
   · have HZ:Hid ((decide (1≤n) && decide (n≤8))=true):=by rw[Hid,decide_eq_true h1,decide_eq_true h2];rfl
     go_enter Tryz.func25,Tryz.ntmps25
     go_wp2
     go_ret
     exact⟨by first | exact rfl | (rw[HZ.out];exact rfl) | (show Ending.returned (.bool false)=_;congr 2;symm;exact decide_eq_false (by omega)),rfl⟩
   · have HZ:Hid ((decide (1≤n) && decide (n≤8))=false):=by rw[Hid,decide_eq_false h2,Bool.and_false]
     go_enter Tryz.func25,Tryz.ntmps25
     go_wp2
     go_ret
     exact⟨by first | exact rfl | (rw[HZ.out];exact rfl) | (show Ending.returned (.bool false)=_;congr 2;symm;exact decide_eq_false (by omega)),rfl⟩
 · have HZ:Hid ((decide (1≤n) && decide (n≤8))=false):=by rw[Hid,decide_eq_false h1,Bool.false_and]
   go_enter Tryz.func25,Tryz.ntmps25
   go_wp2
   go_ret
   exact⟨by first | exact rfl | (rw[HZ.out];exact rfl) | (show Ending.returned (.bool false)=_;congr 2;symm;exact decide_eq_false (by omega)),rfl⟩
set_option maxHeartbeats 2000000 in
set_option maxRecDepth 100000 in
theorem spec_chunksOf (b off cp : Nat) (ps : List PairL) (mo : Int) (w : World) (hl : ps.length ≤ 1048576) (hcap : ps.length ≤ cp) (hm : ∀ p ∈ ps, p.1.length ≤ 1048576 ∧ p.2.length ≤ 1048576) (hs : IsPairs w (some ⟨b, off, none⟩) ps) :
 Calls Tryz.prog 7 #[.slice (some ⟨b,off,none⟩) ps.length cp,.int .i64 mo] w fun e w'=>∃ (v:Value) (vs:List Value),e=.returned (.tuple #[v,.bool (chunksOkL ps mo)])∧OwnC w' w.heap.size 38 v (chunksR ps mo) vs∧Below w.heap.size w w':=by
 obtain⟨i0,hi0,hz0,hz1,hz2⟩:=info_parts infoChunk
 have K1:=spec_pairsOk (some ⟨b,off,none⟩) cp ps w hl hm hs
 have HD:Hid (chunksOkL ps mo=(pairsOkL ps && (decide (1≤mo) && decide (mo≤8)))∧chunksR ps mo=if chunksOkL ps mo=true then chunksL ps mo.toNat else []):=⟨rfl,rfl⟩
 have HP:Hid (pairsOkL ps=true→ps.length≤60):=fun h=>(pairsOk_of ps h).1
 have HIS:Hid (∀ W,Below w.heap.size w W→IsPairs W (some ⟨b,off,none⟩) ps):=fun W hW=>hs.later hW
 have K2:=fun W=>l1In_ch mo W
 obtain⟨r,hr⟩:∃ r,r=chunksR ps mo:=⟨_,rfl⟩
 obtain⟨ok,hok⟩:∃ ok,ok=chunksOkL ps mo:=⟨_,rfl⟩
 rw[←hok,←hr] at HD
 rw[←hr,←hok]
 obtain⟨pk,hpk⟩:∃ pk,pk=pairsOkL ps:=⟨_,rfl⟩
 rw[←hpk] at K1 HD HP
 obtain⟨ib,hib⟩:∃ ib,ib=(decide (1≤mo) && decide (mo≤8)):=⟨_,rfl⟩
 rw[←hib] at K2 HD
 clear hr hok hs hm hpk
 by_cases hgo:pk=true∧ib=true
 · obtain ⟨rfl, rfl⟩ := hgo
   have hib':=hib.symm
   simp only[Bool.and_eq_true,decide_eq_true_eq] at hib'
   obtain⟨m,rfl⟩:∃ m:Nat,mo=(m:Int):=⟨mo.toNat,by omega⟩
   have hm1:1≤m:=by omega
   have hm8:m≤8:=by omega
   have e1:ok=true:=by rw[HD.out.1];rfl
   subst e1
   have HR:Hid (r=chunksL ps m):=by rw[Hid];have:=HD.out.2;simpa using this
   have h60:ps.length≤60:=HP.out rfl
   have hr':=HR.out
   subst hr'
   clear HD HP HR hib hib'
   go_enter Tryz.func7,Tryz.ntmps7
   go_wp2_with fail
   refine K1.mono ?_
   rintro e w1 ⟨rfl,b1⟩
   clear K1
   go_wp2_with fail
   refine (K2 _).mono ?_
   rintro e w1' ⟨rfl,rfl⟩
   clear K2
   have b0:=b1.alloc b1.size (.cells #[] 38)
   go_wp2
   go_loopw [6,7] (fun v i wr=>∃ (j f:Nat) (vs:List Value),Hid (f=j*m)∧j≤61∧f≤600∧(j=0∨j=1∨(f - m<ps.length))∧i=.int .i64 (f:Int)∧Hid (OwnC wr w.heap.size 38 v (chunksTo ps m j) vs)∧Below w.heap.size w wr) (fun _ i _=>700 - (intOf i).toNat)
   case atStart=>exact⟨0,0,[],by rw[Hid];simp,by omega,by omega,.inl rfl,rfl,OwnC.nil _ _ _ _ (World.ownsRow_lit _ #[] 0 b1.size (Nat.zero_le _) rfl),b0⟩
   case round =>
    obtain⟨j,f,vs,HF,hj,hf,hr,rfl,HO,hbel⟩:=hrel
    have hsz:=hbel.size
    by_cases hgo:f=0∨f<ps.length
    · have hj0 : (f : Int) = 0 ∨ (¬ (f : Int) = 0 ∧ (f : Int) < (ps.length : Int)) := by omega
      have hf0:(0:Int)≤(f:Int):=by omega
      rcases hj0 with h0 | ⟨h0,h1⟩
      · obtain rfl:f=0:=by omega
        by_cases hz:ps.length=0
        · have hmin:ps.length≤m:=by omega
          have HZ0:Hid (ps.length=0):=hz
          have hy1:((0:Int)<(ps.length:Int))=False:=eq_false (by omega)
          have hy2:(0<ps.length)=False:=eq_false (by omega)
          have hmin':(ps.length:Int)≤(m:Int):=by omega
          clear hz
          have hjz:Hid (j=0):=by rw[Hid];rcases Nat.eq_zero_or_pos j with h | h;exact h;exact absurd HF.out (Nat.ne_of_lt (Nat.mul_pos h hm1))
          have HP:Hid (((ps.drop 0).take m).length=ps.length):=by rw[Hid];first | (simp;done) | (simp;omega)
          have K3:=spec_l13Pairs b off cp ((ps.drop 0).take m) wr (by rw[HP.out];omega) (by have:=piece_isPairs (p:=0) (m:=m) (HIS.out wr hbel);simpa using this)
          rw[HP.out] at K3
          have HC:Hid (chunkAt ps m j=(true,true,(ps.drop 0).take m)):=by
           rw[Hid,chunkAt,←HF.out]
           refine Prod.ext ?_ (Prod.ext ?_ rfl)
           · exact decide_eq_true hjz.out
           · exact decide_eq_true (by first | omega | (simp;done))
          obtain⟨qs,hqs⟩:∃ qs,qs=(ps.drop 0).take m:=⟨_,rfl⟩
          rw[←hqs] at K3 HC HP
          clear hqs
          have hmm:min (ps.length:Int) (m:Int)=(ps.length:Int):=by omega
          go_wp2_with fail
          refine K3.mono ?_
          rintro e w3 ⟨a3,m3,c3,rfl,o3,b3⟩
          have s3:=b3.size
          have OU:Hid (w3.ownsRow wr.heap.size 56 2 (.slice a3 m3 c3) qs.length (pcells qs)):=by rw[Hid,HP.out];exact o3
          have OR:Hid (w3.ownsRow w.heap.size 38 3 u6 (chunksTo ps m j).length (ccells (chunksTo ps m j) vs)):=kept_new HO.out.row b3
          have HL:Hid ((chunksTo ps m j).length=j):=chunksTo_length ps m j
          have B3:=hbel.trans (b3.mono hsz)
          clear K3 o3
          go_wp2_with (at_builtin;refine wpList_append_lies _ rfl _ _ 27 rfl w.heap.size 38 i0 (.agg #[.bool false,.bool false,.slice none 0 0]) 3 32 Tryz.underlying27 hi0 hz0 hz1 hz2 rfl (by decide) u6 (chunksTo ps m j).length _ rfl (OR.out.alloc _) ⟨w3.heap.size,0,none⟩ 1 1 [.bool true,.bool true,.slice a3 m3 c3] rfl rfl (World.news_of_block (cs:=#[.bool true,.bool true,.slice a3 m3 c3]) (t:=38) (fr:=(0,0)) (heap_alloc_new w3 _)) (by simp[Value.oneCell']) (by omega) (by unfold maxLen;rw[HL.out];omega) (by rw[HL.out];omega) (by simp;omega) (w3.heap.size+1) (by simp) ?_;intro g4 cap4 w4 hown4 hgrow4 hat4 hlt4)
          have HO4:=HO.out.snoc (c:=chunkAt ps m j) hsz b3 (by rw[HC.out];exact OU.out) rfl (by rw[HC.out];exact hown4) hgrow4 hat4
          rw[←chunksTo_succ] at HO4
          have B4:Below w.heap.size w w4:=(B3.alloc B3.size _).grown hgrow4 (by have:=B3.size;simp;omega) (fun q hq=>(HO.out.row.lt q hq).1)
          have H4:Hid (OwnC w4 w.heap.size 38 (.slice (some ⟨g4,0,none⟩) (chunksTo ps m (j+1)).length cap4) (chunksTo ps m (j+1)) (vs ++ [.slice a3 m3 c3])):=HO4
          have HF2:Hid (0+m=(j+1)*m):=by rw[Hid,Nat.succ_mul,←HF.out]
          have HL2:Hid ((chunksTo ps m (j+1)).length=(chunksTo ps m j).length+1):=by rw[Hid,chunksTo_length,chunksTo_length]
          rw[HL2.out] at H4
          clear HO4 hown4 hgrow4 hat4 OU OR HO HC
          go_wp2
          go_roundw
          case rel=>exact⟨j+1,0+m,vs ++ [.slice a3 m3 c3],HF2,by have:=hjz.out;omega,by omega,by have:=hjz.out;omega,by go_num,H4,B4⟩
          case measure=>simp[intOf];omega
        · have hz':(0:Int)<(ps.length:Int):=by omega
          by_cases hmin:ps.length≤m
          · have hmin':(ps.length:Int)≤(m:Int):=by omega
            have hjz:Hid (j=0):=by rw[Hid];rcases Nat.eq_zero_or_pos j with h | h;exact h;exact absurd HF.out (Nat.ne_of_lt (Nat.mul_pos h hm1))
            have HP:Hid (((ps.drop 0).take m).length=ps.length):=by rw[Hid];first | (simp;done) | (simp;omega)
            have K3:=spec_l13Pairs b off cp ((ps.drop 0).take m) wr (by rw[HP.out];omega) (by have:=piece_isPairs (p:=0) (m:=m) (HIS.out wr hbel);simpa using this)
            rw[HP.out] at K3
            have HC:Hid (chunkAt ps m j=(true,true,(ps.drop 0).take m)):=by
             rw[Hid,chunkAt,←HF.out]
             refine Prod.ext ?_ (Prod.ext ?_ rfl)
             · exact decide_eq_true hjz.out
             · exact decide_eq_true (by first | omega | (simp;done))
            obtain⟨qs,hqs⟩:∃ qs,qs=(ps.drop 0).take m:=⟨_,rfl⟩
            rw[←hqs] at K3 HC HP
            clear hqs
            have hmm:min (ps.length:Int) (m:Int)=(ps.length:Int):=by omega
            go_wp2_with fail
            refine K3.mono ?_
            rintro e w3 ⟨a3,m3,c3,rfl,o3,b3⟩
            have s3:=b3.size
            have OU:Hid (w3.ownsRow wr.heap.size 56 2 (.slice a3 m3 c3) qs.length (pcells qs)):=by rw[Hid,HP.out];exact o3
            have OR:Hid (w3.ownsRow w.heap.size 38 3 u6 (chunksTo ps m j).length (ccells (chunksTo ps m j) vs)):=kept_new HO.out.row b3
            have HL:Hid ((chunksTo ps m j).length=j):=chunksTo_length ps m j
            have B3:=hbel.trans (b3.mono hsz)
            clear K3 o3
            go_wp2_with (at_builtin;refine wpList_append_lies _ rfl _ _ 27 rfl w.heap.size 38 i0 (.agg #[.bool false,.bool false,.slice none 0 0]) 3 32 Tryz.underlying27 hi0 hz0 hz1 hz2 rfl (by decide) u6 (chunksTo ps m j).length _ rfl (OR.out.alloc _) ⟨w3.heap.size,0,none⟩ 1 1 [.bool true,.bool true,.slice a3 m3 c3] rfl rfl (World.news_of_block (cs:=#[.bool true,.bool true,.slice a3 m3 c3]) (t:=38) (fr:=(0,0)) (heap_alloc_new w3 _)) (by simp[Value.oneCell']) (by omega) (by unfold maxLen;rw[HL.out];omega) (by rw[HL.out];omega) (by simp;omega) (w3.heap.size+1) (by simp) ?_;intro g4 cap4 w4 hown4 hgrow4 hat4 hlt4)
            have HO4:=HO.out.snoc (c:=chunkAt ps m j) hsz b3 (by rw[HC.out];exact OU.out) rfl (by rw[HC.out];exact hown4) hgrow4 hat4
            rw[←chunksTo_succ] at HO4
            have B4:Below w.heap.size w w4:=(B3.alloc B3.size _).grown hgrow4 (by have:=B3.size;simp;omega) (fun q hq=>(HO.out.row.lt q hq).1)
            have H4:Hid (OwnC w4 w.heap.size 38 (.slice (some ⟨g4,0,none⟩) (chunksTo ps m (j+1)).length cap4) (chunksTo ps m (j+1)) (vs ++ [.slice a3 m3 c3])):=HO4
            have HF2:Hid (0+m=(j+1)*m):=by rw[Hid,Nat.succ_mul,←HF.out]
            have HL2:Hid ((chunksTo ps m (j+1)).length=(chunksTo ps m j).length+1):=by rw[Hid,chunksTo_length,chunksTo_length]
            rw[HL2.out] at H4
            clear HO4 hown4 hgrow4 hat4 OU OR HO HC
            go_wp2
            go_roundw
            case rel=>exact⟨j+1,0+m,vs ++ [.slice a3 m3 c3],HF2,by have:=hjz.out;omega,by omega,by have:=hjz.out;omega,by go_num,H4,B4⟩
            case measure=>simp[intOf];omega
          · have hmin':¬ (ps.length:Int)≤(m:Int):=by omega
            have hjz:Hid (j=0):=by rw[Hid];rcases Nat.eq_zero_or_pos j with h | h;exact h;exact absurd HF.out (Nat.ne_of_lt (Nat.mul_pos h hm1))
            have HP:Hid (((ps.drop 0).take m).length=m):=by rw[Hid];first | (simp;done) | (simp;omega)
            have K3:=spec_l13Pairs b off cp ((ps.drop 0).take m) wr (by rw[HP.out];omega) (by have:=piece_isPairs (p:=0) (m:=m) (HIS.out wr hbel);simpa using this)
            rw[HP.out] at K3
            have HC:Hid (chunkAt ps m j=(true,((m:Int) == (ps.length:Int)),(ps.drop 0).take m)):=by
             rw[Hid,chunkAt,←HF.out]
             refine Prod.ext ?_ (Prod.ext ?_ rfl)
             · exact decide_eq_true hjz.out
             · show decide _=_;rw[Bool.eq_iff_iff];simp;omega
            obtain⟨qs,hqs⟩:∃ qs,qs=(ps.drop 0).take m:=⟨_,rfl⟩
            rw[←hqs] at K3 HC HP
            clear hqs
            have hmm:min (ps.length:Int) (m:Int)=(m:Int):=by omega
            go_wp2_with fail
            refine K3.mono ?_
            rintro e w3 ⟨a3,m3,c3,rfl,o3,b3⟩
            have s3:=b3.size
            have OU:Hid (w3.ownsRow wr.heap.size 56 2 (.slice a3 m3 c3) qs.length (pcells qs)):=by rw[Hid,HP.out];exact o3
            have OR:Hid (w3.ownsRow w.heap.size 38 3 u6 (chunksTo ps m j).length (ccells (chunksTo ps m j) vs)):=kept_new HO.out.row b3
            have HL:Hid ((chunksTo ps m j).length=j):=chunksTo_length ps m j
            have B3:=hbel.trans (b3.mono hsz)
            clear K3 o3
            go_wp2_with (at_builtin;refine wpList_append_lies _ rfl _ _ 27 rfl w.heap.size 38 i0 (.agg #[.bool false,.bool false,.slice none 0 0]) 3 32 Tryz.underlying27 hi0 hz0 hz1 hz2 rfl (by decide) u6 (chunksTo ps m j).length _ rfl (OR.out.alloc _) ⟨w3.heap.size,0,none⟩ 1 1 [.bool true,.bool ((m:Int) == (ps.length:Int)),.slice a3 m3 c3] rfl rfl (World.news_of_block (cs:=#[.bool true,.bool ((m:Int) == (ps.length:Int)),.slice a3 m3 c3]) (t:=38) (fr:=(0,0)) (heap_alloc_new w3 _)) (by simp[Value.oneCell']) (by omega) (by unfold maxLen;rw[HL.out];omega) (by rw[HL.out];omega) (by simp;omega) (w3.heap.size+1) (by simp) ?_;intro g4 cap4 w4 hown4 hgrow4 hat4 hlt4)
            have HO4:=HO.out.snoc (c:=chunkAt ps m j) hsz b3 (by rw[HC.out];exact OU.out) rfl (by rw[HC.out];exact hown4) hgrow4 hat4
            rw[←chunksTo_succ] at HO4
            have B4:Below w.heap.size w w4:=(B3.alloc B3.size _).grown hgrow4 (by have:=B3.size;simp;omega) (fun q hq=>(HO.out.row.lt q hq).1)
            have H4:Hid (OwnC w4 w.heap.size 38 (.slice (some ⟨g4,0,none⟩) (chunksTo ps m (j+1)).length cap4) (chunksTo ps m (j+1)) (vs ++ [.slice a3 m3 c3])):=HO4
            have HF2:Hid (0+m=(j+1)*m):=by rw[Hid,Nat.succ_mul,←HF.out]
            have HL2:Hid ((chunksTo ps m (j+1)).length=(chunksTo ps m j).length+1):=by rw[Hid,chunksTo_length,chunksTo_length]
            rw[HL2.out] at H4
            clear HO4 hown4 hgrow4 hat4 OU OR HO HC
            go_wp2
            go_roundw
            case rel=>exact⟨j+1,0+m,vs ++ [.slice a3 m3 c3],HF2,by have:=hjz.out;omega,by omega,by have:=hjz.out;omega,by go_num,H4,B4⟩
            case measure=>simp[intOf];omega
      · by_cases hmin:ps.length≤f+m
        · have hmin':(ps.length:Int)≤(f:Int)+(m:Int):=by omega
          have hjf:j≤f:=by have h9:j*1≤j*m:=Nat.mul_le_mul_left j hm1;have:=HF.out;omega
          have HP:Hid (((ps.drop f).take m).length=(ps.length - f)):=by rw[Hid];first | (simp;done) | (simp;omega)
          have K3:=spec_l13Pairs b (off+f*2) (cp - f) ((ps.drop f).take m) wr (by rw[HP.out];omega) (by have:=piece_isPairs (p:=f) (m:=m) (HIS.out wr hbel);simpa using this)
          rw[HP.out] at K3
          have HC:Hid (chunkAt ps m j=(((f:Int) == 0),true,(ps.drop f).take m)):=by
           rw[Hid,chunkAt,←HF.out]
           refine Prod.ext ?_ (Prod.ext ?_ rfl)
           · show decide _=_;rw[decide_eq_false (fun h:j=0=>by have:=HF.out;rw[h] at this;simp at this;omega)];symm;simp;omega
           · exact decide_eq_true (by first | omega | (simp;done))
          obtain⟨qs,hqs⟩:∃ qs,qs=(ps.drop f).take m:=⟨_,rfl⟩
          rw[←hqs] at K3 HC HP
          clear hqs
          have hmm:min (ps.length:Int) ((f:Int)+(m:Int))=(ps.length:Int):=by omega
          go_wp2_with fail
          refine K3.mono ?_
          rintro e w3 ⟨a3,m3,c3,rfl,o3,b3⟩
          have s3:=b3.size
          have OU:Hid (w3.ownsRow wr.heap.size 56 2 (.slice a3 m3 c3) qs.length (pcells qs)):=by rw[Hid,HP.out];exact o3
          have OR:Hid (w3.ownsRow w.heap.size 38 3 u6 (chunksTo ps m j).length (ccells (chunksTo ps m j) vs)):=kept_new HO.out.row b3
          have HL:Hid ((chunksTo ps m j).length=j):=chunksTo_length ps m j
          have B3:=hbel.trans (b3.mono hsz)
          clear K3 o3
          go_wp2_with (at_builtin;refine wpList_append_lies _ rfl _ _ 27 rfl w.heap.size 38 i0 (.agg #[.bool false,.bool false,.slice none 0 0]) 3 32 Tryz.underlying27 hi0 hz0 hz1 hz2 rfl (by decide) u6 (chunksTo ps m j).length _ rfl (OR.out.alloc _) ⟨w3.heap.size,0,none⟩ 1 1 [.bool ((f:Int) == 0),.bool true,.slice a3 m3 c3] rfl rfl (World.news_of_block (cs:=#[.bool ((f:Int) == 0),.bool true,.slice a3 m3 c3]) (t:=38) (fr:=(0,0)) (heap_alloc_new w3 _)) (by simp[Value.oneCell']) (by omega) (by unfold maxLen;rw[HL.out];omega) (by rw[HL.out];omega) (by simp;omega) (w3.heap.size+1) (by simp) ?_;intro g4 cap4 w4 hown4 hgrow4 hat4 hlt4)
          have HO4:=HO.out.snoc (c:=chunkAt ps m j) hsz b3 (by rw[HC.out];exact OU.out) rfl (by rw[HC.out];exact hown4) hgrow4 hat4
          rw[←chunksTo_succ] at HO4
          have B4:Below w.heap.size w w4:=(B3.alloc B3.size _).grown hgrow4 (by have:=B3.size;simp;omega) (fun q hq=>(HO.out.row.lt q hq).1)
          have H4:Hid (OwnC w4 w.heap.size 38 (.slice (some ⟨g4,0,none⟩) (chunksTo ps m (j+1)).length cap4) (chunksTo ps m (j+1)) (vs ++ [.slice a3 m3 c3])):=HO4
          have HF2:Hid (f+m=(j+1)*m):=by rw[Hid,Nat.succ_mul,←HF.out]
          have HL2:Hid ((chunksTo ps m (j+1)).length=(chunksTo ps m j).length+1):=by rw[Hid,chunksTo_length,chunksTo_length]
          rw[HL2.out] at H4
          clear HO4 hown4 hgrow4 hat4 OU OR HO HC
          go_wp2
          go_roundw
          case rel=>exact⟨j+1,f+m,vs ++ [.slice a3 m3 c3],HF2,by omega,by omega,by omega,by go_num,H4,B4⟩
          case measure=>simp[intOf];omega
        · have hmin':¬ (ps.length:Int)≤(f:Int)+(m:Int):=by omega
          have hjf:j≤f:=by have h9:j*1≤j*m:=Nat.mul_le_mul_left j hm1;have:=HF.out;omega
          have HP:Hid (((ps.drop f).take m).length=m):=by rw[Hid];first | (simp;done) | (simp;omega)
          have K3:=spec_l13Pairs b (off+f*2) (cp - f) ((ps.drop f).take m) wr (by rw[HP.out];omega) (by have:=piece_isPairs (p:=f) (m:=m) (HIS.out wr hbel);simpa using this)
          rw[HP.out] at K3
          have HC:Hid (chunkAt ps m j=(((f:Int) == 0),((f:Int)+(m:Int) == (ps.length:Int)),(ps.drop f).take m)):=by
           rw[Hid,chunkAt,←HF.out]
           refine Prod.ext ?_ (Prod.ext ?_ rfl)
           · show decide _=_;rw[decide_eq_false (fun h:j=0=>by have:=HF.out;rw[h] at this;simp at this;omega)];symm;simp;omega
           · show decide _=_;rw[Bool.eq_iff_iff];simp;omega
          obtain⟨qs,hqs⟩:∃ qs,qs=(ps.drop f).take m:=⟨_,rfl⟩
          rw[←hqs] at K3 HC HP
          clear hqs
          have hmm:min (ps.length:Int) ((f:Int)+(m:Int))=((f:Int)+(m:Int)):=by omega
          have hmt:((f:Int)+(m:Int)).toNat=f+m:=by omega
          go_wp2_with fail
          refine K3.mono ?_
          rintro e w3 ⟨a3,m3,c3,rfl,o3,b3⟩
          have s3:=b3.size
          have OU:Hid (w3.ownsRow wr.heap.size 56 2 (.slice a3 m3 c3) qs.length (pcells qs)):=by rw[Hid,HP.out];exact o3
          have OR:Hid (w3.ownsRow w.heap.size 38 3 u6 (chunksTo ps m j).length (ccells (chunksTo ps m j) vs)):=kept_new HO.out.row b3
          have HL:Hid ((chunksTo ps m j).length=j):=chunksTo_length ps m j
          have B3:=hbel.trans (b3.mono hsz)
          clear K3 o3
          go_wp2_with (at_builtin;refine wpList_append_lies _ rfl _ _ 27 rfl w.heap.size 38 i0 (.agg #[.bool false,.bool false,.slice none 0 0]) 3 32 Tryz.underlying27 hi0 hz0 hz1 hz2 rfl (by decide) u6 (chunksTo ps m j).length _ rfl (OR.out.alloc _) ⟨w3.heap.size,0,none⟩ 1 1 [.bool ((f:Int) == 0),.bool ((f:Int)+(m:Int) == (ps.length:Int)),.slice a3 m3 c3] rfl rfl (World.news_of_block (cs:=#[.bool ((f:Int) == 0),.bool ((f:Int)+(m:Int) == (ps.length:Int)),.slice a3 m3 c3]) (t:=38) (fr:=(0,0)) (heap_alloc_new w3 _)) (by simp[Value.oneCell']) (by omega) (by unfold maxLen;rw[HL.out];omega) (by rw[HL.out];omega) (by simp;omega) (w3.heap.size+1) (by simp) ?_;intro g4 cap4 w4 hown4 hgrow4 hat4 hlt4)
          have HO4:=HO.out.snoc (c:=chunkAt ps m j) hsz b3 (by rw[HC.out];exact OU.out) rfl (by rw[HC.out];exact hown4) hgrow4 hat4
          rw[←chunksTo_succ] at HO4
          have B4:Below w.heap.size w w4:=(B3.alloc B3.size _).grown hgrow4 (by have:=B3.size;simp;omega) (fun q hq=>(HO.out.row.lt q hq).1)
          have H4:Hid (OwnC w4 w.heap.size 38 (.slice (some ⟨g4,0,none⟩) (chunksTo ps m (j+1)).length cap4) (chunksTo ps m (j+1)) (vs ++ [.slice a3 m3 c3])):=HO4
          have HF2:Hid (f+m=(j+1)*m):=by rw[Hid,Nat.succ_mul,←HF.out]
          have HL2:Hid ((chunksTo ps m (j+1)).length=(chunksTo ps m j).length+1):=by rw[Hid,chunksTo_length,chunksTo_length]
          rw[HL2.out] at H4
          clear HO4 hown4 hgrow4 hat4 OU OR HO HC
          go_wp2
          go_roundw
          case rel=>exact⟨j+1,f+m,vs ++ [.slice a3 m3 c3],HF2,by omega,by omega,by omega,by go_num,H4,B4⟩
          case measure=>simp[intOf];omega
    · have h0:¬ (f:Int)=0:=by omega
      have h1:¬ (f:Int)<(ps.length:Int):=by omega
      have hj1:1≤j:=by rcases Nat.eq_zero_or_pos j with h | h;(exfalso;have:=HF.out;rw[h] at this;simp at this;omega);exact h
      have HN:Hid (j=chunksN ps.length m):=chunksN_of hj1 (by rw[←HF.out];omega) (by
       have e:(j - 1)*m=f - m:=by rw[Nat.sub_mul,←HF.out,Nat.one_mul]
       rw[e];omega)
      have H9:Hid (OwnC wr w.heap.size 38 u6 (chunksL ps m) vs):=by rw[Hid,chunksL,←HN.out];exact HO.out
      clear HO HN HF
      go_wp2
      go_ret2
      first | exact⟨_,vs,rfl,H9.out,hbel⟩ | exact⟨_,rfl,⟨vs,H9.out⟩,hbel⟩
 · have e1:ok=false:=by
    rw[HD.out.1]
    cases pk
    · rfl
    · cases ib
      · rfl
      · exact absurd ⟨rfl,rfl⟩ hgo
   subst e1
   have e2:r=[]:=by rw[HD.out.2];rfl
   subst e2
   have HN:Hid (∀ W:World,OwnC W w.heap.size 38 (.slice none 0 0) [] []):=fun W=>OwnC.nil _ _ _ _ (World.ownsRow_nil _ _ _ _)
   clear HIS HP HD hib
   go_enter Tryz.func7,Tryz.ntmps7
   go_wp2_with fail
   refine K1.mono ?_
   rintro e w1 ⟨rfl,b1⟩
   clear K1
   cases pk
   · go_wp2
     go_ret2
     first | exact⟨_,[],rfl,HN.out _,b1⟩ | exact⟨_,[],trivial,HN.out _,b1⟩
   · go_wp2_with fail
     refine (K2 _).mono ?_
     rintro e w1' ⟨rfl,rfl⟩
     cases ib
     · clear hgo
       go_wp2
       go_ret2
       first | exact⟨_,[],rfl,HN.out _,b1⟩ | exact⟨_,[],trivial,HN.out _,b1⟩
     · exact absurd (by simp) hgo
end Go.Proofs.YtahocpjieffbaaaGreatDoor
