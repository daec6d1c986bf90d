/-
 Chunks on lists of pairs; rows of chunks, each with a row of pairs of its own.
-/
import Derived.Test.YtcoahmldmodmlaaGreatDoorPairs
namespace Go.Proofs.YtcoahmldmodmlaaGreatDoor
open Go.RowKit
set_option linter.unusedVariables false
abbrev ChL:=Bool × Bool × List PairL
def chunkAt (ps:List PairL) (m i:Nat):ChL:=(decide (i=0),decide (min (i*m+m) ps.length=ps.length),(ps.drop (i*m)).take m)
def chunksN (n m:Nat):Nat:=if n=0 then 1 else (n - 1) / m+1
def chunksTo (ps:List PairL) (m j:Nat):List ChL:=(List.range j).map (chunkAt ps m)
def chunksL (ps:List PairL) (m:Nat):List ChL:=chunksTo ps m (chunksN ps.length m)
theorem chunksN_of {n m j:Nat} (h1:1≤j) (h2:n≤j*m) (h3:j=1∨(j - 1)*m<n):j=chunksN n m:=by
 unfold chunksN
 split
 · rename_i h
   rcases h3 with h3 | h3
   · exact h3
   · omega
 · rename_i h
   obtain⟨i,rfl⟩:∃ i,j=i+1:=⟨j - 1,by omega⟩
   have h4:i*m≤n - 1:=by
    rcases h3 with h3 | h3
    · obtain rfl:i=0:=by omega
      simp
    · simp at h3;omega
   rw[Nat.div_eq_of_lt_le h4 (by omega)]
theorem chunksTo_zero (ps:List PairL) (m:Nat):chunksTo ps m 0=[]:=rfl
theorem chunksTo_succ (ps:List PairL) (m j:Nat):chunksTo ps m (j+1)=chunksTo ps m j ++ [chunkAt ps m j]:=by simp[chunksTo,List.range_succ]
theorem chunksTo_length (ps:List PairL) (m j:Nat):(chunksTo ps m j).length=j:=by simp[chunksTo]
theorem chunkAt_len (ps:List PairL) (m i:Nat):(chunkAt ps m i).2.2.length=min m (ps.length - i*m):=by simp[chunkAt]
def ccells:List ChL→List Value→List Value
 | c :: cs,v :: vs=>.bool c.1 :: .bool c.2.1 :: v :: ccells cs vs
 | _,_=>[]
theorem ccells_length:∀ (cs:List ChL) (vs:List Value),vs.length=cs.length→(ccells cs vs).length=cs.length*3
 | [],[],_=>rfl
 | c :: cs,v :: vs,h=>by simp only[ccells,List.length_cons];rw[ccells_length cs vs (by simpa using h)];omega
theorem ccells_at:∀ (cs:List ChL) (vs:List Value) (j:Nat) (c:ChL) (u:Value),cs[j]? = some c→vs[j]? = some u→(ccells cs vs)[j*3]? = some (.bool c.1)∧(ccells cs vs)[j*3+1]? = some (.bool c.2.1)∧(ccells cs vs)[j*3+2]? = some u
 | [],_,j,c,u,h,_=>by simp at h
 | _ :: _,[],j,c,u,_,h=>by simp at h
 | c0 :: cs,v0 :: vs,0,c,u,h1,h2=>by simp at h1 h2;subst h1 h2;exact⟨rfl,rfl,rfl⟩
 | c0 :: cs, v0 :: vs, j + 1, c, u, h1, h2 => by
   have:=ccells_at cs vs j c u (by simpa using h1) (by simpa using h2)
   have e:(j+1)*3=j*3+1+1+1:=by omega
   rw[e,show j*3+1+1+1+1=j*3+1+1+1+1 from rfl]
   simp only[ccells]
   refine⟨?_,?_,?_⟩
   · simpa using this.1
   · simpa [Nat.add_assoc] using this.2.1
   · simpa [Nat.add_assoc] using this.2.2
theorem ccells_snoc:∀ (cs:List ChL) (vs:List Value) (c:ChL) (u:Value),vs.length=cs.length→ccells (cs ++ [c]) (vs ++ [u])=ccells cs vs ++ [.bool c.1,.bool c.2.1,u]
 | [],[],c,u,_=>rfl
 | c0 :: cs,v0 :: vs,c,u,h=>by simp only[List.cons_append,ccells];rw[ccells_snoc cs vs c u (by simpa using h)]
theorem ccells_set:∀ (cs:List ChL) (vs:List Value) (j:Nat) (c:ChL) (u:Value) (a b:Bool) (ps:List PairL),cs[j]? = some c→vs[j]? = some u→((ccells cs vs).set (j*3) (.bool a)).set (j*3+1) (.bool b)=ccells (cs.set j (a,b,ps)) vs
 | [],_,j,c,u,_,_,_,h,_=>by simp at h
 | _ :: _,[],j,c,u,_,_,_,_,h=>by simp at h
 | c0 :: cs,v0 :: vs,0,c,u,a,b,ps,h1,h2=>by simp[ccells]
 | c0 :: cs, v0 :: vs, j + 1, c, u, a, b, ps, h1, h2 => by
   have:=ccells_set cs vs j c u a b ps (by simpa using h1) (by simpa using h2)
   have e:(j+1)*3=j*3+1+1+1:=by omega
   rw[e]
   simp only[ccells,List.set_cons_succ]
   rw[this]
theorem kept_row {w w':World} {b e sz n:Nat} {v:Value} {xs:List Value} {row:Option Nat} (h:w.ownsRow b e sz v n xs) (g:w.grownBy w' row) (hne:∀ k,v.ownBlock=some k→row≠some k):w'.ownsRow b e sz v n xs :=
 h.kept g (by
  cases hv:v.ownBlock with
  | none=>exact .inl rfl
  | some q=>exact .inr (fun e=>hne q hv e.symm))
theorem kept_new {w w':World} {b e sz n:Nat} {v:Value} {xs:List Value} (h:w.ownsRow b e sz v n xs) (hb:Below w.heap.size w w'):w'.ownsRow b e sz v n xs :=
 kept_row (row:=none) h ⟨hb.os,hb.tape,hb.output,hb.size,fun k hk _=>hb.block k hk⟩ (fun _ _=>by simp)
structure OwnC (w:World) (lo:Nat) (e2:TypeId) (v:Value) (cs:List ChL) (vs:List Value):Prop where
 len:vs.length=cs.length
 row:w.ownsRow lo e2 3 v cs.length (ccells cs vs)
 kid:∀ (j:Nat) (c:ChL) (u:Value),cs[j]? = some c→vs[j]? = some u→w.ownsRow lo 46 2 u c.2.2.length (pcells c.2.2)
 apart:∀ (i j:Nat) (u x:Value) (k:Nat),vs[i]? = some u→vs[j]? = some x→u.ownBlock=some k→x.ownBlock=some k→i=j
 far:∀ (i:Nat) (u:Value) (k:Nat),vs[i]? = some u→u.ownBlock=some k→v.ownBlock≠some k
theorem OwnC.has {w:World} {lo e2:Nat} {v:Value} {cs:List ChL} {vs:List Value} (h:OwnC w lo e2 v cs vs) {i:Nat} {u:Value} (hi:vs[i]? = some u):∃ c,cs[i]? = some c:=by
 have h1:=(List.getElem?_eq_some_iff.1 hi).1
 rw[h.len] at h1
 exact⟨_,List.getElem?_eq_getElem h1⟩
theorem OwnC.lt {w:World} {lo e2:Nat} {v:Value} {cs:List ChL} {vs:List Value} (h:OwnC w lo e2 v cs vs) {i:Nat} {u:Value} {k:Nat} (hi:vs[i]? = some u) (hk:u.ownBlock=some k):lo≤k∧k<w.heap.size:=by
 obtain⟨c,hc⟩:=h.has hi
 exact (h.kid i c u hc hi).lt k hk
theorem OwnC.later {w w':World} {lo e2:Nat} {v:Value} {cs:List ChL} {vs:List Value} (h:OwnC w lo e2 v cs vs) (hb:Below w.heap.size w w'):OwnC w' lo e2 v cs vs :=
 ⟨h.len,kept_new h.row hb,fun j c u h1 h2=>kept_new (h.kid j c u h1 h2) hb,h.apart,h.far⟩
theorem OwnC.grown {w w':World} {lo e2:Nat} {v:Value} {cs:List ChL} {vs:List Value} {row:Option Nat} (h:OwnC w lo e2 v cs vs) (hg:w.grownBy w' row) (hne:∀ k,lo≤k→k<w.heap.size→row≠some k):OwnC w' lo e2 v cs vs :=
 ⟨h.len,kept_row h.row hg (fun k hk=>hne k (h.row.lt k hk).1 (h.row.lt k hk).2),fun j c u h1 h2=>kept_row (h.kid j c u h1 h2) hg (fun k hk=>hne k ((h.kid j c u h1 h2).lt k hk).1 ((h.kid j c u h1 h2).lt k hk).2),h.apart,h.far⟩
theorem OwnC.nil (w:World) (lo e2:Nat) (v:Value) (h:w.ownsRow lo e2 3 v 0 []):OwnC w lo e2 v [] [] :=
 ⟨rfl,h,fun _ _ _ h=>by simp at h,fun _ _ _ _ _ h=>by simp at h,fun _ _ _ h=>by simp at h⟩
theorem OwnC.snoc {wr w1 w2 w3:World} {lo e2:Nat} {v u:Value} {cs:List ChL} {vs:List Value} {c:ChL} {g cap:Nat} {o:Obj} (h:OwnC wr lo e2 v cs vs) (hlo:lo≤wr.heap.size) (b1:Below wr.heap.size wr w1) (hu:w1.ownsRow wr.heap.size 46 2 u c.2.2.length (pcells c.2.2)) (e2':w2=w1.alloc o)
 (h3:w3.ownsRow lo e2 3 (.slice (some ⟨g,0,none⟩) (cs.length+1) cap) (cs.length+1) (ccells cs vs ++ [.bool c.1,.bool c.2.1,u])) (hg:w2.grownBy w3 v.ownBlock) (hat:v.ownBlock=some g∨g=w1.heap.size+1) :
 OwnC w3 lo e2 (.slice (some ⟨g,0,none⟩) (cs ++ [c]).length cap) (cs ++ [c]) (vs ++ [u]):=by
 subst e2'
 have hl:(vs ++ [u]).length=(cs ++ [c]).length:=by simp[h.len]
 have vlt:∀ k,v.ownBlock=some k→k<wr.heap.size:=fun k hk=>(h.row.lt k hk).2
 have ulo:∀ k,u.ownBlock=some k→wr.heap.size≤k∧k<w1.heap.size:=fun k hk=>hu.lt k hk
 have split:∀ i x,(vs ++ [u])[i]? = some x→vs[i]? = some x∨(i=cs.length∧x=u):=by
  intro i x hx
  by_cases hi:i<vs.length
  · left;rwa [List.getElem?_append_left hi] at hx
  · right
    rw[List.getElem?_append_right (by omega)] at hx
    have:=(List.getElem?_eq_some_iff.1 hx).1
    simp at this
    have e0:i - vs.length=0:=by omega
    rw[e0] at hx
    simp at hx
    exact⟨by rw[←h.len];omega,hx.symm⟩
 have ha:∀ k,k<w1.heap.size→(w1.alloc o).heap[k]? = w1.heap[k]? := fun k hk=>Below.heap_alloc _ _ _ (by omega)
 have ba:Below w1.heap.size w1 (w1.alloc o):=(Below.refl _ _).alloc (Nat.le_refl _) _
 refine⟨hl,?_,?_,?_,?_⟩
 · rw[ccells_snoc cs vs c u h.len,List.length_append];exact h3
 · intro j c' x hc hx
   rcases split j x hx with hx' | ⟨rfl,rfl⟩
   · have hj:=(List.getElem?_eq_some_iff.1 hx').1
     rw[List.getElem?_append_left (by rw[←h.len];exact hj)] at hc
     have k1:=kept_new (kept_new (h.kid j c' x hc hx') b1) ba
     exact kept_row k1 hg (fun k hk=>h.far j x k hx' hk)
   · rw[List.getElem?_append_right (Nat.le_refl _)] at hc
     simp at hc
     subst hc
     have k1:=kept_new (hu.mono hlo) ba
     exact kept_row k1 hg (fun k hk e=>by have:=vlt k e;have:=ulo k hk;omega)
 · intro i j x y k hx hy hxk hyk
   rcases split i x hx with hx' | ⟨rfl,rfl⟩
   · rcases split j y hy with hy' | ⟨rfl,rfl⟩
     · exact h.apart i j x y k hx' hy' hxk hyk
     · have:=(h.lt hx' hxk).2;have:=ulo k hyk;omega
   · rcases split j y hy with hy' | ⟨rfl,rfl⟩
     · have:=(h.lt hy' hyk).2;have:=ulo k hxk;omega
     · rfl
 · intro i x k hx hxk e
   simp[Value.ownBlock] at e
   rcases split i x hx with hx' | ⟨rfl,rfl⟩
   · rcases hat with hv | hv
     · exact h.far i x k hx' hxk (by rw[hv,e])
     · have:=(h.lt hx' hxk).2;have:=b1.size;omega
   · rcases hat with hv | hv
     · have:=vlt g hv;have:=ulo k hxk;omega
     · have:=ulo k hxk;omega
def mark1 (k:Nat) (c:ChL):ChL:=(decide (k % 3=0),decide ((k+1) % 3=0),marksP (k+2) c.2.2.length)
def endC (k:Nat):List ChL→Nat
 | []=>k
 | c :: cs=>endC (k+2+2*c.2.2.length) cs
def marksC (k:Nat):List ChL→List ChL
 | []=>[]
 | c :: cs=>mark1 k c :: marksC (k+2+2*c.2.2.length) cs
theorem endC_app (k:Nat):∀ (a b:List ChL),endC k (a ++ b)=endC (endC k a) b:=by
 intro a
 induction a generalizing k with
 | nil=>intro b;rfl
 | cons c a ih=>intro b;exact ih _ b
theorem marksC_app (k:Nat):∀ (a b:List ChL),marksC k (a ++ b)=marksC k a ++ marksC (endC k a) b:=by
 intro a
 induction a generalizing k with
 | nil=>intro b;rfl
 | cons c a ih=>intro b;simp only[List.cons_append,marksC,endC];rw[ih]
theorem endC_le (k:Nat):∀ (a:List ChL),k≤endC k a:=by
 intro a
 induction a generalizing k with
 | nil=>exact Nat.le_refl _
 | cons c a ih=>simp only[endC];exact Nat.le_trans (by omega) (ih _)
theorem marksC_length (k:Nat):∀ (a:List ChL),(marksC k a).length=a.length:=by
 intro a
 induction a generalizing k with
 | nil=>rfl
 | cons c a ih=>simp[marksC,ih]
theorem endC_take (k:Nat) (cs:List ChL) (j:Nat):endC k (cs.take j)≤endC k cs:=by
 conv=>rhs;rw[←List.take_append_drop j cs]
 rw[endC_app];exact endC_le _ _
theorem endC_step (k:Nat) (cs:List ChL) (j:Nat) (c:ChL) (h:cs[j]? = some c):endC k (cs.take (j+1))=endC k (cs.take j)+2+2*c.2.2.length:=by
 obtain⟨hj,e⟩:=List.getElem?_eq_some_iff.1 h
 rw[List.take_succ_eq_append_getElem hj,endC_app,e];rfl
def markedC (k j:Nat) (cs:List ChL):List ChL:=marksC k (cs.take j) ++ cs.drop j
theorem markedC_zero (k:Nat) (cs:List ChL):markedC k 0 cs=cs:=by simp[markedC,marksC]
theorem markedC_all (k:Nat) (cs:List ChL):markedC k cs.length cs=marksC k cs:=by simp[markedC]
theorem markedC_length (k j:Nat) (cs:List ChL):(markedC k j cs).length=cs.length:=by simp[markedC,marksC_length];omega
theorem markedC_at (k:Nat) (cs:List ChL) (j:Nat) (c:ChL) (h:cs[j]? = some c):(markedC k j cs)[j]? = some c:=by
 obtain⟨hj,e⟩:=List.getElem?_eq_some_iff.1 h
 rw[markedC,List.getElem?_append_right (by rw[marksC_length];simp;omega),marksC_length,List.getElem?_drop]
 rw[show j+(j - (cs.take j).length)=j by simp;omega];exact h
theorem markedC_step (k:Nat) (cs:List ChL) (j:Nat) (c:ChL) (h:cs[j]? = some c):(markedC k j cs).set j (mark1 (endC k (cs.take j)) c)=markedC k (j+1) cs:=by
 obtain⟨hj,e⟩:=List.getElem?_eq_some_iff.1 h
 have hl:(marksC k (cs.take j)).length=j:=by rw[marksC_length];simp;omega
 have ed:cs.drop j=c :: cs.drop (j+1):=by rw[List.drop_eq_getElem_cons hj,e]
 rw[markedC,markedC,List.take_succ_eq_append_getElem hj,marksC_app,e,ed,List.set_append_right _ _ (by omega),hl,Nat.sub_self]
 simp[marksC]
theorem marksC_at (k:Nat) (cs:List ChL) (j:Nat) (c:ChL) (h:cs[j]? = some c):(marksC k cs)[j]? = some (mark1 (endC k (cs.take j)) c):=by
 obtain⟨hj,e⟩:=List.getElem?_eq_some_iff.1 h
 have ed:cs=cs.take j ++ (c :: cs.drop (j+1)):=by rw[←e,←List.drop_eq_getElem_cons hj,List.take_append_drop]
 have hl:(marksC k (cs.take j)).length=j:=by rw[marksC_length];simp;omega
 conv=>lhs;rw[ed]
 rw[marksC_app,List.getElem?_append_right (by omega),hl,Nat.sub_self]
 simp[marksC]
theorem OwnC.marked {w w2:World} {lo e2 g n cap:Nat} {cs:List ChL} {vs:List Value} {j:Nat} {c:ChL} {u:Value} {a b:Bool} {ps:List PairL} (hn:n=cs.length) (h:OwnC w lo e2 (.slice (some ⟨g,0,none⟩) n cap) cs vs) (hc:cs[j]? = some c) (hu:vs[j]? = some u) (hp:ps.length=c.2.2.length)
 (hg:((w.setCell ⟨g,j*3,none⟩ (.bool a)).setCell ⟨g,j*3+1,none⟩ (.bool b)).grownBy w2 u.ownBlock) (ho:w2.ownsRow lo 46 2 u c.2.2.length (pcells ps)) :
 OwnC w2 lo e2 (.slice (some ⟨g,0,none⟩) n cap) (cs.set j (a,b,ps)) vs∧Below lo w w2:=by
 subst hn
 have s1:=h.row.stored (j*3) (.bool a)
 have s2:=s1.1.stored (j*3+1) (.bool b)
 have g2:=s1.2.trans s2.2
 have hjl:=(List.getElem?_eq_some_iff.1 hc).1
 have hgb:lo≤g:=(h.row.lt g rfl).1
 refine⟨⟨by rw[List.length_set];exact h.len,?_,?_,h.apart,h.far⟩,?_⟩
 · have:=s2.1
   rw[ccells_set cs vs j c u a b ps hc hu] at this
   rw[List.length_set]
   exact kept_row this hg (fun k hk e=>h.far j u k hu e hk)
 · intro i c' x hc' hx
   by_cases hij:i=j
   · subst hij
     rw[hu] at hx
     cases hx
     rw[List.getElem?_set_self hjl] at hc'
     cases hc'
     show w2.ownsRow lo _ 2 u ps.length (pcells ps)
     rw[hp];exact ho
   · rw[List.getElem?_set_ne (fun e=>hij e.symm)] at hc'
     have k1:=kept_row (h.kid i c' x hc' hx) g2 (fun k hk=>h.far i x k hx hk)
     exact kept_row k1 hg (fun k hk e=>hij (h.apart i j x u k hx hu hk e))
 · have b0:Below lo w ((w.setCell ⟨g,j*3,none⟩ (.bool a)).setCell ⟨g,j*3+1,none⟩ (.bool b)):=((Below.refl lo w).setCell (p:=⟨g,j*3,none⟩) hgb _).setCell (p:=⟨g,j*3+1,none⟩) hgb _
   exact⟨hg.os.trans b0.os,hg.tape.trans b0.tape,hg.output.trans b0.output,Nat.le_trans b0.size hg.size,fun k hk=>by
    by_cases hk2:k<w.heap.size
    · rw[hg.block k (Nat.lt_of_lt_of_le hk2 b0.size) (fun e=>by have:=(h.lt hu e.symm).1;omega)];exact b0.block k hk
    · have:=(h.row.lt g rfl).2;omega⟩
end Go.Proofs.YtcoahmldmodmlaaGreatDoor
