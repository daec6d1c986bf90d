/-
 Drawn votes: votes with where their rows lie; the cells of a list of them.
-/
import Derived.Test.YtkagiehbjnfabaaDoorVotesS
namespace Go.Proofs.YtkagiehbjnfabaaDoor
open Go.RowKit
set_option linter.unusedVariables false
structure VoteA where
 v:VoteV
 ao:Option Addr
 co:Nat
 ap:Option Addr
 cp:Nat
def VoteA.cs (x:VoteA):List Value:=[.int .i64 x.v.nd,.int .i64 x.v.i,.slice x.ao x.v.os.length x.co,.slice x.ap x.v.ps.length x.cp]
def vas:List VoteA→List Value
 | []=>[]
 | x :: r=>.int .i64 x.v.nd :: .int .i64 x.v.i :: .slice x.ao x.v.os.length x.co :: .slice x.ap x.v.ps.length x.cp :: vas r
theorem vas_len:∀ l:List VoteA,(vas l).length=l.length*4
 | []=>rfl
 | x :: r=>by simp[vas,vas_len r];omega
theorem vas_app:∀ (l:List VoteA) (x:VoteA),vas (l ++ [x])=vas l ++ x.cs
 | [],x=>rfl
 | y :: r,x=>by simp[vas,vas_app r x]
theorem vas_at:∀ (l:List VoteA) (j:Nat) (h:j<l.length),(vas l)[j*4]? = some (.int .i64 l[j].v.nd)∧(vas l)[j*4+1]? = some (.int .i64 l[j].v.i)∧(vas l)[j*4+2]? = some (.slice l[j].ao l[j].v.os.length l[j].co)∧(vas l)[j*4+3]? = some (.slice l[j].ap l[j].v.ps.length l[j].cp)
 | x :: r,0,_=>⟨rfl,rfl,rfl,rfl⟩
 | x :: r, j + 1, h => by
   obtain⟨h0,h1,h2,h3⟩:=vas_at r j (by simpa using h)
   have e:(j+1)*4=j*4+1+1+1+1:=by omega
   refine⟨?_,?_,?_,?_⟩
   · rw[e];simpa [vas] using h0
   · rw[e,show j*4+1+1+1+1+1=(j*4+1)+1+1+1+1 by omega];simpa [vas] using h1
   · rw[e,show j*4+1+1+1+1+2=(j*4+2)+1+1+1+1 by omega];simpa [vas] using h2
   · rw[e,show j*4+1+1+1+1+3=(j*4+3)+1+1+1+1 by omega];simpa [vas] using h3
def VoteA.withNd (x:VoteA) (nd:Int):VoteA:={ x with v:={ x.v with nd:=nd } }
theorem vas_node:∀ (l:List VoteA) (j:Nat) (h:j<l.length) (nd:Int),(vas l).set (j*4) (.int .i64 nd)=vas (l.set j (l[j].withNd nd))
 | x :: r,0,_,nd=>rfl
 | x :: r, j + 1, h, nd => by
   have:=vas_node r j (by simpa using h) nd
   have e:(j+1)*4=j*4+1+1+1+1:=by omega
   rw[e]
   simp only[vas,List.set_cons_succ,List.getElem_cons_succ,this]
theorem vas_swap (x y:VoteA) (r:List VoteA):((((((((vas (x :: y :: r)).set 0 (.int .i64 y.v.nd)).set 1 (.int .i64 y.v.i)).set 2 (.slice y.ao y.v.os.length y.co)).set 3 (.slice y.ap y.v.ps.length y.cp)).set 4 (.int .i64 x.v.nd)).set 5 (.int .i64 x.v.i)).set 6 (.slice x.ao x.v.os.length x.co)).set 7 (.slice x.ap x.v.ps.length x.cp)=vas (y :: x :: r):=rfl
def StrF (w:World) (lo g:Nat) (a:Option Addr) (ls:List (List UInt8)):Prop:=IsStrs w a ls∧∀ b off,a=some ⟨b,off,none⟩→lo≤b∧b≠g∧b<w.heap.size
def goodV (v:VoteV):Prop:=v.os.length≤19∧v.ps.length≤2∧(∀ l∈v.os,l.length≤1048576)∧∀ l∈v.ps,l.length≤1048576
def VAs (w:World) (lo g:Nat) (l:List VoteA):Prop:=∀ x∈l,goodV x.v∧StrF w lo g x.ao x.v.os∧StrF w lo g x.ap x.v.ps
theorem StrF.grown {w w':World} {lo g:Nat} {row:Option Nat} {a:Option Addr} {ls:List (List UInt8)} (h:StrF w lo g a ls) (hg:w.grownBy w' row) (hr:∀ b,row=some b→b<lo∨b=g) (g':Nat) (hg':g'=g∨w.heap.size≤g'):StrF w' lo g' a ls:=by
 refine⟨?_,fun b off e=>⟨(h.2 b off e).1,by have:=h.2 b off e;omega,Nat.lt_of_lt_of_le (h.2 b off e).2.2 hg.size⟩⟩
 rcases h.1 with h1 | ⟨b,off,h1,h2⟩
 · exact .inl h1
 · have hb:=h.2 b off h1
   exact .inr ⟨b,off,h1,fun q hq=>(World.cell?_of_block (a:=⟨b,off+q,none⟩) (hg.block b hb.2.2 (fun e=>by have:=hr b e.symm;omega))).trans (h2 q hq)⟩
theorem VAs.grown {w w':World} {lo g:Nat} {row:Option Nat} {l:List VoteA} (h:VAs w lo g l) (hg:w.grownBy w' row) (hr:∀ b,row=some b→b<lo∨b=g) (g':Nat) (hg':g'=g∨w.heap.size≤g'):VAs w' lo g' l:=fun x hx=>by
 obtain⟨h1,h2,h3⟩:=h x hx
 exact⟨h1,h2.grown hg hr g' hg',h3.grown hg hr g' hg'⟩
theorem VAs.later {w w':World} {lo g:Nat} {l:List VoteA} (h:VAs w lo g l) (hb:Below w.heap.size w w'):VAs w' lo g l:=h.grown (row:=none) ⟨hb.os,hb.tape,hb.output,hb.size,fun k hk _=>hb.block k hk⟩ (by simp) g (.inl rfl)
theorem StrF.set {w:World} {lo g i:Nat} {a:Option Addr} {ls:List (List UInt8)} (h:StrF w lo g a ls) (y:Value):StrF (w.setCell ⟨g,i,none⟩ y) lo g a ls:=⟨strs_store h.1 (fun b off e=>(h.2 b off e).2.1) y,fun b off e=>⟨(h.2 b off e).1,(h.2 b off e).2.1,by have:=(h.2 b off e).2.2;simpa [World.setCell] using this⟩⟩
theorem VAs.set {w:World} {lo g i:Nat} {l:List VoteA} (h:VAs w lo g l) (y:Value):VAs (w.setCell ⟨g,i,none⟩ y) lo g l:=fun x hx=>by
 obtain⟨h1,h2,h3⟩:=h x hx
 exact⟨h1,h2.set y,h3.set y⟩
theorem VAs.snoc {w:World} {lo g:Nat} {l:List VoteA} {x:VoteA} (h:VAs w lo g l) (h1:goodV x.v) (h2:StrF w lo g x.ao x.v.os) (h3:StrF w lo g x.ap x.v.ps):VAs w lo g (l ++ [x]):=fun y hy=>by
 rcases List.mem_append.1 hy with h' | h'
 · exact h y h'
 · obtain rfl:=List.mem_singleton.1 h';exact⟨h1,h2,h3⟩
theorem VAs.node {w:World} {lo g:Nat} {l:List VoteA} (h:VAs w lo g l) (j:Nat) (hj:j<l.length) (nd:Int):VAs w lo g (l.set j (l[j].withNd nd)):=fun y hy=>by
 rcases List.mem_or_eq_of_mem_set hy with h' | h'
 · exact h y h'
 · subst h'
   obtain⟨h1,h2,h3⟩:=h l[j] (List.getElem_mem _)
   exact⟨h1,h2,h3⟩
theorem VAs.swap {w:World} {lo g:Nat} {x y:VoteA} {r:List VoteA} (h:VAs w lo g (x :: y :: r)):VAs w lo g (y :: x :: r):=fun z hz=>h z (by
 simp only[List.mem_cons] at hz ⊢
 rcases hz with h | h | h
 · exact .inr (.inl h)
 · exact .inl h
 · exact .inr (.inr h))
theorem isVotes_vas {w:World} {base e:Nat} {g m cap:Nat} {l:List VoteA} (h:w.ownsRow base e 4 (.slice (some ⟨g,0,none⟩) m cap) l.length (vas l)) {lo:Nat} (hh:VAs w lo g l):IsVotes w (some ⟨g,0,none⟩) (l.map (·.v)):=by
 by_cases h0:l=[]
 · exact .inl (by simp[h0])
 refine .inr ⟨g,0,rfl,fun j hj=>?_⟩
 have hj':j<l.length:=by simpa using hj
 obtain⟨c0,c1,c2,c3⟩:=vas_at l j hj'
 have hm:m=l.length:=by
  rcases h.2 with ⟨h1,_⟩ | ⟨g',cap',cur,h1,_⟩
  · cases h1
  · cases h1;rfl
 subst hm
 have cc:∀ q,q<4→w.cell? ⟨g,0+j*4+q,none⟩=(vas l)[j*4+q]? := fun q hq=>by rw[Nat.zero_add];exact h.cellAt (j*4+q) (by omega)
 obtain⟨_,s1,s2⟩:=hh l[j] (List.getElem_mem _)
 simp only[List.getElem_map]
 exact⟨l[j].ao,l[j].co,l[j].ap,l[j].cp,(cc 0 (by omega)).trans c0,(cc 1 (by omega)).trans c1,(cc 2 (by omega)).trans c2,(cc 3 (by omega)).trans c3,s1.1,s2.1⟩
end Go.Proofs.YtkagiehbjnfabaaDoor
