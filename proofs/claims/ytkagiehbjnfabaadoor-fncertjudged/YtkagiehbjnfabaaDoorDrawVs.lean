/-
 Contract: a drawn vote.
-/
import Derived.Test.YtkagiehbjnfabaaDoorMathVa
import Derived.Test.YtkagiehbjnfabaaDoorVoteAll
import Derived.Test.YtkagiehbjnfabaaDoorVotesAll
namespace Go.Proofs.YtkagiehbjnfabaaDoor
open Go.RowKit
set_option linter.unusedVariables false
theorem vote_drawn (s msg:List UInt8) (n nd cx:Int) (w:World) (hl:s.length≤1048576) (hm:msg.length≤1048576) :
 Calls Tryd.prog 28 #[.agg #[.string ⟨s.toArray⟩,.int .i64 n],.int .i64 nd,.int .i64 cx,.string ⟨msg.toArray⟩] w fun e w'=>∃ (us:Int) (x:VoteA) (ok:Bool),e=.returned (.tuple #[.agg #[.string ⟨s.toArray⟩,.int .i64 us],.agg #[.int .i64 x.v.nd,.int .i64 x.v.i,.slice x.ao x.v.os.length x.co,.slice x.ap x.v.ps.length x.cp],.bool ok])∧goodV x.v∧(∀ g,g<w.heap.size→StrF w' w.heap.size g x.ao x.v.os∧StrF w' w.heap.size g x.ap x.v.ps)∧Below w.heap.size w w':=by
 obtain⟨us,ix,vn,ok,os,ps,lo,lp,hr⟩:=voutcome s msg n nd cx
 have hmem:(∀ l∈os,l.length≤1048576)∧∀ l∈ps,l.length≤1048576:=by
  rcases hr with ⟨k,_,_,_,_,_,h,_⟩ | ⟨_,_,_,_,_,h1,h2⟩
  · rcases h with ⟨_,i,hi,hs,_,_,_,h1,h2⟩ | ⟨_,_,_,h1,h2,_⟩
    · rw[h1,h2];exact⟨sig_len s _ i hs,fun l hl=>by rw[path32 s i hs hi l hl];omega⟩
    · rw[h1,h2];simp
  · rw[h1,h2];simp
 refine (svote_any s msg n nd cx us ix vn ok os ps w hl hm hr).mono ?_
 rintro e w' ⟨a1,m1,c1,a2,m2,c2,rfl,o1,o2,b⟩
 obtain⟨rfl,_,i1⟩:=isStrs_own o1
 obtain⟨rfl,_,i2⟩:=isStrs_own o2
 refine⟨us,⟨⟨vn,ix,os,ps⟩,a1,c1,a2,c2⟩,ok,rfl,⟨lo,lp,hmem.1,hmem.2⟩,fun g hg=>⟨⟨i1,fun b off e=>?_⟩,⟨i2,fun b off e=>?_⟩⟩,b⟩
 · have:=o1.lt b (by simp only at e;rw[e];rfl);omega
 · have:=o2.lt b (by simp only at e;rw[e];rfl);omega
end Go.Proofs.YtkagiehbjnfabaaDoor
