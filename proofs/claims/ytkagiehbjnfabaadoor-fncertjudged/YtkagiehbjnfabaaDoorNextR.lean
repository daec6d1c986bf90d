import Derived.Test.YtkagiehbjnfabaaDoorNextX
import Derived.Test.YtkagiehbjnfabaaDoorSNext
namespace Go.Proofs.YtkagiehbjnfabaaDoor
open Go.RowKit
set_option linter.unusedVariables false
theorem pathL_length (s:List UInt8) (i:Nat):(pathL s i).length=2:=by
 match i with
 | 0=>simp[pathL]
 | 1=>simp[pathL]
 | 2=>simp[pathL]
 | _+3=>simp[pathL]
theorem outcome (s msg:List UInt8) (n:Int):∃ (us ix:Int) (ok:Bool) (os ps:List (List UInt8)),os.length≤19∧ps.length≤2∧((ok=true∧∃ i:Nat,i<4∧s.length=32∧n=(i:Int)∧us=(i:Int)+1∧ix=(i:Int)∧os=sigL (leafL s i) msg 19∧ps=pathL s i)∨(ok=false∧us=n∧ix=0∧os=[]∧ps=[]∧¬ (s.length=32∧0≤n∧n≤3))):=by
 by_cases h:s.length=32∧0≤n∧n≤3
 · obtain⟨i,hi⟩:=Int.eq_ofNat_of_zero_le h.2.1
   exact⟨_,_,true,_,_,by rw[sigL_length];omega,by rw[pathL_length];omega,.inl ⟨rfl,i,by omega,h.1,hi,rfl,rfl,rfl,rfl⟩⟩
 · exact⟨n,0,false,[],[],by simp,by simp,.inr ⟨rfl,rfl,rfl,rfl,rfl,h⟩⟩
theorem snext_any (s msg:List UInt8) (n us ix:Int) (ok:Bool) (os ps:List (List UInt8)) (w:World) (hl:s.length≤1048576) (hm:msg.length≤1048576) (hr:(ok=true∧∃ i:Nat,i<4∧s.length=32∧n=(i:Int)∧us=(i:Int)+1∧ix=(i:Int)∧os=sigL (leafL s i) msg 19∧ps=pathL s i)∨(ok=false∧us=n∧ix=0∧os=[]∧ps=[]∧¬ (s.length=32∧0≤n∧n≤3))) :
 Calls Tryd.prog 38 #[.agg #[.string ⟨s.toArray⟩,.int .i64 n],.string ⟨msg.toArray⟩] w fun e w'=>∃ a1 m1 c1 a2 m2 c2,e=.returned (.tuple #[.agg #[.string ⟨s.toArray⟩,.int .i64 us],.agg #[.int .i64 ix,.slice a1 m1 c1,.slice a2 m2 c2],.bool ok])∧w'.ownsRow w.heap.size 9 1 (.slice a1 m1 c1) os.length (scells os)∧w'.ownsRow w.heap.size 9 1 (.slice a2 m2 c2) ps.length (scells ps)∧Below w.heap.size w w':=by
 rcases hr with ⟨h0,i,h1,h2,h3,h4,h5,h6,h7⟩ | ⟨h0,h4,h5,h6,h7,hno⟩
 · rw[h0,h3,h4,h5,h6,h7,sigL_length,pathL_length]
   refine (spec_next s msg i w h2 h1 hm).mono ?_
   rintro e w1 ⟨g,c,k,d,rfl,o1,o2,b1⟩
   exact⟨_,_,_,_,_,_,rfl,o1,o2,b1⟩
 · rw[h0,h4,h5,h6,h7]
   refine (spec_next_no s msg n w hl hno).mono ?_
   rintro e w1 ⟨rfl,b1⟩
   exact⟨none,0,0,none,0,0,rfl,own_nil _ _ _,own_nil _ _ _,b1⟩
end Go.Proofs.YtkagiehbjnfabaaDoor
