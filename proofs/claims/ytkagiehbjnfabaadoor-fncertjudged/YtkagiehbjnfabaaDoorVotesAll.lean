import Derived.Test.YtkagiehbjnfabaaDoorSumI
import Derived.Test.YtkagiehbjnfabaaDoorSSum
import Derived.Test.YtkagiehbjnfabaaDoorTxtC
import Derived.Test.YtkagiehbjnfabaaDoorNextR
import Derived.Test.YtkagiehbjnfabaaDoorVOkAll
import Derived.Test.YtkagiehbjnfabaaDoorDrawAll
namespace Go.Proofs.YtkagiehbjnfabaaDoor
open Go.RowKit
set_option linter.unusedVariables false
def emptyL:List UInt8:=sumL (textB [])
theorem emptyL_text:(textB []).length≤1048576:=by decide
theorem path32 (seed:List UInt8) (i:Nat) (hs:seed.length=32) (hi:i<4):∀ l∈pathL seed i,l.length=32:=by
 have k:=fun j=>keyL_len seed j hs
 match i,hi with
 | 0,_=>simp only[pathL,List.mem_cons,List.not_mem_nil,or_false];rintro l (h | h) <;> rw[h];exact k 1;exact nodeL_len _ _ (k 2) (k 3)
 | 1,_=>simp only[pathL,List.mem_cons,List.not_mem_nil,or_false];rintro l (h | h) <;> rw[h];exact k 0;exact nodeL_len _ _ (k 2) (k 3)
 | 2,_=>simp only[pathL,List.mem_cons,List.not_mem_nil,or_false];rintro l (h | h) <;> rw[h];exact k 3;exact nodeL_len _ _ (k 0) (k 1)
 | 3,_=>simp only[pathL,List.mem_cons,List.not_mem_nil,or_false];rintro l (h | h) <;> rw[h];exact k 2;exact nodeL_len _ _ (k 0) (k 1)
theorem signed_root (seed msg:List UInt8) (i:Nat) (hs:seed.length=32) (hi:i<4):RootIs msg (i:Int) (sigL (leafL seed i) msg 19) (pathL seed i) (rootL seed) true:=by
 obtain⟨p,q,hpq,hlead⟩:=leads_back seed i hi
 refine .inl ⟨rfl,?_,i,p,q,by omega,rfl,hpq,?_⟩
 · refine⟨⟨sigL_length _ _ _,sigL_32 _ _ (leafL_len seed i hs) 19⟩,⟨by omega,by omega⟩,pathL_length seed i,path32 seed i hs hi⟩
 · rw[once_back];exact hlead.symm
theorem sig_len (seed msg:List UInt8) (i:Nat) (hs:seed.length=32):∀ l∈sigL (leafL seed i) msg 19,l.length≤1048576:=fun l hl=>by rw[sigL_32 _ _ (leafL_len seed i hs) 19 l hl];omega
theorem ver_yes (seed msg:List UInt8) (i:Nat) (a b:Option Addr) (c d:Nat) (w:World) (hs:seed.length=32) (hi:i<4) (hm:msg.length≤1048576) (h1:IsStrs w a (sigL (leafL seed i) msg 19)) (h2:IsStrs w b (pathL seed i)) (hT:Tab w) :
 Calls Tryd.prog 20 #[.string ⟨(rootL seed).toArray⟩,.string ⟨msg.toArray⟩,.agg #[.int .i64 (i:Int),.slice a 19 c,.slice b 2 d]] w fun e w'=>e=.returned (.bool true)∧Below w.heap.size w w':=by
 have K:=impl_verify (rootL seed) msg (i:Int) a b c d (sigL (leafL seed i) msg 19) (pathL seed i) w hm (by rw[sigL_length];omega) (sig_len seed msg i hs) (by rw[pathL_length];omega) (fun l hl=>by rw[path32 seed i hs hi l hl];omega) h1 h2 hT (rootL seed) true (signed_root seed msg i hs hi)
 rw[sigL_length,pathL_length] at K
 refine K.mono ?_
 rintro e w1 ⟨rfl,b1⟩
 exact⟨by simp,b1⟩
theorem two_alloc {w:World} {o1 o2:Obj} {k:Nat} (h:k<w.heap.size):((w.alloc o1).alloc o2).heap[k]? = w.heap[k]? := by
 rw[Below.heap_alloc _ _ _ (by simp;omega),Below.heap_alloc _ _ _ h]
theorem two_first {w:World} {o1 o2:Obj}:((w.alloc o1).alloc o2).heap[w.heap.size]? = some o1:=by
 rw[Below.heap_alloc _ _ _ (by simp)];exact heap_alloc_new w o1
theorem two_second {w:World} {o1 o2:Obj}:((w.alloc o1).alloc o2).heap[w.heap.size+1]? = some o2:=new_at _ (by simp) _
theorem two_below {w:World} {o1 o2:Obj}:Below w.heap.size w ((w.alloc o1).alloc o2):=((Below.refl _ _).alloc (Nat.le_refl _) _).alloc (by simp) _
theorem two_size {w:World} {o1 o2:Obj}:((w.alloc o1).alloc o2).heap.size=w.heap.size+2:=by simp
theorem results_csss {P:Program} {fn:Func} {p r r2 r3:Tmp} {ty:TypeId} (h:fn.results=#[.cell p ty,.tmp r,.tmp r2,.tmp r3]) (tmps:Array Value) (w:World) (g:Nat) (t:TypeId) (cs:Array Value) (d:TypeDesc)
 (hp:tmps.getD p undef=.pointer (some ⟨g,0,none⟩)) (hg:w.heap[g]? = some (.cells cs t (0,0))) (hu:P.underlying ty=some d) (hd:(match d with | .struct _ | .array _ _=>true | _=>false)=true) (hi:(P.info? ty).map (·.size)=some cs.size) (vb vc vd:Value) (hb:tmps.getD r undef=vb) (hc:tmps.getD r2 undef=vc) (hdd:tmps.getD r3 undef=vd) :
 (results fn tmps).run P w=.ok (.tuple #[.agg cs,vb,vc,vd]) w:=by
 subst hb hc hdd
 have hp':tmps[p]?.getD undef=.pointer (some ⟨g,0,none⟩):=by simpa using hp
 simp[results,h,hp',asAddr,run_loadVar_row w g t ty cs (0,0) d hg hu hd hi]
end Go.Proofs.YtkagiehbjnfabaaDoor
