import Derived.Test.YtgjddhlmmljabaaDoorMath2
import Derived.Deep.QuietTactic
import Derived.BigQuiet
import Derived.BigRegion
import Derived.Laws.CopyOwn
import Derived.Deep.RegionLaw
namespace Go.Proofs.YtgjddhlmmljabaaDoor
open Go.RowKit
set_option linter.unusedVariables false
def Turns (n:Nat):Prop:=n=2∨n=6∨n=7∨n=11∨n=13∨n=17∨n=18∨n=19∨n=22∨n=25
set_option maxRecDepth 100000 in
theorem spec_turn (a:UInt32) (n:Nat) (x:Int) (w:World) (hn:Turns n) (hx:x=(n:Int)) :
 Calls Tryd.prog 50 #[.int .u32 (num a),.int .u64 x] w fun e w'=>e=.returned (.int .u32 (num (rr a n)))∧w'=w:=by
 subst hx
 rcases hn with rfl | rfl | rfl | rfl | rfl | rfl | rfl | rfl | rfl | rfl
 · have h1:bits .or .u32 (num a / 4) (num a*1073741824 % 4294967296)=num (rr a 2):=(e_rot a 2 _ _ (by decide) (by decide)).1
   go_enter Tryd.func50,Tryd.ntmps50
   go_wp2
   go_ret
   exact⟨rfl,rfl⟩
 · have h1:bits .or .u32 (num a / 64) (num a*67108864 % 4294967296)=num (rr a 6):=(e_rot a 6 _ _ (by decide) (by decide)).1
   go_enter Tryd.func50,Tryd.ntmps50
   go_wp2
   go_ret
   exact⟨rfl,rfl⟩
 · have h1:bits .or .u32 (num a / 128) (num a*33554432 % 4294967296)=num (rr a 7):=(e_rot a 7 _ _ (by decide) (by decide)).1
   go_enter Tryd.func50,Tryd.ntmps50
   go_wp2
   go_ret
   exact⟨rfl,rfl⟩
 · have h1:bits .or .u32 (num a / 2048) (num a*2097152 % 4294967296)=num (rr a 11):=(e_rot a 11 _ _ (by decide) (by decide)).1
   go_enter Tryd.func50,Tryd.ntmps50
   go_wp2
   go_ret
   exact⟨rfl,rfl⟩
 · have h1:bits .or .u32 (num a / 8192) (num a*524288 % 4294967296)=num (rr a 13):=(e_rot a 13 _ _ (by decide) (by decide)).1
   go_enter Tryd.func50,Tryd.ntmps50
   go_wp2
   go_ret
   exact⟨rfl,rfl⟩
 · have h1:bits .or .u32 (num a / 131072) (num a*32768 % 4294967296)=num (rr a 17):=(e_rot a 17 _ _ (by decide) (by decide)).1
   go_enter Tryd.func50,Tryd.ntmps50
   go_wp2
   go_ret
   exact⟨rfl,rfl⟩
 · have h1:bits .or .u32 (num a / 262144) (num a*16384 % 4294967296)=num (rr a 18):=(e_rot a 18 _ _ (by decide) (by decide)).1
   go_enter Tryd.func50,Tryd.ntmps50
   go_wp2
   go_ret
   exact⟨rfl,rfl⟩
 · have h1:bits .or .u32 (num a / 524288) (num a*8192 % 4294967296)=num (rr a 19):=(e_rot a 19 _ _ (by decide) (by decide)).1
   go_enter Tryd.func50,Tryd.ntmps50
   go_wp2
   go_ret
   exact⟨rfl,rfl⟩
 · have h1:bits .or .u32 (num a / 4194304) (num a*1024 % 4294967296)=num (rr a 22):=(e_rot a 22 _ _ (by decide) (by decide)).1
   go_enter Tryd.func50,Tryd.ntmps50
   go_wp2
   go_ret
   exact⟨rfl,rfl⟩
 · have h1:bits .or .u32 (num a / 33554432) (num a*128 % 4294967296)=num (rr a 25):=(e_rot a 25 _ _ (by decide) (by decide)).1
   go_enter Tryd.func50,Tryd.ntmps50
   go_wp2
   go_ret
   exact⟨rfl,rfl⟩
theorem sizeW:(Tryd.prog.info? 102).map (·.size)=some 1:=by kernel_rfl
theorem arr3 (w:World) (A B C:Obj) :
 (((w.alloc A).alloc B).alloc C).heap[w.heap.size]? = some A∧(((w.alloc A).alloc B).alloc C).heap[w.heap.size+1]? = some B ∧
 (((w.alloc A).alloc B).alloc C).heap[w.heap.size+1+1]? = some C∧(((w.alloc A).alloc B).alloc C).heap.size=w.heap.size+3∧Below w.heap.size w (((w.alloc A).alloc B).alloc C):=by
 refine⟨?_,?_,?_,by simp,(((Below.refl _ _).alloc (Nat.le_refl _) _).alloc (by simp) _).alloc (by simp;omega) _⟩
 · rw[Below.heap_alloc _ _ _ (by simp;omega),Below.heap_alloc _ _ _ (by simp)];exact heap_alloc_at _ _ _ rfl
 · rw[Below.heap_alloc _ _ _ (by simp)];exact heap_alloc_at _ _ _ (by simp)
 · exact heap_alloc_at _ _ _ (by simp)
theorem heap_drewN (w:World) (q:Nat):(w.drewN q).heap=w.heap:=rfl
theorem zeros64 (W:World) (b t:Nat) (h:W.heap[b]? = some (.cells (List.replicate 64 (Value.int .u32 0)).toArray t (0,0))):∃ old,W.heap[b]? = some (.cells old t (0,0))∧old.size=64:=⟨_,h,rfl⟩
theorem splice_part (m:List UInt32) (hm:m.length=16):splice (List.replicate 64 (Value.int .u32 0)) 0 (wcells m)=wcells (part m 64):=by
 simp[splice,wcells,part,hm,num_zero]
end Go.Proofs.YtgjddhlmmljabaaDoor
