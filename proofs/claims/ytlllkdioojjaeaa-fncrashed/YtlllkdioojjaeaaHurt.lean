import Derived.Test.YtlllkdioojjaeaaDraw
import Derived.Test.YtlllkdioojjaeaaMathAll
import Derived.Test.YtlllkdioojjaeaaPre
namespace Go.Proofs.Ytlllkdioojjaeaa
open Go.RowKit
set_option linter.unusedVariables false
theorem ba_app2 (a b:List UInt8):ByteArray.mk a.toArray ++ ByteArray.mk b.toArray=⟨(a ++ b).toArray⟩:=by
 apply ByteArray.ext;simp
def Code (w:World) (a:Option Addr) (n:Nat):Prop:=n=0∨∃ cb off,a=some ⟨cb,off,none⟩∧cb<w.heap.size∧∀ i,i<n→∃ z:UInt8,w.cell? ⟨cb,off+i,none⟩=some (.int .u8 (z.toNat:Int))
theorem Code.later {w w':World} {a:Option Addr} {n:Nat} (h:Code w a n) (hb:Below w.heap.size w w'):Code w' a n:=by
 rcases h with h | ⟨cb,off,h1,h2,h3⟩
 · exact .inl h
 · exact .inr ⟨cb,off,h1,Nat.lt_of_lt_of_le h2 hb.size,fun i hi=>by obtain⟨z,hz⟩:=h3 i hi;exact⟨z,by rw[hb.cell (p:=⟨cb,off+i,none⟩) h2];exact hz⟩⟩
set_option maxRecDepth 100000 in
set_option maxHeartbeats 400000 in
theorem open_any (n cap:Nat) (a:Option Addr) (w:World) (h:Code w a n) :
 Calls Try.prog 67 #[.slice a n cap] w fun e w'=>e=.returned (.pointer (some ⟨w.heap.size,0,none⟩))∧Rd w.heap.size a n cap w'∧Below w.heap.size w w':=by
 have HR:Hid (Rd w.heap.size a n cap (w.alloc (.cells #[.slice a n cap,.int .i64 0] 129))):=by
  refine⟨⟨0,Nat.zero_le _,heap_alloc_new w _⟩,?_⟩
  rcases h with h | ⟨cb,off,h1,h2,h3⟩
  · exact .inl h
  · exact .inr ⟨cb,off,h1,by omega,by simp;omega,fun i hi=>by obtain⟨z,hz⟩:=h3 i hi;exact⟨z,by rw[World.cell?_of_block (w:=w) (Below.heap_alloc _ _ _ h2)];exact hz⟩⟩
 clear h
 go_enter Try.func67,Try.ntmps67
 go_wp2
 go_ret
 exact⟨rfl,HR.out,(Below.refl _ _).alloc (Nat.le_refl _) _⟩
theorem below_rd {w w1 w2:World} (h:Below w.heap.size w w1) (hg:w1.grownBy w2 (some w.heap.size)):Below w.heap.size w w2 :=
 h.grown hg h.size (fun k hk=>by simp at hk;omega)
end Go.Proofs.Ytlllkdioojjaeaa
