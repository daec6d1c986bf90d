import Derived.Test.YtbpgpmchnjbclaaDoorOpM
namespace Go.Proofs.YtbpgpmchnjbclaaDoor
open Go.RowKit
set_option linter.unusedVariables false
theorem bat_cells {w:World} {b:Nat} {u v x:Value} {t:TypeId} (h:w.heap[b]? = some (.cells #[u,v,x] t (0,0))) :
 w.cell? ⟨b,0,none⟩=some u∧w.cell? ⟨b,1,none⟩=some v∧w.cell? ⟨b,2,none⟩=some x∧∀ j,w.frozen? ⟨b,j,none⟩=false:=by
 refine⟨?_,?_,?_,fun j=>frozen_of_row w b j _ t h⟩ <;> simp only[World.cell?,h] <;> rfl
theorem bat_set {w:World} {b j:Nat} {u v x y:Value} {t:TypeId} (h:w.heap[b]? = some (.cells #[u,v,x] t (0,0))):(w.setCell ⟨b,j,none⟩ y).heap[b]? = some (.cells (#[u,v,x].setIfInBounds j y) t (0,0)):=by
 have hlt:=lt_of_block h
 have h':w.heap[b]=.cells #[u,v,x] t (0,0):=by simpa [Array.getElem?_eq_getElem hlt] using h
 show (w.heap.modify b _)[b]? = _
 rw[Array.getElem?_eq_getElem (by simpa using hlt),Array.getElem_modify_self,h']
 rfl
set_option maxRecDepth 100000 in
set_option maxHeartbeats 1000000 in
theorem eqBatch_same (c n:Int) (a1 a2:Option Addr) (c1 c2:Nat) (ps:List OpL) (w:World) (hl:ps.length≤16777216) (h1:IsOps w a1 ps) (h2:IsOps w a2 ps) :
 Calls Tryd.prog 12 #[.agg #[.int .i64 c,.int .i64 n,.slice a1 ps.length c1],.agg #[.int .i64 c,.int .i64 n,.slice a2 ps.length c2]] w fun e w'=>e=.returned (.bool true)∧Below w.heap.size w w':=by
 have Bx:Below w.heap.size w ((w.alloc (.cells #[.int .i64 c,.int .i64 n,.slice a1 ps.length c1] 31)).alloc (.cells #[.int .i64 c,.int .i64 n,.slice a2 ps.length c2] 31)):=((Below.refl _ _).alloc (Nat.le_refl _) _).alloc (by simp) _
 have K:=eqOpS_same ps a1 a2 c1 c2 _ hl (h1.later Bx) (h2.later Bx)
 have HB:Hid (Below w.heap.size w ((w.alloc (.cells #[.int .i64 c,.int .i64 n,.slice a1 ps.length c1] 31)).alloc (.cells #[.int .i64 c,.int .i64 n,.slice a2 ps.length c2] 31))):=Bx
 clear h1 h2 Bx
 go_enter Tryd.func12,Tryd.ntmps12
 go_wp2_with fail
 refine K.mono ?_
 rintro e w1 ⟨rfl,b1⟩
 have B1:=HB.out.trans (b1.mono HB.out.size)
 clear b1 K
 go_wp2
 go_ret
 exact⟨rfl,B1⟩
end Go.Proofs.YtbpgpmchnjbclaaDoor
