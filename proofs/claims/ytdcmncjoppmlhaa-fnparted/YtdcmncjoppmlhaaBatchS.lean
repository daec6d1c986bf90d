/-
 Contracts of the laws' own helpers on batches: sizes, copies, equal ones, marks (written by mkbatch.py).
-/
import Derived.Test.YtdcmncjoppmlhaaOpM
namespace Go.Proofs.Ytdcmncjoppmlhaa
open Go.RowKit
set_option linter.unusedVariables false
theorem bat_cells {w:World} {b:Nat} {u v x:Value} {t:TypeId} (h:w.heap[b]? = some (.cells #[u,v,x] t (0,0))) :
 w.cell? ⟨b,0,none⟩=some u∧w.cell? ⟨b,1,none⟩=some v∧w.cell? ⟨b,2,none⟩=some x∧∀ j,w.frozen? ⟨b,j,none⟩=false:=by
 refine⟨?_,?_,?_,fun j=>frozen_of_row w b j _ t h⟩ <;> simp only[World.cell?,h] <;> rfl
theorem bat_set {w:World} {b j:Nat} {u v x y:Value} {t:TypeId} (h:w.heap[b]? = some (.cells #[u,v,x] t (0,0))):(w.setCell ⟨b,j,none⟩ y).heap[b]? = some (.cells (#[u,v,x].setIfInBounds j y) t (0,0)):=by
 have hlt:=lt_of_block h
 have h':w.heap[b]=.cells #[u,v,x] t (0,0):=by simpa [Array.getElem?_eq_getElem hlt] using h
 show (w.heap.modify b _)[b]? = _
 rw[Array.getElem?_eq_getElem (by simpa using hlt),Array.getElem_modify_self,h']
 rfl
set_option maxRecDepth 100000 in
set_option maxHeartbeats 1000000 in
theorem szBatch_any (c n:Int) (a:Option Addr) (cap:Nat) (ps:List OpL) (w:World) (hl:ps.length≤9223372036854775807) (hm:∀ p∈ps,p.1.length≤9223372036854775807∧p.2.1.length≤9223372036854775807) (hs:IsOps w a ps) :
 Calls Try.prog 6 #[.agg #[.int .i64 c,.int .i64 n,.slice a ps.length cap],.int .i64 1048576] w fun e w'=>(e=.returned (.int .i64 (-1))∨(ps.length+sizeO ps≤1048576∧∃ n:Nat,e=.returned (.int .i64 (n:Int))))∧Below w.heap.size w w':=by
 have B0:Below w.heap.size w (w.alloc (.cells #[.int .i64 c,.int .i64 n,.slice a ps.length cap] 25)):=(Below.refl _ _).alloc (Nat.le_refl _) _
 have BB:Hid (Below w.heap.size w (w.alloc (.cells #[.int .i64 c,.int .i64 n,.slice a ps.length cap] 25))):=B0
 have K:=szOpS_any a cap ps (w.alloc (.cells #[.int .i64 c,.int .i64 n,.slice a ps.length cap] 25)) hl hm (hs.later B0)
 clear hs hm B0
 go_enter Try.func6,Try.ntmps6
 go_wp2_with fail
 refine K.mono ?_
 rintro e w1 ⟨he,b1⟩
 have B1:=BB.out.trans (b1.mono BB.out.size)
 clear K b1
 rcases he with rfl | ⟨hle,q,rfl⟩
 · go_wp2
   go_ret
   exact⟨.inl rfl,B1⟩
 · have HL:Hid (ps.length+sizeO ps≤1048576):=hle
   clear hle
   go_wp2
   go_ret
   exact⟨.inr ⟨HL.out,q,rfl⟩,B1⟩
set_option maxRecDepth 100000 in
set_option maxHeartbeats 1000000 in
theorem toBatch_any (c n:Int) (a:Option Addr) (cap:Nat) (ps:List OpL) (w:World) (hl:ps.length≤1048576) (hs:IsOps w a ps) :
 Calls Try.prog 9 #[.agg #[.int .i64 c,.int .i64 n,.slice a ps.length cap]] w fun e w'=>∃ g:Nat,e=.returned (.agg #[.int .i64 c,.int .i64 n,.slice (some ⟨g,0,none⟩) ps.length ps.length])∧w'.ownsRow w.heap.size 53 3 (.slice (some ⟨g,0,none⟩) ps.length ps.length) ps.length (ocells ps)∧Below w.heap.size w w':=by
 obtain⟨wa,hwa⟩:∃ wa,wa=((w.alloc (.cells #[.int .i64 c,.int .i64 n,.slice a ps.length cap] 25)).alloc (.cells #[.int .i64 0,.int .i64 0,.slice none 0 0] 34)).alloc (.cells #[.int .i64 c,.int .i64 n,.slice none 0 0] 34):=⟨_,rfl⟩
 have Ba:Below w.heap.size w wa:=by rw[hwa];exact (((Below.refl _ _).alloc (Nat.le_refl _) _).alloc (by simp) _).alloc (by simp;omega) _
 have sa:wa.heap.size=w.heap.size+3:=by rw[hwa];simp
 have a0:wa.heap[w.heap.size]? = some (.cells #[.int .i64 c,.int .i64 n,.slice a ps.length cap] 25 (0,0)):=by rw[hwa,Below.heap_alloc _ _ _ (by simp;omega),Below.heap_alloc _ _ _ (by simp)];exact heap_alloc_new w _
 have a1:wa.heap[w.heap.size+1]? = some (.cells #[.int .i64 0,.int .i64 0,.slice none 0 0] 34 (0,0)):=by
  rw[hwa,Below.heap_alloc _ _ _ (by simp)]
  have:=heap_alloc_new (w.alloc (.cells #[.int .i64 c,.int .i64 n,.slice a ps.length cap] 25)) (.cells #[.int .i64 0,.int .i64 0,.slice none 0 0] 34)
  simpa using this
 have a2:wa.heap[w.heap.size+2]? = some (.cells #[.int .i64 c,.int .i64 n,.slice none 0 0] 34 (0,0)):=by
  rw[hwa]
  have:=heap_alloc_new ((w.alloc (.cells #[.int .i64 c,.int .i64 n,.slice a ps.length cap] 25)).alloc (.cells #[.int .i64 0,.int .i64 0,.slice none 0 0] 34)) (.cells #[.int .i64 c,.int .i64 n,.slice none 0 0] 34)
  rw[show ((w.alloc (.cells #[.int .i64 c,.int .i64 n,.slice a ps.length cap] 25)).alloc (.cells #[.int .i64 0,.int .i64 0,.slice none 0 0] 34)).heap.size=w.heap.size+2 by simp] at this
  exact this
 have K1:=toOpS_any a cap ps wa hl (hs.later Ba)
 have HWA:Hid (wa=((w.alloc (.cells #[.int .i64 c,.int .i64 n,.slice a ps.length cap] 25)).alloc (.cells #[.int .i64 0,.int .i64 0,.slice none 0 0] 34)).alloc (.cells #[.int .i64 c,.int .i64 n,.slice none 0 0] 34)):=hwa
 clear hs hwa
 go_enter Try.func9,Try.ntmps9
 go_wp2_with fail
 rw[←HWA.out]
 refine K1.mono ?_
 rintro e w1 ⟨rfl,o1,b1⟩
 rw[sa] at o1 ⊢
 have B1:=Ba.trans (b1.mono (by omega))
 have e0:=(b1.block (w.heap.size) (by omega)).trans a0
 have e1:=(b1.block (w.heap.size+1) (by omega)).trans a1
 have e2:=(b1.block (w.heap.size+2) (by omega)).trans a2
 have s1:w.heap.size+3<w1.heap.size:=own_lt o1
 have O1:=hidOwn o1
 obtain⟨x0,x1,x2,xf⟩:=bat_cells e0
 obtain⟨p0,p1,p2,pf⟩:=bat_cells e2
 obtain⟨q0,q1,q2,qf⟩:=bat_cells e1
 have pf2:=pf 2
 have qf0:=qf 0
 have qf1:=qf 1
 have qf2:=qf 2
 clear K1 a0 a1 a2 b1 Ba o1 sa xf pf qf HWA
 go_wp2
 have y1:(w1.setCell ⟨w.heap.size+1+1,2,none⟩ (.slice (some ⟨w.heap.size+3,0,none⟩) ps.length ps.length)).heap[w.heap.size+1]? = _:=(Below.heap_setCell _ _ _ _ (by simp)).trans e1
 have y2:=bat_set (j:=0) (y:=.int .i64 c) y1
 have y3:=bat_set (j:=1) (y:=.int .i64 n) y2
 have y4:=bat_set (j:=2) (y:=(.slice (some ⟨w.heap.size+3,0,none⟩) ps.length ps.length)) y3
 have hO:=ownsRow_setCell_other (ownsRow_setCell_other (ownsRow_setCell_other (ownsRow_setCell_other (a:=⟨w.heap.size+1+1,2,none⟩) O1.out (by simp[Value.ownBlock]) (.slice (some ⟨w.heap.size+3,0,none⟩) ps.length ps.length)) (a:=⟨w.heap.size+1,0,none⟩) (by simp[Value.ownBlock]) (.int .i64 c)) (a:=⟨w.heap.size+1,1,none⟩) (by simp[Value.ownBlock]) (.int .i64 n)) (a:=⟨w.heap.size+1,2,none⟩) (by simp[Value.ownBlock]) (.slice (some ⟨w.heap.size+3,0,none⟩) ps.length ps.length)
 exact bodyPost_ret (v:=.agg #[.int .i64 c,.int .i64 n,(.slice (some ⟨w.heap.size+3,0,none⟩) ps.length ps.length)]) (results_cell_row rfl _ _ (w.heap.size+1) 34 _ (0,0) _ rfl y4 Try.underlying34 rfl (by kernel_rfl)) rfl ⟨w.heap.size+3,rfl,hO.mono (by omega),(((B1.setCell (by simp;omega) _).setCell (by simp) _).setCell (by simp) _).setCell (by simp) _⟩
set_option maxRecDepth 100000 in
set_option maxHeartbeats 1000000 in
theorem eqBatch_same (c n:Int) (a1 a2:Option Addr) (c1 c2:Nat) (ps:List OpL) (w:World) (hl:ps.length≤16777216) (h1:IsOps w a1 ps) (h2:IsOps w a2 ps) :
 Calls Try.prog 12 #[.agg #[.int .i64 c,.int .i64 n,.slice a1 ps.length c1],.agg #[.int .i64 c,.int .i64 n,.slice a2 ps.length c2]] w fun e w'=>e=.returned (.bool true)∧Below w.heap.size w w':=by
 have Bx:Below w.heap.size w ((w.alloc (.cells #[.int .i64 c,.int .i64 n,.slice a1 ps.length c1] 34)).alloc (.cells #[.int .i64 c,.int .i64 n,.slice a2 ps.length c2] 34)):=((Below.refl _ _).alloc (Nat.le_refl _) _).alloc (by simp) _
 have K:=eqOpS_same ps a1 a2 c1 c2 _ hl (h1.later Bx) (h2.later Bx)
 have HB:Hid (Below w.heap.size w ((w.alloc (.cells #[.int .i64 c,.int .i64 n,.slice a1 ps.length c1] 34)).alloc (.cells #[.int .i64 c,.int .i64 n,.slice a2 ps.length c2] 34))):=Bx
 clear h1 h2 Bx
 go_enter Try.func12,Try.ntmps12
 go_wp2_with fail
 refine K.mono ?_
 rintro e w1 ⟨rfl,b1⟩
 have B1:=HB.out.trans (b1.mono HB.out.size)
 clear b1 K
 go_wp2
 go_ret
 exact⟨rfl,B1⟩
end Go.Proofs.Ytdcmncjoppmlhaa
