/-
 Contracts of the laws' own helpers on signatures: sizes, copies, equal ones.
-/
import Derived.Test.YtllmclmcncolcaaGreatDoorStrsAll
import Derived.Test.YtllmclmcncolcaaGreatDoorSzGen
import Derived.Test.YtllmclmcncolcaaGreatDoorIRoots
namespace Go.Proofs.YtllmclmcncolcaaGreatDoor
open Go.RowKit
set_option linter.unusedVariables false
theorem tri_cells {w:World} {b:Nat} {u v x:Value} {t:TypeId} (h:w.heap[b]? = some (.cells #[u,v,x] t (0,0))) :
 w.cell? ⟨b,0,none⟩=some u∧w.cell? ⟨b,1,none⟩=some v∧w.cell? ⟨b,2,none⟩=some x∧∀ j,w.frozen? ⟨b,j,none⟩=false:=by
 refine⟨?_,?_,?_,fun j=>frozen_of_row w b j _ t h⟩ <;> simp only[World.cell?,h] <;> rfl
theorem tri_set {w:World} {b j:Nat} {u v x y:Value} {t:TypeId} (h:w.heap[b]? = some (.cells #[u,v,x] t (0,0))):(w.setCell ⟨b,j,none⟩ y).heap[b]? = some (.cells (#[u,v,x].setIfInBounds j y) t (0,0)):=by
 have hlt:=lt_of_block h
 have h':w.heap[b]=.cells #[u,v,x] t (0,0):=by simpa [Array.getElem?_eq_getElem hlt] using h
 show (w.heap.modify b _)[b]? = _
 rw[Array.getElem?_eq_getElem (by simpa using hlt),Array.getElem_modify_self,h']
 rfl
set_option maxRecDepth 100000 in
set_option maxHeartbeats 1000000 in
theorem toSig_any (i:Int) (ao ap:Option Addr) (co cp:Nat) (os ps:List (List UInt8)) (w:World) (ho:os.length≤1048576) (hp:ps.length≤1048576) (hs:IsStrs w ao os) (hq:IsStrs w ap ps) :
 Calls Tryz.prog 63 #[.agg #[.int .i64 i,.slice ao os.length co,.slice ap ps.length cp]] w fun e w'=>∃ g1 g2:Nat,e=.returned (.agg #[.int .i64 i,.slice (some ⟨g1,0,none⟩) os.length os.length,.slice (some ⟨g2,0,none⟩) ps.length ps.length])∧w'.ownsRow w.heap.size 9 1 (.slice (some ⟨g1,0,none⟩) os.length os.length) os.length (scells os)∧w'.ownsRow w.heap.size 9 1 (.slice (some ⟨g2,0,none⟩) ps.length ps.length) ps.length (scells ps)∧Below w.heap.size w w':=by
 obtain⟨n,hn⟩:∃ n,n=w.heap.size:=⟨_,rfl⟩
 obtain⟨wa,hwa⟩:∃ wa,wa=((w.alloc (.cells #[.int .i64 i,.slice ao os.length co,.slice ap ps.length cp] 67)).alloc (.cells #[.int .i64 0,.slice none 0 0,.slice none 0 0] 72)).alloc (.cells #[.int .i64 i,.slice none 0 0,.slice none 0 0] 72):=⟨_,rfl⟩
 have Ba:Below w.heap.size w wa:=by rw[hwa];exact (((Below.refl _ _).alloc (Nat.le_refl _) _).alloc (by simp) _).alloc (by simp;omega) _
 have sa:wa.heap.size=w.heap.size+3:=by rw[hwa];simp
 have a0:wa.heap[w.heap.size]? = some (.cells #[.int .i64 i,.slice ao os.length co,.slice ap ps.length cp] 67 (0,0)):=by rw[hwa,Below.heap_alloc _ _ _ (by simp;omega),Below.heap_alloc _ _ _ (by simp)];exact heap_alloc_new w _
 have a1:wa.heap[w.heap.size+1]? = some (.cells #[.int .i64 0,.slice none 0 0,.slice none 0 0] 72 (0,0)):=by
  rw[hwa,Below.heap_alloc _ _ _ (by simp)]
  have:=heap_alloc_new (w.alloc (.cells #[.int .i64 i,.slice ao os.length co,.slice ap ps.length cp] 67)) (.cells #[.int .i64 0,.slice none 0 0,.slice none 0 0] 72)
  simpa using this
 have a2:wa.heap[w.heap.size+2]? = some (.cells #[.int .i64 i,.slice none 0 0,.slice none 0 0] 72 (0,0)):=by
  rw[hwa]
  have:=heap_alloc_new ((w.alloc (.cells #[.int .i64 i,.slice ao os.length co,.slice ap ps.length cp] 67)).alloc (.cells #[.int .i64 0,.slice none 0 0,.slice none 0 0] 72)) (.cells #[.int .i64 i,.slice none 0 0,.slice none 0 0] 72)
  rw[show ((w.alloc (.cells #[.int .i64 i,.slice ao os.length co,.slice ap ps.length cp] 67)).alloc (.cells #[.int .i64 0,.slice none 0 0,.slice none 0 0] 72)).heap.size=w.heap.size+2 by simp] at this
  exact this
 have K1:=toS_any ao co os wa ho (hs.later Ba)
 have HQ:Hid (∀ W,Below w.heap.size w W→IsStrs W ap ps):=fun W hW=>hq.later hW
 rw[hwa] at K1
 clear hs hq hn
 go_enter Tryz.func63,Tryz.ntmps63
 go_wp2_with fail
 refine K1.mono ?_
 rintro e w1 ⟨rfl,o1,b1⟩
 rw[←hwa] at o1 b1
 rw[show (((w.alloc (.cells #[.int .i64 i,.slice ao os.length co,.slice ap ps.length cp] 67)).alloc (.cells #[.int .i64 0,.slice none 0 0,.slice none 0 0] 72)).alloc (.cells #[.int .i64 i,.slice none 0 0,.slice none 0 0] 72)).heap.size=w.heap.size+3 by rw[←hwa];exact sa]
 rw[sa] at o1
 clear K1 hwa
 have B1:=Ba.trans (b1.mono (by omega))
 have e0:=(b1.block (w.heap.size) (by omega)).trans a0
 have e1:=(b1.block (w.heap.size+1) (by omega)).trans a1
 have e2:=(b1.block (w.heap.size+2) (by omega)).trans a2
 obtain⟨_,_,p2,_⟩:=tri_cells e0
 obtain⟨_,r1,_,rf⟩:=tri_cells e2
 have rf1:=rf 1
 have O1:=hidOwn o1
 have s1:w.heap.size+3<w1.heap.size:=own_lt o1
 clear a0 a1 a2 b1 Ba rf o1
 have z2:(w1.setCell ⟨w.heap.size+1+1,1,none⟩ (.slice (some ⟨w.heap.size+3,0,none⟩) os.length os.length)).heap.size=w1.heap.size:=by simp[World.setCell]
 have B2:Below w.heap.size w (w1.setCell ⟨w.heap.size+1+1,1,none⟩ (.slice (some ⟨w.heap.size+3,0,none⟩) os.length os.length)):=B1.setCell (by simp;omega) _
 have K2:=toS_any ap cp ps _ hp (HQ.out _ B2)
 rw[z2] at K2
 have t2:=tri_set (j:=1) (y:=.slice (some ⟨w.heap.size+3,0,none⟩) os.length os.length) e2
 have t1:(w1.setCell ⟨w.heap.size+1+1,1,none⟩ (.slice (some ⟨w.heap.size+3,0,none⟩) os.length os.length)).heap[w.heap.size+1]? = _:=(Below.heap_setCell _ _ _ _ (by simp)).trans e1
 have O2:=hidOwn (ownsRow_setCell_other (a:=⟨w.heap.size+1+1,1,none⟩) O1.out (by simp[Value.ownBlock]) (.slice (some ⟨w.heap.size+3,0,none⟩) os.length os.length))
 clear e0 e1 e2 O1 B1
 go_wp2_with fail
 refine K2.mono ?_
 rintro e w3 ⟨rfl,o3,b3⟩
 have B3:=B2.trans (b3.mono (by omega))
 have u2:w3.heap[w.heap.size+2]? = some (.cells #[.int .i64 i,.slice (some ⟨w.heap.size+3,0,none⟩) os.length os.length,.slice none 0 0] 72 (0,0)):=(b3.block (w.heap.size+2) (by omega)).trans t2
 have u1:w3.heap[w.heap.size+1]? = some (.cells #[.int .i64 0,.slice none 0 0,.slice none 0 0] 72 (0,0)):=(b3.block (w.heap.size+1) (by omega)).trans t1
 have O3:=hidOwn (O2.out.kept (w':=w3) (row:=none) ⟨b3.os,b3.tape,b3.output,b3.size,fun k hk _=>b3.block k (by rw[←z2];exact hk)⟩ (.inr (by simp[Value.ownBlock])))
 have Q3:=hidOwn o3
 have s3:w1.heap.size<w3.heap.size:=own_lt o3
 have u2':=tri_set (j:=2) (y:=.slice (some ⟨w1.heap.size,0,none⟩) ps.length ps.length) u2
 obtain⟨p0,p1,p2',pf⟩:=tri_cells u2
 obtain⟨q0,q1,q2,qf⟩:=tri_cells u1
 have pf2:=pf 2
 have qf0:=qf 0
 have qf1:=qf 1
 have qf2:=qf 2
 clear K2 t1 t2 O2 o3 b3 z2 pf qf B2
 go_wp2
 have y1:(w3.setCell ⟨w.heap.size+1+1,2,none⟩ (.slice (some ⟨w1.heap.size,0,none⟩) ps.length ps.length)).heap[w.heap.size+1]? = _:=(Below.heap_setCell _ _ _ _ (by simp)).trans u1
 have y2:=tri_set (j:=0) (y:=.int .i64 i) y1
 have y3:=tri_set (j:=1) (y:=.slice (some ⟨w.heap.size+3,0,none⟩) os.length os.length) y2
 have y4:=tri_set (j:=2) (y:=.slice (some ⟨w1.heap.size,0,none⟩) ps.length ps.length) y3
 have rows:∀ {g m c base:Nat} {xs:List Value},w3.ownsRow base 9 1 (.slice (some ⟨g,0,none⟩) m c) m xs→w.heap.size+2<g→((((w3.setCell ⟨w.heap.size+1+1,2,none⟩ (.slice (some ⟨w1.heap.size,0,none⟩) ps.length ps.length)).setCell ⟨w.heap.size+1,0,none⟩ (.int .i64 i)).setCell ⟨w.heap.size+1,1,none⟩ (.slice (some ⟨w.heap.size+3,0,none⟩) os.length os.length)).setCell ⟨w.heap.size+1,2,none⟩ (.slice (some ⟨w1.heap.size,0,none⟩) ps.length ps.length)).ownsRow base 9 1 (.slice (some ⟨g,0,none⟩) m c) m xs:=fun h hg =>
  ownsRow_setCell_other (ownsRow_setCell_other (ownsRow_setCell_other (ownsRow_setCell_other h (by simp[Value.ownBlock];omega) _) (by simp[Value.ownBlock];omega) _) (by simp[Value.ownBlock];omega) _) (by simp[Value.ownBlock];omega) _
 exact bodyPost_ret (v:=.agg #[.int .i64 i,.slice (some ⟨w.heap.size+3,0,none⟩) os.length os.length,.slice (some ⟨w1.heap.size,0,none⟩) ps.length ps.length]) (results_cell_row rfl _ _ (w.heap.size+1) 72 _ (0,0) _ rfl y4 Tryz.underlying72 rfl (by kernel_rfl)) rfl ⟨w.heap.size+3,w1.heap.size,rfl,(rows O3.out (by omega)).mono (by omega),(rows Q3.out (by omega)).mono (by omega),(((B3.setCell (by simp;omega) _).setCell (by simp) _).setCell (by simp) _).setCell (by simp) _⟩
end Go.Proofs.YtllmclmcncolcaaGreatDoor
