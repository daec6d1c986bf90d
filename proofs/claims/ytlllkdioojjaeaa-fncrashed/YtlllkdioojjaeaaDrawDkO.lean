/-
 Contract: a drawn disk of a code (written by mkcrashed.py).
-/
import Derived.Test.YtlllkdioojjaeaaDrawDk
import Derived.Test.YtlllkdioojjaeaaCodeLaw
namespace Go.Proofs.Ytlllkdioojjaeaa
open Go.RowKit
set_option linter.unusedVariables false
def DdPost (w:World) (e:Ending) (w':World):Prop :=
 ∃ (x1 x2 x3:Option Addr) (k1 k2 k3:Nat) (live safe:List PairL) (ops:List DOpL),e=.returned (.agg #[.slice x1 live.length k1,.slice x2 safe.length k2,.slice x3 ops.length k3])∧DkG w' w.heap.size x1 x2 x3 k1 k2 k3 live safe ops∧DSz live safe ops∧ops.length≤10∧Below w.heap.size w w'
set_option maxRecDepth 100000 in
set_option maxHeartbeats 1000000 in
theorem drawDiskOk (n cap:Nat) (a:Option Addr) (w:World) (hn:n≤1048576) (h:Code w a n) :
 Calls Try.prog 35 #[.slice a n cap] w fun e w'=>DdPost w e w':=by
 obtain⟨wa,hwa⟩:∃ wa,wa=w.alloc (.cells #[.slice none 0 0,.slice none 0 0,.slice none 0 0] 31):=⟨_,rfl⟩
 have Ba:Below w.heap.size w wa:=by rw[hwa];exact (Below.refl _ _).alloc (Nat.le_refl _) _
 have Xa:Hid (wa.heap[w.heap.size]? = some (.cells #[.slice none 0 0,.slice none 0 0,.slice none 0 0] 31 (0,0))):=by rw[hwa];exact heap_alloc_new w _
 have K1:=open_any n cap a wa (h.later Ba)
 have lta:w.heap.size<wa.heap.size:=lt_of_block Xa.out
 clear h
 go_enter Try.func35,Try.ntmps35
 go_wp2_with fail
 rw[←hwa]
 refine K1.mono ?_
 rintro e w1 ⟨rfl,hR1,b1⟩
 have X1:Hid (w1.heap[w.heap.size]? = some (.cells #[.slice none 0 0,.slice none 0 0,.slice none 0 0] 31 (0,0))):=(b1.block _ lta).trans Xa.out
 have B1:Hid (Below w.heap.size w w1):=Ba.trans (b1.mono Ba.size)
 have K2:=disk_any wa.heap.size n cap a w1 hn hR1
 unfold DkPost at K2
 have lt1:w.heap.size<w1.heap.size:=lt_of_block X1.out
 clear K1 hR1 b1 Xa Ba hwa
 go_wp2_with fail
 refine K2.mono ?_
 rintro e w2 ⟨x1,x2,x3,k1,k2,k3,live,safe,ops,rfl,hD,hS,hl,hR2,hG2⟩
 have X2:Hid (w2.heap[w.heap.size]? = some (.cells #[.slice none 0 0,.slice none 0 0,.slice none 0 0] 31 (0,0))):=(hG2.block _ lt1 (by simp;omega)).trans X1.out
 have B2:Below w.heap.size w w2:=B1.out.grown hG2 B1.out.size (fun q hq=>by simp at hq;omega)
 have FD:Hid (DkG (((w2.setCell ⟨w.heap.size,0,none⟩ (.slice x1 live.length k1)).setCell ⟨w.heap.size,1,none⟩ (.slice x2 safe.length k2)).setCell ⟨w.heap.size,2,none⟩ (.slice x3 ops.length k3)) w.heap.size x1 x2 x3 k1 k2 k3 live safe ops):=(hD.set3 lt1 _ _ _).lower (by omega)
 have FB:Hid (Below w.heap.size w (((w2.setCell ⟨w.heap.size,0,none⟩ (.slice x1 live.length k1)).setCell ⟨w.heap.size,1,none⟩ (.slice x2 safe.length k2)).setCell ⟨w.heap.size,2,none⟩ (.slice x3 ops.length k3))):=((B2.setCell (by simp) _).setCell (by simp) _).setCell (by simp) _
 have FX:Hid ((((w2.setCell ⟨w.heap.size,0,none⟩ (.slice x1 live.length k1)).setCell ⟨w.heap.size,1,none⟩ (.slice x2 safe.length k2)).setCell ⟨w.heap.size,2,none⟩ (.slice x3 ops.length k3)).heap[w.heap.size]? = some (.cells #[.slice x1 live.length k1,.slice x2 safe.length k2,.slice x3 ops.length k3] 31 (0,0))):=disk_set3 X2.out
 have FS:Hid (DSz live safe ops∧ops.length≤10):=⟨hS,hl⟩
 obtain⟨r0,r1,r2,rf⟩:=three_cells X2.out
 have rf0:=rf 0
 have rf1:=rf 1
 have rf2:=rf 2
 clear rf hD hS hl hR2 hG2 B2 X2 X1 B1 K2 lta lt1
 go_wp2
 refine bodyPost_ret (v:=.agg #[.slice x1 live.length k1,.slice x2 safe.length k2,.slice x3 ops.length k3]) (results_cell_row rfl _ _ w.heap.size 31 _ (0,0) _ rfl FX.out Try.underlying31 rfl (by kernel_rfl)) rfl ?_
 exact⟨x1,x2,x3,k1,k2,k3,live,safe,ops,rfl,FD.out,FS.out.1,FS.out.2,FB.out⟩
end Go.Proofs.Ytlllkdioojjaeaa
