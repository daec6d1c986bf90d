/-
 Contracts of the laws' own helpers on disks: marks laid, marks held (written by mkdiskm.py).
-/
import Derived.Test.YtlllkdioojjaeaaDOpM
namespace Go.Proofs.Ytlllkdioojjaeaa
open Go.RowKit
set_option linter.unusedVariables false
set_option maxRecDepth 100000 in
set_option maxHeartbeats 2000000 in
theorem markDisk_any (live safe:List PairL) (ops:List DOpL) (x1 x2 x3:Option Addr) (m1 k1 m2 k2 m3 k3 b1 k:Nat) (w:World) (hl1:live.length≤1048576) (hl2:safe.length≤1048576) (hl3:ops.length≤1048576) (hk:0<k) (hk2:k≤1000000) (hap:∀ q,((Value.slice x1 m1 k1).ownBlock=some q→(Value.slice x2 m2 k2).ownBlock≠some q∧(Value.slice x3 m3 k3).ownBlock≠some q)∧((Value.slice x2 m2 k2).ownBlock=some q→(Value.slice x3 m3 k3).ownBlock≠some q)) (h1:w.ownsRow b1 84 2 (.slice x1 m1 k1) live.length (pcells live)) (h2:w.ownsRow b1 84 2 (.slice x2 m2 k2) safe.length (pcells safe)) (h3:w.ownsRow b1 40 4 (.slice x3 m3 k3) ops.length (dcells ops)) :
 Calls Try.prog 21 #[.agg #[.slice x1 m1 k1,.slice x2 m2 k2,.slice x3 m3 k3],.int .i64 k] w fun e w'=>e=.returned (.int .i64 ((k:Int)+2*(live.length:Int)+2*(safe.length:Int)+4*(ops.length:Int)))∧w'.ownsRow b1 84 2 (.slice x1 m1 k1) live.length (pcells (marksP k live.length))∧w'.ownsRow b1 84 2 (.slice x2 m2 k2) safe.length (pcells (marksP (k+2*live.length) safe.length))∧w'.ownsRow b1 40 4 (.slice x3 m3 k3) ops.length (dcells (marksD (k+2*live.length+2*safe.length) ops.length))∧∃ wm wn,w.grownBy wm (Value.slice x1 m1 k1).ownBlock∧wm.grownBy wn (Value.slice x2 m2 k2).ownBlock∧wn.grownBy w' (Value.slice x3 m3 k3).ownBlock:=by
 have B0:Below w.heap.size w (w.alloc (.cells #[.slice x1 m1 k1,.slice x2 m2 k2,.slice x3 m3 k3] 31)):=(Below.refl _ _).alloc (Nat.le_refl _) _
 have K:=markFileS_any live x1 m1 k1 b1 k (w.alloc (.cells #[.slice x1 m1 k1,.slice x2 m2 k2,.slice x3 m3 k3] 31)) (by omega) hk (by omega) (kept2 h1 B0)
 have G0:Hid (w.grownBy (w.alloc (.cells #[.slice x1 m1 k1,.slice x2 m2 k2,.slice x3 m3 k3] 31)) (Value.slice x1 m1 k1).ownBlock):=grown_of_below B0 _
 have H0:Hid ((w.alloc (.cells #[.slice x1 m1 k1,.slice x2 m2 k2,.slice x3 m3 k3] 31)).heap[w.heap.size]? = some (.cells #[.slice x1 m1 k1,.slice x2 m2 k2,.slice x3 m3 k3] 31 (0,0))):=heap_alloc_new w (.cells #[.slice x1 m1 k1,.slice x2 m2 k2,.slice x3 m3 k3] 31)
 obtain⟨p0,p1,p2,_⟩:=three_cells H0.out
 have HO2:Hid ((w.alloc (.cells #[.slice x1 m1 k1,.slice x2 m2 k2,.slice x3 m3 k3] 31)).ownsRow b1 84 2 (.slice x2 m2 k2) safe.length (pcells safe)):=kept2 h2 B0
 have HO3:Hid ((w.alloc (.cells #[.slice x1 m1 k1,.slice x2 m2 k2,.slice x3 m3 k3] 31)).ownsRow b1 40 4 (.slice x3 m3 k3) ops.length (dcells ops)):=kept4 h3 B0
 have HLT:Hid (∀ q,((Value.slice x1 m1 k1).ownBlock=some q→q<w.heap.size)∧((Value.slice x2 m2 k2).ownBlock=some q→q<w.heap.size)):=fun q=>⟨fun hq=>(h1.lt q hq).2,fun hq=>(h2.lt q hq).2⟩
 clear h1 h2 h3
 go_enter Try.func21,Try.ntmps21
 go_wp2_with fail
 refine K.mono ?_
 rintro e w1 ⟨rfl,o1,g1⟩
 have O1:=hidOwn o1
 have G1:Hid (w.grownBy w1 (Value.slice x1 m1 k1).ownBlock):=G0.out.trans g1
 have o2:=(HO2.out.kept g1 (by
  cases hq:(Value.slice x2 m2 k2).ownBlock with
  | none=>exact .inl rfl
  | some q=>exact .inr (fun e=>((hap q).1 e.symm).1 hq)))
 have o3:=(HO3.out.kept g1 (by
  cases hq:(Value.slice x3 m3 k3).ownBlock with
  | none=>exact .inl rfl
  | some q=>exact .inr (fun e=>((hap q).1 e.symm).2 hq)))
 have H1:Hid (w1.heap[w.heap.size]? = some (.cells #[.slice x1 m1 k1,.slice x2 m2 k2,.slice x3 m3 k3] 31 (0,0))):=(g1.block w.heap.size (by simp) (fun e=>by have:=(HLT.out _).1 e.symm;omega)).trans H0.out
 have O3a:Hid (w1.ownsRow b1 40 4 (.slice x3 m3 k3) ops.length (dcells ops)):=o3
 clear K o1 g1 G0 B0 p0 p1 p2 H0 HO2 HO3 o3
 obtain⟨p0,p1,p2,_⟩:=three_cells H1.out
 have K2:=markFileS_any safe x2 m2 k2 b1 (k+2*live.length) w1 (by omega) (by omega) (by omega) o2
 rw[show ((k+2*live.length:Nat):Int)=(k:Int)+2*(live.length:Int) by omega] at K2
 clear o2
 go_wp2_with fail
 refine K2.mono ?_
 rintro e w2 ⟨rfl,o2,g2⟩
 have O2:=hidOwn o2
 have O1':=hidOwn (O1.out.kept g2 (by
  cases hq:(Value.slice x1 m1 k1).ownBlock with
  | none=>exact .inl rfl
  | some q=>exact .inr (fun e=>((hap q).1 hq).1 e.symm)))
 have o3:=(O3a.out.kept g2 (by
  cases hq:(Value.slice x3 m3 k3).ownBlock with
  | none=>exact .inl rfl
  | some q=>exact .inr (fun e=>(hap q).2 e.symm hq)))
 have G2:Hid (w1.grownBy w2 (Value.slice x2 m2 k2).ownBlock):=g2
 have H2:Hid (w2.heap[w.heap.size]? = some (.cells #[.slice x1 m1 k1,.slice x2 m2 k2,.slice x3 m3 k3] 31 (0,0))):=(g2.block w.heap.size (lt_of_block H1.out) (fun e=>by have:=(HLT.out _).2 e.symm;omega)).trans H1.out
 clear K2 o2 g2 p0 p1 p2 O1 H1 O3a
 obtain⟨p0,p1,p2,_⟩:=three_cells H2.out
 have K3:=markDOpS_any ops x3 m3 k3 b1 (k+2*live.length+2*safe.length) w2 (by omega) (by omega) (by omega) o3
 rw[show ((k+2*live.length+2*safe.length:Nat):Int)=(k:Int)+2*(live.length:Int)+2*(safe.length:Int) by omega] at K3
 clear o3
 go_wp2_with fail
 refine K3.mono ?_
 rintro e w3 ⟨rfl,o3,g3⟩
 have O3:=hidOwn o3
 have O1b:=hidOwn (O1'.out.kept g3 (by
  cases hq:(Value.slice x1 m1 k1).ownBlock with
  | none=>exact .inl rfl
  | some q=>exact .inr (fun e=>((hap q).1 hq).2 e.symm)))
 have O2b:=hidOwn (O2.out.kept g3 (by
  cases hq:(Value.slice x2 m2 k2).ownBlock with
  | none=>exact .inl rfl
  | some q=>exact .inr (fun e=>(hap q).2 hq e.symm)))
 have G3:Hid (w2.grownBy w3 (Value.slice x3 m3 k3).ownBlock):=g3
 clear K3 o3 g3 p0 p1 p2 O1' O2 H2
 go_wp2
 go_ret
 exact⟨rfl,O1b.out,O2b.out,O3.out,w1,w2,G1.out,G2.out,G3.out⟩
set_option maxRecDepth 100000 in
set_option maxHeartbeats 2000000 in
theorem heldDisk_any (n1 n2 n3:Nat) (x1 x2 x3:Option Addr) (m1 k1 m2 k2 m3 k3 b1 k:Nat) (w:World) (hl1:n1≤1048576) (hl2:n2≤1048576) (hl3:n3≤1048576) (hk:0<k) (hk2:k≤1000000) (h1:w.ownsRow b1 84 2 (.slice x1 m1 k1) n1 (pcells (marksP k n1))) (h2:w.ownsRow b1 84 2 (.slice x2 m2 k2) n2 (pcells (marksP (k+2*n1) n2))) (h3:w.ownsRow b1 40 4 (.slice x3 m3 k3) n3 (dcells (marksD (k+2*n1+2*n2) n3))) :
 Calls Try.prog 22 #[.agg #[.slice x1 m1 k1,.slice x2 m2 k2,.slice x3 m3 k3],.int .i64 k] w fun e w'=>e=.returned (.int .i64 ((k:Int)+2*(n1:Int)+2*(n2:Int)+4*(n3:Int)))∧Below w.heap.size w w':=by
 have B0:Below w.heap.size w (w.alloc (.cells #[.slice x1 m1 k1,.slice x2 m2 k2,.slice x3 m3 k3] 31)):=(Below.refl _ _).alloc (Nat.le_refl _) _
 have K:=heldFileS_any n1 x1 m1 k1 b1 k (w.alloc (.cells #[.slice x1 m1 k1,.slice x2 m2 k2,.slice x3 m3 k3] 31)) (by omega) hk (by omega) (kept2 h1 B0)
 have H0:Hid ((w.alloc (.cells #[.slice x1 m1 k1,.slice x2 m2 k2,.slice x3 m3 k3] 31)).heap[w.heap.size]? = some (.cells #[.slice x1 m1 k1,.slice x2 m2 k2,.slice x3 m3 k3] 31 (0,0))):=heap_alloc_new w (.cells #[.slice x1 m1 k1,.slice x2 m2 k2,.slice x3 m3 k3] 31)
 obtain⟨p0,p1,p2,_⟩:=three_cells H0.out
 have HK2:Hid (∀ W,Below w.heap.size w W→_):=fun W hW=>heldFileS_any n2 x2 m2 k2 b1 (k+2*n1) W (by omega) (by omega) (by omega) (kept2 h2 hW)
 have HK3:Hid (∀ W,Below w.heap.size w W→_):=fun W hW=>heldDOpS_any n3 x3 m3 k3 b1 (k+2*n1+2*n2) W (by omega) (by omega) (by omega) (kept4 h3 hW)
 clear h1 h2 h3
 have h10:¬ (k:Int)+2*(n1:Int)<0:=by omega
 have h20:¬ (k:Int)+2*(n1:Int)+2*(n2:Int)<0:=by omega
 have h30:¬ (k:Int)+2*(n1:Int)+2*(n2:Int)+4*(n3:Int)<0:=by omega
 go_enter Try.func22,Try.ntmps22
 go_wp2_with fail
 refine K.mono ?_
 rintro e w1 ⟨rfl,g1⟩
 have b1':Below (w.alloc (.cells #[.slice x1 m1 k1,.slice x2 m2 k2,.slice x3 m3 k3] 31)).heap.size (w.alloc (.cells #[.slice x1 m1 k1,.slice x2 m2 k2,.slice x3 m3 k3] 31)) w1:=⟨g1.os,g1.tape,g1.output,g1.size,fun q hq=>g1.block q hq (by simp)⟩
 have B1:=B0.trans (b1'.mono B0.size)
 have H1:Hid (w1.heap[w.heap.size]? = some (.cells #[.slice x1 m1 k1,.slice x2 m2 k2,.slice x3 m3 k3] 31 (0,0))):=(b1'.block w.heap.size (by simp)).trans H0.out
 have K2:=HK2.out w1 B1
 rw[show ((k+2*n1:Nat):Int)=(k:Int)+2*(n1:Int) by omega] at K2
 clear K g1 b1' p0 p1 p2 H0 HK2
 obtain⟨p0,p1,p2,_⟩:=three_cells H1.out
 go_wp2_with fail
 refine K2.mono ?_
 rintro e w2 ⟨rfl,g2⟩
 have b2':Below w1.heap.size w1 w2:=⟨g2.os,g2.tape,g2.output,g2.size,fun q hq=>g2.block q hq (by simp)⟩
 have B2:=B1.trans (b2'.mono B1.size)
 have H2:Hid (w2.heap[w.heap.size]? = some (.cells #[.slice x1 m1 k1,.slice x2 m2 k2,.slice x3 m3 k3] 31 (0,0))):=(b2'.block w.heap.size (lt_of_block H1.out)).trans H1.out
 have K3:=HK3.out w2 B2
 rw[show ((k+2*n1+2*n2:Nat):Int)=(k:Int)+2*(n1:Int)+2*(n2:Int) by omega] at K3
 clear K2 g2 b2' p0 p1 p2 H1 HK3
 obtain⟨p0,p1,p2,_⟩:=three_cells H2.out
 go_wp2_with fail
 refine K3.mono ?_
 rintro e w3 ⟨rfl,g3⟩
 have b3':Below w2.heap.size w2 w3:=⟨g3.os,g3.tape,g3.output,g3.size,fun q hq=>g3.block q hq (by simp)⟩
 have B3:=B2.trans (b3'.mono B2.size)
 clear K3 g3 b3' p0 p1 p2 H2
 go_wp2
 go_ret
 exact⟨rfl,B3⟩
end Go.Proofs.Ytlllkdioojjaeaa
