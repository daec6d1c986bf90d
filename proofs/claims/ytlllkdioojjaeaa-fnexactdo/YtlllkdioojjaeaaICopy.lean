/-
 Contract: a copy of a disk, of the program (written by mkicopy.py).
-/
import Derived.Test.YtlllkdioojjaeaaGrowD
import Derived.Test.YtlllkdioojjaeaaClD
namespace Go.Proofs.Ytlllkdioojjaeaa
open Go.RowKit
set_option linter.unusedVariables false
set_option maxRecDepth 100000 in
set_option maxHeartbeats 8000000 in
theorem impl_copy (a1 a2 a3:Option Addr) (c1 c2 c3:Nat) (live safe:List PairL) (ops:List DOpL) (w:World) (ha1:AddrOk a1) (hc1:a1=none→c1=0) (ha2:AddrOk a2) (hc2:a2=none→c2=0) (ha3:AddrOk a3) (hc3:a3=none→c3=0) (hl1:live.length≤1048576) (hl2:safe.length≤1048576) (hl3:ops.length≤1048576)
 (hs1:IsPairs w a1 live) (hs2:IsPairs w a2 safe) (hs3:IsDOps w a3 ops) :
 Calls Try.prog 56 #[.agg #[.slice a1 live.length c1,.slice a2 safe.length c2,.slice a3 ops.length c3]] w fun e w'=>IPost w w' e live safe ops:=by
 obtain⟨wa,hwa⟩:∃ wa,wa=(w.alloc (.cells #[.slice a1 live.length c1,.slice a2 safe.length c2,.slice a3 ops.length c3] 31)).alloc (.cells #[.slice none 0 0,.slice none 0 0,.slice none 0 0] 31):=⟨_,rfl⟩
 have B1:Below w.heap.size w wa:=by rw[hwa];exact ((Below.refl _ _).alloc (Nat.le_refl _) _).alloc (by simp) _
 have H1:Hid (wa.heap[w.heap.size]? = some (.cells #[.slice a1 live.length c1,.slice a2 safe.length c2,.slice a3 ops.length c3] 31 (0,0))):=by rw[hwa,Hid,Below.heap_alloc _ _ _ (by simp)];exact heap_alloc_new w _
 have R1:Hid (wa.heap[w.heap.size+1]? = some (.cells #[.slice none 0 0,.slice none 0 0,.slice none 0 0] 31 (0,0))):=by
  rw[hwa,Hid]
  have:=heap_alloc_new (w.alloc (.cells #[.slice a1 live.length c1,.slice a2 safe.length c2,.slice a3 ops.length c3] 31)) (.cells #[.slice none 0 0,.slice none 0 0,.slice none 0 0] 31)
  simpa using this
 have s1:w.heap.size+1<wa.heap.size:=lt_of_block R1.out
 have HC:Hid (∀ W,Below wa.heap.size wa W→W.cell? ⟨w.heap.size,0,none⟩=some (.slice a1 live.length c1)∧W.cell? ⟨w.heap.size,1,none⟩=some (.slice a2 safe.length c2)∧W.cell? ⟨w.heap.size,2,none⟩=some (.slice a3 ops.length c3)):=fun W hW=>by
  obtain⟨u0,u1,u2,_⟩:=three_cells ((hW.block _ (lt_of_block H1.out)).trans H1.out)
  exact⟨u0,u1,u2⟩
 have HK1:Hid (∀ W,Below wa.heap.size wa W→Calls Try.prog 61 #[.slice a1 live.length c1] W fun e w'=>∃ (a:Option Addr) (c:Nat),e=.returned (.slice a live.length c)∧w'.ownsRow W.heap.size 84 2 (.slice a live.length c) live.length (pcells live)∧Below W.heap.size W w'):=fun W hW=>clone_filesN a1 c1 live W hl1 hc1 ha1 (hs1.later (B1.trans (hW.mono B1.size)))
 have HK2:Hid (∀ W,Below wa.heap.size wa W→Calls Try.prog 61 #[.slice a2 safe.length c2] W fun e w'=>∃ (a:Option Addr) (c:Nat),e=.returned (.slice a safe.length c)∧w'.ownsRow W.heap.size 84 2 (.slice a safe.length c) safe.length (pcells safe)∧Below W.heap.size W w'):=fun W hW=>clone_filesN a2 c2 safe W hl2 hc2 ha2 (hs2.later (B1.trans (hW.mono B1.size)))
 have HK3:Hid (∀ W,Below wa.heap.size wa W→Calls Try.prog 84 #[.slice a3 ops.length c3] W fun e w'=>∃ (a:Option Addr) (c:Nat),e=.returned (.slice a ops.length c)∧w'.ownsRow W.heap.size 40 4 (.slice a ops.length c) ops.length (dcells ops)∧Below W.heap.size W w'):=fun W hW=>clone_dopsN a3 c3 ops W hl3 hc3 ha3 (hs3.later (B1.trans (hW.mono B1.size)))
 have BR:Below wa.heap.size wa wa.drew:=⟨rfl,rfl,rfl,Nat.le_refl _,fun _ _=>rfl⟩
 unfold IPost
 clear hs1 hs2 hs3
 go_enter Try.func56,Try.ntmps56
 go_wp2_with fail
 rw[←hwa]
 clear hwa
 go_region_held3 (fun w'=>w'.cell? ⟨w.heap.size,0,none⟩=some (.slice a1 live.length c1)∧w'.cell? ⟨w.heap.size,1,none⟩=some (.slice a2 safe.length c2)∧w'.cell? ⟨w.heap.size,2,none⟩=some (.slice a3 ops.length c3))
  (first | with_reducible exact S15.out | with_reducible exact HC.out _ B11.out | with_reducible exact HC.out _ B8.out | with_reducible exact HC.out _ B5.out | with_reducible exact HC.out _ BR)
  (first
   | (go_at_call 84
      with_reducible refine (HK3.out w8 B8.out).mono ?_
      rintro e w11 ⟨a11,k11,rfl,o11,b11⟩
      have B11:Hid (Below wa.heap.size wa w11):=B8.out.trans (b11.mono B8.out.size)
      have O5c:Hid (w11.ownsRow wa.heap.size 84 2 (.slice a5 live.length k5) live.length (pcells live)):=kept2 O5b.out b11
      have O8b:Hid (w11.ownsRow wa.heap.size 84 2 (.slice a8 safe.length k8) safe.length (pcells safe)):=kept2 O8.out b11
      have O11:Hid (w11.ownsRow wa.heap.size 40 4 (.slice a11 ops.length k11) ops.length (dcells ops)):=o11.mono B8.out.size
      have AP2:Hid (∀ q,((Value.slice a5 live.length k5).ownBlock=some q→(Value.slice a11 ops.length k11).ownBlock≠some q)∧((Value.slice a8 safe.length k8).ownBlock=some q→(Value.slice a11 ops.length k11).ownBlock≠some q)):=fun q=>⟨fun h1 h2=>by have:=(O5b.out.lt q h1).2;have:=(o11.lt q h2).1;omega,fun h1 h2=>by have:=(O8.out.lt q h1).2;have:=(o11.lt q h2).1;omega⟩
      have Y14:Hid (w11.heap[w.heap.size+1]? = some (.cells #[.slice none 0 0,.slice none 0 0,.slice none 0 0] 31 (0,0))):=(B11.out.block _ (lt_of_block R1.out)).trans R1.out
      have X14:Hid (w11.heap[w.heap.size]? = some (.cells #[.slice a1 live.length c1,.slice a2 safe.length c2,.slice a3 ops.length c3] 31 (0,0))):=(B11.out.block _ (lt_of_block H1.out)).trans H1.out
      have S15:Hid ((((w11.setCell ⟨w.heap.size+1,0,none⟩ (.slice a5 live.length k5)).setCell ⟨w.heap.size+1,1,none⟩ (.slice a8 safe.length k8)).setCell ⟨w.heap.size+1,2,none⟩ (.slice a11 ops.length k11)).cell? ⟨w.heap.size,0,none⟩=some (.slice a1 live.length c1)∧(((w11.setCell ⟨w.heap.size+1,0,none⟩ (.slice a5 live.length k5)).setCell ⟨w.heap.size+1,1,none⟩ (.slice a8 safe.length k8)).setCell ⟨w.heap.size+1,2,none⟩ (.slice a11 ops.length k11)).cell? ⟨w.heap.size,1,none⟩=some (.slice a2 safe.length c2)∧(((w11.setCell ⟨w.heap.size+1,0,none⟩ (.slice a5 live.length k5)).setCell ⟨w.heap.size+1,1,none⟩ (.slice a8 safe.length k8)).setCell ⟨w.heap.size+1,2,none⟩ (.slice a11 ops.length k11)).cell? ⟨w.heap.size,2,none⟩=some (.slice a3 ops.length c3)):=by
       obtain⟨u0,u1,u2,_⟩:=three_cells ((Below.heap_setCell (w11.setCell ⟨w.heap.size+1,0,none⟩ (.slice a5 live.length k5) |>.setCell ⟨w.heap.size+1,1,none⟩ (.slice a8 safe.length k8)) ⟨w.heap.size+1,2,none⟩ (.slice a11 ops.length k11) w.heap.size (by simp)).trans ((Below.heap_setCell _ _ _ _ (by simp)).trans ((Below.heap_setCell _ _ _ _ (by simp)).trans X14.out)))
       exact⟨u0,u1,u2⟩
      obtain⟨r0,r1,r2,rf⟩:=three_cells Y14.out
      have rf0:=rf 0
      have rf1:=rf 1
      have rf2:=rf 2
      clear o11 b11 rf)
   | (go_at_call 61
      with_reducible refine (HK2.out w5 B5.out).mono ?_
      rintro e w8 ⟨a8,k8,rfl,o8,b8⟩
      have B8:Hid (Below wa.heap.size wa w8):=B5.out.trans (b8.mono B5.out.size)
      have O5b:Hid (w8.ownsRow wa.heap.size 84 2 (.slice a5 live.length k5) live.length (pcells live)):=kept2 O5.out b8
      have O8:Hid (w8.ownsRow wa.heap.size 84 2 (.slice a8 safe.length k8) safe.length (pcells safe)):=o8.mono B5.out.size
      have AP1:Hid (∀ q,(Value.slice a5 live.length k5).ownBlock=some q→(Value.slice a8 safe.length k8).ownBlock≠some q):=fun q h1 h2=>by have:=(O5.out.lt q h1).2;have:=(o8.lt q h2).1;omega
      clear o8 b8)
   | (go_at_call 61
      with_reducible refine (HK1.out wa.drew BR).mono ?_
      rintro e w5 ⟨a5,k5,rfl,o5,b5⟩
      have B5:Hid (Below wa.heap.size wa w5):=BR.trans (b5.mono BR.size)
      have O5:Hid (w5.ownsRow wa.heap.size 84 2 (.slice a5 live.length k5) live.length (pcells live)):=o5
      clear o5 b5))
 all_goals
  have y1:=dk_set (j:=0) (z:=.slice a5 live.length k5) Y14.out
  have y2:=dk_set (j:=1) (z:=.slice a8 safe.length k8) y1
  have y3:=dk_set (j:=2) (z:=.slice a11 ops.length k11) y2
  have HY:Hid (_=_):=y3
  have N1:Hid ((((w11.setCell ⟨w.heap.size+1,0,none⟩ (.slice a5 live.length k5)).setCell ⟨w.heap.size+1,1,none⟩ (.slice a8 safe.length k8)).setCell ⟨w.heap.size+1,2,none⟩ (.slice a11 ops.length k11)).ownsRow w.heap.size 84 2 (.slice a5 live.length k5) live.length (pcells live)):=(own_set (own_set (own_set O5c.out _ s1 _) _ s1 _) _ s1 _).mono (by omega)
  have N2:Hid ((((w11.setCell ⟨w.heap.size+1,0,none⟩ (.slice a5 live.length k5)).setCell ⟨w.heap.size+1,1,none⟩ (.slice a8 safe.length k8)).setCell ⟨w.heap.size+1,2,none⟩ (.slice a11 ops.length k11)).ownsRow w.heap.size 84 2 (.slice a8 safe.length k8) safe.length (pcells safe)):=(own_set (own_set (own_set O8b.out _ s1 _) _ s1 _) _ s1 _).mono (by omega)
  have N3:Hid ((((w11.setCell ⟨w.heap.size+1,0,none⟩ (.slice a5 live.length k5)).setCell ⟨w.heap.size+1,1,none⟩ (.slice a8 safe.length k8)).setCell ⟨w.heap.size+1,2,none⟩ (.slice a11 ops.length k11)).ownsRow w.heap.size 40 4 (.slice a11 ops.length k11) ops.length (dcells ops)):=(own_set (own_set (own_set O11.out _ s1 _) _ s1 _) _ s1 _).mono (by omega)
  have HBB:Hid (Below w.heap.size w (((w11.setCell ⟨w.heap.size+1,0,none⟩ (.slice a5 live.length k5)).setCell ⟨w.heap.size+1,1,none⟩ (.slice a8 safe.length k8)).setCell ⟨w.heap.size+1,2,none⟩ (.slice a11 ops.length k11))):=(((B1.trans (B11.out.mono B1.size)).setCell (by simp) _).setCell (by simp) _).setCell (by simp) _
  clear y1 y2 y3 H1 R1 HC HK1 HK2 HK3
  go_wp2
  exact bodyPost_ret (v:=.agg #[.slice a5 live.length k5,.slice a8 safe.length k8,.slice a11 ops.length k11]) (results_cell_row rfl _ _ (w.heap.size+1) 31 _ (0,0) _ rfl HY.out Try.underlying31 rfl (by kernel_rfl)) rfl ⟨a5,a8,a11,k5,k8,k11,rfl,N1.out,N2.out,N3.out,fun q=>⟨fun h=>⟨AP1.out q h,(AP2.out q).1 h⟩,fun h=>(AP2.out q).2 h⟩,HBB.out⟩
end Go.Proofs.Ytlllkdioojjaeaa
