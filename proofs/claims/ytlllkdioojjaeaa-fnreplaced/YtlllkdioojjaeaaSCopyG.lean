/-
 Contract: a copy of a disk, of the model; the address of the files that are safe is told (written by mkg.py).
-/
import Derived.Test.YtlllkdioojjaeaaGrowEs
namespace Go.Proofs.Ytlllkdioojjaeaa
open Go.RowKit
set_option linter.unusedVariables false
def CPostG (W w':World) (e:Ending) (live safe:List PairL) (ops:List DOpL):Prop :=
 ∃ (x1 x2 x3:Option Addr) (k1 k2 k3 hi:Nat) (row:Option Nat),e=.returned (.agg #[.slice x1 live.length k1,.slice x2 safe.length k2,.slice x3 ops.length k3])∧W.heap.size≤hi∧hi≤w'.heap.size∧NewQ w' W.heap.size hi x1 (pcells live)∧NewQ w' W.heap.size hi x2 (pcells safe)∧GrowR w' hi 40 4 x3 ops.length k3 (dcells ops) row∧AddrOk x1∧AddrS x2∧Below W.heap.size W w'
set_option maxRecDepth 100000 in
set_option maxHeartbeats 8000000 in
theorem spec_copyG (a1 a2 a3:Option Addr) (c1 c2 c3:Nat) (live safe:List PairL) (ops:List DOpL) (w:World) (hl1:live.length≤1048576) (hl2:safe.length≤1048576) (hl3:ops.length≤1048576)
 (hs1:IsPairs w a1 live) (hs2:IsPairs w a2 safe) (hs3:IsDOps w a3 ops) :
 Calls Try.prog 66 #[.agg #[.slice a1 live.length c1,.slice a2 safe.length c2,.slice a3 ops.length c3]] w fun e w'=>CPostG w w' e live safe ops:=by
 obtain⟨i0,hi0,hz0,hz1,hz2⟩:=info_parts infoFile
 obtain⟨j0,hj0,jz0,jz1,jz2⟩:=info_parts infoDOp
 obtain⟨wa,hwa⟩:∃ wa,wa=(w.alloc (.cells #[.slice a1 live.length c1,.slice a2 safe.length c2,.slice a3 ops.length c3] 31)).alloc (.cells #[.slice none 0 0,.slice none 0 0,.slice none 0 0] 31):=⟨_,rfl⟩
 have B1:Below w.heap.size w wa:=by rw[hwa];exact ((Below.refl _ _).alloc (Nat.le_refl _) _).alloc (by simp) _
 have H1:Hid (wa.heap[w.heap.size]? = some (.cells #[.slice a1 live.length c1,.slice a2 safe.length c2,.slice a3 ops.length c3] 31 (0,0))):=by rw[hwa,Hid,Below.heap_alloc _ _ _ (by simp)];exact heap_alloc_new w _
 have R1:Hid (wa.heap[w.heap.size+1]? = some (.cells #[.slice none 0 0,.slice none 0 0,.slice none 0 0] 31 (0,0))):=by
  rw[hwa,Hid]
  have:=heap_alloc_new (w.alloc (.cells #[.slice a1 live.length c1,.slice a2 safe.length c2,.slice a3 ops.length c3] 31)) (.cells #[.slice none 0 0,.slice none 0 0,.slice none 0 0] 31)
  simpa using this
 have s1:w.heap.size+1<wa.heap.size:=lt_of_block R1.out
 have HC:Hid (∀ W,Below wa.heap.size wa W→W.cell? ⟨w.heap.size,0,none⟩=some (.slice a1 live.length c1)∧W.cell? ⟨w.heap.size,1,none⟩=some (.slice a2 safe.length c2)∧W.cell? ⟨w.heap.size,2,none⟩=some (.slice a3 ops.length c3)):=fun W hW=>by
  obtain⟨u0,u1,u2,_⟩:=three_cells ((hW.block _ (lt_of_block H1.out)).trans H1.out)
  exact⟨u0,u1,u2⟩
 have HI1:Hid (∀ W,Below wa.heap.size wa W→live.length=0∨∃ ad2,a1=some ad2∧∀ j u,(pcells live)[j]? = some u→W.cell? (ad2.add j)=some u):=fun W hW=>src_pairs (hs1.later (B1.trans (hW.mono B1.size)))
 have HI2:Hid (∀ W,Below wa.heap.size wa W→safe.length=0∨∃ ad2,a2=some ad2∧∀ j u,(pcells safe)[j]? = some u→W.cell? (ad2.add j)=some u):=fun W hW=>src_pairs (hs2.later (B1.trans (hW.mono B1.size)))
 have HI3:Hid (∀ W,Below wa.heap.size wa W→ops.length=0∨∃ ad2,a3=some ad2∧∀ j u,(dcells ops)[j]? = some u→W.cell? (ad2.add j)=some u):=fun W hW=>src_dops (hs3.later (B1.trans (hW.mono B1.size)))
 have BR:Below wa.heap.size wa wa:=Below.refl _ _
 have HL1:Hid ((pcells live).length=live.length*2):=pcells_length live
 have HL2:Hid ((pcells safe).length=safe.length*2):=pcells_length safe
 have HL3:Hid ((dcells ops).length=ops.length*4):=dcells_length ops
 have HO1:Hid (∀ u∈pcells live,u.oneCell'=true):=files_one live
 have HO2:Hid (∀ u∈pcells safe,u.oneCell'=true):=files_one safe
 have HO3:Hid (∀ u∈dcells ops,u.oneCell'=true):=dcells_one ops
 unfold CPostG
 clear hs1 hs2 hs3
 go_enter Try.func66,Try.ntmps66
 go_wp2_with fail
 rw[←hwa]
 clear hwa
 go_region_held3 (fun w'=>w'.cell? ⟨w.heap.size,0,none⟩=some (.slice a1 live.length c1)∧w'.cell? ⟨w.heap.size,1,none⟩=some (.slice a2 safe.length c2)∧w'.cell? ⟨w.heap.size,2,none⟩=some (.slice a3 ops.length c3))
  (first | with_reducible exact S15.out | exact HC.out _ (by repeat' first | with_reducible exact B14.out | with_reducible exact B10.out | with_reducible exact B6.out | with_reducible exact BR | with_reducible apply below_drew1 | (with_reducible refine below_lit ?_ (Nat.le_refl _) _)))
  (first
   | (refine step_append_grow rfl (.tmp 11) (.tmp 13) 29 rfl 40 j0 (.agg #[.int .i64 0, .string ⟨#[]⟩, .string ⟨#[]⟩, .string ⟨#[]⟩]) 4 56 Try.underlying29 hj0 jz0 jz1 jz2 rfl _ (by rfl) a3 ops.length c3 (dcells ops) (by rfl) HL3.out (HI3.out _ (by repeat' first | with_reducible exact B10.out | with_reducible exact B6.out | with_reducible exact BR | with_reducible apply below_drew1 | (with_reducible refine below_lit ?_ (Nat.le_refl _) _))) HO3.out hl3 (by decide) ?_
      intro a14 k14 w14 r14 n14 b14
      have B14:Hid (Below wa.heap.size wa w14):=below_via (by repeat' first | with_reducible exact B10.out | with_reducible exact B6.out | with_reducible exact BR | with_reducible apply below_drew1 | (with_reducible refine below_lit ?_ (Nat.le_refl _) _)) (Nat.le_refl _) b14
      have V14:Hid (Below w10.heap.size w10 w14):=below_via (by repeat' first | with_reducible exact Below.refl _ _ | with_reducible apply below_drew1 | (with_reducible refine below_lit ?_ (Nat.le_refl _) _)) (Nat.le_refl _) b14
      have G14:Hid (GrowR w14 w10.heap.size 40 4 a14 ops.length k14 (dcells ops) r14):=grow_via (by repeat' first | with_reducible exact Below.refl _ _ | with_reducible apply below_drew1 | (with_reducible refine below_lit ?_ (Nat.le_refl _) _)) (Nat.le_refl _) n14
      have N6c:Hid (NewQ w14 wa.heap.size w10.heap.size a6 (pcells live)):=N6b.out.later V14.out
      have N10b:Hid (NewQ w14 wa.heap.size w10.heap.size a10 (pcells safe)):=N10.out.later V14.out
      have Y14:Hid (w14.heap[w.heap.size+1]? = some (.cells #[.slice none 0 0,.slice none 0 0,.slice none 0 0] 31 (0,0))):=(B14.out.block _ (lt_of_block R1.out)).trans R1.out
      have X14:Hid (w14.heap[w.heap.size]? = some (.cells #[.slice a1 live.length c1,.slice a2 safe.length c2,.slice a3 ops.length c3] 31 (0,0))):=(B14.out.block _ (lt_of_block H1.out)).trans H1.out
      have S15:Hid ((((w14.setCell ⟨w.heap.size+1,0,none⟩ (.slice a6 live.length k6)).setCell ⟨w.heap.size+1,1,none⟩ (.slice a10 safe.length k10)).setCell ⟨w.heap.size+1,2,none⟩ (.slice a14 ops.length k14)).cell? ⟨w.heap.size,0,none⟩=some (.slice a1 live.length c1)∧(((w14.setCell ⟨w.heap.size+1,0,none⟩ (.slice a6 live.length k6)).setCell ⟨w.heap.size+1,1,none⟩ (.slice a10 safe.length k10)).setCell ⟨w.heap.size+1,2,none⟩ (.slice a14 ops.length k14)).cell? ⟨w.heap.size,1,none⟩=some (.slice a2 safe.length c2)∧(((w14.setCell ⟨w.heap.size+1,0,none⟩ (.slice a6 live.length k6)).setCell ⟨w.heap.size+1,1,none⟩ (.slice a10 safe.length k10)).setCell ⟨w.heap.size+1,2,none⟩ (.slice a14 ops.length k14)).cell? ⟨w.heap.size,2,none⟩=some (.slice a3 ops.length c3)):=by
       obtain⟨u0,u1,u2,_⟩:=three_cells ((Below.heap_setCell (w14.setCell ⟨w.heap.size+1,0,none⟩ (.slice a6 live.length k6) |>.setCell ⟨w.heap.size+1,1,none⟩ (.slice a10 safe.length k10)) ⟨w.heap.size+1,2,none⟩ (.slice a14 ops.length k14) w.heap.size (by simp)).trans ((Below.heap_setCell _ _ _ _ (by simp)).trans ((Below.heap_setCell _ _ _ _ (by simp)).trans X14.out)))
       exact⟨u0,u1,u2⟩
      obtain⟨r0,r1,r2,rf⟩:=three_cells Y14.out
      have rf0:=rf 0
      have rf1:=rf 1
      have rf2:=rf 2
      clear n14 b14 rf)
   | (refine step_append_newK rfl (.tmp 7) (.tmp 9) 28 rfl 84 i0 (.agg #[.string ⟨#[]⟩, .string ⟨#[]⟩]) 2 32 Try.underlying28 hi0 hz0 hz1 hz2 rfl (by decide) _ (by rfl) a2 safe.length c2 (pcells safe) (by rfl) HL2.out (HI2.out _ (by repeat' first | with_reducible exact B6.out | with_reducible exact BR | with_reducible apply below_drew1 | (with_reducible refine below_lit ?_ (Nat.le_refl _) _))) HO2.out hl2 (by decide) ?_
      intro a10 k10 w10 n10 A10 b10
      have B10:Hid (Below wa.heap.size wa w10):=below_via (by repeat' first | with_reducible exact B6.out | with_reducible exact BR | with_reducible apply below_drew1 | (with_reducible refine below_lit ?_ (Nat.le_refl _) _)) (Nat.le_refl _) b10
      have N10:Hid (NewQ w10 wa.heap.size w10.heap.size a10 (pcells safe)):=newQ_of (new_via (by repeat' first | with_reducible exact B6.out | with_reducible exact BR | with_reducible apply below_drew1 | (with_reducible refine below_lit ?_ (Nat.le_refl _) _)) (Nat.le_refl _) n10)
      have AD10:Hid (AddrS a10):=addr_newK A10
      have N6b:Hid (NewQ w10 wa.heap.size w10.heap.size a6 (pcells live)):=newQ_of (N6.out.later (below_via (by repeat' first | with_reducible exact Below.refl _ _ | with_reducible apply below_drew1 | (with_reducible refine below_lit ?_ (Nat.le_refl _) _)) (Nat.le_refl _) b10))
      clear n10 b10 A10)
   | (refine step_append_new rfl (.tmp 3) (.tmp 5) 28 rfl 84 i0 (.agg #[.string ⟨#[]⟩, .string ⟨#[]⟩]) 2 32 Try.underlying28 hi0 hz0 hz1 hz2 rfl (by decide) _ (by rfl) a1 live.length c1 (pcells live) (by rfl) HL1.out (HI1.out _ (by repeat' first | with_reducible exact BR | with_reducible apply below_drew1 | (with_reducible refine below_lit ?_ (Nat.le_refl _) _))) HO1.out hl1 (by decide) ?_
      intro a6 k6 w6 n6 A6 b6
      have B6:Hid (Below wa.heap.size wa w6):=below_via (by repeat' first | with_reducible exact BR | with_reducible apply below_drew1 | (with_reducible refine below_lit ?_ (Nat.le_refl _) _)) (Nat.le_refl _) b6
      have N6:Hid (NewR w6 wa.heap.size a6 (pcells live)):=new_via (by repeat' first | with_reducible exact BR | with_reducible apply below_drew1 | (with_reducible refine below_lit ?_ (Nat.le_refl _) _)) (Nat.le_refl _) n6
      have AD6:Hid (AddrOk a6):=addr_new A6
      clear n6 b6 A6))
 all_goals
  have y1:=dk_set (j:=0) (z:=.slice a6 live.length k6) Y14.out
  have y2:=dk_set (j:=1) (z:=.slice a10 safe.length k10) y1
  have y3:=dk_set (j:=2) (z:=.slice a14 ops.length k14) y2
  have HY:Hid (_=_):=y3
  have hb10:=B10.out.size
  have N1:Hid (NewQ (((w14.setCell ⟨w.heap.size+1,0,none⟩ (.slice a6 live.length k6)).setCell ⟨w.heap.size+1,1,none⟩ (.slice a10 safe.length k10)).setCell ⟨w.heap.size+1,2,none⟩ (.slice a14 ops.length k14)) w.heap.size w10.heap.size a6 (pcells live)):=(((N6c.out.setCell _ s1 _).setCell _ s1 _).setCell _ s1 _).lower (by omega) (Nat.le_refl _)
  have N2:Hid (NewQ (((w14.setCell ⟨w.heap.size+1,0,none⟩ (.slice a6 live.length k6)).setCell ⟨w.heap.size+1,1,none⟩ (.slice a10 safe.length k10)).setCell ⟨w.heap.size+1,2,none⟩ (.slice a14 ops.length k14)) w.heap.size w10.heap.size a10 (pcells safe)):=(((N10b.out.setCell _ s1 _).setCell _ s1 _).setCell _ s1 _).lower (by omega) (Nat.le_refl _)
  have s9:w.heap.size+1<w10.heap.size:=by omega
  have N3:Hid (GrowR (((w14.setCell ⟨w.heap.size+1,0,none⟩ (.slice a6 live.length k6)).setCell ⟨w.heap.size+1,1,none⟩ (.slice a10 safe.length k10)).setCell ⟨w.heap.size+1,2,none⟩ (.slice a14 ops.length k14)) w10.heap.size 40 4 a14 ops.length k14 (dcells ops) r14):=((G14.out.setCell _ s9 _).setCell _ s9 _).setCell _ s9 _
  have HBB:Hid (Below w.heap.size w (((w14.setCell ⟨w.heap.size+1,0,none⟩ (.slice a6 live.length k6)).setCell ⟨w.heap.size+1,1,none⟩ (.slice a10 safe.length k10)).setCell ⟨w.heap.size+1,2,none⟩ (.slice a14 ops.length k14))):=(((B1.trans (B14.out.mono B1.size)).setCell (by simp) _).setCell (by simp) _).setCell (by simp) _
  have HSZ:Hid (w10.heap.size≤(((w14.setCell ⟨w.heap.size+1,0,none⟩ (.slice a6 live.length k6)).setCell ⟨w.heap.size+1,1,none⟩ (.slice a10 safe.length k10)).setCell ⟨w.heap.size+1,2,none⟩ (.slice a14 ops.length k14)).heap.size):=by rw[Hid];simpa using V14.out.size
  clear y1 y2 y3 H1 R1 HI1 HI2 HI3 HC
  go_wp2
  exact bodyPost_ret (v:=.agg #[.slice a6 live.length k6,.slice a10 safe.length k10,.slice a14 ops.length k14]) (results_cell_row rfl _ _ (w.heap.size+1) 31 _ (0,0) _ rfl HY.out Try.underlying31 rfl (by kernel_rfl)) rfl ⟨a6,a10,a14,k6,k10,k14,w10.heap.size,r14,rfl,by omega,HSZ.out,N1.out,N2.out,N3.out,AD6.out,AD10.out,HBB.out⟩
end Go.Proofs.Ytlllkdioojjaeaa
