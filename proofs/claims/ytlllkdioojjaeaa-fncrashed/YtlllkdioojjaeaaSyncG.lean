/-
 Contract: Sync of the model; its files may be appended to (written by mkg.py).
-/
import Derived.Test.YtlllkdioojjaeaaGrowE
namespace Go.Proofs.Ytlllkdioojjaeaa
open Go.RowKit
set_option linter.unusedVariables false
def SPostG (W w':World) (e:Ending) (live safe:List PairL) (ops:List DOpL):Prop :=
 ∃ (x1 x2 x3:Option Addr) (k1 k2 k3:Nat),e=.returned (.agg #[.slice x1 live.length k1,.slice x2 safe.length k2,.slice x3 ops.length k3])∧NewR w' W.heap.size x1 (pcells live)∧NewR w' W.heap.size x2 (pcells safe)∧NewR w' W.heap.size x3 (dcells ops)∧Below W.heap.size W w'∧AddrK x1 k1∧AddrK x2 k2∧AddrL x3 k3 ops.length∧LiveF w' W.heap.size x1 live.length k1 (pcells live) x2 (pcells safe) x3 (dcells ops)
set_option maxRecDepth 100000 in
set_option maxHeartbeats 4000000 in
theorem spec_syncG (a1 a2 a3 : Option Addr) (c1 c2 c3 : Nat) (live safe : List PairL) (ops : List DOpL) (w : World) (ha : AddrOk a2) (hl1 : live.length ≤ 1048576) (hm1 : ∀ p ∈ live, p.1.length ≤ 1048576 ∧ p.2.length ≤ 1048576) (hl2 : safe.length ≤ 1048576) (hm2 : ∀ p ∈ safe, p.1.length ≤ 1048576 ∧ p.2.length ≤ 1048576) (hl3 : ops.length ≤ 1048576) (hm3 : ∀ p ∈ ops, p.n.length ≤ 1048576 ∧ p.t.length ≤ 1048576 ∧ p.d.length ≤ 1048576)
 (hs1:IsPairs w a1 live) (hs2:IsPairs w a2 safe) (hs3:IsDOps w a3 ops) :
 Calls Try.prog 23 #[.agg #[.slice a1 live.length c1,.slice a2 safe.length c2,.slice a3 ops.length c3]] w fun e w'=>SPostG w w' e (syncL live safe ops) (syncL live safe ops) []:=by
 obtain⟨i0,hi0,hz0,hz1,hz2⟩:=info_parts infoFile
 obtain⟨wa,hwa⟩:∃ wa,wa=(w.alloc (.cells #[.slice a1 live.length c1,.slice a2 safe.length c2,.slice a3 ops.length c3] 31)).alloc (.cells #[.slice none 0 0,.slice none 0 0,.slice none 0 0] 31):=⟨_,rfl⟩
 have B0:Below w.heap.size w wa:=by rw[hwa];exact ((Below.refl _ _).alloc (Nat.le_refl _) _).alloc (by simp) _
 have s0:wa.heap.size=w.heap.size+2:=by rw[hwa];simp
 have H0:Hid (wa.heap[w.heap.size]? = some (.cells #[.slice a1 live.length c1,.slice a2 safe.length c2,.slice a3 ops.length c3] 31 (0,0))):=by rw[hwa,Hid,Below.heap_alloc _ _ _ (by simp)];exact heap_alloc_new w _
 have R0:Hid (wa.heap[w.heap.size+1]? = some (.cells #[.slice none 0 0,.slice none 0 0,.slice none 0 0] 31 (0,0))):=by
  rw[hwa,Hid]
  have:=heap_alloc_new (w.alloc (.cells #[.slice a1 live.length c1,.slice a2 safe.length c2,.slice a3 ops.length c3] 31)) (.cells #[.slice none 0 0,.slice none 0 0,.slice none 0 0] 31)
  simpa using this
 obtain⟨p0,p1,p2,_⟩:=three_cells H0.out
 have KD:=spec_diskOk a1 a2 a3 c1 c2 c3 live safe ops wa ha hl1 hm1 hl2 hm2 hl3 hm3 (hs1.later B0) (hs2.later B0) (hs3.later B0)
 have HIS:Hid (∀ W,Below w.heap.size w W→IsPairs W a1 live):=fun W hW=>hs1.later hW
 have HSY:Hid (syncL live safe ops=if diskOk live safe ops=true then live else []):=rfl
 obtain⟨dk,hdk⟩:∃ dk,dk=diskOk live safe ops:=⟨_,rfl⟩
 obtain⟨sy,hsy⟩:∃ sy,sy=syncL live safe ops:=⟨_,rfl⟩
 rw[←hdk] at KD HSY
 rw[←hsy] at HSY ⊢
 unfold SPostG
 rw[hwa] at KD p0 p1 p2
 clear hs1 hs2 hs3 hm1 hm2 hm3 hdk hsy
 go_enter Try.func23,Try.ntmps23
 go_wp2_with fail
 refine KD.mono ?_
 rintro e w1 ⟨rfl,b1⟩
 rw[←hwa] at b1
 have B1:=B0.trans (b1.mono B0.size)
 have H1:Hid (w1.heap[w.heap.size]? = some (.cells #[.slice a1 live.length c1,.slice a2 safe.length c2,.slice a3 ops.length c3] 31 (0,0))):=(b1.block _ (lt_of_block H0.out)).trans H0.out
 have R1:Hid (w1.heap[w.heap.size+1]? = some (.cells #[.slice none 0 0,.slice none 0 0,.slice none 0 0] 31 (0,0))):=(b1.block _ (lt_of_block R0.out)).trans R0.out
 have s1:w.heap.size+1<w1.heap.size:=lt_of_block R1.out
 clear p0 p1 p2 KD b1 H0 R0 B0 hwa s0
 cases dk with
 | false =>
   have e1:sy=[]:=by rw[HSY.out];rfl
   subst e1
   obtain⟨r0,r1,r2,rf⟩:=three_cells R1.out
   have rf0:=rf 0
   have rf1:=rf 1
   have rf2:=rf 2
   have y1:=dk_set (j:=0) (z:=.slice none 0 0) R1.out
   have y2:=dk_set (j:=1) (z:=.slice none 0 0) y1
   have y3:=dk_set (j:=2) (z:=.slice none 0 0) y2
   have HY:Hid (_=_):=y3
   have HBB:Hid (Below w.heap.size w (((w1.setCell ⟨w.heap.size+1,0,none⟩ (.slice none 0 0)).setCell ⟨w.heap.size+1,1,none⟩ (.slice none 0 0)).setCell ⟨w.heap.size+1,2,none⟩ (.slice none 0 0))):=((B1.setCell (by simp) _).setCell (by simp) _).setCell (by simp) _
   clear y1 y2 y3 rf HSY H1 R1 HIS
   go_wp2
   exact bodyPost_ret (v:=.agg #[.slice none 0 0,.slice none 0 0,.slice none 0 0]) (results_cell_row rfl _ _ (w.heap.size+1) 31 _ (0,0) _ rfl HY.out Try.underlying31 rfl (by kernel_rfl)) rfl ⟨none,none,none,0,0,0,rfl,.inl rfl,.inl rfl,.inl rfl,HBB.out,.inl ⟨rfl,rfl⟩,.inl ⟨rfl,rfl⟩,⟨.inl ⟨rfl,rfl⟩,Nat.le_refl _⟩,_,.inr ⟨World.ownsRow_nil _ _ _ _,rfl⟩,fun q hq=>by simp[Value.ownBlock] at hq⟩
 | true =>
   have e1:sy=live:=by rw[HSY.out];rfl
   subst e1
   have HC:Hid (∀ W,Below w1.heap.size w1 W→W.cell? ⟨w.heap.size,0,none⟩=some (.slice a1 sy.length c1)):=fun W hW=>(three_cells ((hW.block _ (lt_of_block H1.out)).trans H1.out)).1
   have HI1:Hid (∀ W,Below w1.heap.size w1 W→sy.length=0∨∃ ad2,a1=some ad2∧∀ j u,(pcells sy)[j]? = some u→W.cell? (ad2.add j)=some u):=fun W hW=>src_pairs (HIS.out W (B1.trans (hW.mono B1.size)))
   have BR:Below w1.heap.size w1 w1:=Below.refl _ _
   have HPL:Hid ((pcells sy).length=sy.length*2):=pcells_length sy
   have HP1:Hid (∀ u∈pcells sy,u.oneCell'=true):=files_one sy
   clear HSY
   go_wp2_with fail
   go_region_held3 (fun w'=>w'.cell? ⟨w.heap.size,0,none⟩=some (.slice a1 sy.length c1))
    (first | with_reducible exact S15.out | exact HC.out _ (by repeat' first | with_reducible exact B14.out | with_reducible exact B10.out | with_reducible exact BR | with_reducible apply below_drew1 | (with_reducible refine below_lit ?_ (Nat.le_refl _) _)))
    (first
     | (refine step_append_newK rfl (.tmp 11) (.tmp 13) 28 rfl 84 i0 (.agg #[.string ⟨#[]⟩, .string ⟨#[]⟩]) 2 32 Try.underlying28 hi0 hz0 hz1 hz2 rfl (by decide) _ (by rfl) a1 sy.length c1 (pcells sy) (by rfl) HPL.out (HI1.out _ (by repeat' first | with_reducible exact B10.out | with_reducible exact BR | with_reducible apply below_drew1 | (with_reducible refine below_lit ?_ (Nat.le_refl _) _))) HP1.out hl1 (by decide) ?_
        intro a14 k14 w14 n14 A14 b14
        have B14:Hid (Below w1.heap.size w1 w14):=below_via (by repeat' first | with_reducible exact B10.out | with_reducible exact BR | with_reducible apply below_drew1 | (with_reducible refine below_lit ?_ (Nat.le_refl _) _)) (Nat.le_refl _) b14
        have N14:Hid (NewR w14 w1.heap.size a14 (pcells sy)):=new_via (by repeat' first | with_reducible exact B10.out | with_reducible exact BR | with_reducible apply below_drew1 | (with_reducible refine below_lit ?_ (Nat.le_refl _) _)) (Nat.le_refl _) n14
        have N10b:Hid (NewR w14 w1.heap.size a10 (pcells sy)):=N10.out.later (below_via (by repeat' first | with_reducible exact Below.refl _ _ | with_reducible apply below_drew1 | (with_reducible refine below_lit ?_ (Nat.le_refl _) _)) (Nat.le_refl _) b14)
        have Y14:Hid (w14.heap[w.heap.size+1]? = some (.cells #[.slice none 0 0,.slice none 0 0,.slice none 0 0] 31 (0,0))):=(B14.out.block _ (lt_of_block R1.out)).trans R1.out
        have X14:Hid (w14.heap[w.heap.size]? = some (.cells #[.slice a1 sy.length c1,.slice a2 safe.length c2,.slice a3 ops.length c3] 31 (0,0))):=(B14.out.block _ (lt_of_block H1.out)).trans H1.out
        have S15:Hid ((((w14.setCell ⟨w.heap.size+1,0,none⟩ (.slice a10 sy.length k10)).setCell ⟨w.heap.size+1,1,none⟩ (.slice a14 sy.length k14)).setCell ⟨w.heap.size+1,2,none⟩ (.slice none 0 0)).cell? ⟨w.heap.size,0,none⟩=some (.slice a1 sy.length c1)):=(three_cells ((Below.heap_setCell _ _ _ _ (by simp)).trans ((Below.heap_setCell _ _ _ _ (by simp)).trans ((Below.heap_setCell _ _ _ _ (by simp)).trans X14.out)))).1
        obtain⟨r0,r1,r2,rf⟩:=three_cells Y14.out
        have rf0:=rf 0
        have rf1:=rf 1
        have rf2:=rf 2
        have G14:Hid (GrowR w14 w1.heap.size 84 2 a10 sy.length k10 (pcells sy) r10):=G10.out.later (below_via (by repeat' first | with_reducible exact Below.refl _ _ | with_reducible apply below_drew1 | (with_reducible refine below_lit ?_ (Nat.le_refl _) _)) (Nat.le_refl _) b14)
        have AS14:Hid (AddrS a14):=addr_newK A14
        have N14f:Hid (NewR w14 w10.heap.size a14 (pcells sy)):=new_via (by repeat' first | with_reducible exact Below.refl _ _ | with_reducible apply below_drew1 | (with_reducible refine below_lit ?_ (Nat.le_refl _) _)) (Nat.le_refl _) n14
        clear n14 b14 rf A14)
     | (refine step_append_growK rfl (.tmp 7) (.tmp 9) 28 rfl 84 i0 (.agg #[.string ⟨#[]⟩, .string ⟨#[]⟩]) 2 32 Try.underlying28 hi0 hz0 hz1 hz2 rfl _ (by rfl) a1 sy.length c1 (pcells sy) (by rfl) HPL.out (HI1.out _ (by repeat' first | with_reducible exact BR | with_reducible apply below_drew1 | (with_reducible refine below_lit ?_ (Nat.le_refl _) _))) HP1.out hl1 (by decide) ?_
        intro a10 k10 w10 r10 g10 A10 b10
        have B10:Hid (Below w1.heap.size w1 w10):=below_via (by repeat' first | with_reducible exact BR | with_reducible apply below_drew1 | (with_reducible refine below_lit ?_ (Nat.le_refl _) _)) (Nat.le_refl _) b10
        have N10:Hid (NewR w10 w1.heap.size a10 (pcells sy)):=new_via (by repeat' first | with_reducible exact BR | with_reducible apply below_drew1 | (with_reducible refine below_lit ?_ (Nat.le_refl _) _)) (Nat.le_refl _) g10.new
        have G10:Hid (GrowR w10 w1.heap.size 84 2 a10 sy.length k10 (pcells sy) r10):=g10.lower (by exact (show Below w1.heap.size w1 _ by repeat' first | with_reducible exact BR | with_reducible apply below_drew1 | (with_reducible refine below_lit ?_ (Nat.le_refl _) _)).size)
        have AS10:Hid (AddrS a10):=addr_newK A10
        have LT10:Hid (∀ q,r10=some q→q<w10.heap.size):=fun q hq=>(g10.lt q hq).2
        clear g10 A10 b10))
   all_goals
    have y1:=dk_set (j:=0) (z:=.slice a10 sy.length k10) Y14.out
    have y2:=dk_set (j:=1) (z:=.slice a14 sy.length k14) y1
    have y3:=dk_set (j:=2) (z:=.slice none 0 0) y2
    have HY:Hid (_=_):=y3
    have N1:Hid (NewR (((w14.setCell ⟨w.heap.size+1,0,none⟩ (.slice a10 sy.length k10)).setCell ⟨w.heap.size+1,1,none⟩ (.slice a14 sy.length k14)).setCell ⟨w.heap.size+1,2,none⟩ (.slice none 0 0)) w.heap.size a10 (pcells sy)):=(((N10b.out.setCell _ s1 _).setCell _ s1 _).setCell _ s1 _).lower (by omega)
    have N2:Hid (NewR (((w14.setCell ⟨w.heap.size+1,0,none⟩ (.slice a10 sy.length k10)).setCell ⟨w.heap.size+1,1,none⟩ (.slice a14 sy.length k14)).setCell ⟨w.heap.size+1,2,none⟩ (.slice none 0 0)) w.heap.size a14 (pcells sy)):=(((N14.out.setCell _ s1 _).setCell _ s1 _).setCell _ s1 _).lower (by omega)
    have HBB:Hid (Below w.heap.size w (((w14.setCell ⟨w.heap.size+1,0,none⟩ (.slice a10 sy.length k10)).setCell ⟨w.heap.size+1,1,none⟩ (.slice a14 sy.length k14)).setCell ⟨w.heap.size+1,2,none⟩ (.slice none 0 0))):=(((B1.trans (B14.out.mono B1.size)).setCell (by simp) _).setCell (by simp) _).setCell (by simp) _
    have GL:Hid (LiveF (((w14.setCell ⟨w.heap.size+1,0,none⟩ (.slice a10 sy.length k10)).setCell ⟨w.heap.size+1,1,none⟩ (.slice a14 sy.length k14)).setCell ⟨w.heap.size+1,2,none⟩ (.slice none 0 0)) w.heap.size a10 sy.length k10 (pcells sy) a14 (pcells sy) none (dcells [])):=⟨r10,(((G14.out.setCell _ s1 _).setCell _ s1 _).setCell _ s1 _).lower (by omega),fun q hq=>⟨N14f.out.far (LT10.out q hq),.inl rfl⟩⟩
    clear y1 y2 y3 H1 R1 HIS HI1 HC G14 G10
    go_wp2
    exact bodyPost_ret (v:=.agg #[.slice a10 sy.length k10,.slice a14 sy.length k14,.slice none 0 0]) (results_cell_row rfl _ _ (w.heap.size+1) 31 _ (0,0) _ rfl HY.out Try.underlying31 rfl (by kernel_rfl)) rfl ⟨a10,a14,none,k10,k14,0,rfl,N1.out,N2.out,.inl rfl,HBB.out,.inr AS10.out,.inr AS14.out,⟨.inl ⟨rfl,rfl⟩,Nat.le_refl _⟩,GL.out⟩
end Go.Proofs.Ytlllkdioojjaeaa
