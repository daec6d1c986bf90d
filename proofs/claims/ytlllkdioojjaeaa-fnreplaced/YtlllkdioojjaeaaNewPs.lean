/-
 Texts that are laid as one: NewP, SyncS, AppP, ClF, AppD, ClD, SyncI, GrowD.
-/
import Derived.Test.YtlllkdioojjaeaaDOpA
import Derived.Test.YtlllkdioojjaeaaMapFs
import Derived.Deep.RegionHeld3
import Derived.Test.YtlllkdioojjaeaaDkMath
import Derived.Laws.AppendOwnNone
import Derived.Test.YtlllkdioojjaeaaIDiskOk
namespace Go.Proofs.Ytlllkdioojjaeaa
open Go.RowKit
set_option linter.unusedVariables false
def NewR (W:World) (base:Nat) (a:Option Addr) (xs:List Value):Prop:=xs=[]∨∃ g,a=some ⟨g,0,none⟩∧base≤g∧g<W.heap.size∧∀ j,j<xs.length→W.cell? ⟨g,j,none⟩=xs[j]?
theorem NewR.kept {W W':World} {base:Nat} {a:Option Addr} {xs:List Value} {row:Option Nat} (h:NewR W base a xs) (hg:W.grownBy W' row) (hr:∀ g,base≤g→g<W.heap.size→a=some ⟨g,0,none⟩→some g≠row):NewR W' base a xs:=by
 rcases h with h | ⟨g,rfl,h1,h2,h3⟩
 · exact .inl h
 · exact .inr ⟨g,rfl,h1,Nat.lt_of_lt_of_le h2 hg.size,fun j hj=>by rw[World.cell?_of_block (w:=W) (a:=⟨g,j,none⟩) (hg.block g h2 (hr g h1 h2 rfl))];exact h3 j hj⟩
theorem NewR.later {W W':World} {base:Nat} {a:Option Addr} {xs:List Value} (h:NewR W base a xs) (hb:Below W.heap.size W W'):NewR W' base a xs :=
 h.kept (row:=none) ⟨hb.os,hb.tape,hb.output,hb.size,fun k hk _=>hb.block k hk⟩ (fun _ _ _ _=>by simp)
theorem NewR.lower {W:World} {base base':Nat} {a:Option Addr} {xs:List Value} (h:NewR W base a xs) (hb:base'≤base):NewR W base' a xs:=by
 rcases h with h | ⟨g,h0,h1,h2,h3⟩
 · exact .inl h
 · exact .inr ⟨g,h0,Nat.le_trans hb h1,h2,h3⟩
theorem NewR.pairs {W:World} {base:Nat} {a:Option Addr} {ps:List PairL} (h:NewR W base a (pcells ps)):IsPairs W a ps:=by
 rcases h with h | ⟨g,h0,h1,h2,h3⟩
 · have:(pcells ps).length=0:=by rw[h];rfl
   rw[pcells_length] at this
   exact .inl (List.length_eq_zero_iff.1 (by omega))
 · refine .inr ⟨g,0,h0,fun j hj=>?_⟩
   have hp:=pcells_at ps j hj
   rw[Nat.zero_add]
   exact⟨(h3 (j*2) (by rw[pcells_length];omega)).trans hp.1,(h3 (j*2+1) (by rw[pcells_length];omega)).trans hp.2⟩
theorem NewR.dops {W:World} {base:Nat} {a:Option Addr} {ps:List DOpL} (h:NewR W base a (dcells ps)):IsDOps W a ps:=by
 rcases h with h | ⟨g,h0,h1,h2,h3⟩
 · have:(dcells ps).length=0:=by rw[h];rfl
   rw[dcells_length] at this
   exact .inl (List.length_eq_zero_iff.1 (by omega))
 · refine .inr ⟨g,0,h0,fun j hj=>?_⟩
   have hp:=dcells_at ps j hj
   rw[Nat.zero_add]
   exact⟨(h3 (j*4) (by rw[dcells_length];omega)).trans hp.1,(h3 (j*4+1) (by rw[dcells_length];omega)).trans hp.2.1,(h3 (j*4+2) (by rw[dcells_length];omega)).trans hp.2.2.1,(h3 (j*4+3) (by rw[dcells_length];omega)).trans hp.2.2.2⟩
theorem newR_own {W:World} {base e size n:Nat} {a:Option Addr} {m c:Nat} {xs:List Value} (h:W.ownsRow base e size (.slice a m c) n xs):NewR W base a xs:=by
 rcases h.2 with ⟨h',h0⟩ | ⟨g,cap',cur,h',hb,hg,_⟩
 · cases h'
   exact .inl (List.length_eq_zero_iff.1 (by rw[h.1,h0];simp))
 · cases h'
   exact .inr ⟨g,rfl,hb,lt_of_block hg,fun j hj=>h.cellAt j (by rw[←h.1];exact hj)⟩
theorem below_lit {B:Nat} {w W:World} (h:Below B w W) (hB:B≤w.heap.size) (o:Obj):Below B w (W.alloc o):=h.alloc (Nat.le_trans hB h.size) o
theorem below_drew1 {B:Nat} {w W:World} (h:Below B w W):Below B w W.drew:=⟨h.os,h.tape,h.output,h.size,h.block⟩
theorem step_append_new {P:Program} {W:World} {ops:Array Oper} {o:Oper} {a:Act} {K:Act→World→Prop} {Q:Exit→Act→World→Prop} {E:Prop} (hgd:o.guard=none) (s x:Operand) (t:TypeId)
 (ho:o.op=.call { callee:=.builtin .append,args:=#[s,x],argTypes:=#[t,t] })
 (e:TypeId) (i:TypeInfo) (z:Value) (size bytes:Nat) (ht:P.underlying t=some (.slice e)) (hi:P.info? e=some i) (hz:i.zero=some z)
 (hsize:i.size=size) (hby:i.bytes=bytes) (hzs:z.cells.size=size) (hsz:0<size)
 (ad:Addr) (hs:a.eval s=.slice (some ad) 0 0)
 (a2:Option Addr) (m c:Nat) (xs:List Value) (hx:a.eval x=.slice a2 m c) (hl:xs.length=m*size) (hcs:m=0∨∃ ad2,a2=some ad2∧∀ j u,xs[j]? = some u→W.cell? (ad2.add j)=some u) (h1:∀ u∈xs,u.oneCell'=true)
 (h63:m≤1048576) (hbytes:bytes≤64)
 (h:∀ a' c' w',NewR w' W.heap.size a' xs→(a'=none∨∃ b off,a'=some ⟨b,off,none⟩)∨a'=some ad→Below W.heap.size W w'→K (a.put o.dst (.slice a' m c')) w') :
 if Region.wanted o (yielded ops a.tmps)=true then Oper.wp P o a W K Q else E:=by
 rcases hcs with h0 | ⟨ad2,rfl,hcs⟩
 · subst h0
   have hxn:xs=[]:=List.length_eq_zero_iff.1 (by rw[hl];simp)
   subst hxn
   have hsrc:Src P i.size t (.slice a2 0 c) 0 [] W:=by
    cases a2 with
    | none=>exact Src.ofNil W ht c
    | some ad2=>exact Src.ofSlice W ht ad2 0 c [] (by simp) (by simp) (by simp)
   exact step_append_run hgd s x t t ho _ _ _ hs hx (fun ty=>run_append_nothing W t t ty e i ht hi (some ad) 0 0 (Nat.le_refl _) _ hsrc) (h (some ad) 0 W (.inl rfl) (.inr rfl) (Below.refl _ _))
 · by_cases h0:m=0
   · subst h0
     have hxn:xs=[]:=List.length_eq_zero_iff.1 (by rw[hl];simp)
     subst hxn
     exact step_append_run hgd s x t t ho _ _ _ hs hx (fun ty=>run_append_nothing W t t ty e i ht hi (some ad) 0 0 (Nat.le_refl _) _ (Src.ofSlice W ht ad2 0 c [] (by simp) (by simp) (by simp))) (h (some ad) 0 W (.inl rfl) (.inr rfl) (Below.refl _ _))
   · have hsrc:Src P i.size t (.slice (some ad2) m c) m xs W:=Src.ofSlice W ht ad2 m c xs (by rw[hsize];exact hl) hcs h1
     have hge:=grownCap_ge W (0+m) 0 e
     have hrun:=fun ty=>run_append_grow_src W t t ty e i z ht hi hz (some ad) 0 0 [] (run_firstCells_some W.drew i.size 0 ad 0 0 [] (by simp) (by simp)) (.slice (some ad2) m c) m xs hsrc (by omega) (by omega) (growslice_fits (by omega) (by rw[hby];have:=Nat.mul_le_mul (Nat.le_of_eq (Nat.zero_add m)) hbytes;omega))
     refine step_append_run hgd s x t t ho _ _ _ hs hx hrun ?_
     rw[Nat.zero_add]
     refine h _ _ _ (.inr ⟨W.heap.size,rfl,Nat.le_refl _,by simp,fun j hj=>?_⟩) (.inl (.inr ⟨_,_,rfl⟩)) ⟨rfl,rfl,rfl,by simp,fun k hk=>heap_alloc_old W.drew _ hk⟩
     have hblk:=heap_alloc_new W.drew (.cells (([] ++ xs).toArray ++ Builtin.zeroCells z.cells (grownCap W m 0 e - m)) e)
     have e1:W.drew.heap.size=W.heap.size:=rfl
     rw[e1] at hblk
     rw[cell_of_row _ _ j _ _ _ hblk,Array.getElem?_append_left (by simpa using hj)]
     simp
theorem src_pairs {W:World} {a:Option Addr} {ps:List PairL} (h:IsPairs W a ps):ps.length=0∨∃ ad2,a=some ad2∧∀ j u,(pcells ps)[j]? = some u→W.cell? (ad2.add j)=some u:=by
 rcases h with rfl | ⟨b,off,rfl,hc⟩
 · exact .inl rfl
 · exact .inr ⟨_,rfl,files_flat (.inr ⟨b,off,rfl,hc⟩)⟩
theorem src_dops {W:World} {a:Option Addr} {ps:List DOpL} (h:IsDOps W a ps):ps.length=0∨∃ ad2,a=some ad2∧∀ j u,(dcells ps)[j]? = some u→W.cell? (ad2.add j)=some u:=by
 rcases h with rfl | ⟨b,off,rfl,hc⟩
 · exact .inl rfl
 · refine .inr ⟨_,rfl,fun j u hu=>?_⟩
   have hj:j<ps.length*4:=by
    have:=(List.getElem?_eq_some_iff.1 hu).1
    rwa [dcells_length] at this
   have hc':=hc (j / 4) (by omega)
   have hp:=dcells_at ps (j / 4) (by omega)
   have hadd:∀ x:Nat,(⟨b,off,none⟩:Addr).add x=⟨b,off+x,none⟩:=fun x=>by
    by_cases e:x=0
    · subst e;simp[Addr.add]
    · simp[Addr.add,e]
   rw[hadd]
   have hm:j % 4=0∨j % 4=1∨j % 4=2∨j % 4=3:=by omega
   rcases hm with h0 | h0 | h0 | h0
   · have e:j=j / 4*4:=by omega
     rw[e] at hu ⊢
     rw[hp.1] at hu
     rw[hc'.1,hu]
   · have e:j=j / 4*4+1:=by omega
     rw[e] at hu ⊢
     rw[hp.2.1] at hu
     rw[show off+(j / 4*4+1)=off+j / 4*4+1 by omega,hc'.2.1,hu]
   · have e:j=j / 4*4+2:=by omega
     rw[e] at hu ⊢
     rw[hp.2.2.1] at hu
     rw[show off+(j / 4*4+2)=off+j / 4*4+2 by omega,hc'.2.2.1,hu]
   · have e:j=j / 4*4+3:=by omega
     rw[e] at hu ⊢
     rw[hp.2.2.2] at hu
     rw[show off+(j / 4*4+3)=off+j / 4*4+3 by omega,hc'.2.2.2,hu]
theorem dcells_one (qs:List DOpL):∀ u∈dcells qs,u.oneCell'=true:=by
 induction qs with
 | nil=>simp[dcells]
 | cons p l ih=>simpa [dcells,Value.oneCell'] using ih
theorem NewR.setCell {W:World} {base:Nat} {a:Option Addr} {xs:List Value} (h:NewR W base a xs) (p:Addr) (hp:p.block<base) (v:Value):NewR (W.setCell p v) base a xs:=by
 rcases h with h | ⟨g,rfl,h1,h2,h3⟩
 · exact .inl h
 · exact .inr ⟨g,rfl,h1,by simpa using h2,fun j hj=>by rw[World.cell?_of_block (w:=W) (a:=⟨g,j,none⟩) (Below.heap_setCell _ _ _ _ (by simp;omega))];exact h3 j hj⟩
theorem below_via {B:Nat} {w W W':World} (h1:Below B w W) (hB:B≤w.heap.size) (h2:Below W.heap.size W W'):Below B w W':=h1.trans (h2.mono (Nat.le_trans hB h1.size))
theorem new_via {B:Nat} {w W W':World} {a:Option Addr} {xs:List Value} (h1:Below B w W) (hB:B≤w.heap.size) (h2:NewR W' W.heap.size a xs):NewR W' B a xs:=h2.lower (Nat.le_trans hB h1.size)
def SPost (W w':World) (e:Ending) (live safe:List PairL) (ops:List DOpL):Prop :=
 ∃ (x1 x2 x3:Option Addr) (k1 k2 k3:Nat),e=.returned (.agg #[.slice x1 live.length k1,.slice x2 safe.length k2,.slice x3 ops.length k3])∧NewR w' W.heap.size x1 (pcells live)∧NewR w' W.heap.size x2 (pcells safe)∧NewR w' W.heap.size x3 (dcells ops)∧Below W.heap.size W w'
def syncL (live safe:List PairL) (ops:List DOpL):List PairL:=if diskOk live safe ops=true then live else []
set_option maxRecDepth 100000 in
set_option maxHeartbeats 4000000 in
theorem spec_sync (a1 a2 a3 : Option Addr) (c1 c2 c3 : Nat) (live safe : List PairL) (ops : List DOpL) (w : World) (ha : AddrOk a2) (hl1 : live.length ≤ 1048576) (hm1 : ∀ p ∈ live, p.1.length ≤ 1048576 ∧ p.2.length ≤ 1048576) (hl2 : safe.length ≤ 1048576) (hm2 : ∀ p ∈ safe, p.1.length ≤ 1048576 ∧ p.2.length ≤ 1048576) (hl3 : ops.length ≤ 1048576) (hm3 : ∀ p ∈ ops, p.n.length ≤ 1048576 ∧ p.t.length ≤ 1048576 ∧ p.d.length ≤ 1048576)
 (hs1:IsPairs w a1 live) (hs2:IsPairs w a2 safe) (hs3:IsDOps w a3 ops) :
 Calls Try.prog 23 #[.agg #[.slice a1 live.length c1,.slice a2 safe.length c2,.slice a3 ops.length c3]] w fun e w'=>SPost w w' e (syncL live safe ops) (syncL live safe ops) []:=by
 obtain⟨i0,hi0,hz0,hz1,hz2⟩:=info_parts infoFile
 obtain⟨wa,hwa⟩:∃ wa,wa=(w.alloc (.cells #[.slice a1 live.length c1,.slice a2 safe.length c2,.slice a3 ops.length c3] 31)).alloc (.cells #[.slice none 0 0,.slice none 0 0,.slice none 0 0] 31):=⟨_,rfl⟩
 have B0:Below w.heap.size w wa:=by rw[hwa];exact ((Below.refl _ _).alloc (Nat.le_refl _) _).alloc (by simp) _
 have s0:wa.heap.size=w.heap.size+2:=by rw[hwa];simp
 have H0:Hid (wa.heap[w.heap.size]? = some (.cells #[.slice a1 live.length c1,.slice a2 safe.length c2,.slice a3 ops.length c3] 31 (0,0))):=by rw[hwa,Hid,Below.heap_alloc _ _ _ (by simp)];exact heap_alloc_new w _
 have R0:Hid (wa.heap[w.heap.size+1]? = some (.cells #[.slice none 0 0,.slice none 0 0,.slice none 0 0] 31 (0,0))):=by
  rw[hwa,Hid]
  have:=heap_alloc_new (w.alloc (.cells #[.slice a1 live.length c1,.slice a2 safe.length c2,.slice a3 ops.length c3] 31)) (.cells #[.slice none 0 0,.slice none 0 0,.slice none 0 0] 31)
  simpa using this
 obtain⟨p0,p1,p2,_⟩:=three_cells H0.out
 have KD:=spec_diskOk a1 a2 a3 c1 c2 c3 live safe ops wa ha hl1 hm1 hl2 hm2 hl3 hm3 (hs1.later B0) (hs2.later B0) (hs3.later B0)
 have HIS:Hid (∀ W,Below w.heap.size w W→IsPairs W a1 live):=fun W hW=>hs1.later hW
 have HSY:Hid (syncL live safe ops=if diskOk live safe ops=true then live else []):=rfl
 obtain⟨dk,hdk⟩:∃ dk,dk=diskOk live safe ops:=⟨_,rfl⟩
 obtain⟨sy,hsy⟩:∃ sy,sy=syncL live safe ops:=⟨_,rfl⟩
 rw[←hdk] at KD HSY
 rw[←hsy] at HSY ⊢
 unfold SPost
 rw[hwa] at KD p0 p1 p2
 clear hs1 hs2 hs3 hm1 hm2 hm3 hdk hsy
 go_enter Try.func23,Try.ntmps23
 go_wp2_with fail
 refine KD.mono ?_
 rintro e w1 ⟨rfl,b1⟩
 rw[←hwa] at b1
 have B1:=B0.trans (b1.mono B0.size)
 have H1:Hid (w1.heap[w.heap.size]? = some (.cells #[.slice a1 live.length c1,.slice a2 safe.length c2,.slice a3 ops.length c3] 31 (0,0))):=(b1.block _ (lt_of_block H0.out)).trans H0.out
 have R1:Hid (w1.heap[w.heap.size+1]? = some (.cells #[.slice none 0 0,.slice none 0 0,.slice none 0 0] 31 (0,0))):=(b1.block _ (lt_of_block R0.out)).trans R0.out
 have s1:w.heap.size+1<w1.heap.size:=lt_of_block R1.out
 clear p0 p1 p2 KD b1 H0 R0 B0 hwa s0
 cases dk with
 | false =>
   have e1:sy=[]:=by rw[HSY.out];rfl
   subst e1
   obtain⟨r0,r1,r2,rf⟩:=three_cells R1.out
   have rf0:=rf 0
   have rf1:=rf 1
   have rf2:=rf 2
   have y1:=dk_set (j:=0) (z:=.slice none 0 0) R1.out
   have y2:=dk_set (j:=1) (z:=.slice none 0 0) y1
   have y3:=dk_set (j:=2) (z:=.slice none 0 0) y2
   have HY:Hid (_=_):=y3
   have HBB:Hid (Below w.heap.size w (((w1.setCell ⟨w.heap.size+1,0,none⟩ (.slice none 0 0)).setCell ⟨w.heap.size+1,1,none⟩ (.slice none 0 0)).setCell ⟨w.heap.size+1,2,none⟩ (.slice none 0 0))):=((B1.setCell (by simp) _).setCell (by simp) _).setCell (by simp) _
   clear y1 y2 y3 rf HSY H1 R1 HIS
   go_wp2
   exact bodyPost_ret (v:=.agg #[.slice none 0 0,.slice none 0 0,.slice none 0 0]) (results_cell_row rfl _ _ (w.heap.size+1) 31 _ (0,0) _ rfl HY.out Try.underlying31 rfl (by kernel_rfl)) rfl ⟨none,none,none,0,0,0,rfl,.inl rfl,.inl rfl,.inl rfl,HBB.out⟩
 | true =>
   have e1:sy=live:=by rw[HSY.out];rfl
   subst e1
   have HC:Hid (∀ W,Below w1.heap.size w1 W→W.cell? ⟨w.heap.size,0,none⟩=some (.slice a1 sy.length c1)):=fun W hW=>(three_cells ((hW.block _ (lt_of_block H1.out)).trans H1.out)).1
   have HI1:Hid (∀ W,Below w1.heap.size w1 W→sy.length=0∨∃ ad2,a1=some ad2∧∀ j u,(pcells sy)[j]? = some u→W.cell? (ad2.add j)=some u):=fun W hW=>src_pairs (HIS.out W (B1.trans (hW.mono B1.size)))
   have BR:Below w1.heap.size w1 w1:=Below.refl _ _
   have HPL:Hid ((pcells sy).length=sy.length*2):=pcells_length sy
   have HP1:Hid (∀ u∈pcells sy,u.oneCell'=true):=files_one sy
   clear HSY
   go_wp2_with fail
   go_region_held3 (fun w'=>w'.cell? ⟨w.heap.size,0,none⟩=some (.slice a1 sy.length c1))
    (first | with_reducible exact S15.out | exact HC.out _ (by repeat' first | with_reducible exact B14.out | with_reducible exact B10.out | with_reducible exact BR | with_reducible apply below_drew1 | (with_reducible refine below_lit ?_ (Nat.le_refl _) _)))
    (first
     | (refine step_append_new rfl (.tmp 11) (.tmp 13) 28 rfl 84 i0 (.agg #[.string ⟨#[]⟩, .string ⟨#[]⟩]) 2 32 Try.underlying28 hi0 hz0 hz1 hz2 rfl (by decide) _ (by rfl) a1 sy.length c1 (pcells sy) (by rfl) HPL.out (HI1.out _ (by repeat' first | with_reducible exact B10.out | with_reducible exact BR | with_reducible apply below_drew1 | (with_reducible refine below_lit ?_ (Nat.le_refl _) _))) HP1.out hl1 (by decide) ?_
        intro a14 k14 w14 n14 _ b14
        have B14:Hid (Below w1.heap.size w1 w14):=below_via (by repeat' first | with_reducible exact B10.out | with_reducible exact BR | with_reducible apply below_drew1 | (with_reducible refine below_lit ?_ (Nat.le_refl _) _)) (Nat.le_refl _) b14
        have N14:Hid (NewR w14 w1.heap.size a14 (pcells sy)):=new_via (by repeat' first | with_reducible exact B10.out | with_reducible exact BR | with_reducible apply below_drew1 | (with_reducible refine below_lit ?_ (Nat.le_refl _) _)) (Nat.le_refl _) n14
        have N10b:Hid (NewR w14 w1.heap.size a10 (pcells sy)):=N10.out.later (below_via (by repeat' first | with_reducible exact Below.refl _ _ | with_reducible apply below_drew1 | (with_reducible refine below_lit ?_ (Nat.le_refl _) _)) (Nat.le_refl _) b14)
        have Y14:Hid (w14.heap[w.heap.size+1]? = some (.cells #[.slice none 0 0,.slice none 0 0,.slice none 0 0] 31 (0,0))):=(B14.out.block _ (lt_of_block R1.out)).trans R1.out
        have X14:Hid (w14.heap[w.heap.size]? = some (.cells #[.slice a1 sy.length c1,.slice a2 safe.length c2,.slice a3 ops.length c3] 31 (0,0))):=(B14.out.block _ (lt_of_block H1.out)).trans H1.out
        have S15:Hid ((((w14.setCell ⟨w.heap.size+1,0,none⟩ (.slice a10 sy.length k10)).setCell ⟨w.heap.size+1,1,none⟩ (.slice a14 sy.length k14)).setCell ⟨w.heap.size+1,2,none⟩ (.slice none 0 0)).cell? ⟨w.heap.size,0,none⟩=some (.slice a1 sy.length c1)):=(three_cells ((Below.heap_setCell _ _ _ _ (by simp)).trans ((Below.heap_setCell _ _ _ _ (by simp)).trans ((Below.heap_setCell _ _ _ _ (by simp)).trans X14.out)))).1
        obtain⟨r0,r1,r2,rf⟩:=three_cells Y14.out
        have rf0:=rf 0
        have rf1:=rf 1
        have rf2:=rf 2
        clear n14 b14 rf)
     | (refine step_append_new rfl (.tmp 7) (.tmp 9) 28 rfl 84 i0 (.agg #[.string ⟨#[]⟩, .string ⟨#[]⟩]) 2 32 Try.underlying28 hi0 hz0 hz1 hz2 rfl (by decide) _ (by rfl) a1 sy.length c1 (pcells sy) (by rfl) HPL.out (HI1.out _ (by repeat' first | with_reducible exact BR | with_reducible apply below_drew1 | (with_reducible refine below_lit ?_ (Nat.le_refl _) _))) HP1.out hl1 (by decide) ?_
        intro a10 k10 w10 n10 _ b10
        have B10:Hid (Below w1.heap.size w1 w10):=below_via (by repeat' first | with_reducible exact BR | with_reducible apply below_drew1 | (with_reducible refine below_lit ?_ (Nat.le_refl _) _)) (Nat.le_refl _) b10
        have N10:Hid (NewR w10 w1.heap.size a10 (pcells sy)):=new_via (by repeat' first | with_reducible exact BR | with_reducible apply below_drew1 | (with_reducible refine below_lit ?_ (Nat.le_refl _) _)) (Nat.le_refl _) n10
        clear n10 b10))
   all_goals
    have y1:=dk_set (j:=0) (z:=.slice a10 sy.length k10) Y14.out
    have y2:=dk_set (j:=1) (z:=.slice a14 sy.length k14) y1
    have y3:=dk_set (j:=2) (z:=.slice none 0 0) y2
    have HY:Hid (_=_):=y3
    have N1:Hid (NewR (((w14.setCell ⟨w.heap.size+1,0,none⟩ (.slice a10 sy.length k10)).setCell ⟨w.heap.size+1,1,none⟩ (.slice a14 sy.length k14)).setCell ⟨w.heap.size+1,2,none⟩ (.slice none 0 0)) w.heap.size a10 (pcells sy)):=(((N10b.out.setCell _ s1 _).setCell _ s1 _).setCell _ s1 _).lower (by omega)
    have N2:Hid (NewR (((w14.setCell ⟨w.heap.size+1,0,none⟩ (.slice a10 sy.length k10)).setCell ⟨w.heap.size+1,1,none⟩ (.slice a14 sy.length k14)).setCell ⟨w.heap.size+1,2,none⟩ (.slice none 0 0)) w.heap.size a14 (pcells sy)):=(((N14.out.setCell _ s1 _).setCell _ s1 _).setCell _ s1 _).lower (by omega)
    have HBB:Hid (Below w.heap.size w (((w14.setCell ⟨w.heap.size+1,0,none⟩ (.slice a10 sy.length k10)).setCell ⟨w.heap.size+1,1,none⟩ (.slice a14 sy.length k14)).setCell ⟨w.heap.size+1,2,none⟩ (.slice none 0 0))):=(((B1.trans (B14.out.mono B1.size)).setCell (by simp) _).setCell (by simp) _).setCell (by simp) _
    clear y1 y2 y3 H1 R1 HIS HI1 HC
    go_wp2
    exact bodyPost_ret (v:=.agg #[.slice a10 sy.length k10,.slice a14 sy.length k14,.slice none 0 0]) (results_cell_row rfl _ _ (w.heap.size+1) 31 _ (0,0) _ rfl HY.out Try.underlying31 rfl (by kernel_rfl)) rfl ⟨a10,a14,none,k10,k14,0,rfl,N1.out,N2.out,.inl rfl,HBB.out⟩
theorem flat_prs {w:World} {a:Option Addr} {ad:Addr} {qs:List PairL} (h:IsPairs w a qs) (ha:a=some ad):∀ j u,(pcells qs)[j]? = some u→w.cell? (ad.add j)=some u:=by
 intro j u hu
 rcases h with rfl | ⟨b,off,h1,h2⟩
 · simp[pcells] at hu
 · rw[h1] at ha
   cases ha
   have hj:j<qs.length*2:=by
    have:=(List.getElem?_eq_some_iff.1 hu).1
    rwa [pcells_length] at this
   have hc:=h2 (j / 2) (by omega)
   have hp:=pcells_at qs (j / 2) (by omega)
   have hm:j % 2=0∨j % 2=1:=by omega
   have hadd:∀ x:Nat,(⟨b,off,none⟩:Addr).add x=⟨b,off+x,none⟩:=fun x=>by
    by_cases e:x=0
    · subst e;simp[Addr.add]
    · simp[Addr.add,e]
   rw[hadd]
   rcases hm with h0 | h0
   · have e:j=j / 2*2:=by omega
     rw[e] at hu ⊢
     rw[hp.1] at hu
     rw[hc.1,hu]
   · have e:j=j / 2*2+1:=by omega
     rw[e] at hu ⊢
     rw[hp.2] at hu
     rw[show off+(j / 2*2+1)=off+j / 2*2+1 by omega,hc.2,hu]
theorem one_prs (qs:List PairL):∀ u∈pcells qs,u.oneCell'=true:=by
 induction qs with
 | nil=>simp[pcells]
 | cons p l ih=>simpa [pcells,Value.oneCell'] using ih
theorem wpList_append_prs {P:Program} {w:World} {ops:Array Oper} {rest:List Oper} {o:Oper} {a:Act} {Q:Exit→Act→World→Prop} (hgd:o.guard=none) (s x:Operand) (t:TypeId)
 (ho:o.op=.call { callee:=.builtin .append,args:=#[s,x],argTypes:=#[t,t] })
 (base:Nat) (e:TypeId) (i:TypeInfo) (z:Value) (bytes:Nat) (ht:P.underlying t=some (.slice e)) (hi:P.info? e=some i) (hz:i.zero=some z)
 (hsize:i.size=2) (hby:i.bytes=bytes) (hzs:z.cells.size=2)
 (v:Value) (n:Nat) (xs:List Value) (hs:a.eval s=v) (hown:w.ownsRow base e 2 v n xs)
 (a2:Option Addr) (qs:List PairL) (m c:Nat) (hm:m=qs.length) (hx:a.eval x=.slice a2 m c) (hc:a2=none→c=0) (hp:IsPairs w a2 qs)
 (h63:n+m≤maxLen) (hbytes:(n+m)*bytes≤140737488355328) (hbase:base≤w.heap.size)
 (h:∀ v' w',w'.ownsRow base e 2 v' (n+m) (xs ++ pcells qs)→w.grownBy w' v.ownBlock→wpList P ops Q rest (a.put o.dst v') w'):wpList P ops Q (o :: rest) a w:=by
 subst hm
 cases a2 with
 | none =>
   have hq:qs=[]:=by
    rcases hp with h | ⟨b,off,h,_⟩
    · exact h
    · cases h
   subst hq
   obtain rfl:=hc rfl
   refine wpList_append_own_none hgd s x t ho base e i 2 ht hi v n xs hs hown hx (h v w ?_ (World.grownBy.refl _ _))
   simpa [pcells] using hown
 | some ad=>exact wpList_append_own w hgd s x t ho base e i z 2 bytes ht hi hz hsize hby hzs (by decide) v n xs hs hown ad qs.length c (pcells qs) hx (pcells_length qs) (flat_prs hp rfl) (one_prs qs) h63 hbytes hbase (fun v' w' h1 h2 _=>h v' w' h1 h2)
set_option maxRecDepth 100000 in
set_option maxHeartbeats 1000000 in
theorem clone_files (b off cap:Nat) (ks:List PairL) (w:World) (hl:ks.length≤1048576) (hs:IsPairs w (some ⟨b,off,none⟩) ks) :
 Calls Try.prog 61 #[.slice (some ⟨b,off,none⟩) ks.length cap] w fun e w'=>∃ (a:Option Addr) (c:Nat),e=.returned (.slice a ks.length c)∧w'.ownsRow w.heap.size 84 2 (.slice a ks.length c) ks.length (pcells ks)∧Below w.heap.size w w':=by
 obtain⟨i0,hi0,hz0,hz1,hz2⟩:=info_parts infoFile
 have B0:Below w.heap.size w (w.alloc (.cells #[] 84)):=(Below.refl _ _).alloc (Nat.le_refl _) _
 have HB0:Hid (Below w.heap.size w (w.alloc (.cells #[] 84))):=B0
 have HO0:=hidOwn (World.ownsRow_lit (e:=84) (size:=2) w #[] 0 (base:=w.heap.size) (Nat.le_refl _) (Nat.zero_le _) rfl)
 have HI0:Hid (IsPairs (w.alloc (.cells #[] 84)) (some ⟨b,off,none⟩) ks):=hs.later B0
 have hnil:∀ W,(binOp .eql 28 (.slice (some ⟨b,off,none⟩) ks.length cap) (.slice none 0 0)).run Try.prog W=.ok (.bool false) W:=fun W=>by first | rfl | (simp[binOp,Op.equal,run_underlying Try.underlying28])
 clear hs B0
 go_enter Try.func61,Try.ntmps61
 go_wp2_with (first
  | (at_builtin; refine wpList_append_prs rfl _ _ 28 rfl w.heap.size 84 i0 (.agg #[.string ⟨#[]⟩, .string ⟨#[]⟩]) 32 Try.underlying28 hi0 hz0 hz1 hz2 rfl (.slice (some ⟨w.heap.size, 0, none⟩) 0 0) 0 [] rfl HO0.out (some ⟨b, off, none⟩) ks ks.length cap rfl rfl (by simp) HI0.out (by unfold maxLen; omega) (by omega) (by simp) ?_; intro v3 w3 o3 g3; obtain ⟨a3, m3, c3, rfl⟩ := own_slice2 o3
     have O3:Hid (w3.ownsRow w.heap.size 84 2 (.slice a3 m3 c3) ks.length (pcells ks)):=(by rw[Hid];simpa using o3)
     have B3:Hid (Below w.heap.size w w3):=HB0.out.grown g3 HB0.out.size (fun q hq=>(HO0.out.lt q hq).1)
     clear o3 g3))
 obtain⟨hm3,_,_⟩:=isPairs_own O3.out
 subst hm3
 first | go_ret | (go_wp2;go_ret)
 exact⟨a3,c3,rfl,O3.out,B3.out⟩
set_option maxRecDepth 100000 in
theorem clone_files0 (w:World):Calls Try.prog 61 #[.slice none 0 0] w fun e w'=>e=.returned (.slice none 0 0)∧w'=w:=by
 have hnil:∀ W,(binOp .eql 28 (.slice none 0 0) (.slice none 0 0)).run Try.prog W=.ok (.bool true) W:=fun W=>by first | rfl | (simp[binOp,Op.equal,run_underlying Try.underlying28])
 go_enter Try.func61,Try.ntmps61
 go_wp2
 go_ret
 exact⟨rfl,rfl⟩
theorem clone_filesN (a:Option Addr) (cap:Nat) (ks:List PairL) (w:World) (hl:ks.length≤1048576) (hca:a=none→cap=0) (haa:a=none∨∃ b off,a=some ⟨b,off,none⟩) (hs:IsPairs w a ks) :
 Calls Try.prog 61 #[.slice a ks.length cap] w fun e w'=>∃ (a:Option Addr) (c:Nat),e=.returned (.slice a ks.length c)∧w'.ownsRow w.heap.size 84 2 (.slice a ks.length c) ks.length (pcells ks)∧Below w.heap.size w w':=by
 rcases haa with rfl | ⟨b,off,rfl⟩
 · have hk:ks=[]:=by
    rcases hs with h | ⟨b,off,h,_⟩
    · exact h
    · cases h
   subst hk
   obtain rfl:=hca rfl
   refine (clone_files0 w).mono ?_
   rintro e w' ⟨rfl,rfl⟩
   exact⟨none,0,rfl,World.ownsRow_nil _ _ _ _,Below.refl _ _⟩
 · exact clone_files b off cap ks w hl hs
theorem flat_dops {w:World} {a:Option Addr} {ad:Addr} {qs:List DOpL} (h:IsDOps w a qs) (ha:a=some ad):∀ j u,(dcells qs)[j]? = some u→w.cell? (ad.add j)=some u:=by
 intro j u hu
 rcases src_dops h with h0 | ⟨ad2,h1,h2⟩
 · have:qs=[]:=List.length_eq_zero_iff.1 h0
   subst this
   simp[dcells] at hu
 · rw[ha] at h1
   cases h1
   exact h2 j u hu
theorem own_slice4 {w:World} {B e n:Nat} {v:Value} {xs:List Value} (h:w.ownsRow B e 4 v n xs):∃ a m c,v=.slice a m c:=by
 rcases h.2 with ⟨h',h0⟩ | ⟨g,cap,cur,h',_⟩
 · exact⟨_,_,_,h'⟩
 · exact⟨_,_,_,h'⟩
theorem wpList_append_dops {P:Program} {w:World} {ops:Array Oper} {rest:List Oper} {o:Oper} {a:Act} {Q:Exit→Act→World→Prop} (hgd:o.guard=none) (s x:Operand) (t:TypeId)
 (ho:o.op=.call { callee:=.builtin .append,args:=#[s,x],argTypes:=#[t,t] })
 (base:Nat) (e:TypeId) (i:TypeInfo) (z:Value) (bytes:Nat) (ht:P.underlying t=some (.slice e)) (hi:P.info? e=some i) (hz:i.zero=some z)
 (hsize:i.size=4) (hby:i.bytes=bytes) (hzs:z.cells.size=4)
 (v:Value) (n:Nat) (xs:List Value) (hs:a.eval s=v) (hown:w.ownsRow base e 4 v n xs)
 (a2:Option Addr) (qs:List DOpL) (m c:Nat) (hm:m=qs.length) (hx:a.eval x=.slice a2 m c) (hc:a2=none→c=0) (hp:IsDOps w a2 qs)
 (h63:n+m≤maxLen) (hbytes:(n+m)*bytes≤140737488355328) (hbase:base≤w.heap.size)
 (h:∀ v' w',w'.ownsRow base e 4 v' (n+m) (xs ++ dcells qs)→w.grownBy w' v.ownBlock→wpList P ops Q rest (a.put o.dst v') w'):wpList P ops Q (o :: rest) a w:=by
 subst hm
 cases a2 with
 | none =>
   have hq:qs=[]:=by
    rcases hp with h | ⟨b,off,h,_⟩
    · exact h
    · cases h
   subst hq
   obtain rfl:=hc rfl
   refine wpList_append_own_none hgd s x t ho base e i 4 ht hi v n xs hs hown hx (h v w ?_ (World.grownBy.refl _ _))
   simpa [dcells] using hown
 | some ad=>exact wpList_append_own w hgd s x t ho base e i z 4 bytes ht hi hz hsize hby hzs (by decide) v n xs hs hown ad qs.length c (dcells qs) hx (dcells_length qs) (flat_dops hp rfl) (dcells_one qs) h63 hbytes hbase (fun v' w' h1 h2 _=>h v' w' h1 h2)
set_option maxRecDepth 100000 in
set_option maxHeartbeats 1000000 in
theorem clone_dops (b off cap:Nat) (ks:List DOpL) (w:World) (hl:ks.length≤1048576) (hs:IsDOps w (some ⟨b,off,none⟩) ks) :
 Calls Try.prog 84 #[.slice (some ⟨b,off,none⟩) ks.length cap] w fun e w'=>∃ (a:Option Addr) (c:Nat),e=.returned (.slice a ks.length c)∧w'.ownsRow w.heap.size 40 4 (.slice a ks.length c) ks.length (dcells ks)∧Below w.heap.size w w':=by
 obtain⟨i0,hi0,hz0,hz1,hz2⟩:=info_parts infoDOp
 have B0:Below w.heap.size w (w.alloc (.cells #[] 40)):=(Below.refl _ _).alloc (Nat.le_refl _) _
 have HB0:Hid (Below w.heap.size w (w.alloc (.cells #[] 40))):=B0
 have HO0:=hidOwn (World.ownsRow_lit (e:=40) (size:=4) w #[] 0 (base:=w.heap.size) (Nat.le_refl _) (Nat.zero_le _) rfl)
 have HI0:Hid (IsDOps (w.alloc (.cells #[] 40)) (some ⟨b,off,none⟩) ks):=hs.later B0
 have hnil:∀ W,(binOp .eql 29 (.slice (some ⟨b,off,none⟩) ks.length cap) (.slice none 0 0)).run Try.prog W=.ok (.bool false) W:=fun W=>by first | rfl | (simp[binOp,Op.equal,run_underlying Try.underlying29])
 clear hs B0
 go_enter Try.func84,Try.ntmps84
 go_wp2_with (first
  | (at_builtin; refine wpList_append_dops rfl _ _ 29 rfl w.heap.size 40 i0 (.agg #[.int .i64 0, .string ⟨#[]⟩, .string ⟨#[]⟩, .string ⟨#[]⟩]) 56 Try.underlying29 hi0 hz0 hz1 hz2 rfl (.slice (some ⟨w.heap.size, 0, none⟩) 0 0) 0 [] rfl HO0.out (some ⟨b, off, none⟩) ks ks.length cap rfl rfl (by simp) HI0.out (by unfold maxLen; omega) (by omega) (by simp) ?_; intro v3 w3 o3 g3; obtain ⟨a3, m3, c3, rfl⟩ := own_slice4 o3
     have O3:Hid (w3.ownsRow w.heap.size 40 4 (.slice a3 m3 c3) ks.length (dcells ks)):=(by rw[Hid];simpa using o3)
     have B3:Hid (Below w.heap.size w w3):=HB0.out.grown g3 HB0.out.size (fun q hq=>(HO0.out.lt q hq).1)
     clear o3 g3))
 obtain⟨hm3,_,_⟩:=isDOps_own O3.out
 subst hm3
 first | go_ret | (go_wp2;go_ret)
 exact⟨a3,c3,rfl,O3.out,B3.out⟩
set_option maxRecDepth 100000 in
theorem clone_dops0 (w:World):Calls Try.prog 84 #[.slice none 0 0] w fun e w'=>e=.returned (.slice none 0 0)∧w'=w:=by
 have hnil:∀ W,(binOp .eql 29 (.slice none 0 0) (.slice none 0 0)).run Try.prog W=.ok (.bool true) W:=fun W=>by first | rfl | (simp[binOp,Op.equal,run_underlying Try.underlying29])
 go_enter Try.func84,Try.ntmps84
 go_wp2
 go_ret
 exact⟨rfl,rfl⟩
theorem clone_dopsN (a:Option Addr) (cap:Nat) (ks:List DOpL) (w:World) (hl:ks.length≤1048576) (hca:a=none→cap=0) (haa:a=none∨∃ b off,a=some ⟨b,off,none⟩) (hs:IsDOps w a ks) :
 Calls Try.prog 84 #[.slice a ks.length cap] w fun e w'=>∃ (a:Option Addr) (c:Nat),e=.returned (.slice a ks.length c)∧w'.ownsRow w.heap.size 40 4 (.slice a ks.length c) ks.length (dcells ks)∧Below w.heap.size w w':=by
 rcases haa with rfl | ⟨b,off,rfl⟩
 · have hk:ks=[]:=by
    rcases hs with h | ⟨b,off,h,_⟩
    · exact h
    · cases h
   subst hk
   obtain rfl:=hca rfl
   refine (clone_dops0 w).mono ?_
   rintro e w' ⟨rfl,rfl⟩
   exact⟨none,0,rfl,World.ownsRow_nil _ _ _ _,Below.refl _ _⟩
 · exact clone_dops b off cap ks w hl hs
def Apart3 (v1 v2 v3:Value):Prop:=∀ q,(v1.ownBlock=some q→v2.ownBlock≠some q∧v3.ownBlock≠some q)∧(v2.ownBlock=some q→v3.ownBlock≠some q)
def IPost (W w':World) (e:Ending) (live safe:List PairL) (ops:List DOpL):Prop :=
 ∃ (x1 x2 x3:Option Addr) (k1 k2 k3:Nat),e=.returned (.agg #[.slice x1 live.length k1,.slice x2 safe.length k2,.slice x3 ops.length k3])∧w'.ownsRow W.heap.size 84 2 (.slice x1 live.length k1) live.length (pcells live)∧w'.ownsRow W.heap.size 84 2 (.slice x2 safe.length k2) safe.length (pcells safe)∧w'.ownsRow W.heap.size 40 4 (.slice x3 ops.length k3) ops.length (dcells ops)∧Apart3 (.slice x1 live.length k1) (.slice x2 safe.length k2) (.slice x3 ops.length k3)∧Below W.heap.size W w'
theorem own_set {w:World} {base e size n:Nat} {v:Value} {xs:List Value} (h:w.ownsRow base e size v n xs) (p:Addr) (hp:p.block<base) (u:Value):(w.setCell p u).ownsRow base e size v n xs:=by
 refine ownsRow_setCell_other h (fun e=>?_) u
 have:=(h.lt p.block e).1
 omega
set_option maxRecDepth 100000 in
set_option maxHeartbeats 4000000 in
theorem impl_sync (a1 a2 a3 : Option Addr) (c1 c2 c3 : Nat) (live safe : List PairL) (ops : List DOpL) (w : World) (ha : AddrOk a1) (hca : a1 = none → c1 = 0) (hl1 : live.length ≤ 1048576) (hm1 : ∀ p ∈ live, p.1.length ≤ 1048576 ∧ p.2.length ≤ 1048576) (hl2 : safe.length ≤ 1048576) (hm2 : ∀ p ∈ safe, p.1.length ≤ 1048576 ∧ p.2.length ≤ 1048576) (hl3 : ops.length ≤ 1048576) (hm3 : ∀ p ∈ ops, p.n.length ≤ 1048576 ∧ p.t.length ≤ 1048576 ∧ p.d.length ≤ 1048576)
 (hs1:IsPairs w a1 live) (hs2:IsPairs w a2 safe) (hs3:IsDOps w a3 ops) :
 Calls Try.prog 24 #[.agg #[.slice a1 live.length c1,.slice a2 safe.length c2,.slice a3 ops.length c3]] w fun e w'=>IPost w w' e (syncL live safe ops) (syncL live safe ops) []:=by
 obtain⟨wa,hwa⟩:∃ wa,wa=(w.alloc (.cells #[.slice a1 live.length c1,.slice a2 safe.length c2,.slice a3 ops.length c3] 31)).alloc (.cells #[.slice none 0 0,.slice none 0 0,.slice none 0 0] 31):=⟨_,rfl⟩
 have B0:Below w.heap.size w wa:=by rw[hwa];exact ((Below.refl _ _).alloc (Nat.le_refl _) _).alloc (by simp) _
 have s0:wa.heap.size=w.heap.size+2:=by rw[hwa];simp
 have H0:Hid (wa.heap[w.heap.size]? = some (.cells #[.slice a1 live.length c1,.slice a2 safe.length c2,.slice a3 ops.length c3] 31 (0,0))):=by rw[hwa,Hid,Below.heap_alloc _ _ _ (by simp)];exact heap_alloc_new w _
 have R0:Hid (wa.heap[w.heap.size+1]? = some (.cells #[.slice none 0 0,.slice none 0 0,.slice none 0 0] 31 (0,0))):=by
  rw[hwa,Hid]
  have:=heap_alloc_new (w.alloc (.cells #[.slice a1 live.length c1,.slice a2 safe.length c2,.slice a3 ops.length c3] 31)) (.cells #[.slice none 0 0,.slice none 0 0,.slice none 0 0] 31)
  simpa using this
 obtain⟨p0,p1,p2,_⟩:=three_cells H0.out
 have KD:=impl_diskOk a1 a2 a3 c1 c2 c3 live safe ops wa hl1 hm1 hl2 hm2 hl3 hm3 (hs1.later B0) (hs2.later B0) (hs3.later B0)
 have HKC:Hid (∀ W,Below w.heap.size w W→_):=fun W hW=>clone_filesN a1 c1 live W hl1 hca ha (hs1.later hW)
 have HSY:Hid (syncL live safe ops=if diskOk live safe ops=true then live else []):=rfl
 obtain⟨dk,hdk⟩:∃ dk,dk=diskOk live safe ops:=⟨_,rfl⟩
 obtain⟨sy,hsy⟩:∃ sy,sy=syncL live safe ops:=⟨_,rfl⟩
 rw[←hdk] at KD HSY
 rw[←hsy] at HSY ⊢
 unfold IPost
 rw[hwa] at KD p0 p1 p2
 clear hs1 hs2 hs3 hm1 hm2 hm3 hdk hsy
 go_enter Try.func24,Try.ntmps24
 go_wp2_with fail
 refine KD.mono ?_
 rintro e w1 ⟨rfl,b1⟩
 rw[←hwa] at b1
 have B1:=B0.trans (b1.mono B0.size)
 have H1:Hid (w1.heap[w.heap.size]? = some (.cells #[.slice a1 live.length c1,.slice a2 safe.length c2,.slice a3 ops.length c3] 31 (0,0))):=(b1.block _ (lt_of_block H0.out)).trans H0.out
 have R1:Hid (w1.heap[w.heap.size+1]? = some (.cells #[.slice none 0 0,.slice none 0 0,.slice none 0 0] 31 (0,0))):=(b1.block _ (lt_of_block R0.out)).trans R0.out
 have s1:w.heap.size+1<w1.heap.size:=lt_of_block R1.out
 clear p0 p1 p2 KD b1 H0 R0 B0 hwa s0
 cases dk with
 | false =>
   have e1:sy=[]:=by rw[HSY.out];rfl
   subst e1
   obtain⟨r0,r1,r2,rf⟩:=three_cells R1.out
   have rf0:=rf 0
   have rf1:=rf 1
   have rf2:=rf 2
   have y1:=dk_set (j:=0) (z:=.slice none 0 0) R1.out
   have y2:=dk_set (j:=1) (z:=.slice none 0 0) y1
   have y3:=dk_set (j:=2) (z:=.slice none 0 0) y2
   have HY:Hid (_=_):=y3
   have HBB:Hid (Below w.heap.size w (((w1.setCell ⟨w.heap.size+1,0,none⟩ (.slice none 0 0)).setCell ⟨w.heap.size+1,1,none⟩ (.slice none 0 0)).setCell ⟨w.heap.size+1,2,none⟩ (.slice none 0 0))):=((B1.setCell (by simp) _).setCell (by simp) _).setCell (by simp) _
   clear y1 y2 y3 rf HSY H1 R1 HKC
   go_wp2
   exact bodyPost_ret (v:=.agg #[.slice none 0 0,.slice none 0 0,.slice none 0 0]) (results_cell_row rfl _ _ (w.heap.size+1) 31 _ (0,0) _ rfl HY.out Try.underlying31 rfl (by kernel_rfl)) rfl ⟨none,none,none,0,0,0,rfl,World.ownsRow_nil _ _ _ _,World.ownsRow_nil _ _ _ _,World.ownsRow_nil _ _ _ _,fun q=>⟨fun h=>by simp[Value.ownBlock] at h,fun h=>by simp[Value.ownBlock] at h⟩,HBB.out⟩
 | true =>
   have e1:sy=live:=by rw[HSY.out];rfl
   subst e1
   have HC:Hid (∀ W,Below w1.heap.size w1 W→W.cell? ⟨w.heap.size,0,none⟩=some (.slice a1 sy.length c1)):=fun W hW=>(three_cells ((hW.block _ (lt_of_block H1.out)).trans H1.out)).1
   have BR:Below w1.heap.size w1 w1.drew:=⟨rfl,rfl,rfl,Nat.le_refl _,fun _ _=>rfl⟩
   have BW:Below w.heap.size w w1.drew:=B1.trans (BR.mono B1.size)
   have K9:=HKC.out w1.drew BW
   clear HSY
   go_wp2_with fail
   go_region_held3 (fun w'=>w'.cell? ⟨w.heap.size,0,none⟩=some (.slice a1 sy.length c1))
    (first | with_reducible exact S15.out | with_reducible exact HC.out _ B12.out | with_reducible exact HC.out _ B9.out | with_reducible exact HC.out _ BR)
    (first
     | (go_at_call 61
        with_reducible refine (HKC.out w9 W9.out).mono ?_
        rintro e w12 ⟨a12,k12,rfl,o12,b12⟩
        have B12:Hid (Below w1.heap.size w1 w12):=B9.out.trans (b12.mono B9.out.size)
        have O9b:Hid (w12.ownsRow w1.heap.size 84 2 (.slice a9 sy.length k9) sy.length (pcells sy)):=kept2 O9.out b12
        have O12:Hid (w12.ownsRow w1.heap.size 84 2 (.slice a12 sy.length k12) sy.length (pcells sy)):=o12.mono B9.out.size
        have AP:Hid (∀ q,(Value.slice a9 sy.length k9).ownBlock=some q→(Value.slice a12 sy.length k12).ownBlock≠some q):=fun q h1 h2=>by have:=(O9.out.lt q h1).2;have:=(o12.lt q h2).1;omega
        have Y14:Hid (w12.heap[w.heap.size+1]? = some (.cells #[.slice none 0 0,.slice none 0 0,.slice none 0 0] 31 (0,0))):=(B12.out.block _ (lt_of_block R1.out)).trans R1.out
        have X14:Hid (w12.heap[w.heap.size]? = some (.cells #[.slice a1 sy.length c1,.slice a2 safe.length c2,.slice a3 ops.length c3] 31 (0,0))):=(B12.out.block _ (lt_of_block H1.out)).trans H1.out
        have S15:Hid ((((w12.setCell ⟨w.heap.size+1,0,none⟩ (.slice a9 sy.length k9)).setCell ⟨w.heap.size+1,1,none⟩ (.slice a12 sy.length k12)).setCell ⟨w.heap.size+1,2,none⟩ (.slice none 0 0)).cell? ⟨w.heap.size,0,none⟩=some (.slice a1 sy.length c1)):=(three_cells ((Below.heap_setCell _ _ _ _ (by simp)).trans ((Below.heap_setCell _ _ _ _ (by simp)).trans ((Below.heap_setCell _ _ _ _ (by simp)).trans X14.out)))).1
        obtain⟨r0,r1,r2,rf⟩:=three_cells Y14.out
        have rf0:=rf 0
        have rf1:=rf 1
        have rf2:=rf 2
        clear o12 b12 rf)
     | (go_at_call 61
        with_reducible refine K9.mono ?_
        rintro e w9 ⟨a9,k9,rfl,o9,b9⟩
        have B9:Hid (Below w1.heap.size w1 w9):=BR.trans (b9.mono BR.size)
        have W9:Hid (Below w.heap.size w w9):=B1.trans (B9.out.mono B1.size)
        have O9:Hid (w9.ownsRow w1.heap.size 84 2 (.slice a9 sy.length k9) sy.length (pcells sy)):=o9
        clear o9 b9))
   all_goals
    have y1:=dk_set (j:=0) (z:=.slice a9 sy.length k9) Y14.out
    have y2:=dk_set (j:=1) (z:=.slice a12 sy.length k12) y1
    have y3:=dk_set (j:=2) (z:=.slice none 0 0) y2
    have HY:Hid (_=_):=y3
    have N1:Hid ((((w12.setCell ⟨w.heap.size+1,0,none⟩ (.slice a9 sy.length k9)).setCell ⟨w.heap.size+1,1,none⟩ (.slice a12 sy.length k12)).setCell ⟨w.heap.size+1,2,none⟩ (.slice none 0 0)).ownsRow w.heap.size 84 2 (.slice a9 sy.length k9) sy.length (pcells sy)):=(own_set (own_set (own_set O9b.out _ s1 _) _ s1 _) _ s1 _).mono (by omega)
    have N2:Hid ((((w12.setCell ⟨w.heap.size+1,0,none⟩ (.slice a9 sy.length k9)).setCell ⟨w.heap.size+1,1,none⟩ (.slice a12 sy.length k12)).setCell ⟨w.heap.size+1,2,none⟩ (.slice none 0 0)).ownsRow w.heap.size 84 2 (.slice a12 sy.length k12) sy.length (pcells sy)):=(own_set (own_set (own_set O12.out _ s1 _) _ s1 _) _ s1 _).mono (by omega)
    have HBB:Hid (Below w.heap.size w (((w12.setCell ⟨w.heap.size+1,0,none⟩ (.slice a9 sy.length k9)).setCell ⟨w.heap.size+1,1,none⟩ (.slice a12 sy.length k12)).setCell ⟨w.heap.size+1,2,none⟩ (.slice none 0 0))):=(((B1.trans (B12.out.mono B1.size)).setCell (by simp) _).setCell (by simp) _).setCell (by simp) _
    clear y1 y2 y3 H1 R1 HC
    go_wp2
    exact bodyPost_ret (v:=.agg #[.slice a9 sy.length k9,.slice a12 sy.length k12,.slice none 0 0]) (results_cell_row rfl _ _ (w.heap.size+1) 31 _ (0,0) _ rfl HY.out Try.underlying31 rfl (by kernel_rfl)) rfl ⟨a9,a12,none,k9,k12,0,rfl,N1.out,N2.out,World.ownsRow_nil _ _ _ _,fun q=>⟨fun h=>⟨AP.out q h,by simp[Value.ownBlock]⟩,fun h=>by simp[Value.ownBlock]⟩,HBB.out⟩
def GrowR (W:World) (base e size:Nat) (a:Option Addr) (n cap:Nat) (xs:List Value) (row:Option Nat):Prop:=(∃ ad,a=some ad∧n=0∧cap=0∧xs=[]∧row=none)∨(W.ownsRow base e size (.slice a n cap) n xs∧row=(Value.slice a n cap).ownBlock)
theorem GrowR.new {W:World} {base e size:Nat} {a:Option Addr} {n cap:Nat} {xs:List Value} {row:Option Nat} (h:GrowR W base e size a n cap xs row):NewR W base a xs:=by
 rcases h with ⟨ad,_,_,_,h,_⟩ | ⟨h,_⟩
 · exact .inl h
 · exact newR_own h
theorem GrowR.lt {W:World} {base e size:Nat} {a:Option Addr} {n cap:Nat} {xs:List Value} {row:Option Nat} (h:GrowR W base e size a n cap xs row):∀ q,row=some q→base≤q∧q<W.heap.size:=by
 intro q hq
 rcases h with ⟨ad,_,_,_,_,h⟩ | ⟨h,hr⟩
 · rw[h] at hq;cases hq
 · exact h.lt q (by rw[←hr];exact hq)
theorem GrowR.later {W W':World} {base e size:Nat} {a:Option Addr} {n cap:Nat} {xs:List Value} {row:Option Nat} (h:GrowR W base e size a n cap xs row) (hb:Below W.heap.size W W'):GrowR W' base e size a n cap xs row:=by
 rcases h with h | ⟨h,hr⟩
 · exact .inl h
 · refine .inr ⟨h.kept (row:=none) ⟨hb.os,hb.tape,hb.output,hb.size,fun k hk _=>hb.block k hk⟩ ?_,hr⟩
   cases (Value.slice a n cap).ownBlock with
   | none=>exact .inl rfl
   | some k=>exact .inr (by simp)
theorem GrowR.lower {W:World} {base base' e size:Nat} {a:Option Addr} {n cap:Nat} {xs:List Value} {row:Option Nat} (h:GrowR W base e size a n cap xs row) (hb:base'≤base):GrowR W base' e size a n cap xs row:=by
 rcases h with h | ⟨h,hr⟩
 · exact .inl h
 · exact .inr ⟨h.mono hb,hr⟩
theorem GrowR.setCell {W:World} {base e size:Nat} {a:Option Addr} {n cap:Nat} {xs:List Value} {row:Option Nat} (h:GrowR W base e size a n cap xs row) (p:Addr) (hp:p.block<base) (u:Value):GrowR (W.setCell p u) base e size a n cap xs row:=by
 rcases h with h | ⟨h,hr⟩
 · exact .inl h
 · exact .inr ⟨own_set h p hp u,hr⟩
def NewQ (W:World) (lo hi:Nat) (a:Option Addr) (xs:List Value):Prop:=NewR W lo a xs∧∀ g,xs≠[]→a=some ⟨g,0,none⟩→g<hi
theorem NewQ.later {W W':World} {lo hi:Nat} {a:Option Addr} {xs:List Value} (h:NewQ W lo hi a xs) (hb:Below W.heap.size W W'):NewQ W' lo hi a xs:=⟨h.1.later hb,h.2⟩
theorem NewQ.kept {W W':World} {lo hi:Nat} {a:Option Addr} {xs:List Value} {row:Option Nat} (h:NewQ W lo hi a xs) (hg:W.grownBy W' row) (hr:∀ g,lo≤g→g<hi→some g≠row):NewQ W' lo hi a xs:=by
 refine⟨?_,h.2⟩
 by_cases he:xs=[]
 · exact .inl he
 · exact h.1.kept hg (fun g h1 _ h3=>hr g h1 (h.2 g he h3))
theorem NewQ.setCell {W:World} {lo hi:Nat} {a:Option Addr} {xs:List Value} (h:NewQ W lo hi a xs) (p:Addr) (hp:p.block<lo) (v:Value):NewQ (W.setCell p v) lo hi a xs:=⟨h.1.setCell p hp v,h.2⟩
theorem NewQ.lower {W:World} {lo lo' hi hi':Nat} {a:Option Addr} {xs:List Value} (h:NewQ W lo hi a xs) (hb:lo'≤lo) (hh:hi≤hi'):NewQ W lo' hi' a xs:=⟨h.1.lower hb,fun g h1 h2=>Nat.lt_of_lt_of_le (h.2 g h1 h2) hh⟩
theorem newQ_of {W:World} {lo:Nat} {a:Option Addr} {xs:List Value} (h:NewR W lo a xs):NewQ W lo W.heap.size a xs:=⟨h,fun g he ha=>by
 rcases h with h | ⟨g',h0,_,h2,_⟩
 · exact absurd h he
 · rw[ha] at h0;cases h0;exact h2⟩
theorem run_grow0 {P:Program} (W:World) (t e:TypeId) (i:TypeInfo) (z:Value) (size bytes:Nat) (ht:P.underlying t=some (.slice e)) (hi:P.info? e=some i) (hz:i.zero=some z)
 (hsize:i.size=size) (hby:i.bytes=bytes) (hzs:z.cells.size=size) (ad ad2:Addr) (m c:Nat) (xs:List Value) (hl:xs.length=m*size) (hcs:∀ j u,xs[j]? = some u→W.cell? (ad2.add j)=some u) (h1:∀ u∈xs,u.oneCell'=true)
 (hm:0<m) (h63:m≤1048577) (hbytes:bytes≤64) :
 ∃ c' w',(∀ ty,(Builtin.append_ #[t,t] ty #[.slice (some ad) 0 0,.slice (some ad2) m c]).run P W=.ok (.slice (some ⟨W.heap.size,0,none⟩) m c') w')∧w'.ownsRow W.heap.size e size (.slice (some ⟨W.heap.size,0,none⟩) m c') m xs∧W.grownBy w' none:=by
 have hsrc:Src P i.size t (.slice (some ad2) m c) m xs W:=Src.ofSlice W ht ad2 m c xs (by rw[hsize];exact hl) hcs h1
 have hge:=grownCap_ge W (0+m) 0 e
 have hrun:=fun ty=>run_append_grow_src W t t ty e i z ht hi hz (some ad) 0 0 [] (run_firstCells_some W.drew i.size 0 ad 0 0 [] (by simp) (by simp)) (.slice (some ad2) m c) m xs hsrc (by omega) (by omega) (growslice_fits (by omega) (by rw[hby];have:=Nat.mul_le_mul (Nat.le_of_eq (Nat.zero_add m)) hbytes;omega))
 rw[Nat.zero_add] at hrun
 have hge2:=grownCap_ge W m 0 e
 refine⟨_,_,hrun,⟨hl,.inr ⟨W.heap.size,_,_,rfl,Nat.le_refl _,heap_alloc_new W.drew _,hge2,grownCap_le_maxLen W m 0 e (by unfold maxLen;omega),?_,?_⟩⟩,⟨rfl,rfl,rfl,by simp,fun k hk _=>heap_alloc_old W.drew _ hk⟩⟩
 · simp only[List.nil_append,Array.size_append,List.size_toArray,size_zeroCells,hzs,hl,←Nat.add_mul]
   congr 1
   omega
 · simp only[List.nil_append,Array.toList_append]
   rw[←hl]
   exact List.take_left
theorem step_append_grow {P:Program} {W:World} {ops:Array Oper} {o:Oper} {a:Act} {K:Act→World→Prop} {Q:Exit→Act→World→Prop} {E:Prop} (hgd:o.guard=none) (s x:Operand) (t:TypeId)
 (ho:o.op=.call { callee:=.builtin .append,args:=#[s,x],argTypes:=#[t,t] })
 (e:TypeId) (i:TypeInfo) (z:Value) (size bytes:Nat) (ht:P.underlying t=some (.slice e)) (hi:P.info? e=some i) (hz:i.zero=some z)
 (hsize:i.size=size) (hby:i.bytes=bytes) (hzs:z.cells.size=size)
 (ad:Addr) (hs:a.eval s=.slice (some ad) 0 0)
 (a2:Option Addr) (m c:Nat) (xs:List Value) (hx:a.eval x=.slice a2 m c) (hl:xs.length=m*size) (hcs:m=0∨∃ ad2,a2=some ad2∧∀ j u,xs[j]? = some u→W.cell? (ad2.add j)=some u) (h1:∀ u∈xs,u.oneCell'=true)
 (h63:m≤1048576) (hbytes:bytes≤64)
 (h:∀ a' c' w' row,GrowR w' W.heap.size e size a' m c' xs row→Below W.heap.size W w'→K (a.put o.dst (.slice a' m c')) w') :
 if Region.wanted o (yielded ops a.tmps)=true then Oper.wp P o a W K Q else E:=by
 by_cases h0:m=0
 · subst h0
   have hxn:xs=[]:=List.length_eq_zero_iff.1 (by rw[hl];simp)
   subst hxn
   have hsrc:Src P i.size t (.slice a2 0 c) 0 [] W:=by
    cases a2 with
    | none=>exact Src.ofNil W ht c
    | some ad2=>exact Src.ofSlice W ht ad2 0 c [] (by simp) (by simp) (by simp)
   exact step_append_run hgd s x t t ho _ _ _ hs hx (fun ty=>run_append_nothing W t t ty e i ht hi (some ad) 0 0 (Nat.le_refl _) _ hsrc) (h (some ad) 0 W none (.inl ⟨ad,rfl,rfl,rfl,rfl,rfl⟩) (Below.refl _ _))
 · rcases hcs with hcs | ⟨ad2,rfl,hcs⟩
   · exact absurd hcs h0
   · obtain⟨c',w',hr,hown,hg⟩:=run_grow0 W t e i z size bytes ht hi hz hsize hby hzs ad ad2 m c xs hl hcs h1 (by omega) (by omega) hbytes
     exact step_append_run hgd s x t t ho _ _ _ hs hx hr (h _ c' w' _ (.inr ⟨hown,rfl⟩) ⟨hg.os,hg.tape,hg.output,hg.size,fun k hk=>hg.block k hk (by simp)⟩)
theorem wpList_append_grow {P:Program} {w:World} {ops:Array Oper} {rest:List Oper} {o:Oper} {a:Act} {Q:Exit→Act→World→Prop} (hgd:o.guard=none) (s x:Operand) (t:TypeId)
 (ho:o.op=.call { callee:=.builtin .append,args:=#[s,x],argTypes:=#[t,t] })
 (base:Nat) (e:TypeId) (i:TypeInfo) (z:Value) (size bytes:Nat) (ht:P.underlying t=some (.slice e)) (hi:P.info? e=some i) (hz:i.zero=some z)
 (hsize:i.size=size) (hby:i.bytes=bytes) (hzs:z.cells.size=size) (hsz:0<size)
 (a1:Option Addr) (n c1:Nat) (xs:List Value) (row:Option Nat) (hs:a.eval s=.slice a1 n c1) (hown:GrowR w base e size a1 n c1 xs row)
 (ad:Addr) (m c:Nat) (news:List Value) (hx:a.eval x=.slice (some ad) m c) (hl:news.length=m*size) (hnews:∀ j u,news[j]? = some u→w.cell? (ad.add j)=some u) (h1:∀ u∈news,u.oneCell'=true)
 (hm:0<m) (h63:n+m≤1048577) (hbytes:bytes≤64) (hbase:base≤w.heap.size)
 (h:∀ g cap w',w'.ownsRow base e size (.slice (some ⟨g,0,none⟩) (n+m) cap) (n+m) (xs ++ news)→w.grownBy w' row→wpList P ops Q rest (a.put o.dst (.slice (some ⟨g,0,none⟩) (n+m) cap)) w'):wpList P ops Q (o :: rest) a w:=by
 rcases hown with ⟨ad1,rfl,rfl,rfl,rfl,rfl⟩ | ⟨hown,rfl⟩
 · obtain⟨c',w',hr,ho2,hg⟩:=run_grow0 w t e i z size bytes ht hi hz hsize hby hzs ad1 ad m c news hl hnews h1 hm (by omega) hbytes
   refine wpList_plain hgd fun _ hK=>?_
   unfold Oper.wp execOp
   simp only[ho,resolve,invoke,builtin,Sem.run_bind,Sem.run_pure,Result.andThen_ok,List.map_toArray,List.map_cons,List.map_nil,hs,hx,hr]
   have h':=h w.heap.size c' w'
   rw[Nat.zero_add,List.nil_append] at h'
   exact hK _ _ (h' (ho2.mono hbase) hg)
 · refine wpList_append_lies w hgd s x t ho base e i z size bytes ht hi hz hsize hby hzs hsz _ n xs hs hown ad m c news hx hl hnews h1 hm (by unfold maxLen;omega) ?_ hbase _ rfl (fun g cap w' h2 h3 _ _=>h g cap w' h2 h3)
   have:=Nat.mul_le_mul h63 hbytes
   omega
theorem run_append_grow1 {P:Program} (w:World) (t ty:TypeId) (base:Nat) (e:TypeId) (i:TypeInfo) (z:Value) (size bytes:Nat) (ht:P.underlying t=some (.slice e)) (hi:P.info? e=some i) (hz:i.zero=some z)
 (hsize:i.size=size) (hby:i.bytes=bytes) (hzs:z.cells.size=size) (hsz:0<size)
 (a1:Option Addr) (n c1:Nat) (xs:List Value) (row:Option Nat) (hown:GrowR w base e size a1 n c1 xs row)
 (ad:Addr) (m c:Nat) (news:List Value) (hl:news.length=m*size) (hnews:∀ j u,news[j]? = some u→w.cell? (ad.add j)=some u) (h1:∀ u∈news,u.oneCell'=true)
 (hm:0<m) (h63:n+m≤1048577) (hbytes:bytes≤64) (hbase:base≤w.heap.size) :
 ∃ g cap w',(Builtin.append_ #[t,t] ty #[.slice a1 n c1,.slice (some ad) m c]).run P w=.ok (.slice (some ⟨g,0,none⟩) (n+m) cap) w'∧w'.ownsRow base e size (.slice (some ⟨g,0,none⟩) (n+m) cap) (n+m) (xs ++ news)∧w.grownBy w' row∧(row=some g∨g=w.heap.size):=by
 rcases hown with ⟨ad1,rfl,rfl,rfl,rfl,rfl⟩ | ⟨hown,rfl⟩
 · obtain⟨c',w',hr,ho2,hg⟩:=run_grow0 w t e i z size bytes ht hi hz hsize hby hzs ad1 ad m c news hl hnews h1 hm (by omega) hbytes
   refine⟨w.heap.size,c',w',?_,?_,hg,.inr rfl⟩
   · rw[Nat.zero_add];exact hr ty
   · rw[Nat.zero_add,List.nil_append];exact ho2.mono hbase
 · have hb:(n+m)*bytes≤140737488355328:=by
    have:=Nat.mul_le_mul h63 hbytes
    omega
   obtain⟨g,cap,w',hr,h2,h3,h4,_⟩:=run_append_lies (P:=P) w t ty base e i z size bytes ht hi hz hsize hby hzs hsz _ n xs hown ad m c news hl hnews h1 hm (by unfold maxLen;omega) hb hbase _ rfl
   exact⟨g,cap,w',hr,h2,h3,h4⟩
def actL (live safe:List PairL) (ops:List DOpL) (o:DOpL):List PairL × List PairL × List DOpL × Int :=
 if formOk o=false then (live,safe,ops,2) else if (doF live o).2=false then (live,safe,ops,3) else if ops.length=200∨filesOk (doF live o).1=false then (live,safe,ops,4) else ((doF live o).1,safe,ops ++ [o],0)
def doL (live safe:List PairL) (ops:List DOpL) (o:DOpL):List PairL × List PairL × List DOpL × Int:=if diskOk live safe ops=true then actL live safe ops o else ([],[],[],1)
end Go.Proofs.Ytlllkdioojjaeaa
