/-
 Texts that are laid as one: GrowE, SyncG.
-/
import Derived.Test.YtlllkdioojjaeaaSActs
namespace Go.Proofs.Ytlllkdioojjaeaa
open Go.RowKit
set_option linter.unusedVariables false
def AddrS (a:Option Addr):Prop:=∃ b off,a=some ⟨b,off,none⟩
def AddrK (a:Option Addr) (k:Nat):Prop:=(a=none∧k=0)∨AddrS a
theorem AddrS.ok {a:Option Addr} (h:AddrS a):AddrOk a:=.inr h
theorem AddrK.ok {a:Option Addr} {k:Nat} (h:AddrK a k):AddrOk a:=h.imp (fun x=>x.1) id
theorem AddrK.cap {a:Option Addr} {k:Nat} (h:AddrK a k):a=none→k=0:=fun e=>by
 rcases h with h | ⟨b,off,h⟩
 · exact h.2
 · rw[e] at h;cases h
theorem addr_newK {a:Option Addr} {b off:Nat} (h:(∃ b off,a=some ⟨b,off,none⟩)∨a=some ⟨b,off,none⟩):AddrS a:=by
 rcases h with h | h
 · exact h
 · exact⟨_,_,h⟩
theorem own_addrK {w:World} {base e size n m c:Nat} {a:Option Addr} {xs:List Value} (h:w.ownsRow base e size (.slice a m c) n xs):AddrK a c:=by
 rcases h.2 with ⟨h',_⟩ | ⟨g,cap',cur,h',_⟩
 · cases h';exact .inl ⟨rfl,rfl⟩
 · cases h';exact .inr ⟨_,_,rfl⟩
def AddrL (a:Option Addr) (k n:Nat):Prop:=AddrK a k∧n≤k
theorem own_capK {w:World} {base e size g n cap:Nat} {xs:List Value} (h:w.ownsRow base e size (.slice (some ⟨g,0,none⟩) n cap) n xs):n≤cap:=by
 rcases h.2 with ⟨h',_⟩ | ⟨g',cap',cur,h',_,_,hc,_⟩
 · cases h'
 · cases h';exact hc
def FarQ (a:Option Addr) (xs:List Value) (q:Nat):Prop:=xs=[]∨∀ g off,a=some ⟨g,off,none⟩→g≠q
theorem NewR.far {W:World} {lo q:Nat} {a:Option Addr} {xs:List Value} (h:NewR W lo a xs) (hq:q<lo):FarQ a xs q:=by
 rcases h with h | ⟨g,h0,h1,_⟩
 · exact .inl h
 · refine .inr (fun g' off e=>?_)
   rw[h0] at e;cases e;omega
def LiveF (W:World) (base:Nat) (a:Option Addr) (n c:Nat) (xs:List Value) (x2:Option Addr) (ys:List Value) (x3:Option Addr) (zs:List Value):Prop:=∃ row,GrowR W base 84 2 a n c xs row∧∀ q,row=some q→FarQ x2 ys q∧FarQ x3 zs q
def OwnF (W:World) (lo hi:Nat) (a:Option Addr) (n c:Nat) (xs:List Value):Prop:=W.ownsRow lo 84 2 (.slice a n c) n xs∧∀ q,(Value.slice a n c).ownBlock=some q→q<hi
theorem OwnF.later {W W':World} {lo hi n c:Nat} {a:Option Addr} {xs:List Value} (h:OwnF W lo hi a n c xs) (hb:Below W.heap.size W W'):OwnF W' lo hi a n c xs:=⟨kept2 h.1 hb,h.2⟩
theorem OwnF.kept {W W':World} {lo hi n c:Nat} {a:Option Addr} {xs:List Value} {row:Option Nat} (h:OwnF W lo hi a n c xs) (hg:W.grownBy W' row) (hr:∀ g,lo≤g→g<hi→some g≠row):OwnF W' lo hi a n c xs:=by
 refine⟨h.1.kept hg ?_,h.2⟩
 cases hv:(Value.slice a n c).ownBlock with
 | none=>exact .inl rfl
 | some q=>exact .inr (hr q (h.1.lt q hv).1 (h.2 q hv))
theorem OwnF.setAt {W:World} {lo hi n c:Nat} {a:Option Addr} {xs:List Value} (h:OwnF W lo hi a n c xs) (p:Addr) (hp:p.block<lo∨hi≤p.block) (v:Value):OwnF (W.setCell p v) lo hi a n c xs:=by
 refine⟨ownsRow_setCell_other h.1 ?_ _,h.2⟩
 intro e
 have h1:=h.1.lt _ e
 have h2:=h.2 _ e
 omega
theorem step_append_newK {P:Program} {W:World} {ops:Array Oper} {o:Oper} {a:Act} {K:Act→World→Prop} {Q:Exit→Act→World→Prop} {E:Prop} (hgd:o.guard=none) (s x:Operand) (t:TypeId)
 (ho:o.op=.call { callee:=.builtin .append,args:=#[s,x],argTypes:=#[t,t] })
 (e:TypeId) (i:TypeInfo) (z:Value) (size bytes:Nat) (ht:P.underlying t=some (.slice e)) (hi:P.info? e=some i) (hz:i.zero=some z)
 (hsize:i.size=size) (hby:i.bytes=bytes) (hzs:z.cells.size=size) (hsz:0<size)
 (ad:Addr) (hs:a.eval s=.slice (some ad) 0 0)
 (a2:Option Addr) (m c:Nat) (xs:List Value) (hx:a.eval x=.slice a2 m c) (hl:xs.length=m*size) (hcs:m=0∨∃ ad2,a2=some ad2∧∀ j u,xs[j]? = some u→W.cell? (ad2.add j)=some u) (h1:∀ u∈xs,u.oneCell'=true)
 (h63:m≤1048576) (hbytes:bytes≤64)
 (h:∀ a' c' w',NewR w' W.heap.size a' xs→((∃ b off,a'=some ⟨b,off,none⟩)∨a'=some ad)→Below W.heap.size W w'→K (a.put o.dst (.slice a' m c')) w') :
 if Region.wanted o (yielded ops a.tmps)=true then Oper.wp P o a W K Q else E:=by
 rcases hcs with h0 | ⟨ad2,rfl,hcs⟩
 · subst h0
   have hxn:xs=[]:=List.length_eq_zero_iff.1 (by rw[hl];simp)
   subst hxn
   have hsrc:Src P i.size t (.slice a2 0 c) 0 [] W:=by
    cases a2 with
    | none=>exact Src.ofNil W ht c
    | some ad2=>exact Src.ofSlice W ht ad2 0 c [] (by simp) (by simp) (by simp)
   exact step_append_run hgd s x t t ho _ _ _ hs hx (fun ty=>run_append_nothing W t t ty e i ht hi (some ad) 0 0 (Nat.le_refl _) _ hsrc) (h (some ad) 0 W (.inl rfl) (.inr rfl) (Below.refl _ _))
 · by_cases h0:m=0
   · subst h0
     have hxn:xs=[]:=List.length_eq_zero_iff.1 (by rw[hl];simp)
     subst hxn
     exact step_append_run hgd s x t t ho _ _ _ hs hx (fun ty=>run_append_nothing W t t ty e i ht hi (some ad) 0 0 (Nat.le_refl _) _ (Src.ofSlice W ht ad2 0 c [] (by simp) (by simp) (by simp))) (h (some ad) 0 W (.inl rfl) (.inr rfl) (Below.refl _ _))
   · have hsrc:Src P i.size t (.slice (some ad2) m c) m xs W:=Src.ofSlice W ht ad2 m c xs (by rw[hsize];exact hl) hcs h1
     have hge:=grownCap_ge W (0+m) 0 e
     have hrun:=fun ty=>run_append_grow_src W t t ty e i z ht hi hz (some ad) 0 0 [] (run_firstCells_some W.drew i.size 0 ad 0 0 [] (by simp) (by simp)) (.slice (some ad2) m c) m xs hsrc (by omega) (by omega) (growslice_fits (by omega) (by rw[hby];have:=Nat.mul_le_mul (Nat.le_of_eq (Nat.zero_add m)) hbytes;omega))
     refine step_append_run hgd s x t t ho _ _ _ hs hx hrun ?_
     rw[Nat.zero_add]
     refine h _ _ _ (.inr ⟨W.heap.size,rfl,Nat.le_refl _,by simp,fun j hj=>?_⟩) (.inl ⟨_,_,rfl⟩) ⟨rfl,rfl,rfl,by simp,fun k hk=>heap_alloc_old W.drew _ hk⟩
     have hblk:=heap_alloc_new W.drew (.cells (([] ++ xs).toArray ++ Builtin.zeroCells z.cells (grownCap W m 0 e - m)) e)
     have e1:W.drew.heap.size=W.heap.size:=rfl
     rw[e1] at hblk
     rw[cell_of_row _ _ j _ _ _ hblk,Array.getElem?_append_left (by simpa using hj)]
     simp
theorem step_append_growK {P:Program} {W:World} {ops:Array Oper} {o:Oper} {a:Act} {K:Act→World→Prop} {Q:Exit→Act→World→Prop} {E:Prop} (hgd:o.guard=none) (s x:Operand) (t:TypeId)
 (ho:o.op=.call { callee:=.builtin .append,args:=#[s,x],argTypes:=#[t,t] })
 (e:TypeId) (i:TypeInfo) (z:Value) (size bytes:Nat) (ht:P.underlying t=some (.slice e)) (hi:P.info? e=some i) (hz:i.zero=some z)
 (hsize:i.size=size) (hby:i.bytes=bytes) (hzs:z.cells.size=size)
 (ad:Addr) (hs:a.eval s=.slice (some ad) 0 0)
 (a2:Option Addr) (m c:Nat) (xs:List Value) (hx:a.eval x=.slice a2 m c) (hl:xs.length=m*size) (hcs:m=0∨∃ ad2,a2=some ad2∧∀ j u,xs[j]? = some u→W.cell? (ad2.add j)=some u) (h1:∀ u∈xs,u.oneCell'=true)
 (h63:m≤1048576) (hbytes:bytes≤64)
 (h:∀ a' c' w' row,GrowR w' W.heap.size e size a' m c' xs row→((∃ b off,a'=some ⟨b,off,none⟩)∨a'=some ad)→Below W.heap.size W w'→K (a.put o.dst (.slice a' m c')) w') :
 if Region.wanted o (yielded ops a.tmps)=true then Oper.wp P o a W K Q else E:=by
 by_cases h0:m=0
 · subst h0
   have hxn:xs=[]:=List.length_eq_zero_iff.1 (by rw[hl];simp)
   subst hxn
   have hsrc:Src P i.size t (.slice a2 0 c) 0 [] W:=by
    cases a2 with
    | none=>exact Src.ofNil W ht c
    | some ad2=>exact Src.ofSlice W ht ad2 0 c [] (by simp) (by simp) (by simp)
   exact step_append_run hgd s x t t ho _ _ _ hs hx (fun ty=>run_append_nothing W t t ty e i ht hi (some ad) 0 0 (Nat.le_refl _) _ hsrc) (h (some ad) 0 W none (.inl ⟨ad,rfl,rfl,rfl,rfl,rfl⟩) (.inr rfl) (Below.refl _ _))
 · rcases hcs with hcs | ⟨ad2,rfl,hcs⟩
   · exact absurd hcs h0
   · obtain⟨c',w',hr,hown,hg⟩:=run_grow0 W t e i z size bytes ht hi hz hsize hby hzs ad ad2 m c xs hl hcs h1 (by omega) (by omega) hbytes
     exact step_append_run hgd s x t t ho _ _ _ hs hx hr (h _ c' w' _ (.inr ⟨hown,rfl⟩) (.inl ⟨_,_,rfl⟩) ⟨hg.os,hg.tape,hg.output,hg.size,fun k hk=>hg.block k hk (by simp)⟩)
def SPostG (W w':World) (e:Ending) (live safe:List PairL) (ops:List DOpL):Prop :=
 ∃ (x1 x2 x3:Option Addr) (k1 k2 k3:Nat),e=.returned (.agg #[.slice x1 live.length k1,.slice x2 safe.length k2,.slice x3 ops.length k3])∧NewR w' W.heap.size x1 (pcells live)∧NewR w' W.heap.size x2 (pcells safe)∧NewR w' W.heap.size x3 (dcells ops)∧Below W.heap.size W w'∧AddrK x1 k1∧AddrK x2 k2∧AddrL x3 k3 ops.length∧LiveF w' W.heap.size x1 live.length k1 (pcells live) x2 (pcells safe) x3 (dcells ops)
set_option maxRecDepth 100000 in
set_option maxHeartbeats 4000000 in
theorem spec_syncG (a1 a2 a3 : Option Addr) (c1 c2 c3 : Nat) (live safe : List PairL) (ops : List DOpL) (w : World) (ha : AddrOk a2) (hl1 : live.length ≤ 1048576) (hm1 : ∀ p ∈ live, p.1.length ≤ 1048576 ∧ p.2.length ≤ 1048576) (hl2 : safe.length ≤ 1048576) (hm2 : ∀ p ∈ safe, p.1.length ≤ 1048576 ∧ p.2.length ≤ 1048576) (hl3 : ops.length ≤ 1048576) (hm3 : ∀ p ∈ ops, p.n.length ≤ 1048576 ∧ p.t.length ≤ 1048576 ∧ p.d.length ≤ 1048576)
 (hs1:IsPairs w a1 live) (hs2:IsPairs w a2 safe) (hs3:IsDOps w a3 ops) :
 Calls Try.prog 23 #[.agg #[.slice a1 live.length c1,.slice a2 safe.length c2,.slice a3 ops.length c3]] w fun e w'=>SPostG w w' e (syncL live safe ops) (syncL live safe ops) []:=by
 obtain⟨i0,hi0,hz0,hz1,hz2⟩:=info_parts infoFile
 obtain⟨wa,hwa⟩:∃ wa,wa=(w.alloc (.cells #[.slice a1 live.length c1,.slice a2 safe.length c2,.slice a3 ops.length c3] 31)).alloc (.cells #[.slice none 0 0,.slice none 0 0,.slice none 0 0] 31):=⟨_,rfl⟩
 have B0:Below w.heap.size w wa:=by rw[hwa];exact ((Below.refl _ _).alloc (Nat.le_refl _) _).alloc (by simp) _
 have s0:wa.heap.size=w.heap.size+2:=by rw[hwa];simp
 have H0:Hid (wa.heap[w.heap.size]? = some (.cells #[.slice a1 live.length c1,.slice a2 safe.length c2,.slice a3 ops.length c3] 31 (0,0))):=by rw[hwa,Hid,Below.heap_alloc _ _ _ (by simp)];exact heap_alloc_new w _
 have R0:Hid (wa.heap[w.heap.size+1]? = some (.cells #[.slice none 0 0,.slice none 0 0,.slice none 0 0] 31 (0,0))):=by
  rw[hwa,Hid]
  have:=heap_alloc_new (w.alloc (.cells #[.slice a1 live.length c1,.slice a2 safe.length c2,.slice a3 ops.length c3] 31)) (.cells #[.slice none 0 0,.slice none 0 0,.slice none 0 0] 31)
  simpa using this
 obtain⟨p0,p1,p2,_⟩:=three_cells H0.out
 have KD:=spec_diskOk a1 a2 a3 c1 c2 c3 live safe ops wa ha hl1 hm1 hl2 hm2 hl3 hm3 (hs1.later B0) (hs2.later B0) (hs3.later B0)
 have HIS:Hid (∀ W,Below w.heap.size w W→IsPairs W a1 live):=fun W hW=>hs1.later hW
 have HSY:Hid (syncL live safe ops=if diskOk live safe ops=true then live else []):=rfl
 obtain⟨dk,hdk⟩:∃ dk,dk=diskOk live safe ops:=⟨_,rfl⟩
 obtain⟨sy,hsy⟩:∃ sy,sy=syncL live safe ops:=⟨_,rfl⟩
 rw[←hdk] at KD HSY
 rw[←hsy] at HSY ⊢
 unfold SPostG
 rw[hwa] at KD p0 p1 p2
 clear hs1 hs2 hs3 hm1 hm2 hm3 hdk hsy
 go_enter Try.func23,Try.ntmps23
 go_wp2_with fail
 refine KD.mono ?_
 rintro e w1 ⟨rfl,b1⟩
 rw[←hwa] at b1
 have B1:=B0.trans (b1.mono B0.size)
 have H1:Hid (w1.heap[w.heap.size]? = some (.cells #[.slice a1 live.length c1,.slice a2 safe.length c2,.slice a3 ops.length c3] 31 (0,0))):=(b1.block _ (lt_of_block H0.out)).trans H0.out
 have R1:Hid (w1.heap[w.heap.size+1]? = some (.cells #[.slice none 0 0,.slice none 0 0,.slice none 0 0] 31 (0,0))):=(b1.block _ (lt_of_block R0.out)).trans R0.out
 have s1:w.heap.size+1<w1.heap.size:=lt_of_block R1.out
 clear p0 p1 p2 KD b1 H0 R0 B0 hwa s0
 cases dk with
 | false =>
   have e1:sy=[]:=by rw[HSY.out];rfl
   subst e1
   obtain⟨r0,r1,r2,rf⟩:=three_cells R1.out
   have rf0:=rf 0
   have rf1:=rf 1
   have rf2:=rf 2
   have y1:=dk_set (j:=0) (z:=.slice none 0 0) R1.out
   have y2:=dk_set (j:=1) (z:=.slice none 0 0) y1
   have y3:=dk_set (j:=2) (z:=.slice none 0 0) y2
   have HY:Hid (_=_):=y3
   have HBB:Hid (Below w.heap.size w (((w1.setCell ⟨w.heap.size+1,0,none⟩ (.slice none 0 0)).setCell ⟨w.heap.size+1,1,none⟩ (.slice none 0 0)).setCell ⟨w.heap.size+1,2,none⟩ (.slice none 0 0))):=((B1.setCell (by simp) _).setCell (by simp) _).setCell (by simp) _
   clear y1 y2 y3 rf HSY H1 R1 HIS
   go_wp2
   exact bodyPost_ret (v:=.agg #[.slice none 0 0,.slice none 0 0,.slice none 0 0]) (results_cell_row rfl _ _ (w.heap.size+1) 31 _ (0,0) _ rfl HY.out Try.underlying31 rfl (by kernel_rfl)) rfl ⟨none,none,none,0,0,0,rfl,.inl rfl,.inl rfl,.inl rfl,HBB.out,.inl ⟨rfl,rfl⟩,.inl ⟨rfl,rfl⟩,⟨.inl ⟨rfl,rfl⟩,Nat.le_refl _⟩,_,.inr ⟨World.ownsRow_nil _ _ _ _,rfl⟩,fun q hq=>by simp[Value.ownBlock] at hq⟩
 | true =>
   have e1:sy=live:=by rw[HSY.out];rfl
   subst e1
   have HC:Hid (∀ W,Below w1.heap.size w1 W→W.cell? ⟨w.heap.size,0,none⟩=some (.slice a1 sy.length c1)):=fun W hW=>(three_cells ((hW.block _ (lt_of_block H1.out)).trans H1.out)).1
   have HI1:Hid (∀ W,Below w1.heap.size w1 W→sy.length=0∨∃ ad2,a1=some ad2∧∀ j u,(pcells sy)[j]? = some u→W.cell? (ad2.add j)=some u):=fun W hW=>src_pairs (HIS.out W (B1.trans (hW.mono B1.size)))
   have BR:Below w1.heap.size w1 w1:=Below.refl _ _
   have HPL:Hid ((pcells sy).length=sy.length*2):=pcells_length sy
   have HP1:Hid (∀ u∈pcells sy,u.oneCell'=true):=files_one sy
   clear HSY
   go_wp2_with fail
   go_region_held3 (fun w'=>w'.cell? ⟨w.heap.size,0,none⟩=some (.slice a1 sy.length c1))
    (first | with_reducible exact S15.out | exact HC.out _ (by repeat' first | with_reducible exact B14.out | with_reducible exact B10.out | with_reducible exact BR | with_reducible apply below_drew1 | (with_reducible refine below_lit ?_ (Nat.le_refl _) _)))
    (first
     | (refine step_append_newK rfl (.tmp 11) (.tmp 13) 28 rfl 84 i0 (.agg #[.string ⟨#[]⟩, .string ⟨#[]⟩]) 2 32 Try.underlying28 hi0 hz0 hz1 hz2 rfl (by decide) _ (by rfl) a1 sy.length c1 (pcells sy) (by rfl) HPL.out (HI1.out _ (by repeat' first | with_reducible exact B10.out | with_reducible exact BR | with_reducible apply below_drew1 | (with_reducible refine below_lit ?_ (Nat.le_refl _) _))) HP1.out hl1 (by decide) ?_
        intro a14 k14 w14 n14 A14 b14
        have B14:Hid (Below w1.heap.size w1 w14):=below_via (by repeat' first | with_reducible exact B10.out | with_reducible exact BR | with_reducible apply below_drew1 | (with_reducible refine below_lit ?_ (Nat.le_refl _) _)) (Nat.le_refl _) b14
        have N14:Hid (NewR w14 w1.heap.size a14 (pcells sy)):=new_via (by repeat' first | with_reducible exact B10.out | with_reducible exact BR | with_reducible apply below_drew1 | (with_reducible refine below_lit ?_ (Nat.le_refl _) _)) (Nat.le_refl _) n14
        have N10b:Hid (NewR w14 w1.heap.size a10 (pcells sy)):=N10.out.later (below_via (by repeat' first | with_reducible exact Below.refl _ _ | with_reducible apply below_drew1 | (with_reducible refine below_lit ?_ (Nat.le_refl _) _)) (Nat.le_refl _) b14)
        have Y14:Hid (w14.heap[w.heap.size+1]? = some (.cells #[.slice none 0 0,.slice none 0 0,.slice none 0 0] 31 (0,0))):=(B14.out.block _ (lt_of_block R1.out)).trans R1.out
        have X14:Hid (w14.heap[w.heap.size]? = some (.cells #[.slice a1 sy.length c1,.slice a2 safe.length c2,.slice a3 ops.length c3] 31 (0,0))):=(B14.out.block _ (lt_of_block H1.out)).trans H1.out
        have S15:Hid ((((w14.setCell ⟨w.heap.size+1,0,none⟩ (.slice a10 sy.length k10)).setCell ⟨w.heap.size+1,1,none⟩ (.slice a14 sy.length k14)).setCell ⟨w.heap.size+1,2,none⟩ (.slice none 0 0)).cell? ⟨w.heap.size,0,none⟩=some (.slice a1 sy.length c1)):=(three_cells ((Below.heap_setCell _ _ _ _ (by simp)).trans ((Below.heap_setCell _ _ _ _ (by simp)).trans ((Below.heap_setCell _ _ _ _ (by simp)).trans X14.out)))).1
        obtain⟨r0,r1,r2,rf⟩:=three_cells Y14.out
        have rf0:=rf 0
        have rf1:=rf 1
        have rf2:=rf 2
        have G14:Hid (GrowR w14 w1.heap.size 84 2 a10 sy.length k10 (pcells sy) r10):=G10.out.later (below_via (by repeat' first | with_reducible exact Below.refl _ _ | with_reducible apply below_drew1 | (with_reducible refine below_lit ?_ (Nat.le_refl _) _)) (Nat.le_refl _) b14)
        have AS14:Hid (AddrS a14):=addr_newK A14
        have N14f:Hid (NewR w14 w10.heap.size a14 (pcells sy)):=new_via (by repeat' first | with_reducible exact Below.refl _ _ | with_reducible apply below_drew1 | (with_reducible refine below_lit ?_ (Nat.le_refl _) _)) (Nat.le_refl _) n14
        clear n14 b14 rf A14)
     | (refine step_append_growK rfl (.tmp 7) (.tmp 9) 28 rfl 84 i0 (.agg #[.string ⟨#[]⟩, .string ⟨#[]⟩]) 2 32 Try.underlying28 hi0 hz0 hz1 hz2 rfl _ (by rfl) a1 sy.length c1 (pcells sy) (by rfl) HPL.out (HI1.out _ (by repeat' first | with_reducible exact BR | with_reducible apply below_drew1 | (with_reducible refine below_lit ?_ (Nat.le_refl _) _))) HP1.out hl1 (by decide) ?_
        intro a10 k10 w10 r10 g10 A10 b10
        have B10:Hid (Below w1.heap.size w1 w10):=below_via (by repeat' first | with_reducible exact BR | with_reducible apply below_drew1 | (with_reducible refine below_lit ?_ (Nat.le_refl _) _)) (Nat.le_refl _) b10
        have N10:Hid (NewR w10 w1.heap.size a10 (pcells sy)):=new_via (by repeat' first | with_reducible exact BR | with_reducible apply below_drew1 | (with_reducible refine below_lit ?_ (Nat.le_refl _) _)) (Nat.le_refl _) g10.new
        have G10:Hid (GrowR w10 w1.heap.size 84 2 a10 sy.length k10 (pcells sy) r10):=g10.lower (by exact (show Below w1.heap.size w1 _ by repeat' first | with_reducible exact BR | with_reducible apply below_drew1 | (with_reducible refine below_lit ?_ (Nat.le_refl _) _)).size)
        have AS10:Hid (AddrS a10):=addr_newK A10
        have LT10:Hid (∀ q,r10=some q→q<w10.heap.size):=fun q hq=>(g10.lt q hq).2
        clear g10 A10 b10))
   all_goals
    have y1:=dk_set (j:=0) (z:=.slice a10 sy.length k10) Y14.out
    have y2:=dk_set (j:=1) (z:=.slice a14 sy.length k14) y1
    have y3:=dk_set (j:=2) (z:=.slice none 0 0) y2
    have HY:Hid (_=_):=y3
    have N1:Hid (NewR (((w14.setCell ⟨w.heap.size+1,0,none⟩ (.slice a10 sy.length k10)).setCell ⟨w.heap.size+1,1,none⟩ (.slice a14 sy.length k14)).setCell ⟨w.heap.size+1,2,none⟩ (.slice none 0 0)) w.heap.size a10 (pcells sy)):=(((N10b.out.setCell _ s1 _).setCell _ s1 _).setCell _ s1 _).lower (by omega)
    have N2:Hid (NewR (((w14.setCell ⟨w.heap.size+1,0,none⟩ (.slice a10 sy.length k10)).setCell ⟨w.heap.size+1,1,none⟩ (.slice a14 sy.length k14)).setCell ⟨w.heap.size+1,2,none⟩ (.slice none 0 0)) w.heap.size a14 (pcells sy)):=(((N14.out.setCell _ s1 _).setCell _ s1 _).setCell _ s1 _).lower (by omega)
    have HBB:Hid (Below w.heap.size w (((w14.setCell ⟨w.heap.size+1,0,none⟩ (.slice a10 sy.length k10)).setCell ⟨w.heap.size+1,1,none⟩ (.slice a14 sy.length k14)).setCell ⟨w.heap.size+1,2,none⟩ (.slice none 0 0))):=(((B1.trans (B14.out.mono B1.size)).setCell (by simp) _).setCell (by simp) _).setCell (by simp) _
    have GL:Hid (LiveF (((w14.setCell ⟨w.heap.size+1,0,none⟩ (.slice a10 sy.length k10)).setCell ⟨w.heap.size+1,1,none⟩ (.slice a14 sy.length k14)).setCell ⟨w.heap.size+1,2,none⟩ (.slice none 0 0)) w.heap.size a10 sy.length k10 (pcells sy) a14 (pcells sy) none (dcells [])):=⟨r10,(((G14.out.setCell _ s1 _).setCell _ s1 _).setCell _ s1 _).lower (by omega),fun q hq=>⟨N14f.out.far (LT10.out q hq),.inl rfl⟩⟩
    clear y1 y2 y3 H1 R1 HIS HI1 HC G14 G10
    go_wp2
    exact bodyPost_ret (v:=.agg #[.slice a10 sy.length k10,.slice a14 sy.length k14,.slice none 0 0]) (results_cell_row rfl _ _ (w.heap.size+1) 31 _ (0,0) _ rfl HY.out Try.underlying31 rfl (by kernel_rfl)) rfl ⟨a10,a14,none,k10,k14,0,rfl,N1.out,N2.out,.inl rfl,HBB.out,.inr AS10.out,.inr AS14.out,⟨.inl ⟨rfl,rfl⟩,Nat.le_refl _⟩,GL.out⟩
end Go.Proofs.Ytlllkdioojjaeaa
