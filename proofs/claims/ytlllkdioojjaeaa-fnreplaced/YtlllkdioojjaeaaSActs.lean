/-
 Texts that are laid as one: SCopy, SAct, SDoX.
-/
import Derived.Test.YtlllkdioojjaeaaNewPs
namespace Go.Proofs.Ytlllkdioojjaeaa
open Go.RowKit
set_option linter.unusedVariables false
def CPost (W w':World) (e:Ending) (live safe:List PairL) (ops:List DOpL):Prop :=
 ∃ (x1 x2 x3:Option Addr) (k1 k2 k3 hi:Nat) (row:Option Nat),e=.returned (.agg #[.slice x1 live.length k1,.slice x2 safe.length k2,.slice x3 ops.length k3])∧W.heap.size≤hi∧hi≤w'.heap.size∧NewQ w' W.heap.size hi x1 (pcells live)∧NewQ w' W.heap.size hi x2 (pcells safe)∧GrowR w' hi 40 4 x3 ops.length k3 (dcells ops) row∧AddrOk x1∧AddrOk x2∧Below W.heap.size W w'
theorem grow_via {B:Nat} {w W W':World} {e size:Nat} {a:Option Addr} {n cap:Nat} {xs:List Value} {row:Option Nat} (h1:Below B w W) (hB:B≤w.heap.size) (h2:GrowR W' W.heap.size e size a n cap xs row):GrowR W' B e size a n cap xs row:=h2.lower (Nat.le_trans hB h1.size)
theorem addr_new {a:Option Addr} {b off:Nat} (h:(a=none∨∃ b off,a=some ⟨b,off,none⟩)∨a=some ⟨b,off,none⟩):AddrOk a:=by
 rcases h with h | h
 · exact h
 · exact .inr ⟨_,_,h⟩
set_option maxRecDepth 100000 in
set_option maxHeartbeats 8000000 in
theorem spec_copy (a1 a2 a3:Option Addr) (c1 c2 c3:Nat) (live safe:List PairL) (ops:List DOpL) (w:World) (hl1:live.length≤1048576) (hl2:safe.length≤1048576) (hl3:ops.length≤1048576)
 (hs1:IsPairs w a1 live) (hs2:IsPairs w a2 safe) (hs3:IsDOps w a3 ops) :
 Calls Try.prog 66 #[.agg #[.slice a1 live.length c1,.slice a2 safe.length c2,.slice a3 ops.length c3]] w fun e w'=>CPost w w' e live safe ops:=by
 obtain⟨i0,hi0,hz0,hz1,hz2⟩:=info_parts infoFile
 obtain⟨j0,hj0,jz0,jz1,jz2⟩:=info_parts infoDOp
 obtain⟨wa,hwa⟩:∃ wa,wa=(w.alloc (.cells #[.slice a1 live.length c1,.slice a2 safe.length c2,.slice a3 ops.length c3] 31)).alloc (.cells #[.slice none 0 0,.slice none 0 0,.slice none 0 0] 31):=⟨_,rfl⟩
 have B1:Below w.heap.size w wa:=by rw[hwa];exact ((Below.refl _ _).alloc (Nat.le_refl _) _).alloc (by simp) _
 have H1:Hid (wa.heap[w.heap.size]? = some (.cells #[.slice a1 live.length c1,.slice a2 safe.length c2,.slice a3 ops.length c3] 31 (0,0))):=by rw[hwa,Hid,Below.heap_alloc _ _ _ (by simp)];exact heap_alloc_new w _
 have R1:Hid (wa.heap[w.heap.size+1]? = some (.cells #[.slice none 0 0,.slice none 0 0,.slice none 0 0] 31 (0,0))):=by
  rw[hwa,Hid]
  have:=heap_alloc_new (w.alloc (.cells #[.slice a1 live.length c1,.slice a2 safe.length c2,.slice a3 ops.length c3] 31)) (.cells #[.slice none 0 0,.slice none 0 0,.slice none 0 0] 31)
  simpa using this
 have s1:w.heap.size+1<wa.heap.size:=lt_of_block R1.out
 have HC:Hid (∀ W,Below wa.heap.size wa W→W.cell? ⟨w.heap.size,0,none⟩=some (.slice a1 live.length c1)∧W.cell? ⟨w.heap.size,1,none⟩=some (.slice a2 safe.length c2)∧W.cell? ⟨w.heap.size,2,none⟩=some (.slice a3 ops.length c3)):=fun W hW=>by
  obtain⟨u0,u1,u2,_⟩:=three_cells ((hW.block _ (lt_of_block H1.out)).trans H1.out)
  exact⟨u0,u1,u2⟩
 have HI1:Hid (∀ W,Below wa.heap.size wa W→live.length=0∨∃ ad2,a1=some ad2∧∀ j u,(pcells live)[j]? = some u→W.cell? (ad2.add j)=some u):=fun W hW=>src_pairs (hs1.later (B1.trans (hW.mono B1.size)))
 have HI2:Hid (∀ W,Below wa.heap.size wa W→safe.length=0∨∃ ad2,a2=some ad2∧∀ j u,(pcells safe)[j]? = some u→W.cell? (ad2.add j)=some u):=fun W hW=>src_pairs (hs2.later (B1.trans (hW.mono B1.size)))
 have HI3:Hid (∀ W,Below wa.heap.size wa W→ops.length=0∨∃ ad2,a3=some ad2∧∀ j u,(dcells ops)[j]? = some u→W.cell? (ad2.add j)=some u):=fun W hW=>src_dops (hs3.later (B1.trans (hW.mono B1.size)))
 have BR:Below wa.heap.size wa wa:=Below.refl _ _
 have HL1:Hid ((pcells live).length=live.length*2):=pcells_length live
 have HL2:Hid ((pcells safe).length=safe.length*2):=pcells_length safe
 have HL3:Hid ((dcells ops).length=ops.length*4):=dcells_length ops
 have HO1:Hid (∀ u∈pcells live,u.oneCell'=true):=files_one live
 have HO2:Hid (∀ u∈pcells safe,u.oneCell'=true):=files_one safe
 have HO3:Hid (∀ u∈dcells ops,u.oneCell'=true):=dcells_one ops
 unfold CPost
 clear hs1 hs2 hs3
 go_enter Try.func66,Try.ntmps66
 go_wp2_with fail
 rw[←hwa]
 clear hwa
 go_region_held3 (fun w'=>w'.cell? ⟨w.heap.size,0,none⟩=some (.slice a1 live.length c1)∧w'.cell? ⟨w.heap.size,1,none⟩=some (.slice a2 safe.length c2)∧w'.cell? ⟨w.heap.size,2,none⟩=some (.slice a3 ops.length c3))
  (first | with_reducible exact S15.out | exact HC.out _ (by repeat' first | with_reducible exact B14.out | with_reducible exact B10.out | with_reducible exact B6.out | with_reducible exact BR | with_reducible apply below_drew1 | (with_reducible refine below_lit ?_ (Nat.le_refl _) _)))
  (first
   | (refine step_append_grow rfl (.tmp 11) (.tmp 13) 29 rfl 40 j0 (.agg #[.int .i64 0, .string ⟨#[]⟩, .string ⟨#[]⟩, .string ⟨#[]⟩]) 4 56 Try.underlying29 hj0 jz0 jz1 jz2 rfl _ (by rfl) a3 ops.length c3 (dcells ops) (by rfl) HL3.out (HI3.out _ (by repeat' first | with_reducible exact B10.out | with_reducible exact B6.out | with_reducible exact BR | with_reducible apply below_drew1 | (with_reducible refine below_lit ?_ (Nat.le_refl _) _))) HO3.out hl3 (by decide) ?_
      intro a14 k14 w14 r14 n14 b14
      have B14:Hid (Below wa.heap.size wa w14):=below_via (by repeat' first | with_reducible exact B10.out | with_reducible exact B6.out | with_reducible exact BR | with_reducible apply below_drew1 | (with_reducible refine below_lit ?_ (Nat.le_refl _) _)) (Nat.le_refl _) b14
      have V14:Hid (Below w10.heap.size w10 w14):=below_via (by repeat' first | with_reducible exact Below.refl _ _ | with_reducible apply below_drew1 | (with_reducible refine below_lit ?_ (Nat.le_refl _) _)) (Nat.le_refl _) b14
      have G14:Hid (GrowR w14 w10.heap.size 40 4 a14 ops.length k14 (dcells ops) r14):=grow_via (by repeat' first | with_reducible exact Below.refl _ _ | with_reducible apply below_drew1 | (with_reducible refine below_lit ?_ (Nat.le_refl _) _)) (Nat.le_refl _) n14
      have N6c:Hid (NewQ w14 wa.heap.size w10.heap.size a6 (pcells live)):=N6b.out.later V14.out
      have N10b:Hid (NewQ w14 wa.heap.size w10.heap.size a10 (pcells safe)):=N10.out.later V14.out
      have Y14:Hid (w14.heap[w.heap.size+1]? = some (.cells #[.slice none 0 0,.slice none 0 0,.slice none 0 0] 31 (0,0))):=(B14.out.block _ (lt_of_block R1.out)).trans R1.out
      have X14:Hid (w14.heap[w.heap.size]? = some (.cells #[.slice a1 live.length c1,.slice a2 safe.length c2,.slice a3 ops.length c3] 31 (0,0))):=(B14.out.block _ (lt_of_block H1.out)).trans H1.out
      have S15:Hid ((((w14.setCell ⟨w.heap.size+1,0,none⟩ (.slice a6 live.length k6)).setCell ⟨w.heap.size+1,1,none⟩ (.slice a10 safe.length k10)).setCell ⟨w.heap.size+1,2,none⟩ (.slice a14 ops.length k14)).cell? ⟨w.heap.size,0,none⟩=some (.slice a1 live.length c1)∧(((w14.setCell ⟨w.heap.size+1,0,none⟩ (.slice a6 live.length k6)).setCell ⟨w.heap.size+1,1,none⟩ (.slice a10 safe.length k10)).setCell ⟨w.heap.size+1,2,none⟩ (.slice a14 ops.length k14)).cell? ⟨w.heap.size,1,none⟩=some (.slice a2 safe.length c2)∧(((w14.setCell ⟨w.heap.size+1,0,none⟩ (.slice a6 live.length k6)).setCell ⟨w.heap.size+1,1,none⟩ (.slice a10 safe.length k10)).setCell ⟨w.heap.size+1,2,none⟩ (.slice a14 ops.length k14)).cell? ⟨w.heap.size,2,none⟩=some (.slice a3 ops.length c3)):=by
       obtain⟨u0,u1,u2,_⟩:=three_cells ((Below.heap_setCell (w14.setCell ⟨w.heap.size+1,0,none⟩ (.slice a6 live.length k6) |>.setCell ⟨w.heap.size+1,1,none⟩ (.slice a10 safe.length k10)) ⟨w.heap.size+1,2,none⟩ (.slice a14 ops.length k14) w.heap.size (by simp)).trans ((Below.heap_setCell _ _ _ _ (by simp)).trans ((Below.heap_setCell _ _ _ _ (by simp)).trans X14.out)))
       exact⟨u0,u1,u2⟩
      obtain⟨r0,r1,r2,rf⟩:=three_cells Y14.out
      have rf0:=rf 0
      have rf1:=rf 1
      have rf2:=rf 2
      clear n14 b14 rf)
   | (refine step_append_new rfl (.tmp 7) (.tmp 9) 28 rfl 84 i0 (.agg #[.string ⟨#[]⟩, .string ⟨#[]⟩]) 2 32 Try.underlying28 hi0 hz0 hz1 hz2 rfl (by decide) _ (by rfl) a2 safe.length c2 (pcells safe) (by rfl) HL2.out (HI2.out _ (by repeat' first | with_reducible exact B6.out | with_reducible exact BR | with_reducible apply below_drew1 | (with_reducible refine below_lit ?_ (Nat.le_refl _) _))) HO2.out hl2 (by decide) ?_
      intro a10 k10 w10 n10 A10 b10
      have B10:Hid (Below wa.heap.size wa w10):=below_via (by repeat' first | with_reducible exact B6.out | with_reducible exact BR | with_reducible apply below_drew1 | (with_reducible refine below_lit ?_ (Nat.le_refl _) _)) (Nat.le_refl _) b10
      have N10:Hid (NewQ w10 wa.heap.size w10.heap.size a10 (pcells safe)):=newQ_of (new_via (by repeat' first | with_reducible exact B6.out | with_reducible exact BR | with_reducible apply below_drew1 | (with_reducible refine below_lit ?_ (Nat.le_refl _) _)) (Nat.le_refl _) n10)
      have AD10:Hid (AddrOk a10):=addr_new A10
      have N6b:Hid (NewQ w10 wa.heap.size w10.heap.size a6 (pcells live)):=newQ_of (N6.out.later (below_via (by repeat' first | with_reducible exact Below.refl _ _ | with_reducible apply below_drew1 | (with_reducible refine below_lit ?_ (Nat.le_refl _) _)) (Nat.le_refl _) b10))
      clear n10 b10 A10)
   | (refine step_append_new rfl (.tmp 3) (.tmp 5) 28 rfl 84 i0 (.agg #[.string ⟨#[]⟩, .string ⟨#[]⟩]) 2 32 Try.underlying28 hi0 hz0 hz1 hz2 rfl (by decide) _ (by rfl) a1 live.length c1 (pcells live) (by rfl) HL1.out (HI1.out _ (by repeat' first | with_reducible exact BR | with_reducible apply below_drew1 | (with_reducible refine below_lit ?_ (Nat.le_refl _) _))) HO1.out hl1 (by decide) ?_
      intro a6 k6 w6 n6 A6 b6
      have B6:Hid (Below wa.heap.size wa w6):=below_via (by repeat' first | with_reducible exact BR | with_reducible apply below_drew1 | (with_reducible refine below_lit ?_ (Nat.le_refl _) _)) (Nat.le_refl _) b6
      have N6:Hid (NewR w6 wa.heap.size a6 (pcells live)):=new_via (by repeat' first | with_reducible exact BR | with_reducible apply below_drew1 | (with_reducible refine below_lit ?_ (Nat.le_refl _) _)) (Nat.le_refl _) n6
      have AD6:Hid (AddrOk a6):=addr_new A6
      clear n6 b6 A6))
 all_goals
  have y1:=dk_set (j:=0) (z:=.slice a6 live.length k6) Y14.out
  have y2:=dk_set (j:=1) (z:=.slice a10 safe.length k10) y1
  have y3:=dk_set (j:=2) (z:=.slice a14 ops.length k14) y2
  have HY:Hid (_=_):=y3
  have hb10:=B10.out.size
  have N1:Hid (NewQ (((w14.setCell ⟨w.heap.size+1,0,none⟩ (.slice a6 live.length k6)).setCell ⟨w.heap.size+1,1,none⟩ (.slice a10 safe.length k10)).setCell ⟨w.heap.size+1,2,none⟩ (.slice a14 ops.length k14)) w.heap.size w10.heap.size a6 (pcells live)):=(((N6c.out.setCell _ s1 _).setCell _ s1 _).setCell _ s1 _).lower (by omega) (Nat.le_refl _)
  have N2:Hid (NewQ (((w14.setCell ⟨w.heap.size+1,0,none⟩ (.slice a6 live.length k6)).setCell ⟨w.heap.size+1,1,none⟩ (.slice a10 safe.length k10)).setCell ⟨w.heap.size+1,2,none⟩ (.slice a14 ops.length k14)) w.heap.size w10.heap.size a10 (pcells safe)):=(((N10b.out.setCell _ s1 _).setCell _ s1 _).setCell _ s1 _).lower (by omega) (Nat.le_refl _)
  have s9:w.heap.size+1<w10.heap.size:=by omega
  have N3:Hid (GrowR (((w14.setCell ⟨w.heap.size+1,0,none⟩ (.slice a6 live.length k6)).setCell ⟨w.heap.size+1,1,none⟩ (.slice a10 safe.length k10)).setCell ⟨w.heap.size+1,2,none⟩ (.slice a14 ops.length k14)) w10.heap.size 40 4 a14 ops.length k14 (dcells ops) r14):=((G14.out.setCell _ s9 _).setCell _ s9 _).setCell _ s9 _
  have HBB:Hid (Below w.heap.size w (((w14.setCell ⟨w.heap.size+1,0,none⟩ (.slice a6 live.length k6)).setCell ⟨w.heap.size+1,1,none⟩ (.slice a10 safe.length k10)).setCell ⟨w.heap.size+1,2,none⟩ (.slice a14 ops.length k14))):=(((B1.trans (B14.out.mono B1.size)).setCell (by simp) _).setCell (by simp) _).setCell (by simp) _
  have HSZ:Hid (w10.heap.size≤(((w14.setCell ⟨w.heap.size+1,0,none⟩ (.slice a6 live.length k6)).setCell ⟨w.heap.size+1,1,none⟩ (.slice a10 safe.length k10)).setCell ⟨w.heap.size+1,2,none⟩ (.slice a14 ops.length k14)).heap.size):=by rw[Hid];simpa using V14.out.size
  clear y1 y2 y3 H1 R1 HI1 HI2 HI3 HC
  go_wp2
  exact bodyPost_ret (v:=.agg #[.slice a6 live.length k6,.slice a10 safe.length k10,.slice a14 ops.length k14]) (results_cell_row rfl _ _ (w.heap.size+1) 31 _ (0,0) _ rfl HY.out Try.underlying31 rfl (by kernel_rfl)) rfl ⟨a6,a10,a14,k6,k10,k14,w10.heap.size,r14,rfl,by omega,HSZ.out,N1.out,N2.out,N3.out,AD6.out,AD10.out,HBB.out⟩
theorem results_disk {P:Program} {fn:Func} {p u:Tmp} {ty:TypeId} (h:fn.results=#[.cell p ty,.tmp u]) (tmps:Array Value) (w:World) (g:Nat) (t:TypeId) (cs:Array Value) (fr:Nat × Nat) (d:TypeDesc) (x:Value)
 (hp:tmps.getD p undef=.pointer (some ⟨g,0,none⟩)) (hg:w.heap[g]? = some (.cells cs t fr))
 (hu:P.underlying ty=some d) (hd:(match d with | .struct _ | .array _ _=>true | _=>false)=true) (hi:(P.info? ty).map (·.size)=some cs.size) (hx:tmps.getD u undef=x) :
 (results fn tmps).run P w=.ok (.tuple #[.agg cs,x]) w:=by
 have hp':tmps[p]?.getD undef=.pointer (some ⟨g,0,none⟩):=by simpa using hp
 have hx':tmps[u]?.getD undef=x:=by simpa using hx
 simp[results,h,hp',hx',asAddr,run_loadVar_row w g t ty cs fr d hg hu hd hi,Result.andThen]
def APost (W w':World) (e:Ending) (r:List PairL × List PairL × List DOpL × Int):Prop :=
 ∃ (x1 x2 x3:Option Addr) (k1 k2 k3:Nat),e=.returned (.tuple #[.agg #[.slice x1 r.1.length k1,.slice x2 r.2.1.length k2,.slice x3 r.2.2.1.length k3],.int .i64 r.2.2.2])∧NewR w' W.heap.size x1 (pcells r.1)∧NewR w' W.heap.size x2 (pcells r.2.1)∧NewR w' W.heap.size x3 (dcells r.2.2.1)∧AddrOk x1∧AddrOk x2∧Below W.heap.size W w'
theorem NewQ.setAt {W:World} {lo hi:Nat} {a:Option Addr} {xs:List Value} (h:NewQ W lo hi a xs) (p:Addr) (hp:p.block<lo∨hi≤p.block) (v:Value):NewQ (W.setCell p v) lo hi a xs:=by
 refine⟨?_,h.2⟩
 rcases h with ⟨h | ⟨g,rfl,h1,h2,h3⟩,h9⟩
 · exact .inl h
 · by_cases he:xs=[]
   · exact .inl he
   · have hg:=h9 g he rfl
     exact .inr ⟨g,rfl,h1,by simpa using h2,fun j hj=>by rw[World.cell?_of_block (w:=W) (a:=⟨g,j,none⟩) (Below.heap_setCell _ _ _ _ (by simp;omega))];exact h3 j hj⟩
theorem copy_post {w W w9:World} {live safe:List PairL} {ops:List DOpL} {r:List PairL × List PairL × List DOpL × Int} {code:Int} {x1 x2 x3:Option Addr} {k1 k2 k3 hi ln:Nat} {row:Option Nat}
 (he:r=(live,safe,ops,code)) (hln:ln=ops.length) (hb:Below w.heap.size w W) (s9:(w.heap.size+1+1)<W.heap.size) (hhi:W.heap.size≤hi)
 (n1:NewQ w9 W.heap.size hi x1 (pcells live)) (n2:NewQ w9 W.heap.size hi x2 (pcells safe)) (n3:GrowR w9 hi 40 4 x3 ln k3 (dcells ops) row) (ad1:AddrOk x1) (ad2:AddrOk x2) (b9:Below W.heap.size W w9) :
 APost w (((w9.setCell ⟨w.heap.size+1+1,0,none⟩ (.slice x1 live.length k1)).setCell ⟨w.heap.size+1+1,1,none⟩ (.slice x2 safe.length k2)).setCell ⟨w.heap.size+1+1,2,none⟩ (.slice x3 ln k3)) (.returned (.tuple #[.agg #[.slice x1 live.length k1,.slice x2 safe.length k2,.slice x3 ln k3],.int .i64 code])) r:=by
 subst hln
 rw[he]
 have z9:=hb.size
 have t9:(w.heap.size+1+1)<hi:=Nat.lt_of_lt_of_le s9 hhi
 exact⟨x1,x2,x3,k1,k2,k3,rfl,(((n1.1.setCell _ s9 _).setCell _ s9 _).setCell _ s9 _).lower (by omega),(((n2.1.setCell _ s9 _).setCell _ s9 _).setCell _ s9 _).lower (by omega),(((n3.new.setCell _ t9 _).setCell _ t9 _).setCell _ t9 _).lower (by omega),ad1,ad2,(((hb.trans (b9.mono hb.size)).setCell (by simp only;omega) _).setCell (by simp only;omega) _).setCell (by simp only;omega) _⟩
theorem act_end {w w7:World} {s1 s2 s3 b8 hi:Nat} {safe dn:List PairL} {ops:List DOpL} {k:Int} {n t d:List UInt8} {r:List PairL × List PairL × List DOpL × Int} {a' x2:Option Addr} {c' k2 g7 cap7 ln:Nat} {u0 u1 u2:Value}
 (he:r=(dn,safe,ops ++ [⟨k,n,t,d⟩],0)) (hln:ln=ops.length) (ho:w7.ownsRow hi 40 4 (.slice (some ⟨g7,0,none⟩) (ln+1) cap7) (ln+1) (dcells ops ++ [.int .i64 k,.string ⟨n.toArray⟩,.string ⟨t.toArray⟩,.string ⟨d.toArray⟩])) (hy:w7.heap[b8]? = some (.cells #[u0,u1,u2] 31 (0,0)))
 (hq:NewQ w7 s1 s2 a' (pcells dn)) (hn:NewQ w7 s3 hi x2 (pcells safe)) (hb:Below w.heap.size w w7) (h1:AddrOk a') (h2:AddrOk x2) (i1:(w.heap.size+1+1)<s1) (i2:s1≤s3) (i3:s3≤hi) (i4:hi≤b8) (i5:s2≤b8) :
 APost w ((((w7.setCell ⟨b8,2,none⟩ (.slice (some ⟨g7,0,none⟩) (ln+1) cap7)).setCell ⟨w.heap.size+1+1,0,none⟩ (.slice a' dn.length c')).setCell ⟨w.heap.size+1+1,1,none⟩ (.slice x2 safe.length k2)).setCell ⟨w.heap.size+1+1,2,none⟩ (.slice (some ⟨g7,0,none⟩) (ln+1) cap7)) (.returned (.tuple #[.agg #[.slice a' dn.length c',.slice x2 safe.length k2,.slice (some ⟨g7,0,none⟩) (ln+1) cap7],.int .i64 0])) r:=by
 have hne:g7≠b8:=by
  intro e
  rcases ho.2 with ⟨h,_⟩ | ⟨g,cap,cur,h,_,hg,_⟩
  · cases h
  · cases h
    rw[e,hy] at hg
    simp at hg
 have hlen:(ops ++ [⟨k,n,t,d⟩]:List DOpL).length=ln+1:=by simp[hln]
 have hbb:=hb.size
 rw[he]
 refine⟨a',x2,some ⟨g7,0,none⟩,c',k2,cap7,by rw[hlen],?_,?_,?_,h1,h2,?_⟩
 · exact ((((hq.setAt _ (.inr i5) _).setAt _ (.inl i1) _).setAt _ (.inl i1) _).setAt _ (.inl i1) _).1.lower (by omega)
 · exact ((((hn.setAt _ (.inr i4) _).setAt _ (.inl (by simp only;omega)) _).setAt _ (.inl (by simp only;omega)) _).setAt _ (.inl (by simp only;omega)) _).1.lower (by omega)
 · have h0:(w7.setCell ⟨b8,2,none⟩ (.slice (some ⟨g7,0,none⟩) (ln+1) cap7)).ownsRow hi 40 4 (.slice (some ⟨g7,0,none⟩) (ln+1) cap7) (ln+1) (dcells (ops ++ [⟨k,n,t,d⟩])):=by
    rw[dcells_app]
    refine ownsRow_setCell_other ho ?_ _
    intro e
    exact hne (by simpa [Value.ownBlock] using e)
   exact (newR_own (own_set (own_set (own_set h0 _ (by simp only;omega) _) _ (by simp only;omega) _) _ (by simp only;omega) _)).lower (by omega)
 · exact (((hb.setCell (by simp only;omega) _).setCell (by simp only;omega) _).setCell (by simp only;omega) _).setCell (by simp only;omega) _
set_option maxRecDepth 100000 in
set_option maxHeartbeats 8000000 in
theorem spec_act (a1 a2 a3:Option Addr) (c1 c2 c3:Nat) (live safe:List PairL) (ops:List DOpL) (k:Int) (n t d:List UInt8) (w:World) (ha:AddrOk a1) (hf:filesOk live=true) (hl2:safe.length≤1048576) (hl3:ops.length≤1048576) (hn:n.length≤2097152) (ht:t.length≤2097152) (hd:d.length≤1048576)
 (hs1:IsPairs w a1 live) (hs2:IsPairs w a2 safe) (hs3:IsDOps w a3 ops) :
 Calls Try.prog 55 #[.agg #[.slice a1 live.length c1,.slice a2 safe.length c2,.slice a3 ops.length c3],.agg #[.int .i64 k,.string ⟨n.toArray⟩,.string ⟨t.toArray⟩,.string ⟨d.toArray⟩]] w fun e w'=>APost w w' e (actL live safe ops ⟨k,n,t,d⟩):=by
 obtain⟨ln,hln⟩:∃ ln,ln=ops.length:=⟨_,rfl⟩
 have HLN:Hid (ln=ops.length):=hln
 obtain⟨j0,hj0,jz0,jz1,jz2⟩:=info_parts infoDOp
 obtain⟨wa,hwa⟩:∃ wa,wa=(((w.alloc (.cells #[.slice a1 live.length c1,.slice a2 safe.length c2,.slice a3 ln c3] 31)).alloc (.cells #[.int .i64 k,.string ⟨n.toArray⟩,.string ⟨t.toArray⟩,.string ⟨d.toArray⟩] 40)).alloc (.cells #[.slice none 0 0,.slice none 0 0,.slice none 0 0] 31)):=⟨_,rfl⟩
 have B0:Below w.heap.size w wa:=by rw[hwa];exact (((Below.refl _ _).alloc (Nat.le_refl _) _).alloc (by simp) _).alloc (by simp <;> omega) _
 have H0:Hid (wa.heap[w.heap.size]? = some (.cells #[.slice a1 live.length c1,.slice a2 safe.length c2,.slice a3 ln c3] 31 (0,0))):=by rw[hwa,Hid,Below.heap_alloc _ _ _ (by simp <;> omega),Below.heap_alloc _ _ _ (by simp)];exact heap_alloc_new w _
 have O0:Hid (wa.heap[(w.heap.size+1)]? = some (.cells #[.int .i64 k,.string ⟨n.toArray⟩,.string ⟨t.toArray⟩,.string ⟨d.toArray⟩] 40 (0,0))):=by
  rw[hwa,Hid,Below.heap_alloc _ _ _ (by simp)]
  have:=heap_alloc_new (w.alloc (.cells #[.slice a1 live.length c1,.slice a2 safe.length c2,.slice a3 ln c3] 31)) (.cells #[.int .i64 k,.string ⟨n.toArray⟩,.string ⟨t.toArray⟩,.string ⟨d.toArray⟩] 40)
  simpa using this
 have R0:Hid (wa.heap[(w.heap.size+1+1)]? = some (.cells #[.slice none 0 0,.slice none 0 0,.slice none 0 0] 31 (0,0))):=by
  rw[hwa,Hid]
  have:=heap_alloc_new ((w.alloc (.cells #[.slice a1 live.length c1,.slice a2 safe.length c2,.slice a3 ln c3] 31)).alloc (.cells #[.int .i64 k,.string ⟨n.toArray⟩,.string ⟨t.toArray⟩,.string ⟨d.toArray⟩] 40)) (.cells #[.slice none 0 0,.slice none 0 0,.slice none 0 0] 31)
  simpa using this
 obtain⟨p0,p1,p2,_⟩:=three_cells H0.out
 obtain⟨o0,o1,o2,o3,_⟩:=four_cells O0.out
 have hsm:=files_small hf
 have hri:=rise_files hf
 have hl1:live.length≤1048576:=by have:=hri.2.2.1;omega
 have HCP:Hid (∀ W,Below w.heap.size w W→Calls Try.prog 66 #[.agg #[.slice a1 live.length c1,.slice a2 safe.length c2,.slice a3 ops.length c3]] W fun e w'=>CPost W w' e live safe ops):=fun W hW=>spec_copy a1 a2 a3 c1 c2 c3 live safe ops W hl1 hl2 hl3 (hs1.later hW) (hs2.later hW) (hs3.later hW)
 unfold CPost at HCP
 rw[←hln] at HCP
 have HDO:Hid (∀ W,Below w.heap.size w W→_):=fun W hW=>spec_doA a1 ha c1 live k n t d W (by have:=hri.2.2.1;omega) (fun p hp=>by have:=hsm p hp;exact⟨by omega,by omega⟩) (by omega) (by omega) (by omega) (hs1.later hW)
 have K1:=spec_form k n t d wa (by omega) (by omega) (by omega)
 have HDL:Hid ((doF live ⟨k,n,t,d⟩).1.length≤61∧∀ p∈(doF live ⟨k,n,t,d⟩).1,p.1.length≤16777216∧p.2.length≤16777216):=by
  have h1:=do_len hri.1 ⟨k,n,t,d⟩
  have h2:=hri.2.2.1
  refine⟨by omega,fun p hp=>?_⟩
  have:=do_small hri.1 ⟨k,n,t,d⟩ (A:=2097152) (M:=200000) (fun p hp=>by have:=hsm p hp;exact⟨by omega,by omega⟩) hn ht p hp
  simp only at this
  exact⟨by omega,by omega⟩
 obtain⟨r,hr⟩:∃ r,r=actL live safe ops ⟨k,n,t,d⟩:=⟨_,rfl⟩
 rw[←hr]
 have E1:Hid (formOk ⟨k,n,t,d⟩=false→r=(live,safe,ops,2)):=fun h=>by rw[hr,actL,if_pos h]
 have E2:Hid (formOk ⟨k,n,t,d⟩=true→(doF live ⟨k,n,t,d⟩).2=false→r=(live,safe,ops,3)):=fun h h2=>by rw[hr,actL,if_neg (by simp[h]),if_pos h2]
 have E3:Hid (formOk ⟨k,n,t,d⟩=true→(doF live ⟨k,n,t,d⟩).2=true→(ops.length=200∨filesOk (doF live ⟨k,n,t,d⟩).1=false)→r=(live,safe,ops,4)):=fun h h2 h3=>by rw[hr,actL,if_neg (by simp[h]),if_neg (by simp[h2]),if_pos h3]
 have E4:Hid (formOk ⟨k,n,t,d⟩=true→(doF live ⟨k,n,t,d⟩).2=true→¬ (ops.length=200∨filesOk (doF live ⟨k,n,t,d⟩).1=false)→r=((doF live ⟨k,n,t,d⟩).1,safe,ops ++ [⟨k,n,t,d⟩],0)):=fun h h2 h3=>by rw[hr,actL,if_neg (by simp[h]),if_neg (by simp[h2]),if_neg h3]
 obtain⟨fo,hfo⟩:∃ x,x=formOk ⟨k,n,t,d⟩:=⟨_,rfl⟩
 obtain⟨dn,hdn⟩:∃ x,x=(doF live ⟨k,n,t,d⟩).1:=⟨_,rfl⟩
 obtain⟨db,hdb⟩:∃ x,x=(doF live ⟨k,n,t,d⟩).2:=⟨_,rfl⟩
 rw[←hln] at E3 E4
 rw[←hln]
 rw[←hfo] at E1 E2 E3 E4 K1
 rw[←hdn] at E3 E4 HDO HDL
 rw[←hdb] at E2 E3 E4 HDO
 have HLS:Hid (ln≤1048576):=by rw[hln];exact hl3
 clear hln hr hfo hdn hdb hsm hri hs1 hs2 hs3 hf ha hl1 hl2 hl3
 rw[hwa] at K1 p0 p1 p2 o0 o1 o2 o3
 go_enter Try.func55,Try.ntmps55
 go_wp2_with fail
 refine K1.mono ?_
 rintro e w1 ⟨rfl,b1⟩
 rw[←hwa] at b1
 have B1:Below w.heap.size w w1:=B0.trans (b1.mono B0.size)
 have H1:Hid (w1.heap[w.heap.size]? = some (.cells #[.slice a1 live.length c1,.slice a2 safe.length c2,.slice a3 ln c3] 31 (0,0))):=(b1.block _ (lt_of_block H0.out)).trans H0.out
 have O1:Hid (w1.heap[(w.heap.size+1)]? = some (.cells #[.int .i64 k,.string ⟨n.toArray⟩,.string ⟨t.toArray⟩,.string ⟨d.toArray⟩] 40 (0,0))):=(b1.block _ (lt_of_block O0.out)).trans O0.out
 have R1:Hid (w1.heap[(w.heap.size+1+1)]? = some (.cells #[.slice none 0 0,.slice none 0 0,.slice none 0 0] 31 (0,0))):=(b1.block _ (lt_of_block R0.out)).trans R0.out
 clear p0 p1 p2 o0 o1 o2 o3 K1 b1 H0 O0 R0 B0 hwa
 cases fo with
 | false =>
   have EQ:Hid (r=(live,safe,ops,2)):=E1.out rfl
   clear E1 E2 E3 E4
   obtain⟨p0,p1,p2,_⟩:=three_cells H1.out
   have KC:=HCP.out w1 B1
   go_wp2_with fail
   refine KC.mono ?_
   rintro e w9 ⟨x1,x2,x3,k1,k2,k3,hi,row,rfl,hhi,hhj,n1,n2,n3,ad1,ad2,b9⟩
   have R9:Hid (w9.heap[(w.heap.size+1+1)]? = some (.cells #[.slice none 0 0,.slice none 0 0,.slice none 0 0] 31 (0,0))):=(b9.block _ (lt_of_block R1.out)).trans R1.out
   have s9:(w.heap.size+1+1)<w1.heap.size:=lt_of_block R1.out
   have t9:(w.heap.size+1+1)<hi:=Nat.lt_of_lt_of_le s9 hhi
   obtain⟨r0,r1,r2,rf⟩:=three_cells R9.out
   have rf0:=rf 0
   have rf1:=rf 1
   have rf2:=rf 2
   have y1:=dk_set (j:=0) (z:=.slice x1 live.length k1) R9.out
   have y2:=dk_set (j:=1) (z:=.slice x2 safe.length k2) y1
   have y3:=dk_set (j:=2) (z:=.slice x3 ln k3) y2
   have HY:Hid (_=_):=y3
   have z9:=B1.size
   have HP:Hid (APost w (((w9.setCell ⟨w.heap.size+1+1,0,none⟩ (.slice x1 live.length k1)).setCell ⟨w.heap.size+1+1,1,none⟩ (.slice x2 safe.length k2)).setCell ⟨w.heap.size+1+1,2,none⟩ (.slice x3 ln k3)) (.returned (.tuple #[.agg #[.slice x1 live.length k1,.slice x2 safe.length k2,.slice x3 ln k3],.int .i64 2])) r):=copy_post EQ.out HLN.out B1 s9 hhi n1 n2 n3 ad1 ad2 b9
   clear y1 y2 y3 rf KC n1 n2 n3 b9 HCP HDO EQ
   go_wp2
   refine bodyPost_ret (v:=.tuple #[.agg #[.slice x1 live.length k1,.slice x2 safe.length k2,.slice x3 ln k3],.int .i64 2]) (results_disk rfl _ _ (w.heap.size+1+1) 31 _ (0,0) _ _ rfl HY.out Try.underlying31 rfl (by kernel_rfl) rfl) rfl ?_
   exact HP.out
 | true =>
   have Eb:Hid (db=false→r=(live,safe,ops,3)):=E2.out rfl
   have Ec:Hid (db=true→(ln=200∨filesOk dn=false)→r=(live,safe,ops,4)):=E3.out rfl
   have Ed:Hid (db=true→¬ (ln=200∨filesOk dn=false)→r=(dn,safe,ops ++ [⟨k,n,t,d⟩],0)):=E4.out rfl
   clear E1 E2 E3 E4
   obtain⟨p0,p1,p2,_⟩:=three_cells H1.out
   obtain⟨o0,o1,o2,o3,_⟩:=four_cells O1.out
   have KD:=HDO.out w1 B1
   go_wp2_with fail
   refine KD.mono ?_
   rintro e w2 ⟨a',m',c',rfl,q2,b2⟩
   obtain⟨rfl,_,_⟩:=isPairs_own q2
   have OD:Hid (w2.ownsRow w1.heap.size 84 2 (.slice a' dn.length c') dn.length (pcells dn)):=q2
   have B2:Below w.heap.size w w2:=B1.trans (b2.mono B1.size)
   have H2:Hid (w2.heap[w.heap.size]? = some (.cells #[.slice a1 live.length c1,.slice a2 safe.length c2,.slice a3 ln c3] 31 (0,0))):=(b2.block _ (lt_of_block H1.out)).trans H1.out
   have O2:Hid (w2.heap[(w.heap.size+1)]? = some (.cells #[.int .i64 k,.string ⟨n.toArray⟩,.string ⟨t.toArray⟩,.string ⟨d.toArray⟩] 40 (0,0))):=(b2.block _ (lt_of_block O1.out)).trans O1.out
   have R2:Hid (w2.heap[(w.heap.size+1+1)]? = some (.cells #[.slice none 0 0,.slice none 0 0,.slice none 0 0] 31 (0,0))):=(b2.block _ (lt_of_block R1.out)).trans R1.out
   have z12:w1.heap.size≤w2.heap.size:=b2.size
   have u1:(w.heap.size+1+1)<w1.heap.size:=lt_of_block R1.out
   clear p0 p1 p2 o0 o1 o2 o3 KD b2 q2 H1 O1 R1 B1
   cases db with
   | false =>
     have EQ:Hid (r=(live,safe,ops,3)):=Eb.out rfl
     clear Eb Ec Ed
     obtain⟨p0,p1,p2,_⟩:=three_cells H2.out
     have KC:=HCP.out w2 B2
     go_wp2_with fail
     refine KC.mono ?_
     rintro e w9 ⟨x1,x2,x3,k1,k2,k3,hi,row,rfl,hhi,hhj,n1,n2,n3,ad1,ad2,b9⟩
     have R9:Hid (w9.heap[(w.heap.size+1+1)]? = some (.cells #[.slice none 0 0,.slice none 0 0,.slice none 0 0] 31 (0,0))):=(b9.block _ (lt_of_block R2.out)).trans R2.out
     have s9:(w.heap.size+1+1)<w2.heap.size:=lt_of_block R2.out
     have t9:(w.heap.size+1+1)<hi:=Nat.lt_of_lt_of_le s9 hhi
     obtain⟨r0,r1,r2,rf⟩:=three_cells R9.out
     have rf0:=rf 0
     have rf1:=rf 1
     have rf2:=rf 2
     have y1:=dk_set (j:=0) (z:=.slice x1 live.length k1) R9.out
     have y2:=dk_set (j:=1) (z:=.slice x2 safe.length k2) y1
     have y3:=dk_set (j:=2) (z:=.slice x3 ln k3) y2
     have HY:Hid (_=_):=y3
     have z9:=B2.size
     have HP:Hid (APost w (((w9.setCell ⟨w.heap.size+1+1,0,none⟩ (.slice x1 live.length k1)).setCell ⟨w.heap.size+1+1,1,none⟩ (.slice x2 safe.length k2)).setCell ⟨w.heap.size+1+1,2,none⟩ (.slice x3 ln k3)) (.returned (.tuple #[.agg #[.slice x1 live.length k1,.slice x2 safe.length k2,.slice x3 ln k3],.int .i64 3])) r):=copy_post EQ.out HLN.out B2 s9 hhi n1 n2 n3 ad1 ad2 b9
     clear y1 y2 y3 rf KC n1 n2 n3 b9 HCP HDO EQ
     go_wp2
     refine bodyPost_ret (v:=.tuple #[.agg #[.slice x1 live.length k1,.slice x2 safe.length k2,.slice x3 ln k3],.int .i64 3]) (results_disk rfl _ _ (w.heap.size+1+1) 31 _ (0,0) _ _ rfl HY.out Try.underlying31 rfl (by kernel_rfl) rfl) rfl ?_
     exact HP.out
   | true =>
     have Ec2:Hid ((ln=200∨filesOk dn=false)→r=(live,safe,ops,4)):=Ec.out rfl
     have Ed2:Hid (¬ (ln=200∨filesOk dn=false)→r=(dn,safe,ops ++ [⟨k,n,t,d⟩],0)):=Ed.out rfl
     clear Eb Ec Ed
     by_cases h200:ln=200
     · subst h200
       have EQ:Hid (r=(live,safe,ops,4)):=Ec2.out (.inl rfl)
       clear Ec2 Ed2
       obtain⟨p0,p1,p2,_⟩:=three_cells H2.out
       have KC:=HCP.out w2 B2
       go_wp2_with fail
       refine KC.mono ?_
       rintro e w9 ⟨x1,x2,x3,k1,k2,k3,hi,row,rfl,hhi,hhj,n1,n2,n3,ad1,ad2,b9⟩
       have R9:Hid (w9.heap[(w.heap.size+1+1)]? = some (.cells #[.slice none 0 0,.slice none 0 0,.slice none 0 0] 31 (0,0))):=(b9.block _ (lt_of_block R2.out)).trans R2.out
       have s9:(w.heap.size+1+1)<w2.heap.size:=lt_of_block R2.out
       have t9:(w.heap.size+1+1)<hi:=Nat.lt_of_lt_of_le s9 hhi
       obtain⟨r0,r1,r2,rf⟩:=three_cells R9.out
       have rf0:=rf 0
       have rf1:=rf 1
       have rf2:=rf 2
       have y1:=dk_set (j:=0) (z:=.slice x1 live.length k1) R9.out
       have y2:=dk_set (j:=1) (z:=.slice x2 safe.length k2) y1
       have y3:=dk_set (j:=2) (z:=.slice x3 200 k3) y2
       have HY:Hid (_=_):=y3
       have z9:=B2.size
       have HP:Hid (APost w (((w9.setCell ⟨w.heap.size+1+1,0,none⟩ (.slice x1 live.length k1)).setCell ⟨w.heap.size+1+1,1,none⟩ (.slice x2 safe.length k2)).setCell ⟨w.heap.size+1+1,2,none⟩ (.slice x3 200 k3)) (.returned (.tuple #[.agg #[.slice x1 live.length k1,.slice x2 safe.length k2,.slice x3 200 k3],.int .i64 4])) r):=copy_post EQ.out HLN.out B2 s9 hhi n1 n2 n3 ad1 ad2 b9
       clear y1 y2 y3 rf KC n1 n2 n3 b9 HCP HDO EQ
       go_wp2
       refine bodyPost_ret (v:=.tuple #[.agg #[.slice x1 live.length k1,.slice x2 safe.length k2,.slice x3 200 k3],.int .i64 4]) (results_disk rfl _ _ (w.heap.size+1+1) 31 _ (0,0) _ _ rfl HY.out Try.underlying31 rfl (by kernel_rfl) rfl) rfl ?_
       exact HP.out
     · have h200':¬ (ln:Int)=200:=by omega
       have h200b:decide ((ln:Int)=200)=false:=decide_eq_false h200'
       obtain⟨p0,p1,p2,_⟩:=three_cells H2.out
       have K3:=spec_files a' c' dn w2 (by have:=HDL.out.1;omega) HDL.out.2 (isPairs_own OD.out).2.2
       obtain⟨ff,hff⟩:∃ x,x=filesOk dn:=⟨_,rfl⟩
       rw[←hff] at K3
       have Ec3:Hid (ff=false→r=(live,safe,ops,4)):=fun h=>Ec2.out (.inr (by rw[←hff];exact h))
       have Ed3:Hid (ff=true→r=(dn,safe,ops ++ [⟨k,n,t,d⟩],0)):=fun h=>Ed2.out (by rintro (h1 | h1);exact h200 h1;rw[←hff,h] at h1;cases h1)
       clear Ec2 Ed2 hff h200
       go_wp2_with fail
       refine K3.mono ?_
       rintro e w3 ⟨rfl,b3⟩
       have B3:Below w.heap.size w w3:=B2.trans (b3.mono B2.size)
       have H3:Hid (w3.heap[w.heap.size]? = some (.cells #[.slice a1 live.length c1,.slice a2 safe.length c2,.slice a3 ln c3] 31 (0,0))):=(b3.block _ (lt_of_block H2.out)).trans H2.out
       have O3:Hid (w3.heap[(w.heap.size+1)]? = some (.cells #[.int .i64 k,.string ⟨n.toArray⟩,.string ⟨t.toArray⟩,.string ⟨d.toArray⟩] 40 (0,0))):=(b3.block _ (lt_of_block O2.out)).trans O2.out
       have R3:Hid (w3.heap[(w.heap.size+1+1)]? = some (.cells #[.slice none 0 0,.slice none 0 0,.slice none 0 0] 31 (0,0))):=(b3.block _ (lt_of_block R2.out)).trans R2.out
       have OD3:Hid (w3.ownsRow w1.heap.size 84 2 (.slice a' dn.length c') dn.length (pcells dn)):=kept2 OD.out b3
       have Q3:Hid (NewQ w3 w1.heap.size w2.heap.size a' (pcells dn)):=(newQ_of (newR_own OD.out)).later b3
       have AD3:Hid (AddrOk a'):=addr_own OD.out
       have z23:w2.heap.size≤w3.heap.size:=b3.size
       clear p0 p1 p2 K3 b3 H2 O2 R2 B2 OD
       cases ff with
       | false =>
         have EQ:Hid (r=(live,safe,ops,4)):=Ec3.out rfl
         clear Ec3 Ed3
         obtain⟨p0,p1,p2,_⟩:=three_cells H3.out
         have KC:=HCP.out w3 B3
         go_wp2_with fail
         refine KC.mono ?_
         rintro e w9 ⟨x1,x2,x3,k1,k2,k3,hi,row,rfl,hhi,hhj,n1,n2,n3,ad1,ad2,b9⟩
         have R9:Hid (w9.heap[(w.heap.size+1+1)]? = some (.cells #[.slice none 0 0,.slice none 0 0,.slice none 0 0] 31 (0,0))):=(b9.block _ (lt_of_block R3.out)).trans R3.out
         have s9:(w.heap.size+1+1)<w3.heap.size:=lt_of_block R3.out
         have t9:(w.heap.size+1+1)<hi:=Nat.lt_of_lt_of_le s9 hhi
         obtain⟨r0,r1,r2,rf⟩:=three_cells R9.out
         have rf0:=rf 0
         have rf1:=rf 1
         have rf2:=rf 2
         have y1:=dk_set (j:=0) (z:=.slice x1 live.length k1) R9.out
         have y2:=dk_set (j:=1) (z:=.slice x2 safe.length k2) y1
         have y3:=dk_set (j:=2) (z:=.slice x3 ln k3) y2
         have HY:Hid (_=_):=y3
         have z9:=B3.size
         have HP:Hid (APost w (((w9.setCell ⟨w.heap.size+1+1,0,none⟩ (.slice x1 live.length k1)).setCell ⟨w.heap.size+1+1,1,none⟩ (.slice x2 safe.length k2)).setCell ⟨w.heap.size+1+1,2,none⟩ (.slice x3 ln k3)) (.returned (.tuple #[.agg #[.slice x1 live.length k1,.slice x2 safe.length k2,.slice x3 ln k3],.int .i64 4])) r):=copy_post EQ.out HLN.out B3 s9 hhi n1 n2 n3 ad1 ad2 b9
         clear y1 y2 y3 rf KC n1 n2 n3 b9 HCP HDO EQ
         go_wp2
         refine bodyPost_ret (v:=.tuple #[.agg #[.slice x1 live.length k1,.slice x2 safe.length k2,.slice x3 ln k3],.int .i64 4]) (results_disk rfl _ _ (w.heap.size+1+1) 31 _ (0,0) _ _ rfl HY.out Try.underlying31 rfl (by kernel_rfl) rfl) rfl ?_
         exact HP.out
       | true =>
         have HE:Hid (r=(dn,safe,ops ++ [⟨k,n,t,d⟩],0)):=Ed3.out rfl
         clear Ec3 Ed3 HDL HDO
         obtain⟨p0,p1,p2,_⟩:=three_cells H3.out
         have KC:=HCP.out w3 B3
         go_wp2_with fail
         refine KC.mono ?_
         rintro e w4 ⟨x1,x2,x3,k1,k2,k3,hi,row,rfl,hhi,hhj,n1,n2,n3,ad1,ad2,b4⟩
         have B4:Below w.heap.size w w4:=B3.trans (b4.mono B3.size)
         have H4:Hid (w4.heap[w.heap.size]? = some (.cells #[.slice a1 live.length c1,.slice a2 safe.length c2,.slice a3 ln c3] 31 (0,0))):=(b4.block _ (lt_of_block H3.out)).trans H3.out
         have O4:Hid (w4.heap[(w.heap.size+1)]? = some (.cells #[.int .i64 k,.string ⟨n.toArray⟩,.string ⟨t.toArray⟩,.string ⟨d.toArray⟩] 40 (0,0))):=(b4.block _ (lt_of_block O3.out)).trans O3.out
         have R4:Hid (w4.heap[(w.heap.size+1+1)]? = some (.cells #[.slice none 0 0,.slice none 0 0,.slice none 0 0] 31 (0,0))):=(b4.block _ (lt_of_block R3.out)).trans R3.out
         have N2:Hid (NewQ w4 w3.heap.size hi x2 (pcells safe)):=n2
         have N3:Hid (GrowR w4 hi 40 4 x3 ln k3 (dcells ops) row):=n3
         have AD2:Hid (AddrOk x2):=ad2
         have Q4:Hid (NewQ w4 w1.heap.size w2.heap.size a' (pcells dn)):=Q3.out.later b4
         have HRW:Hid (∀ q,row=some q→hi≤q∧q<w4.heap.size):=n3.lt
         have HNM:Hid (w.heap.size≤w.heap.size∧(w.heap.size+1+1)<w1.heap.size∧w1.heap.size≤w2.heap.size∧w2.heap.size≤w3.heap.size∧w3.heap.size≤hi∧hi≤w4.heap.size∧ln≤1048576):=⟨Nat.le_refl _,u1,z12,z23,hhi,hhj,HLS.out⟩
         obtain⟨o0,o1,o2,o3,_⟩:=four_cells O4.out
         have i1:w.heap.size+1<w4.heap.size:=lt_of_block O4.out
         have i2:¬ w.heap.size+1=w4.heap.size:=by omega
         have i3:¬ w4.heap.size=w.heap.size+1:=by omega
         have HB4:Hid (Below w.heap.size w w4):=B4
         clear n1 n2 n3 ad1 ad2 b4 KC H3 O3 R3 B3 p0 p1 p2 OD3 Q3 H4 O4 HCP B4 hhi hhj u1 z12 z23 HLS
         have BT5:Below w4.heap.size w4 (w4.alloc (.cells #[.slice a' dn.length c',.slice x2 safe.length k2,.slice x3 ln k3] 31)):=(Below.refl _ _).alloc (Nat.le_refl _) _
         have BT6:Below w4.heap.size w4 ((w4.alloc (.cells #[.slice a' dn.length c',.slice x2 safe.length k2,.slice x3 ln k3] 31)).alloc (.cells #[.int .i64 k,.string ⟨n.toArray⟩,.string ⟨t.toArray⟩,.string ⟨d.toArray⟩] 40)):=BT5.alloc (by simp) _
         have HBT:Hid (Below w4.heap.size w4 ((w4.alloc (.cells #[.slice a' dn.length c',.slice x2 safe.length k2,.slice x3 ln k3] 31)).alloc (.cells #[.int .i64 k,.string ⟨n.toArray⟩,.string ⟨t.toArray⟩,.string ⟨d.toArray⟩] 40))):=BT6
         have HNW:Hid (((w4.alloc (.cells #[.slice a' dn.length c',.slice x2 safe.length k2,.slice x3 ln k3] 31)).alloc (.cells #[.int .i64 k,.string ⟨n.toArray⟩,.string ⟨t.toArray⟩,.string ⟨d.toArray⟩] 40)).heap[w4.heap.size+1]? = some (.cells #[.int .i64 k,.string ⟨n.toArray⟩,.string ⟨t.toArray⟩,.string ⟨d.toArray⟩] 40 (0,0))):=new_atP (w4.alloc (.cells #[.slice a' dn.length c',.slice x2 safe.length k2,.slice x3 ln k3] 31)) (by simp) _
         have h6s:hi≤((w4.alloc (.cells #[.slice a' dn.length c',.slice x2 safe.length k2,.slice x3 ln k3] 31)).alloc (.cells #[.int .i64 k,.string ⟨n.toArray⟩,.string ⟨t.toArray⟩,.string ⟨d.toArray⟩] 40)).heap.size:=by have:=HNM.out;have:=BT6.size;omega
         have hl6:ln+1≤1048577:=by have:=HNM.out;omega
         clear BT5 BT6
         go_wp2_with (at_builtin;(refine wpList_append_grow rfl _ _ 29 rfl hi 40 j0 (.agg #[.int .i64 0,.string ⟨#[]⟩,.string ⟨#[]⟩,.string ⟨#[]⟩]) 4 56 Try.underlying29 hj0 jz0 jz1 jz2 rfl (by decide) x3 ln k3 (dcells ops) row rfl (N3.out.later HBT.out) ⟨w4.heap.size+1,0,none⟩ 1 1 [.int .i64 k,.string ⟨n.toArray⟩,.string ⟨t.toArray⟩,.string ⟨d.toArray⟩] rfl rfl (World.news_of_block (cs:=#[.int .i64 k,.string ⟨n.toArray⟩,.string ⟨t.toArray⟩,.string ⟨d.toArray⟩]) (t:=40) (fr:=(0,0)) HNW.out) (by simp[Value.oneCell']) (by decide) hl6 (by decide) h6s ?_))
         intro g7 cap7 w7 hown7 hgrow7
         have BT6:=HBT.out
         clear HNW HBT h6s hl6
         have Y6:((w4.alloc (.cells #[.slice a' dn.length c',.slice x2 safe.length k2,.slice x3 ln k3] 31)).alloc (.cells #[.int .i64 k,.string ⟨n.toArray⟩,.string ⟨t.toArray⟩,.string ⟨d.toArray⟩] 40)).heap[w4.heap.size]? = some (.cells #[.slice a' dn.length c',.slice x2 safe.length k2,.slice x3 ln k3] 31 (0,0)):=by rw[Below.heap_alloc _ _ _ (by simp)];exact heap_alloc_new w4 _
         have R6:((w4.alloc (.cells #[.slice a' dn.length c',.slice x2 safe.length k2,.slice x3 ln k3] 31)).alloc (.cells #[.int .i64 k,.string ⟨n.toArray⟩,.string ⟨t.toArray⟩,.string ⟨d.toArray⟩] 40)).heap[(w.heap.size+1+1)]? = some (.cells #[.slice none 0 0,.slice none 0 0,.slice none 0 0] 31 (0,0)):=(BT6.block _ (lt_of_block R4.out)).trans R4.out
         have Y7:Hid (w7.heap[w4.heap.size]? = some (.cells #[.slice a' dn.length c',.slice x2 safe.length k2,.slice x3 ln k3] 31 (0,0))):=(hgrow7.block _ (lt_of_block Y6) (fun e=>by have:=HRW.out _ e.symm;omega)).trans Y6
         have R7:Hid (w7.heap[(w.heap.size+1+1)]? = some (.cells #[.slice none 0 0,.slice none 0 0,.slice none 0 0] 31 (0,0))):=(hgrow7.block _ (lt_of_block R6) (fun e=>by have:=HRW.out _ e.symm;have:=HNM.out;omega)).trans R6
         have Q7:Hid (NewQ w7 w1.heap.size w2.heap.size a' (pcells dn)):=(Q4.out.later BT6).kept hgrow7 (fun g h1 h2 e=>by have:=HRW.out _ e.symm;have:=HNM.out;omega)
         have N27:Hid (NewQ w7 w3.heap.size hi x2 (pcells safe)):=(N2.out.later BT6).kept hgrow7 (fun g h1 h2 e=>by have:=HRW.out _ e.symm;omega)
         have O7:Hid (w7.ownsRow hi 40 4 (.slice (some ⟨g7,0,none⟩) (ln+1) cap7) (ln+1) (dcells ops ++ [.int .i64 k,.string ⟨n.toArray⟩,.string ⟨t.toArray⟩,.string ⟨d.toArray⟩])):=hown7
         have B7:Hid (Below w.heap.size w w7):=(HB4.out.trans (BT6.mono HB4.out.size)).grown hgrow7 (HB4.out.trans (BT6.mono HB4.out.size)).size (fun q hq=>by have:=HRW.out q hq;have:=HNM.out;have:=HB4.out.size;omega)
         clear Y6 R6 BT6 hown7 hgrow7
         obtain⟨y0,y1,y2,yf⟩:=three_cells Y7.out
         have yf2:=yf 2
         obtain⟨r0,r1,r2,rf⟩:=three_cells R7.out
         have rf0:=rf 0
         have rf1:=rf 1
         have rf2:=rf 2
         have j1:¬ (w.heap.size+1+1)=w4.heap.size:=by have:=HNM.out;omega
         have j2:¬ w4.heap.size=(w.heap.size+1+1):=by have:=HNM.out;omega
         have HR9:Hid (_=_):=dk_set (j:=2) (z:=.slice (some ⟨g7,0,none⟩) (ln+1) cap7) (dk_set (j:=1) (z:=.slice x2 safe.length k2) (dk_set (j:=0) (z:=.slice a' dn.length c') ((Below.heap_setCell w7 ⟨w4.heap.size,2,none⟩ (.slice (some ⟨g7,0,none⟩) (ln+1) cap7) (w.heap.size+1+1) j1).trans R7.out)))
         have HP:Hid (APost w ((((w7.setCell ⟨w4.heap.size,2,none⟩ (.slice (some ⟨g7,0,none⟩) (ln+1) cap7)).setCell ⟨w.heap.size+1+1,0,none⟩ (.slice a' dn.length c')).setCell ⟨w.heap.size+1+1,1,none⟩ (.slice x2 safe.length k2)).setCell ⟨w.heap.size+1+1,2,none⟩ (.slice (some ⟨g7,0,none⟩) (ln+1) cap7)) (.returned (.tuple #[.agg #[.slice a' dn.length c',.slice x2 safe.length k2,.slice (some ⟨g7,0,none⟩) (ln+1) cap7],.int .i64 0])) r):=act_end (k:=k) (n:=n) (t:=t) (d:=d) HE.out HLN.out O7.out Y7.out Q7.out N27.out B7.out AD3.out AD2.out HNM.out.2.1 (by have:=HNM.out;omega) HNM.out.2.2.2.2.1 HNM.out.2.2.2.2.2.1 (by have:=HNM.out;omega)
         clear yf rf HE Q4 N2 N3 R4 Q7 N27 O7 B7 HNM HRW HB4 AD2 AD3 HLN o0 o1 o2 o3 i1 i2 i3
         go_wp2
         refine bodyPost_ret (v:=.tuple #[.agg #[.slice a' dn.length c',.slice x2 safe.length k2,.slice (some ⟨g7,0,none⟩) (ln+1) cap7],.int .i64 0]) (results_disk rfl _ _ (w.heap.size+1+1) 31 _ (0,0) _ _ rfl HR9.out Try.underlying31 rfl (by kernel_rfl) rfl) rfl ?_
         exact HP.out
set_option maxRecDepth 100000 in
set_option maxHeartbeats 8000000 in
theorem spec_doX (a1 a2 a3:Option Addr) (c1 c2 c3:Nat) (live safe:List PairL) (ops:List DOpL) (k:Int) (n t d:List UInt8) (w:World) (ha:AddrOk a1) (ha2:AddrOk a2) (hl1:live.length≤1048576) (hm1:∀ p∈live,p.1.length≤1048576∧p.2.length≤1048576) (hl2:safe.length≤1048576) (hm2:∀ p∈safe,p.1.length≤1048576∧p.2.length≤1048576) (hl3:ops.length≤1048576) (hm3:∀ p∈ops,p.n.length≤1048576∧p.t.length≤1048576∧p.d.length≤1048576) (hn:n.length≤2097152) (ht:t.length≤2097152) (hd:d.length≤1048576)
 (hs1:IsPairs w a1 live) (hs2:IsPairs w a2 safe) (hs3:IsDOps w a3 ops) :
 Calls Try.prog 18 #[.agg #[.slice a1 live.length c1,.slice a2 safe.length c2,.slice a3 ops.length c3],.agg #[.int .i64 k,.string ⟨n.toArray⟩,.string ⟨t.toArray⟩,.string ⟨d.toArray⟩]] w fun e w'=>APost w w' e (doL live safe ops ⟨k,n,t,d⟩):=by
 obtain⟨wa,hwa⟩:∃ wa,wa=(((w.alloc (.cells #[.slice a1 live.length c1,.slice a2 safe.length c2,.slice a3 ops.length c3] 31)).alloc (.cells #[.int .i64 k,.string ⟨n.toArray⟩,.string ⟨t.toArray⟩,.string ⟨d.toArray⟩] 40)).alloc (.cells #[.slice none 0 0,.slice none 0 0,.slice none 0 0] 31)):=⟨_,rfl⟩
 have B0:Below w.heap.size w wa:=by rw[hwa];exact (((Below.refl _ _).alloc (Nat.le_refl _) _).alloc (by simp) _).alloc (by simp <;> omega) _
 have H0:Hid (wa.heap[w.heap.size]? = some (.cells #[.slice a1 live.length c1,.slice a2 safe.length c2,.slice a3 ops.length c3] 31 (0,0))):=by rw[hwa,Hid,Below.heap_alloc _ _ _ (by simp <;> omega),Below.heap_alloc _ _ _ (by simp)];exact heap_alloc_new w _
 have O0:Hid (wa.heap[(w.heap.size+1)]? = some (.cells #[.int .i64 k,.string ⟨n.toArray⟩,.string ⟨t.toArray⟩,.string ⟨d.toArray⟩] 40 (0,0))):=by
  rw[hwa,Hid,Below.heap_alloc _ _ _ (by simp)]
  have:=heap_alloc_new (w.alloc (.cells #[.slice a1 live.length c1,.slice a2 safe.length c2,.slice a3 ops.length c3] 31)) (.cells #[.int .i64 k,.string ⟨n.toArray⟩,.string ⟨t.toArray⟩,.string ⟨d.toArray⟩] 40)
  simpa using this
 have R0:Hid (wa.heap[(w.heap.size+1+1)]? = some (.cells #[.slice none 0 0,.slice none 0 0,.slice none 0 0] 31 (0,0))):=by
  rw[hwa,Hid]
  have:=heap_alloc_new ((w.alloc (.cells #[.slice a1 live.length c1,.slice a2 safe.length c2,.slice a3 ops.length c3] 31)).alloc (.cells #[.int .i64 k,.string ⟨n.toArray⟩,.string ⟨t.toArray⟩,.string ⟨d.toArray⟩] 40)) (.cells #[.slice none 0 0,.slice none 0 0,.slice none 0 0] 31)
  simpa using this
 obtain⟨p0,p1,p2,_⟩:=three_cells H0.out
 obtain⟨o0,o1,o2,o3,_⟩:=four_cells O0.out
 have KD:=spec_diskOk a1 a2 a3 c1 c2 c3 live safe ops wa ha2 hl1 hm1 hl2 hm2 hl3 hm3 (hs1.later B0) (hs2.later B0) (hs3.later B0)
 have HKA:Hid (∀ W,Below w.heap.size w W→filesOk live=true→Calls Try.prog 55 #[.agg #[.slice a1 live.length c1,.slice a2 safe.length c2,.slice a3 ops.length c3],.agg #[.int .i64 k,.string ⟨n.toArray⟩,.string ⟨t.toArray⟩,.string ⟨d.toArray⟩]] W fun e w'=>APost W w' e (actL live safe ops ⟨k,n,t,d⟩)):=fun W hW hf=>spec_act a1 a2 a3 c1 c2 c3 live safe ops k n t d W ha hf hl2 hl3 hn ht hd (hs1.later hW) (hs2.later hW) (hs3.later hW)
 unfold APost at HKA
 have HFL:Hid (diskOk live safe ops=true→filesOk live=true):=fun h=>by cases h1:filesOk live with | true=>rfl | false=>rw[disk_no1 h1] at h;cases h
 have HR:Hid (doL live safe ops ⟨k,n,t,d⟩=if diskOk live safe ops=true then actL live safe ops ⟨k,n,t,d⟩ else ([],[],[],1)):=rfl
 obtain⟨r,hr⟩:∃ r,r=doL live safe ops ⟨k,n,t,d⟩:=⟨_,rfl⟩
 rw[←hr] at HR ⊢
 obtain⟨dk,hdk⟩:∃ x,x=diskOk live safe ops:=⟨_,rfl⟩
 rw[←hdk] at KD HFL HR
 obtain⟨ra,hra⟩:∃ x,x=actL live safe ops ⟨k,n,t,d⟩:=⟨_,rfl⟩
 rw[←hra] at HKA HR
 clear hr hdk hra hs1 hs2 hs3 hm1 hm2 hm3 ha ha2 hl1 hl2 hl3 hn ht hd
 rw[hwa] at KD p0 p1 p2 o0 o1 o2 o3
 go_enter Try.func18,Try.ntmps18
 go_wp2_with fail
 refine KD.mono ?_
 rintro e w1 ⟨rfl,b1⟩
 rw[←hwa] at b1
 have B1:Below w.heap.size w w1:=B0.trans (b1.mono B0.size)
 have H1:Hid (w1.heap[w.heap.size]? = some (.cells #[.slice a1 live.length c1,.slice a2 safe.length c2,.slice a3 ops.length c3] 31 (0,0))):=(b1.block _ (lt_of_block H0.out)).trans H0.out
 have O1:Hid (w1.heap[(w.heap.size+1)]? = some (.cells #[.int .i64 k,.string ⟨n.toArray⟩,.string ⟨t.toArray⟩,.string ⟨d.toArray⟩] 40 (0,0))):=(b1.block _ (lt_of_block O0.out)).trans O0.out
 have R1:Hid (w1.heap[(w.heap.size+1+1)]? = some (.cells #[.slice none 0 0,.slice none 0 0,.slice none 0 0] 31 (0,0))):=(b1.block _ (lt_of_block R0.out)).trans R0.out
 clear p0 p1 p2 o0 o1 o2 o3 KD b1 H0 O0 R0 B0 hwa
 cases dk with
 | false =>
   have EQ:Hid (r=([],[],[],1)):=HR.out
   have R9:Hid (w1.heap[(w.heap.size+1+1)]? = some (.cells #[.slice none 0 0,.slice none 0 0,.slice none 0 0] 31 (0,0))):=R1
   obtain⟨r0,r1,r2,rf⟩:=three_cells R9.out
   have rf0:=rf 0
   have rf1:=rf 1
   have rf2:=rf 2
   have y1:=dk_set (j:=0) (z:=.slice none 0 0) R9.out
   have y2:=dk_set (j:=1) (z:=.slice none 0 0) y1
   have y3:=dk_set (j:=2) (z:=.slice none 0 0) y2
   have HY:Hid (_=_):=y3
   have HP:Hid (APost w (((w1.setCell ⟨w.heap.size+1+1,0,none⟩ (.slice none 0 0)).setCell ⟨w.heap.size+1+1,1,none⟩ (.slice none 0 0)).setCell ⟨w.heap.size+1+1,2,none⟩ (.slice none 0 0)) (.returned (.tuple #[.agg #[.slice none 0 0,.slice none 0 0,.slice none 0 0],.int .i64 1])) r):=by
    rw[Hid,EQ.out]
    exact⟨none,none,none,0,0,0,rfl,.inl rfl,.inl rfl,.inl rfl,.inl rfl,.inl rfl,((B1.setCell (by simp only;omega) _).setCell (by simp only;omega) _).setCell (by simp only;omega) _⟩
   clear y1 y2 y3 rf
   clear EQ HR HKA HFL
   go_wp2
   refine bodyPost_ret (v:=.tuple #[.agg #[.slice none 0 0,.slice none 0 0,.slice none 0 0],.int .i64 1]) (results_disk rfl _ _ (w.heap.size+1+1) 31 _ (0,0) _ _ rfl HY.out Try.underlying31 rfl (by kernel_rfl) rfl) rfl ?_
   exact HP.out
 | true =>
   have EQ:Hid (r=ra):=HR.out
   have KA:=HKA.out w1 B1 (HFL.out rfl)
   obtain⟨p0,p1,p2,_⟩:=three_cells H1.out
   obtain⟨o0,o1,o2,o3,_⟩:=four_cells O1.out
   clear HR HKA HFL
   go_wp2_with fail
   refine KA.mono ?_
   rintro e w9 ⟨x1,x2,x3,k1,k2,k3,rfl,n1,n2,n3,ad1,ad2,b9⟩
   have R9:Hid (w9.heap[(w.heap.size+1+1)]? = some (.cells #[.slice none 0 0,.slice none 0 0,.slice none 0 0] 31 (0,0))):=(b9.block _ (lt_of_block R1.out)).trans R1.out
   have s9:(w.heap.size+1+1)<w1.heap.size:=lt_of_block R1.out
   clear KA p0 p1 p2 o0 o1 o2 o3
   obtain⟨l1,hq1⟩:∃ x,x=ra.1.length:=⟨_,rfl⟩
   obtain⟨l2,hq2⟩:∃ x,x=ra.2.1.length:=⟨_,rfl⟩
   obtain⟨l3,hq3⟩:∃ x,x=ra.2.2.1.length:=⟨_,rfl⟩
   obtain⟨cd,hq4⟩:∃ x,x=ra.2.2.2:=⟨_,rfl⟩
   have HQ:Hid (l1=ra.1.length∧l2=ra.2.1.length∧l3=ra.2.2.1.length∧cd=ra.2.2.2):=⟨hq1,hq2,hq3,hq4⟩
   rw[←hq1,←hq2,←hq3,←hq4]
   clear hq1 hq2 hq3 hq4
   obtain⟨r0,r1,r2,rf⟩:=three_cells R9.out
   have rf0:=rf 0
   have rf1:=rf 1
   have rf2:=rf 2
   have y1:=dk_set (j:=0) (z:=.slice x1 l1 k1) R9.out
   have y2:=dk_set (j:=1) (z:=.slice x2 l2 k2) y1
   have y3:=dk_set (j:=2) (z:=.slice x3 l3 k3) y2
   have HY:Hid (_=_):=y3
   have HP:Hid (APost w (((w9.setCell ⟨w.heap.size+1+1,0,none⟩ (.slice x1 l1 k1)).setCell ⟨w.heap.size+1+1,1,none⟩ (.slice x2 l2 k2)).setCell ⟨w.heap.size+1+1,2,none⟩ (.slice x3 l3 k3)) (.returned (.tuple #[.agg #[.slice x1 l1 k1,.slice x2 l2 k2,.slice x3 l3 k3],.int .i64 cd])) r):=by
    have z9:=B1.size
    rw[Hid,EQ.out]
    obtain⟨e1,e2,e3,e4⟩:=HQ.out
    exact⟨x1,x2,x3,k1,k2,k3,by rw[e1,e2,e3,e4],(((n1.setCell _ s9 _).setCell _ s9 _).setCell _ s9 _).lower (by omega),(((n2.setCell _ s9 _).setCell _ s9 _).setCell _ s9 _).lower (by omega),(((n3.setCell _ s9 _).setCell _ s9 _).setCell _ s9 _).lower (by omega),ad1,ad2,(((B1.trans (b9.mono B1.size)).setCell (by simp only;omega) _).setCell (by simp only;omega) _).setCell (by simp only;omega) _⟩
   clear y1 y2 y3 rf
   clear EQ n1 n2 n3 b9 ad1 ad2 HQ
   go_wp2
   refine bodyPost_ret (v:=.tuple #[.agg #[.slice x1 l1 k1,.slice x2 l2 k2,.slice x3 l3 k3],.int .i64 cd]) (results_disk rfl _ _ (w.heap.size+1+1) 31 _ (0,0) _ _ rfl HY.out Try.underlying31 rfl (by kernel_rfl) rfl) rfl ?_
   exact HP.out
end Go.Proofs.Ytlllkdioojjaeaa
