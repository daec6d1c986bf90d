/-
 Contracts of the laws' own helpers on rows of disk ops: copies, sizes with whatever is left, equal ones (written by mkdop.py).
-/
import Derived.Test.YtlllkdioojjaeaaStrsAll
import Derived.Test.YtlllkdioojjaeaaMathDo
import Derived.OneCell
import Derived.Deep.RegionHeld3
namespace Go.Proofs.Ytlllkdioojjaeaa
open Go.RowKit
set_option linter.unusedVariables false
theorem infoDOp:(Try.prog.info? 40).map (fun i=>(i.zero,i.size,i.bytes))=some (some (.agg #[.int .i64 0,.string ⟨#[]⟩,.string ⟨#[]⟩,.string ⟨#[]⟩]),4,56):=by kernel_rfl
set_option maxRecDepth 100000 in
theorem toDOp_any (x:Int) (y z u:List UInt8) (w:World) :
 Calls Try.prog 19 #[.agg #[.int .i64 x,.string ⟨y.toArray⟩,.string ⟨z.toArray⟩,.string ⟨u.toArray⟩]] w fun e w'=>e=.returned (.agg #[.int .i64 x,.string ⟨y.toArray⟩,.string ⟨z.toArray⟩,.string ⟨u.toArray⟩])∧Below w.heap.size w w':=by
 go_enter Try.func19,Try.ntmps19
 go_wp2
 have hb:(((w.alloc (.cells #[.int .i64 x,.string ⟨y.toArray⟩,.string ⟨z.toArray⟩,.string ⟨u.toArray⟩] 36)).alloc (.cells #[.int .i64 x,.string ⟨y.toArray⟩,.string ⟨z.toArray⟩,.string ⟨u.toArray⟩] 40)).alloc (.cells #[.int .i64 x,.string ⟨y.toArray⟩,.string ⟨z.toArray⟩,.string ⟨u.toArray⟩] 40)).heap[w.heap.size+1]? = some (.cells #[.int .i64 x,.string ⟨y.toArray⟩,.string ⟨z.toArray⟩,.string ⟨u.toArray⟩] 40 (0,0)):=by
  rw[Below.heap_alloc _ _ _ (by simp)]
  have:=heap_alloc_new (w.alloc (.cells #[.int .i64 x,.string ⟨y.toArray⟩,.string ⟨z.toArray⟩,.string ⟨u.toArray⟩] 36)) (.cells #[.int .i64 x,.string ⟨y.toArray⟩,.string ⟨z.toArray⟩,.string ⟨u.toArray⟩] 40)
  simpa using this
 exact bodyPost_ret (v:=.agg #[.int .i64 x,.string ⟨y.toArray⟩,.string ⟨z.toArray⟩,.string ⟨u.toArray⟩]) (results_cell_row rfl _ _ (w.heap.size+1) 40 _ (0,0) _ rfl hb Try.underlying40 rfl (by kernel_rfl)) rfl ⟨rfl,(((Below.refl _ _).alloc (Nat.le_refl _) _).alloc (by simp) _).alloc (by simp;omega) _⟩
set_option maxRecDepth 100000 in
set_option maxHeartbeats 1000000 in
theorem szDOp_any (x:Int) (y z u:List UInt8) (q:Nat) (w:World) (hq:q≤1048576) (hy:y.length≤9223372036854775807) (hz:z.length≤9223372036854775807) (hu:u.length≤9223372036854775807) :
 Calls Try.prog 17 #[.agg #[.int .i64 x,.string ⟨y.toArray⟩,.string ⟨z.toArray⟩,.string ⟨u.toArray⟩],.int .i64 (q:Int)] w fun e w'=>((q<y.length+z.length+u.length∧e=.returned (.int .i64 (-1)))∨(y.length+z.length+u.length≤q∧e=.returned (.int .i64 ((q - (y.length+z.length+u.length):Nat):Int))))∧Below w.heap.size w w':=by
 have hb:Below w.heap.size w (w.alloc (.cells #[.int .i64 x,.string ⟨y.toArray⟩,.string ⟨z.toArray⟩,.string ⟨u.toArray⟩] 36)):=(Below.refl _ _).alloc (Nat.le_refl _) _
 by_cases h1:y.length≤q
 · have h1':(y.length:Int)≤(q:Int):=by omega
   by_cases h2:y.length+z.length≤q
   · have h2':(z.length:Int)≤(q:Int) - (y.length:Int):=by omega
     by_cases h3:y.length+z.length+u.length≤q
     · have h3':(u.length:Int)≤(q:Int) - (y.length:Int) - (z.length:Int):=by omega
       have HE:Hid ((q:Int) - (y.length:Int) - (z.length:Int) - (u.length:Int)=((q - (y.length+z.length+u.length):Nat):Int)):=by rw[Hid];omega
       go_enter Try.func17,Try.ntmps17
       go_wp2
       go_ret
       exact⟨.inr ⟨h3,by rw[←HE.out];rfl⟩,hb⟩
     · have h3':¬ (u.length:Int)≤(q:Int) - (y.length:Int) - (z.length:Int):=by omega
       go_enter Try.func17,Try.ntmps17
       go_wp2
       go_ret
       first | exact⟨.inl ⟨by omega,rfl⟩,hb⟩ | exact⟨⟨by omega,rfl⟩,hb⟩
   · have h2':¬ (z.length:Int)≤(q:Int) - (y.length:Int):=by omega
     go_enter Try.func17,Try.ntmps17
     go_wp2
     go_ret
     first | exact⟨.inl ⟨by omega,rfl⟩,hb⟩ | exact⟨⟨by omega,rfl⟩,hb⟩
 · have h1':¬ (y.length:Int)≤(q:Int):=by omega
   go_enter Try.func17,Try.ntmps17
   go_wp2
   go_ret
   first | exact⟨.inl ⟨by omega,rfl⟩,hb⟩ | exact⟨⟨by omega,rfl⟩,hb⟩
set_option maxRecDepth 100000 in
set_option maxHeartbeats 1000000 in
theorem szDOpS_gen (L : Nat) (hL : L ≤ 1048576) (a : Option Addr) (cap : Nat) (ps : List DOpL) (w : World) (hl : ps.length ≤ 9223372036854775807) (hm : ∀ p ∈ ps, p.n.length ≤ 9223372036854775807 ∧ p.t.length ≤ 9223372036854775807 ∧ p.d.length ≤ 9223372036854775807) (hs : IsDOps w a ps) :
 Calls Try.prog 40 #[.slice a ps.length cap,.int .i64 (L:Int)] w fun e w'=>(e=.returned (.int .i64 (-1))∨(ps.length+sizeD ps≤L∧∃ n:Nat,n≤L∧e=.returned (.int .i64 (n:Int))))∧Below w.heap.size w w':=by
 by_cases hb:ps.length≤L
 · rcases hs with rfl | ⟨b, off, rfl, hc⟩
   · go_enter Try.func40,Try.ntmps40
     go_wp2
     refine wp_loop_rounds 1 ?_
     rw[rounds_succ]
     go_wp2
     go_ret
     exact⟨.inr ⟨by simp[sizeD],L,Nat.le_refl _,rfl⟩,Below.refl _ _⟩
   · have hm' : ∀ j (h : j < ps.length), ps[j].n.length ≤ 9223372036854775807 ∧ ps[j].t.length ≤ 9223372036854775807 ∧ ps[j].d.length ≤ 9223372036854775807 := fun j h => hm _ (List.getElem_mem _)
     clear hm
     go_enter Try.func40,Try.ntmps40
     go_wp2
     go_loopw [1,5] (fun v i wr=>∃ j q:Nat,j≤ps.length∧i=.int .i64 (j:Int)∧v=.int .i64 (q:Int)∧q+ps.length+sizeD (ps.take j)=L∧Below w.heap.size w wr) (fun _ i _=>ps.length - (intOf i).toNat)
     case atStart=>exact⟨0,L - ps.length,Nat.zero_le _,rfl,by simp;omega,by simp[sizeD];omega,Below.refl _ _⟩
     case round =>
      obtain⟨j,q,hj,rfl,rfl,hq,hbel⟩:=hrel
      have hsz:=hbel.size
      by_cases hlt:j<ps.length
      · have hbl:=World.block_lt_of_cell? w _ (hc j hlt).1
        have c1:=(hbel.cell (p:=⟨b,off+j*4,none⟩) hbl).trans (hc j hlt).1
        have c2:=(hbel.cell (p:=⟨b,off+j*4+1,none⟩) hbl).trans (hc j hlt).2.1
        have c3:=(hbel.cell (p:=⟨b,off+j*4+2,none⟩) hbl).trans (hc j hlt).2.2.1
        have c4:=(hbel.cell (p:=⟨b,off+j*4+3,none⟩) hbl).trans (hc j hlt).2.2.2
        have m1:=hm' j hlt
        have HS:Hid (sizeD (ps.take (j+1))=sizeD (ps.take j)+(ps[j].n.length+ps[j].t.length+ps[j].d.length)):=sizeD_snoc ps j hlt
        have hj0:(0:Int)≤(j:Int):=by omega
        have hj1:(j:Int)<(ps.length:Int):=by omega
        have hqs:q≤1048576:=by omega
        have HQ:Hid (q+ps.length+sizeD (ps.take j)=L):=hq
        obtain⟨x,hx⟩:∃ v,v=ps[j].k:=⟨_,rfl⟩
        obtain⟨y,hy⟩:∃ v,v=ps[j].n:=⟨_,rfl⟩
        obtain⟨z,hz⟩:∃ v,v=ps[j].t:=⟨_,rfl⟩
        obtain⟨u,hu⟩:∃ v,v=ps[j].d:=⟨_,rfl⟩
        rw[←hx] at c1
        rw[←hy] at c2 m1 HS
        rw[←hz] at c3 m1 HS
        rw[←hu] at c4 m1 HS
        have K:=fun W=>szDOp_any x y z u q W hqs m1.1 m1.2.1 m1.2.2
        clear hc hm' hx hy hz hu hq m1 hbl
        go_wp2_with fail
        refine (K _).mono ?_
        rintro e w1 ⟨he,b1⟩
        have B1:=hbel.trans (b1.mono hsz)
        clear K b1 hbel
        rcases he with ⟨hn,rfl⟩ | ⟨hn,rfl⟩
        · go_wp2
          go_ret
          exact⟨.inl rfl,B1⟩
        · go_wp2
          go_roundw
          case rel=>exact⟨j+1,_,by omega,by go_num,rfl,by have:=HS.out;have:=HQ.out;omega,B1⟩
          case measure=>simp[intOf];omega
      · have hjl:j=ps.length:=by omega
        subst hjl
        have HQ:Hid (ps.length+sizeD ps≤L):=by rw[Hid];rw[List.take_length] at hq;omega
        have HQL:Hid (q≤L):=by rw[Hid];omega
        clear hq
        go_wp2
        go_ret
        exact⟨.inr ⟨HQ.out,q,HQL.out,rfl⟩,hbel⟩
 · have hb':¬ (ps.length:Int)≤L:=by omega
   clear hs hm
   go_enter Try.func40,Try.ntmps40
   go_wp2
   go_ret
   exact⟨.inl rfl,Below.refl _ _⟩
set_option maxRecDepth 100000 in
set_option maxHeartbeats 1000000 in
theorem toDOpS_any (a:Option Addr) (cap:Nat) (ps:List DOpL) (w:World) (hl:ps.length≤1048576) (hs:IsDOps w a ps) :
 Calls Try.prog 46 #[.slice a ps.length cap] w fun e w'=>e=.returned (.slice (some ⟨w.heap.size,0,none⟩) ps.length ps.length)∧w'.ownsRow w.heap.size 40 4 (.slice (some ⟨w.heap.size,0,none⟩) ps.length ps.length) ps.length (dcells ps)∧Below w.heap.size w w':=by
 obtain⟨i0,hi0,hz0,hz1,hz2⟩:=info_parts infoDOp
 go_enter Try.func46,Try.ntmps46
 go_wp2_with (at_make;refine wpList_make_full _ rfl _ _ 29 rfl w.heap.size 40 i0 (.agg #[.int .i64 0,.string ⟨#[]⟩,.string ⟨#[]⟩,.string ⟨#[]⟩]) 4 Try.underlying29 hi0 hz0 hz1 _ _ _ _ ps.length rfl rfl (by omega) (by omega) (by rw[hz2];omega) (by unfold maxLen;omega) (Nat.le_refl _) ?_;intro w0 hown0 hgrow0)
 rw[made_dops] at hown0
 have hb0:=(Below.refl w.heap.size w).grown hgrow0 (Nat.le_refl _) (by simp)
 have hs0:=hgrow0.size
 rcases hs with rfl | ⟨b,off,rfl,hc⟩
 · refine wp_loop_rounds 1 ?_
   rw[rounds_succ]
   go_wp2
   go_ret
   exact⟨rfl,hown0,hb0⟩
 · clear hgrow0
   go_loopw [4] (fun i wr=>∃ j:Nat,j≤ps.length∧i=.int .i64 (j:Int)∧wr.ownsRow w.heap.size 40 4 (.slice (some ⟨w.heap.size,0,none⟩) ps.length ps.length) ps.length (laidD ps j)∧Below w.heap.size w wr) (fun i _=>ps.length - (intOf i).toNat)
   case atStart=>exact⟨0,Nat.zero_le _,rfl,by rw[laidD_zero];exact hown0,hb0⟩
   case round =>
    obtain⟨j,hj,rfl,hown,hbel⟩:=hrel
    have hsz:=hbel.size
    by_cases hlt:j<ps.length
    · have hbl:=World.block_lt_of_cell? w _ (hc j hlt).1
      have c1:=(hbel.cell (p:=⟨b,off+j*4,none⟩) hbl).trans (hc j hlt).1
      have c2:=(hbel.cell (p:=⟨b,off+j*4+1,none⟩) hbl).trans (hc j hlt).2.1
      have c3:=(hbel.cell (p:=⟨b,off+j*4+2,none⟩) hbl).trans (hc j hlt).2.2.1
      have c4:=(hbel.cell (p:=⟨b,off+j*4+3,none⟩) hbl).trans (hc j hlt).2.2.2
      simp only at hbl
      have hlt2:=own_lt hown
      have HL2:Hid ((((((laidD ps j).set (j*4) (.int .i64 ps[j].k)).set (j*4+1) (.string ⟨ps[j].n.toArray⟩)).set (j*4+2) (.string ⟨ps[j].t.toArray⟩)).set (j*4+3) (.string ⟨ps[j].d.toArray⟩))=laidD ps (j+1)):=laidD_step ps j hlt
      have hj0:(0:Int)≤(j:Int):=by omega
      have hj1:(j:Int)<(ps.length:Int):=by omega
      have HOW:=hidOwn hown
      have HLEN:Hid ((laidD ps j).length=ps.length*4):=laidD_length ps j (by omega)
      obtain⟨x,hx⟩:∃ v,v=ps[j].k:=⟨_,rfl⟩
      obtain⟨y,hy⟩:∃ v,v=ps[j].n:=⟨_,rfl⟩
      obtain⟨z,hz⟩:∃ v,v=ps[j].t:=⟨_,rfl⟩
      obtain⟨u,hu⟩:∃ v,v=ps[j].d:=⟨_,rfl⟩
      rw[←hx] at c1 HL2
      rw[←hy] at c2 HL2
      rw[←hz] at c3 HL2
      rw[←hu] at c4 HL2
      have K:=toDOp_any x y z u wr
      clear hc hx hy hz hu hown hown0 hb0
      go_wp2_with fail
      refine K.mono ?_
      rintro e w1 ⟨rfl,b1⟩
      have hO1:=kept4 HOW.out b1
      obtain⟨o0,ho0⟩:∃ o,w1.cell? ⟨w.heap.size,j*4,none⟩=some o:=by rw[hO1.cellAt (j*4) (by omega)];exact⟨_,List.getElem?_eq_getElem (by rw[HLEN.out];omega)⟩
      obtain⟨o1,ho1⟩:∃ o,w1.cell? ⟨w.heap.size,j*4+1,none⟩=some o:=by rw[hO1.cellAt (j*4+1) (by omega)];exact⟨_,List.getElem?_eq_getElem (by rw[HLEN.out];omega)⟩
      obtain⟨o2,ho2⟩:∃ o,w1.cell? ⟨w.heap.size,j*4+2,none⟩=some o:=by rw[hO1.cellAt (j*4+2) (by omega)];exact⟨_,List.getElem?_eq_getElem (by rw[HLEN.out];omega)⟩
      obtain⟨o3,ho3⟩:∃ o,w1.cell? ⟨w.heap.size,j*4+3,none⟩=some o:=by rw[hO1.cellAt (j*4+3) (by omega)];exact⟨_,List.getElem?_eq_getElem (by rw[HLEN.out];omega)⟩
      have hf0:=hO1.frozenAt (j*4)
      have hf1:=hO1.frozenAt (j*4+1)
      have hf2:=hO1.frozenAt (j*4+2)
      have hf3:=hO1.frozenAt (j*4+3)
      have hst:=((((hO1.stored (j*4) (.int .i64 x)).1.stored (j*4+1) (.string ⟨y.toArray⟩)).1.stored (j*4+2) (.string ⟨z.toArray⟩)).1.stored (j*4+3) (.string ⟨u.toArray⟩)).1
      rw[HL2.out] at hst
      have HS2:=hidOwn hst
      have hb2:=((((hbel.trans (b1.mono hsz)).setCell (p:=⟨w.heap.size,j*4,none⟩) (Nat.le_refl _) (.int .i64 x)).setCell (p:=⟨w.heap.size,j*4+1,none⟩) (Nat.le_refl _) (.string ⟨y.toArray⟩)).setCell (p:=⟨w.heap.size,j*4+2,none⟩) (Nat.le_refl _) (.string ⟨z.toArray⟩)).setCell (p:=⟨w.heap.size,j*4+3,none⟩) (Nat.le_refl _) (.string ⟨u.toArray⟩)
      clear hO1 b1 hst HOW HL2 K
      go_wp2
      go_roundw
      case rel=>exact⟨j+1,by omega,by go_num,HS2.out,hb2⟩
      case measure=>simp[intOf];omega
    · have hjl:j=ps.length:=by omega
      subst hjl
      rw[laidD_all] at hown
      clear hown0 hb0
      go_wp2
      go_ret
      exact⟨rfl,hown,hbel⟩
set_option maxRecDepth 100000 in
set_option maxHeartbeats 400000 in
theorem eqDOp_same (x:Int) (y z u:List UInt8) (w:World) :
 Calls Try.prog 83 #[.agg #[.int .i64 x,.string ⟨y.toArray⟩,.string ⟨z.toArray⟩,.string ⟨u.toArray⟩],.agg #[.int .i64 x,.string ⟨y.toArray⟩,.string ⟨z.toArray⟩,.string ⟨u.toArray⟩]] w fun e w'=>e=.returned (.bool true)∧Below w.heap.size w w':=by
 go_enter Try.func83,Try.ntmps83
 go_wp2
 go_ret
 exact⟨rfl,((Below.refl _ _).alloc (Nat.le_refl _) _).alloc (by simp) _⟩
set_option maxRecDepth 100000 in
set_option maxHeartbeats 1000000 in
theorem eqDOpS_same (ps : List DOpL) (a c : Option Addr) (n m : Nat) (w : World) (hl : ps.length ≤ 16777216) (hu : IsDOps w a ps) (hv : IsDOps w c ps) :
 Calls Try.prog 54 #[.slice a ps.length n,.slice c ps.length m] w fun e w'=>e=.returned (.bool true)∧Below w.heap.size w w':=by
 rcases hu with rfl | ⟨b,off,rfl,h1⟩
 · go_enter Try.func54,Try.ntmps54
   go_wp2
   refine wp_loop_rounds 1 ?_
   rw[rounds_succ]
   go_wp2
   go_ret
   exact⟨rfl,Below.refl _ _⟩
 · rcases hv with rfl | ⟨d,of2,rfl,h2⟩
   · go_enter Try.func54,Try.ntmps54
     go_wp2
     refine wp_loop_rounds 1 ?_
     rw[rounds_succ]
     go_wp2
     go_ret
     exact⟨rfl,Below.refl _ _⟩
   · go_enter Try.func54,Try.ntmps54
     go_wp2
     go_loopw [5] (fun i wr=>∃ j:Nat,j≤ps.length∧i=.int .i64 (j:Int)∧Below w.heap.size w wr) (fun i _=>ps.length - (intOf i).toNat)
     case atStart=>exact⟨0,Nat.zero_le _,rfl,Below.refl _ _⟩
     case round =>
      obtain⟨j,hj,rfl,hbel⟩:=hrel
      have hsz:=hbel.size
      by_cases hlt:j<ps.length
      · have hbl:=World.block_lt_of_cell? w _ (h1 j hlt).1
        have hdl:=World.block_lt_of_cell? w _ (h2 j hlt).1
        have c1:=(hbel.cell (p:=⟨b,off+j*4,none⟩) hbl).trans (h1 j hlt).1
        have c2:=(hbel.cell (p:=⟨b,off+j*4+1,none⟩) hbl).trans (h1 j hlt).2.1
        have c3:=(hbel.cell (p:=⟨b,off+j*4+2,none⟩) hbl).trans (h1 j hlt).2.2.1
        have c4:=(hbel.cell (p:=⟨b,off+j*4+3,none⟩) hbl).trans (h1 j hlt).2.2.2
        have d1:=(hbel.cell (p:=⟨d,of2+j*4,none⟩) hdl).trans (h2 j hlt).1
        have d2:=(hbel.cell (p:=⟨d,of2+j*4+1,none⟩) hdl).trans (h2 j hlt).2.1
        have d3:=(hbel.cell (p:=⟨d,of2+j*4+2,none⟩) hdl).trans (h2 j hlt).2.2.1
        have d4:=(hbel.cell (p:=⟨d,of2+j*4+3,none⟩) hdl).trans (h2 j hlt).2.2.2
        have hj0:(0:Int)≤(j:Int):=by omega
        have hj1:(j:Int)<(ps.length:Int):=by omega
        obtain⟨x,hx⟩:∃ v,v=ps[j].k:=⟨_,rfl⟩
        obtain⟨y,hy⟩:∃ v,v=ps[j].n:=⟨_,rfl⟩
        obtain⟨z,hz⟩:∃ v,v=ps[j].t:=⟨_,rfl⟩
        obtain⟨u,hu⟩:∃ v,v=ps[j].d:=⟨_,rfl⟩
        rw[←hx] at c1 d1
        rw[←hy] at c2 d2
        rw[←hz] at c3 d3
        rw[←hu] at c4 d4
        have K:=fun W=>eqDOp_same x y z u W
        clear h1 h2 hx hy hz hu hbl hdl
        go_wp2_with fail
        go_region_held3 (fun w'=>w'.cell? ⟨b,off+j*4,none⟩=some (.int .i64 x)∧w'.cell? ⟨b,off+j*4+1,none⟩=some (.string ⟨y.toArray⟩)∧w'.cell? ⟨b,off+j*4+2,none⟩=some (.string ⟨z.toArray⟩)∧w'.cell? ⟨b,off+j*4+3,none⟩=some (.string ⟨u.toArray⟩)∧w'.cell? ⟨d,of2+j*4,none⟩=some (.int .i64 x)∧w'.cell? ⟨d,of2+j*4+1,none⟩=some (.string ⟨y.toArray⟩)∧w'.cell? ⟨d,of2+j*4+2,none⟩=some (.string ⟨z.toArray⟩)∧w'.cell? ⟨d,of2+j*4+3,none⟩=some (.string ⟨u.toArray⟩))
         (first | (exact⟨by assumption,by assumption,by assumption,by assumption,by assumption,by assumption,by assumption,by assumption⟩) | go_keep)
         ((go_at_call 83
           refine (K _).mono ?_
           rintro e w1 ⟨rfl,b1'⟩
           have b1:Below wr.heap.size wr w1:=⟨b1'.os,b1'.tape,b1'.output,b1'.size,b1'.block⟩
           have x1:=(b1.cell (p:=⟨b,off+j*4,none⟩) (World.block_lt_of_cell? wr _ c1)).trans c1
           have x2:=(b1.cell (p:=⟨b,off+j*4+1,none⟩) (World.block_lt_of_cell? wr _ c2)).trans c2
           have x3:=(b1.cell (p:=⟨b,off+j*4+2,none⟩) (World.block_lt_of_cell? wr _ c3)).trans c3
           have x4:=(b1.cell (p:=⟨b,off+j*4+3,none⟩) (World.block_lt_of_cell? wr _ c4)).trans c4
           have y1:=(b1.cell (p:=⟨d,of2+j*4,none⟩) (World.block_lt_of_cell? wr _ d1)).trans d1
           have y2:=(b1.cell (p:=⟨d,of2+j*4+1,none⟩) (World.block_lt_of_cell? wr _ d2)).trans d2
           have y3:=(b1.cell (p:=⟨d,of2+j*4+2,none⟩) (World.block_lt_of_cell? wr _ d3)).trans d3
           have y4:=(b1.cell (p:=⟨d,of2+j*4+3,none⟩) (World.block_lt_of_cell? wr _ d4)).trans d4
           have B1:=hbel.trans (b1.mono hsz)))
        all_goals
         clear K
         go_wp2
         go_roundw
         case rel=>exact⟨j+1,by omega,by go_num,B1⟩
         case measure=>simp[intOf];omega
      · go_wp2
        go_ret
        exact⟨rfl,hbel⟩
end Go.Proofs.Ytlllkdioojjaeaa
