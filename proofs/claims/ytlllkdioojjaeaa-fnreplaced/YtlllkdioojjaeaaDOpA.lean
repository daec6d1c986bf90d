/-
 Texts that are laid as one: DOpS, SDiskOk, DOpM, DiskL, DiskM.
-/
import Derived.Test.YtlllkdioojjaeaaStrsAll
import Derived.Test.YtlllkdioojjaeaaDkMath
import Derived.OneCell
import Derived.Deep.RegionHeld3
import Derived.Test.YtlllkdioojjaeaaMathFms
import Derived.Test.YtlllkdioojjaeaaSDos
import Derived.Test.YtlllkdioojjaeaaRows
import Derived.ProofKit
import Derived.Deep.SlicePairs
import Derived.Lib.SmallJoins
namespace Go.Proofs.Ytlllkdioojjaeaa
open Go.RowKit
set_option linter.unusedVariables false
theorem infoDOp:(Try.prog.info? 40).map (fun i=>(i.zero,i.size,i.bytes))=some (some (.agg #[.int .i64 0,.string ⟨#[]⟩,.string ⟨#[]⟩,.string ⟨#[]⟩]),4,56):=by kernel_rfl
set_option maxRecDepth 100000 in
theorem toDOp_any (x:Int) (y z u:List UInt8) (w:World) :
 Calls Try.prog 19 #[.agg #[.int .i64 x,.string ⟨y.toArray⟩,.string ⟨z.toArray⟩,.string ⟨u.toArray⟩]] w fun e w'=>e=.returned (.agg #[.int .i64 x,.string ⟨y.toArray⟩,.string ⟨z.toArray⟩,.string ⟨u.toArray⟩])∧Below w.heap.size w w':=by
 go_enter Try.func19,Try.ntmps19
 go_wp2
 have hb:(((w.alloc (.cells #[.int .i64 x,.string ⟨y.toArray⟩,.string ⟨z.toArray⟩,.string ⟨u.toArray⟩] 36)).alloc (.cells #[.int .i64 x,.string ⟨y.toArray⟩,.string ⟨z.toArray⟩,.string ⟨u.toArray⟩] 40)).alloc (.cells #[.int .i64 x,.string ⟨y.toArray⟩,.string ⟨z.toArray⟩,.string ⟨u.toArray⟩] 40)).heap[w.heap.size+1]? = some (.cells #[.int .i64 x,.string ⟨y.toArray⟩,.string ⟨z.toArray⟩,.string ⟨u.toArray⟩] 40 (0,0)):=by
  rw[Below.heap_alloc _ _ _ (by simp)]
  have:=heap_alloc_new (w.alloc (.cells #[.int .i64 x,.string ⟨y.toArray⟩,.string ⟨z.toArray⟩,.string ⟨u.toArray⟩] 36)) (.cells #[.int .i64 x,.string ⟨y.toArray⟩,.string ⟨z.toArray⟩,.string ⟨u.toArray⟩] 40)
  simpa using this
 exact bodyPost_ret (v:=.agg #[.int .i64 x,.string ⟨y.toArray⟩,.string ⟨z.toArray⟩,.string ⟨u.toArray⟩]) (results_cell_row rfl _ _ (w.heap.size+1) 40 _ (0,0) _ rfl hb Try.underlying40 rfl (by kernel_rfl)) rfl ⟨rfl,(((Below.refl _ _).alloc (Nat.le_refl _) _).alloc (by simp) _).alloc (by simp;omega) _⟩
set_option maxRecDepth 100000 in
set_option maxHeartbeats 1000000 in
theorem szDOp_any (x:Int) (y z u:List UInt8) (q:Nat) (w:World) (hq:q≤1048576) (hy:y.length≤9223372036854775807) (hz:z.length≤9223372036854775807) (hu:u.length≤9223372036854775807) :
 Calls Try.prog 17 #[.agg #[.int .i64 x,.string ⟨y.toArray⟩,.string ⟨z.toArray⟩,.string ⟨u.toArray⟩],.int .i64 (q:Int)] w fun e w'=>((q<y.length+z.length+u.length∧e=.returned (.int .i64 (-1)))∨(y.length+z.length+u.length≤q∧e=.returned (.int .i64 ((q - (y.length+z.length+u.length):Nat):Int))))∧Below w.heap.size w w':=by
 have hb:Below w.heap.size w (w.alloc (.cells #[.int .i64 x,.string ⟨y.toArray⟩,.string ⟨z.toArray⟩,.string ⟨u.toArray⟩] 36)):=(Below.refl _ _).alloc (Nat.le_refl _) _
 by_cases h1:y.length≤q
 · have h1':(y.length:Int)≤(q:Int):=by omega
   by_cases h2:y.length+z.length≤q
   · have h2':(z.length:Int)≤(q:Int) - (y.length:Int):=by omega
     by_cases h3:y.length+z.length+u.length≤q
     · have h3':(u.length:Int)≤(q:Int) - (y.length:Int) - (z.length:Int):=by omega
       have HE:Hid ((q:Int) - (y.length:Int) - (z.length:Int) - (u.length:Int)=((q - (y.length+z.length+u.length):Nat):Int)):=by rw[Hid];omega
       go_enter Try.func17,Try.ntmps17
       go_wp2
       go_ret
       exact⟨.inr ⟨h3,by rw[←HE.out];rfl⟩,hb⟩
     · have h3':¬ (u.length:Int)≤(q:Int) - (y.length:Int) - (z.length:Int):=by omega
       go_enter Try.func17,Try.ntmps17
       go_wp2
       go_ret
       first | exact⟨.inl ⟨by omega,rfl⟩,hb⟩ | exact⟨⟨by omega,rfl⟩,hb⟩
   · have h2':¬ (z.length:Int)≤(q:Int) - (y.length:Int):=by omega
     go_enter Try.func17,Try.ntmps17
     go_wp2
     go_ret
     first | exact⟨.inl ⟨by omega,rfl⟩,hb⟩ | exact⟨⟨by omega,rfl⟩,hb⟩
 · have h1':¬ (y.length:Int)≤(q:Int):=by omega
   go_enter Try.func17,Try.ntmps17
   go_wp2
   go_ret
   first | exact⟨.inl ⟨by omega,rfl⟩,hb⟩ | exact⟨⟨by omega,rfl⟩,hb⟩
set_option maxRecDepth 100000 in
set_option maxHeartbeats 1000000 in
theorem szDOpS_gen (L : Nat) (hL : L ≤ 1048576) (a : Option Addr) (cap : Nat) (ps : List DOpL) (w : World) (hl : ps.length ≤ 9223372036854775807) (hm : ∀ p ∈ ps, p.n.length ≤ 9223372036854775807 ∧ p.t.length ≤ 9223372036854775807 ∧ p.d.length ≤ 9223372036854775807) (hs : IsDOps w a ps) :
 Calls Try.prog 40 #[.slice a ps.length cap,.int .i64 (L:Int)] w fun e w'=>(e=.returned (.int .i64 (-1))∨(ps.length+sizeD ps≤L∧∃ n:Nat,n≤L∧e=.returned (.int .i64 (n:Int))))∧Below w.heap.size w w':=by
 by_cases hb:ps.length≤L
 · rcases hs with rfl | ⟨b, off, rfl, hc⟩
   · go_enter Try.func40,Try.ntmps40
     go_wp2
     refine wp_loop_rounds 1 ?_
     rw[rounds_succ]
     go_wp2
     go_ret
     exact⟨.inr ⟨by simp[sizeD],L,Nat.le_refl _,rfl⟩,Below.refl _ _⟩
   · have hm' : ∀ j (h : j < ps.length), ps[j].n.length ≤ 9223372036854775807 ∧ ps[j].t.length ≤ 9223372036854775807 ∧ ps[j].d.length ≤ 9223372036854775807 := fun j h => hm _ (List.getElem_mem _)
     clear hm
     go_enter Try.func40,Try.ntmps40
     go_wp2
     go_loopw [1,5] (fun v i wr=>∃ j q:Nat,j≤ps.length∧i=.int .i64 (j:Int)∧v=.int .i64 (q:Int)∧q+ps.length+sizeD (ps.take j)=L∧Below w.heap.size w wr) (fun _ i _=>ps.length - (intOf i).toNat)
     case atStart=>exact⟨0,L - ps.length,Nat.zero_le _,rfl,by simp;omega,by simp[sizeD];omega,Below.refl _ _⟩
     case round =>
      obtain⟨j,q,hj,rfl,rfl,hq,hbel⟩:=hrel
      have hsz:=hbel.size
      by_cases hlt:j<ps.length
      · have hbl:=World.block_lt_of_cell? w _ (hc j hlt).1
        have c1:=(hbel.cell (p:=⟨b,off+j*4,none⟩) hbl).trans (hc j hlt).1
        have c2:=(hbel.cell (p:=⟨b,off+j*4+1,none⟩) hbl).trans (hc j hlt).2.1
        have c3:=(hbel.cell (p:=⟨b,off+j*4+2,none⟩) hbl).trans (hc j hlt).2.2.1
        have c4:=(hbel.cell (p:=⟨b,off+j*4+3,none⟩) hbl).trans (hc j hlt).2.2.2
        have m1:=hm' j hlt
        have HS:Hid (sizeD (ps.take (j+1))=sizeD (ps.take j)+(ps[j].n.length+ps[j].t.length+ps[j].d.length)):=sizeD_snoc ps j hlt
        have hj0:(0:Int)≤(j:Int):=by omega
        have hj1:(j:Int)<(ps.length:Int):=by omega
        have hqs:q≤1048576:=by omega
        have HQ:Hid (q+ps.length+sizeD (ps.take j)=L):=hq
        obtain⟨x,hx⟩:∃ v,v=ps[j].k:=⟨_,rfl⟩
        obtain⟨y,hy⟩:∃ v,v=ps[j].n:=⟨_,rfl⟩
        obtain⟨z,hz⟩:∃ v,v=ps[j].t:=⟨_,rfl⟩
        obtain⟨u,hu⟩:∃ v,v=ps[j].d:=⟨_,rfl⟩
        rw[←hx] at c1
        rw[←hy] at c2 m1 HS
        rw[←hz] at c3 m1 HS
        rw[←hu] at c4 m1 HS
        have K:=fun W=>szDOp_any x y z u q W hqs m1.1 m1.2.1 m1.2.2
        clear hc hm' hx hy hz hu hq m1 hbl
        go_wp2_with fail
        refine (K _).mono ?_
        rintro e w1 ⟨he,b1⟩
        have B1:=hbel.trans (b1.mono hsz)
        clear K b1 hbel
        rcases he with ⟨hn,rfl⟩ | ⟨hn,rfl⟩
        · go_wp2
          go_ret
          exact⟨.inl rfl,B1⟩
        · go_wp2
          go_roundw
          case rel=>exact⟨j+1,_,by omega,by go_num,rfl,by have:=HS.out;have:=HQ.out;omega,B1⟩
          case measure=>simp[intOf];omega
      · have hjl:j=ps.length:=by omega
        subst hjl
        have HQ:Hid (ps.length+sizeD ps≤L):=by rw[Hid];rw[List.take_length] at hq;omega
        have HQL:Hid (q≤L):=by rw[Hid];omega
        clear hq
        go_wp2
        go_ret
        exact⟨.inr ⟨HQ.out,q,HQL.out,rfl⟩,hbel⟩
 · have hb':¬ (ps.length:Int)≤L:=by omega
   clear hs hm
   go_enter Try.func40,Try.ntmps40
   go_wp2
   go_ret
   exact⟨.inl rfl,Below.refl _ _⟩
set_option maxRecDepth 100000 in
set_option maxHeartbeats 1000000 in
theorem toDOpS_any (a:Option Addr) (cap:Nat) (ps:List DOpL) (w:World) (hl:ps.length≤1048576) (hs:IsDOps w a ps) :
 Calls Try.prog 46 #[.slice a ps.length cap] w fun e w'=>e=.returned (.slice (some ⟨w.heap.size,0,none⟩) ps.length ps.length)∧w'.ownsRow w.heap.size 40 4 (.slice (some ⟨w.heap.size,0,none⟩) ps.length ps.length) ps.length (dcells ps)∧Below w.heap.size w w':=by
 obtain⟨i0,hi0,hz0,hz1,hz2⟩:=info_parts infoDOp
 go_enter Try.func46,Try.ntmps46
 go_wp2_with (at_make;refine wpList_make_full _ rfl _ _ 29 rfl w.heap.size 40 i0 (.agg #[.int .i64 0,.string ⟨#[]⟩,.string ⟨#[]⟩,.string ⟨#[]⟩]) 4 Try.underlying29 hi0 hz0 hz1 _ _ _ _ ps.length rfl rfl (by omega) (by omega) (by rw[hz2];omega) (by unfold maxLen;omega) (Nat.le_refl _) ?_;intro w0 hown0 hgrow0)
 rw[made_dops] at hown0
 have hb0:=(Below.refl w.heap.size w).grown hgrow0 (Nat.le_refl _) (by simp)
 have hs0:=hgrow0.size
 rcases hs with rfl | ⟨b,off,rfl,hc⟩
 · refine wp_loop_rounds 1 ?_
   rw[rounds_succ]
   go_wp2
   go_ret
   exact⟨rfl,hown0,hb0⟩
 · clear hgrow0
   go_loopw [4] (fun i wr=>∃ j:Nat,j≤ps.length∧i=.int .i64 (j:Int)∧wr.ownsRow w.heap.size 40 4 (.slice (some ⟨w.heap.size,0,none⟩) ps.length ps.length) ps.length (laidD ps j)∧Below w.heap.size w wr) (fun i _=>ps.length - (intOf i).toNat)
   case atStart=>exact⟨0,Nat.zero_le _,rfl,by rw[laidD_zero];exact hown0,hb0⟩
   case round =>
    obtain⟨j,hj,rfl,hown,hbel⟩:=hrel
    have hsz:=hbel.size
    by_cases hlt:j<ps.length
    · have hbl:=World.block_lt_of_cell? w _ (hc j hlt).1
      have c1:=(hbel.cell (p:=⟨b,off+j*4,none⟩) hbl).trans (hc j hlt).1
      have c2:=(hbel.cell (p:=⟨b,off+j*4+1,none⟩) hbl).trans (hc j hlt).2.1
      have c3:=(hbel.cell (p:=⟨b,off+j*4+2,none⟩) hbl).trans (hc j hlt).2.2.1
      have c4:=(hbel.cell (p:=⟨b,off+j*4+3,none⟩) hbl).trans (hc j hlt).2.2.2
      simp only at hbl
      have hlt2:=own_lt hown
      have HL2:Hid ((((((laidD ps j).set (j*4) (.int .i64 ps[j].k)).set (j*4+1) (.string ⟨ps[j].n.toArray⟩)).set (j*4+2) (.string ⟨ps[j].t.toArray⟩)).set (j*4+3) (.string ⟨ps[j].d.toArray⟩))=laidD ps (j+1)):=laidD_step ps j hlt
      have hj0:(0:Int)≤(j:Int):=by omega
      have hj1:(j:Int)<(ps.length:Int):=by omega
      have HOW:=hidOwn hown
      have HLEN:Hid ((laidD ps j).length=ps.length*4):=laidD_length ps j (by omega)
      obtain⟨x,hx⟩:∃ v,v=ps[j].k:=⟨_,rfl⟩
      obtain⟨y,hy⟩:∃ v,v=ps[j].n:=⟨_,rfl⟩
      obtain⟨z,hz⟩:∃ v,v=ps[j].t:=⟨_,rfl⟩
      obtain⟨u,hu⟩:∃ v,v=ps[j].d:=⟨_,rfl⟩
      rw[←hx] at c1 HL2
      rw[←hy] at c2 HL2
      rw[←hz] at c3 HL2
      rw[←hu] at c4 HL2
      have K:=toDOp_any x y z u wr
      clear hc hx hy hz hu hown hown0 hb0
      go_wp2_with fail
      refine K.mono ?_
      rintro e w1 ⟨rfl,b1⟩
      have hO1:=kept4 HOW.out b1
      obtain⟨o0,ho0⟩:∃ o,w1.cell? ⟨w.heap.size,j*4,none⟩=some o:=by rw[hO1.cellAt (j*4) (by omega)];exact⟨_,List.getElem?_eq_getElem (by rw[HLEN.out];omega)⟩
      obtain⟨o1,ho1⟩:∃ o,w1.cell? ⟨w.heap.size,j*4+1,none⟩=some o:=by rw[hO1.cellAt (j*4+1) (by omega)];exact⟨_,List.getElem?_eq_getElem (by rw[HLEN.out];omega)⟩
      obtain⟨o2,ho2⟩:∃ o,w1.cell? ⟨w.heap.size,j*4+2,none⟩=some o:=by rw[hO1.cellAt (j*4+2) (by omega)];exact⟨_,List.getElem?_eq_getElem (by rw[HLEN.out];omega)⟩
      obtain⟨o3,ho3⟩:∃ o,w1.cell? ⟨w.heap.size,j*4+3,none⟩=some o:=by rw[hO1.cellAt (j*4+3) (by omega)];exact⟨_,List.getElem?_eq_getElem (by rw[HLEN.out];omega)⟩
      have hf0:=hO1.frozenAt (j*4)
      have hf1:=hO1.frozenAt (j*4+1)
      have hf2:=hO1.frozenAt (j*4+2)
      have hf3:=hO1.frozenAt (j*4+3)
      have hst:=((((hO1.stored (j*4) (.int .i64 x)).1.stored (j*4+1) (.string ⟨y.toArray⟩)).1.stored (j*4+2) (.string ⟨z.toArray⟩)).1.stored (j*4+3) (.string ⟨u.toArray⟩)).1
      rw[HL2.out] at hst
      have HS2:=hidOwn hst
      have hb2:=((((hbel.trans (b1.mono hsz)).setCell (p:=⟨w.heap.size,j*4,none⟩) (Nat.le_refl _) (.int .i64 x)).setCell (p:=⟨w.heap.size,j*4+1,none⟩) (Nat.le_refl _) (.string ⟨y.toArray⟩)).setCell (p:=⟨w.heap.size,j*4+2,none⟩) (Nat.le_refl _) (.string ⟨z.toArray⟩)).setCell (p:=⟨w.heap.size,j*4+3,none⟩) (Nat.le_refl _) (.string ⟨u.toArray⟩)
      clear hO1 b1 hst HOW HL2 K
      go_wp2
      go_roundw
      case rel=>exact⟨j+1,by omega,by go_num,HS2.out,hb2⟩
      case measure=>simp[intOf];omega
    · have hjl:j=ps.length:=by omega
      subst hjl
      rw[laidD_all] at hown
      clear hown0 hb0
      go_wp2
      go_ret
      exact⟨rfl,hown,hbel⟩
set_option maxRecDepth 100000 in
set_option maxHeartbeats 400000 in
theorem eqDOp_same (x:Int) (y z u:List UInt8) (w:World) :
 Calls Try.prog 83 #[.agg #[.int .i64 x,.string ⟨y.toArray⟩,.string ⟨z.toArray⟩,.string ⟨u.toArray⟩],.agg #[.int .i64 x,.string ⟨y.toArray⟩,.string ⟨z.toArray⟩,.string ⟨u.toArray⟩]] w fun e w'=>e=.returned (.bool true)∧Below w.heap.size w w':=by
 go_enter Try.func83,Try.ntmps83
 go_wp2
 go_ret
 exact⟨rfl,((Below.refl _ _).alloc (Nat.le_refl _) _).alloc (by simp) _⟩
set_option maxRecDepth 100000 in
set_option maxHeartbeats 1000000 in
theorem eqDOpS_same (ps : List DOpL) (a c : Option Addr) (n m : Nat) (w : World) (hl : ps.length ≤ 16777216) (hu : IsDOps w a ps) (hv : IsDOps w c ps) :
 Calls Try.prog 54 #[.slice a ps.length n,.slice c ps.length m] w fun e w'=>e=.returned (.bool true)∧Below w.heap.size w w':=by
 rcases hu with rfl | ⟨b,off,rfl,h1⟩
 · go_enter Try.func54,Try.ntmps54
   go_wp2
   refine wp_loop_rounds 1 ?_
   rw[rounds_succ]
   go_wp2
   go_ret
   exact⟨rfl,Below.refl _ _⟩
 · rcases hv with rfl | ⟨d,of2,rfl,h2⟩
   · go_enter Try.func54,Try.ntmps54
     go_wp2
     refine wp_loop_rounds 1 ?_
     rw[rounds_succ]
     go_wp2
     go_ret
     exact⟨rfl,Below.refl _ _⟩
   · go_enter Try.func54,Try.ntmps54
     go_wp2
     go_loopw [5] (fun i wr=>∃ j:Nat,j≤ps.length∧i=.int .i64 (j:Int)∧Below w.heap.size w wr) (fun i _=>ps.length - (intOf i).toNat)
     case atStart=>exact⟨0,Nat.zero_le _,rfl,Below.refl _ _⟩
     case round =>
      obtain⟨j,hj,rfl,hbel⟩:=hrel
      have hsz:=hbel.size
      by_cases hlt:j<ps.length
      · have hbl:=World.block_lt_of_cell? w _ (h1 j hlt).1
        have hdl:=World.block_lt_of_cell? w _ (h2 j hlt).1
        have c1:=(hbel.cell (p:=⟨b,off+j*4,none⟩) hbl).trans (h1 j hlt).1
        have c2:=(hbel.cell (p:=⟨b,off+j*4+1,none⟩) hbl).trans (h1 j hlt).2.1
        have c3:=(hbel.cell (p:=⟨b,off+j*4+2,none⟩) hbl).trans (h1 j hlt).2.2.1
        have c4:=(hbel.cell (p:=⟨b,off+j*4+3,none⟩) hbl).trans (h1 j hlt).2.2.2
        have d1:=(hbel.cell (p:=⟨d,of2+j*4,none⟩) hdl).trans (h2 j hlt).1
        have d2:=(hbel.cell (p:=⟨d,of2+j*4+1,none⟩) hdl).trans (h2 j hlt).2.1
        have d3:=(hbel.cell (p:=⟨d,of2+j*4+2,none⟩) hdl).trans (h2 j hlt).2.2.1
        have d4:=(hbel.cell (p:=⟨d,of2+j*4+3,none⟩) hdl).trans (h2 j hlt).2.2.2
        have hj0:(0:Int)≤(j:Int):=by omega
        have hj1:(j:Int)<(ps.length:Int):=by omega
        obtain⟨x,hx⟩:∃ v,v=ps[j].k:=⟨_,rfl⟩
        obtain⟨y,hy⟩:∃ v,v=ps[j].n:=⟨_,rfl⟩
        obtain⟨z,hz⟩:∃ v,v=ps[j].t:=⟨_,rfl⟩
        obtain⟨u,hu⟩:∃ v,v=ps[j].d:=⟨_,rfl⟩
        rw[←hx] at c1 d1
        rw[←hy] at c2 d2
        rw[←hz] at c3 d3
        rw[←hu] at c4 d4
        have K:=fun W=>eqDOp_same x y z u W
        clear h1 h2 hx hy hz hu hbl hdl
        go_wp2_with fail
        go_region_held3 (fun w'=>w'.cell? ⟨b,off+j*4,none⟩=some (.int .i64 x)∧w'.cell? ⟨b,off+j*4+1,none⟩=some (.string ⟨y.toArray⟩)∧w'.cell? ⟨b,off+j*4+2,none⟩=some (.string ⟨z.toArray⟩)∧w'.cell? ⟨b,off+j*4+3,none⟩=some (.string ⟨u.toArray⟩)∧w'.cell? ⟨d,of2+j*4,none⟩=some (.int .i64 x)∧w'.cell? ⟨d,of2+j*4+1,none⟩=some (.string ⟨y.toArray⟩)∧w'.cell? ⟨d,of2+j*4+2,none⟩=some (.string ⟨z.toArray⟩)∧w'.cell? ⟨d,of2+j*4+3,none⟩=some (.string ⟨u.toArray⟩))
         (first | (exact⟨by assumption,by assumption,by assumption,by assumption,by assumption,by assumption,by assumption,by assumption⟩) | go_keep)
         ((go_at_call 83
           refine (K _).mono ?_
           rintro e w1 ⟨rfl,b1'⟩
           have b1:Below wr.heap.size wr w1:=⟨b1'.os,b1'.tape,b1'.output,b1'.size,b1'.block⟩
           have x1:=(b1.cell (p:=⟨b,off+j*4,none⟩) (World.block_lt_of_cell? wr _ c1)).trans c1
           have x2:=(b1.cell (p:=⟨b,off+j*4+1,none⟩) (World.block_lt_of_cell? wr _ c2)).trans c2
           have x3:=(b1.cell (p:=⟨b,off+j*4+2,none⟩) (World.block_lt_of_cell? wr _ c3)).trans c3
           have x4:=(b1.cell (p:=⟨b,off+j*4+3,none⟩) (World.block_lt_of_cell? wr _ c4)).trans c4
           have y1:=(b1.cell (p:=⟨d,of2+j*4,none⟩) (World.block_lt_of_cell? wr _ d1)).trans d1
           have y2:=(b1.cell (p:=⟨d,of2+j*4+1,none⟩) (World.block_lt_of_cell? wr _ d2)).trans d2
           have y3:=(b1.cell (p:=⟨d,of2+j*4+2,none⟩) (World.block_lt_of_cell? wr _ d3)).trans d3
           have y4:=(b1.cell (p:=⟨d,of2+j*4+3,none⟩) (World.block_lt_of_cell? wr _ d4)).trans d4
           have B1:=hbel.trans (b1.mono hsz)))
        all_goals
         clear K
         go_wp2
         go_roundw
         case rel=>exact⟨j+1,by omega,by go_num,B1⟩
         case measure=>simp[intOf];omega
      · go_wp2
        go_ret
        exact⟨rfl,hbel⟩
theorem three_cells {w:World} {b:Nat} {u v x:Value} {t:TypeId} (h:w.heap[b]? = some (.cells #[u,v,x] t (0,0))) :
 w.cell? ⟨b,0,none⟩=some u∧w.cell? ⟨b,1,none⟩=some v∧w.cell? ⟨b,2,none⟩=some x∧∀ j,w.frozen? ⟨b,j,none⟩=false:=by
 refine⟨?_,?_,?_,fun j=>frozen_of_row w b j _ t h⟩ <;> simp only[World.cell?,h] <;> rfl
def AddrOk (a:Option Addr):Prop:=a=none∨∃ b off,a=some ⟨b,off,none⟩
theorem spec_doA (a:Option Addr) (ha:AddrOk a) (cp:Nat) (ps:List PairL) (k:Int) (n t d:List UInt8) (w:World) (hl:ps.length≤1000) (hm:∀ p∈ps,p.1.length≤16777216∧p.2.length≤8388608) (hn:n.length≤16777216) (ht:t.length≤16777216) (hd:d.length≤8388608) (hs:IsPairs w a ps) :
 Calls Try.prog 42 #[.slice a ps.length cp,.agg #[.int .i64 k,.string ⟨n.toArray⟩,.string ⟨t.toArray⟩,.string ⟨d.toArray⟩]] w fun e w'=>∃ (a':Option Addr) (m c:Nat),e=.returned (.tuple #[.slice a' m c,.bool (doF ps ⟨k,n,t,d⟩).2])∧w'.ownsRow w.heap.size 84 2 (.slice a' m c) (doF ps ⟨k,n,t,d⟩).1.length (pcells (doF ps ⟨k,n,t,d⟩).1)∧Below w.heap.size w w':=by
 rcases ha with rfl | ⟨b,off,rfl⟩
 · rcases hs with rfl | ⟨b,off,h,_⟩
   · exact spec_do0 cp k n t d w hn ht hd
   · cases h
 · exact spec_do b off cp ps k n t d w hl hm hn ht hd hs
theorem addr_own {w:World} {base e size n:Nat} {a:Option Addr} {m c:Nat} {xs:List Value} (h:w.ownsRow base e size (.slice a m c) n xs):AddrOk a:=by
 rcases h.2 with ⟨h',_⟩ | ⟨g,cap',cur,h',_⟩
 · cases h';exact .inl rfl
 · cases h';exact .inr ⟨g,0,rfl⟩
def NowAt (w:World) (safe:List PairL) (ops:List DOpL) (j:Nat) (a:Option Addr) (m:Nat) (fs:List PairL):Prop :=
 m=fs.length∧AddrOk a∧IsPairs w a fs∧filesOk fs=true∧runF safe (ops.take j)=some fs
set_option maxRecDepth 100000 in
set_option maxHeartbeats 4000000 in
theorem spec_diskOk (a1 a2 a3 : Option Addr) (c1 c2 c3 : Nat) (live safe : List PairL) (ops : List DOpL) (w : World) (ha : AddrOk a2) (hl1 : live.length ≤ 1048576) (hm1 : ∀ p ∈ live, p.1.length ≤ 1048576 ∧ p.2.length ≤ 1048576) (hl2 : safe.length ≤ 1048576) (hm2 : ∀ p ∈ safe, p.1.length ≤ 1048576 ∧ p.2.length ≤ 1048576) (hl3 : ops.length ≤ 1048576) (hm3 : ∀ p ∈ ops, p.n.length ≤ 1048576 ∧ p.t.length ≤ 1048576 ∧ p.d.length ≤ 1048576)
 (hs1:IsPairs w a1 live) (hs2:IsPairs w a2 safe) (hs3:IsDOps w a3 ops) :
 Calls Try.prog 13 #[.agg #[.slice a1 live.length c1,.slice a2 safe.length c2,.slice a3 ops.length c3]] w fun e w'=>e=.returned (.bool (diskOk live safe ops))∧Below w.heap.size w w':=by
 have B0:Below w.heap.size w (w.alloc (.cells #[.slice a1 live.length c1,.slice a2 safe.length c2,.slice a3 ops.length c3] 31)):=(Below.refl _ _).alloc (Nat.le_refl _) _
 have H0:Hid ((w.alloc (.cells #[.slice a1 live.length c1,.slice a2 safe.length c2,.slice a3 ops.length c3] 31)).heap[w.heap.size]? = some (.cells #[.slice a1 live.length c1,.slice a2 safe.length c2,.slice a3 ops.length c3] 31 (0,0))):=heap_alloc_new w _
 have hsz0:w.heap.size<(w.alloc (.cells #[.slice a1 live.length c1,.slice a2 safe.length c2,.slice a3 ops.length c3] 31)).heap.size:=by simp
 have HKL:Hid (∀ W,Below w.heap.size w W→_):=fun W h=>spec_files a1 c1 live W (by omega) (fun p hp=>by have:=hm1 p hp;exact⟨by omega,by omega⟩) (hs1.later h)
 have HKS:Hid (∀ W,Below w.heap.size w W→_):=fun W h=>spec_files a2 c2 safe W (by omega) (fun p hp=>by have:=hm2 p hp;exact⟨by omega,by omega⟩) (hs2.later h)
 have HS1:Hid (∀ W,Below w.heap.size w W→IsPairs W a1 live):=fun W h=>hs1.later h
 have HS2:Hid (∀ W,Below w.heap.size w W→IsPairs W a2 safe):=fun W h=>hs2.later h
 have HS3:Hid (∀ W,Below w.heap.size w W→IsDOps W a3 ops):=fun W h=>hs3.later h
 have HM3:Hid (∀ j (h:j<ops.length),ops[j].n.length≤1048576∧ops[j].t.length≤1048576∧ops[j].d.length≤1048576):=fun j h=>hm3 _ (List.getElem_mem _)
 have N1:Hid (filesOk live=false→diskOk live safe ops=false):=disk_no1
 have N2:Hid (filesOk safe=false→diskOk live safe ops=false):=disk_no2
 have N3:Hid (¬ ops.length≤200→diskOk live safe ops=false):=disk_no3
 have N4:Hid (∀ j,runF safe (ops.take j)=none→diskOk live safe ops=false):=fun j=>disk_no4
 have N5:Hid (∀ fs,filesOk live=true→filesOk safe=true→ops.length≤200→runF safe ops=some fs→diskOk live safe ops=decide (fs=live)):=fun fs=>disk_end
 obtain⟨dk,hdk⟩:∃ dk,dk=diskOk live safe ops:=⟨_,rfl⟩
 rw[←hdk] at N1 N2 N3 N4 N5 ⊢
 have HLL:Hid (live.length≤1048576∧safe.length≤1048576∧ops.length≤1048576):=⟨hl1,hl2,hl3⟩
 obtain⟨p0,p1,p2,_⟩:=three_cells H0.out
 have KL:=HKL.out _ B0
 obtain⟨fl,hfl⟩:∃ fl,fl=filesOk live:=⟨_,rfl⟩
 obtain⟨fb,hfb⟩:∃ fb,fb=filesOk safe:=⟨_,rfl⟩
 have HF1:Hid (fl=filesOk live):=hfl
 have HF2:Hid (fb=filesOk safe):=hfb
 rw[←hfl] at KL HKL
 rw[←hfb] at HKS
 clear hs1 hs2 hs3 hm1 hm2 hm3 hdk hfl hfb hl1 hl2 hl3
 go_enter Try.func13,Try.ntmps13
 go_wp2_with fail
 refine KL.mono ?_
 rintro e w1 ⟨rfl,b1⟩
 have B1:Below w.heap.size w w1:=B0.trans (b1.mono B0.size)
 have H1:Hid (w1.heap[w.heap.size]? = some (.cells #[.slice a1 live.length c1,.slice a2 safe.length c2,.slice a3 ops.length c3] 31 (0,0))):=(b1.block _ hsz0).trans H0.out
 clear KL p0 p1 p2 b1 H0 HKL hsz0 B0
 obtain⟨p0,p1,p2,_⟩:=three_cells H1.out
 cases fl with
 | false =>
   have HR:Hid (dk=false):=N1.out HF1.out.symm
   clear N1 N2 N3 N4 N5
   go_wp2
   go_ret
   obtain rfl:=HR.out
   exact⟨rfl,B1⟩
 | true =>
   have KS:=HKS.out w1 B1
   go_wp2_with fail
   refine KS.mono ?_
   rintro e w2 ⟨rfl,b2⟩
   have B2:Below w.heap.size w w2:=B1.trans (b2.mono B1.size)
   have H2:Hid (w2.heap[w.heap.size]? = some (.cells #[.slice a1 live.length c1,.slice a2 safe.length c2,.slice a3 ops.length c3] 31 (0,0))):=(b2.block _ (lt_of_block H1.out)).trans H1.out
   clear KS p0 p1 p2 b2 H1 HKS B1
   obtain⟨p0,p1,p2,_⟩:=three_cells H2.out
   cases fb with
   | false =>
     have HR:Hid (dk=false):=N2.out HF2.out.symm
     clear N1 N2 N3 N4 N5
     go_wp2
     go_ret
     obtain rfl:=HR.out
     exact⟨rfl,B2⟩
   | true =>
     by_cases h200:ops.length≤200
     · have h200' : (ops.length : Int) ≤ 200 := by omega
       have h200b:decide ((200:Int)<(ops.length:Int))=false:=decide_eq_false (by omega)
       have HN0:Hid (NowAt w2 safe ops 0 a2 safe.length safe):=⟨rfl,ha,HS2.out w2 B2,HF2.out.symm,by simp[runF]⟩
       have N6:Hid (∀ fs,runF safe ops=some fs→dk=decide (fs=live)):=fun fs h=>N5.out fs HF1.out.symm HF2.out.symm h200 h
       obtain⟨ln,hln⟩:∃ ln,ln=ops.length:=⟨_,rfl⟩
       have HLN:Hid (ln=ops.length):=hln
       have HOP:Hid (∀ W,Below w.heap.size w W→∀ j (h:j<ops.length),∃ b off,a3=some ⟨b,off,none⟩∧W.cell? ⟨b,off+j*4,none⟩=some (.int .i64 ops[j].k)∧W.cell? ⟨b,off+j*4+1,none⟩=some (.string ⟨ops[j].n.toArray⟩)∧W.cell? ⟨b,off+j*4+2,none⟩=some (.string ⟨ops[j].t.toArray⟩)∧W.cell? ⟨b,off+j*4+3,none⟩=some (.string ⟨ops[j].d.toArray⟩)):=fun W hW j h=>by
        rcases HS3.out W hW with h9 | ⟨b,off,h8,h9⟩
        · rw[h9] at h;simp at h
        · exact⟨b,off,h8,h9 j h⟩
       rw[←hln] at p2 H2 h200' h200b
       rw[←hln]
       clear N1 N2 N3 N5 HS3 hln h200
       go_wp2
       go_loopw [3,4,5,6] (fun now i _ _ wr=>∃ (j m c:Nat) (a:Option Addr) (fs:List PairL),j≤ln∧i=.int .i64 (j:Int)∧now=.slice a m c∧Hid (NowAt wr safe ops j a m fs)∧Hid (Below w2.heap.size w2 wr)) (fun _ i _ _ _=>ln - (intOf i).toNat)
       case atStart=>exact⟨0,_,_,_,safe,Nat.zero_le _,rfl,rfl,HN0,Below.refl _ _⟩
       case round =>
        obtain⟨j,m,c,a,fs,hj,rfl,rfl,HNW,HBW⟩:=hrel
        have HRW:Hid (wr.heap[w.heap.size]? = some (.cells #[.slice a1 live.length c1,.slice a2 safe.length c2,.slice a3 ln c3] 31 (0,0))):=(HBW.out.block _ (lt_of_block H2.out)).trans H2.out
        have BW:Hid (Below w.heap.size w wr):=B2.trans (HBW.out.mono B2.size)
        clear p0 p1 p2
        obtain⟨p0,p1,p2,_⟩:=three_cells HRW.out
        by_cases hlt:j<ln
        · have hlo:j<ops.length:=by have:=HLN.out;omega
          obtain⟨b,off,rfl,o0,o1,o2,o3⟩:=HOP.out wr BW.out j hlo
          obtain⟨m1,m2,m3⟩:=HM3.out j hlo
          obtain⟨e1,e2,e3,e4,e5⟩:=HNW.out
          subst e1
          have hsm:=files_small e4
          have hri:=rise_files e4
          have HOB:Hid (∀ W,Below wr.heap.size wr W→W.cell? ⟨b,off+j*4,none⟩=some (.int .i64 ops[j].k)∧W.cell? ⟨b,off+j*4+1,none⟩=some (.string ⟨ops[j].n.toArray⟩)∧W.cell? ⟨b,off+j*4+2,none⟩=some (.string ⟨ops[j].t.toArray⟩)∧W.cell? ⟨b,off+j*4+3,none⟩=some (.string ⟨ops[j].d.toArray⟩)):=fun W hW=>by
           obtain⟨b9,off9,h9,h8⟩:=HOP.out W (BW.out.trans (hW.mono BW.out.size)) j hlo
           cases h9
           exact h8
          have HSM:Hid (∀ p∈(doF fs ops[j]).1,p.1.length≤16777216∧p.2.length≤16777216):=fun p hp=>by
           have:=do_small hri.1 ops[j] (A:=1048576) (M:=200000) (fun p hp=>by have:=hsm p hp;exact⟨by omega,by omega⟩) m1 m2 p hp
           exact⟨by omega,by omega⟩
          have HDL:Hid ((doF fs ops[j]).1.length≤61):=by have:=do_len hri.1 ops[j];have:=hri.2.2.1;rw[Hid];omega
          have HST:Hid (opGoes fs ops[j]=false→dk=false):=fun h=>N4.out (j+1) (run_stop hlo e5 h)
          have HGO:Hid (opGoes fs ops[j]=true→runF safe (ops.take (j+1))=some (doF fs ops[j]).1∧filesOk (doF fs ops[j]).1=true):=fun h=>run_more hlo e5 h
          have HG:Hid (opGoes fs ops[j]=((doF fs ops[j]).2 && (formOk ops[j] && filesOk (doF fs ops[j]).1))):=rfl
          have KD:=spec_doA a e2 c fs ops[j].k ops[j].n ops[j].t ops[j].d wr (by have:=hri.2.2.1;omega) (fun p hp=>by have:=hsm p hp;exact⟨by omega,by omega⟩) (by omega) (by omega) (by omega) e3
          have KF:=fun W=>spec_form ops[j].k ops[j].n ops[j].t ops[j].d W (by omega) (by omega) (by omega)
          have eta:(⟨ops[j].k,ops[j].n,ops[j].t,ops[j].d⟩:DOpL)=ops[j]:=rfl
          rw[eta] at KD
          simp only[eta] at KF
          obtain⟨⟨ok,on,ot,od⟩,hoj⟩:∃ oj,oj=ops[j]:=⟨_,rfl⟩
          obtain⟨⟨gs,g2⟩,hgs⟩:∃ gs,gs=doF fs ops[j]:=⟨_,rfl⟩
          obtain⟨fo,hfo⟩:∃ fo,fo=formOk ops[j]:=⟨_,rfl⟩
          obtain⟨og,hog⟩:∃ og,og=opGoes fs ops[j]:=⟨_,rfl⟩
          rw[←hog] at HST HGO HG
          rw[←hgs] at KD HG HSM HDL HGO
          rw[←hfo] at HG KF
          rw[←hoj] at o0 o1 o2 o3 KD KF HOB
          simp only at o0 o1 o2 o3 KD KF HOB HG HSM HDL HGO
          have hj0:(0:Int)≤(j:Int):=by omega
          have hj1:(j:Int)<(ln:Int):=by omega
          clear hoj hgs hfo hog hri hsm e2 e3 e4 e5 m1 m2 m3 eta HNW HOP HM3 N4
          go_wp2_with fail
          refine KD.mono ?_
          rintro e w3 ⟨a',m',c',rfl,o9,b3⟩
          obtain⟨hm9,_,i9⟩:=isPairs_own o9
          subst hm9
          have A9:Hid (AddrOk a'):=addr_own o9
          have I9:Hid (∀ W,Below w3.heap.size w3 W→IsPairs W a' gs):=fun W hW=>i9.later hW
          have HR3:Hid (w3.heap[w.heap.size]? = some (.cells #[.slice a1 live.length c1,.slice a2 safe.length c2,.slice (some ⟨b,off,none⟩) ln c3] 31 (0,0))):=(b3.block _ (lt_of_block HRW.out)).trans HRW.out
          have B3:Hid (Below w2.heap.size w2 w3):=HBW.out.trans (b3.mono HBW.out.size)
          have Z3:Hid (Below w.heap.size w w3):=B2.trans (B3.out.mono B2.size)
          clear KD p0 p1 p2 o0 o1 o2 o3 o9 i9
          obtain⟨p0,p1,p2,_⟩:=three_cells HR3.out
          obtain⟨o0,o1,o2,o3⟩:=HOB.out w3 b3
          clear b3
          cases g2 with
          | false =>
            have HR:Hid (dk=false):=HST.out (by rw[HG.out];rfl)
            clear HST HG HGO N6
            go_wp2
            go_ret
            obtain rfl:=HR.out
            exact⟨rfl,Z3.out⟩
          | true =>
            go_wp2_with fail
            refine (KF _).mono ?_
            rintro e w4 ⟨rfl,b4⟩
            have B4:Hid (Below w2.heap.size w2 w4):=B3.out.trans (b4.mono B3.out.size)
            have Z4:Hid (Below w.heap.size w w4):=B2.trans (B4.out.mono B2.size)
            have HR4:Hid (w4.heap[w.heap.size]? = some (.cells #[.slice a1 live.length c1,.slice a2 safe.length c2,.slice (some ⟨b,off,none⟩) ln c3] 31 (0,0))):=(b4.block _ (lt_of_block HR3.out)).trans HR3.out
            clear p0 p1 p2 o0 o1 o2 o3
            obtain⟨p0,p1,p2,_⟩:=three_cells HR4.out
            cases fo with
            | false =>
              have HR:Hid (dk=false):=HST.out (by rw[HG.out];simp)
              clear HST HG HGO N6
              go_wp2
              go_ret
              obtain rfl:=HR.out
              exact⟨rfl,Z4.out⟩
            | true =>
              have KI:=spec_files a' c' gs w4 (by have:=HDL.out;omega) HSM.out (I9.out w4 b4)
              obtain⟨fk,hfk⟩:∃ fk,fk=filesOk gs:=⟨_,rfl⟩
              rw[←hfk] at KI HG HGO
              have HFK:Hid (fk=filesOk gs):=hfk
              clear hfk
              go_wp2_with fail
              refine KI.mono ?_
              rintro e w5 ⟨rfl,b5⟩
              have B5:Hid (Below w2.heap.size w2 w5):=B4.out.trans (b5.mono B4.out.size)
              have Z5:Hid (Below w.heap.size w w5):=B2.trans (B5.out.mono B2.size)
              have I5:Hid (IsPairs w5 a' gs):=I9.out w5 (b4.trans (b5.mono b4.size))
              clear KI p0 p1 p2
              cases fk with
              | false =>
                have HR:Hid (dk=false):=HST.out (by rw[HG.out];simp)
                clear HST HG HGO N6
                go_wp2
                go_ret
                obtain rfl:=HR.out
                exact⟨rfl,Z5.out⟩
              | true =>
                have HT:Hid (og=true):=by rw[Hid,HG.out];rfl
                have HNN:Hid (NowAt w5 safe ops (j+1) a' gs.length gs):=⟨rfl,A9.out,I5.out,HFK.out.symm,(HGO.out HT.out).1⟩
                clear HST HG HGO N6 HT I9 I5
                go_wp2
                go_roundw
                case rel=>exact⟨j+1,_,_,_,gs,by omega,by go_num,rfl,HNN,B5⟩
                case measure=>simp[intOf];omega
        · have hjl:j=ln:=by omega
          subst hjl
          obtain⟨e1,e2,e3,e4,e5⟩:=HNW.out
          subst e1
          have e6:runF safe ops=some fs:=by
           have:ops.take j=ops:=by rw[HLN.out,List.take_length]
           rw[this] at e5;exact e5
          have HR:Hid (dk=decide (fs=live)):=N6.out fs e6
          have KE:=spec_same a a1 c c1 fs live wr (by have:=(rise_files e4).2.2.1;omega) (by have:=HLL.out.1;omega) e3 (HS1.out wr BW.out)
          obtain⟨de,hde⟩:∃ de,de=decide (fs=live):=⟨_,rfl⟩
          rw[←hde] at KE HR
          clear e2 e3 e4 e5 e6 hde HNW N6 HOP HM3 N4 hlt
          go_wp2_with fail
          refine KE.mono ?_
          rintro e w3 ⟨rfl,b3⟩
          have B3:Hid (Below w.heap.size w w3):=BW.out.trans (b3.mono BW.out.size)
          clear KE b3
          go_wp2
          go_ret
          obtain rfl:=HR.out
          exact⟨rfl,B3.out⟩
     · have h200':¬ (ops.length:Int)≤200:=by omega
       have h200b:decide ((200:Int)<(ops.length:Int))=true:=decide_eq_true (by omega)
       have HR:Hid (dk=false):=N3.out h200
       clear N1 N2 N3 N4 N5 h200
       go_wp2
       go_ret
       obtain rfl:=HR.out
       exact⟨rfl,B2⟩
set_option maxRecDepth 100000 in
set_option maxHeartbeats 1000000 in
theorem markDOpS_any (ps:List DOpL) (a:Option Addr) (m cap b1 k:Nat) (w:World) (hl:ps.length≤4000000) (hk:0<k) (hk2:k≤6000000) (hv:w.ownsRow b1 40 4 (.slice a m cap) ps.length (dcells ps)) :
 Calls Try.prog 58 #[.slice a m cap,.int .i64 k] w fun e w'=>e=.returned (.int .i64 ((k:Int)+4*(ps.length:Int)))∧w'.ownsRow b1 40 4 (.slice a m cap) ps.length (dcells (marksD k ps.length))∧w.grownBy w' (Value.slice a m cap).ownBlock:=by
 rcases own_cases4 hv with ⟨hv0,hn,hx⟩ | ⟨g,cap',hv0,hg1,hg2,hc,hf⟩
 · cases hv0
   have hls:ps=[]:=List.length_eq_zero_iff.1 hn
   subst hls
   go_enter Try.func58,Try.ntmps58
   go_wp2
   refine wp_loop_rounds 1 ?_
   rw[rounds_succ]
   go_wp2
   go_ret
   exact⟨by simp,hv,World.grownBy.refl _ _⟩
 · cases hv0
   clear hc hf
   go_enter Try.func58,Try.ntmps58
   go_wp2
   go_loopw [1,5] (fun mm i wr=>∃ j:Nat,j≤ps.length∧i=.int .i64 (j:Int)∧mm=.int .i64 ((k+4*j:Nat):Int)∧wr.ownsRow b1 40 4 (.slice (some ⟨g,0,none⟩) ps.length cap) ps.length (markedD k j ps)∧w.grownBy wr (some g)) (fun _ i _=>ps.length - (intOf i).toNat)
   case atStart=>exact⟨0,Nat.zero_le _,rfl,rfl,by rw[markedD_zero];exact hv,World.grownBy.refl _ _⟩
   case round =>
    obtain⟨j,hj,rfl,rfl,hown,hgr⟩:=hrel
    by_cases hlt:j<ps.length
    · have hj1:(j:Int)<(ps.length:Int):=by omega
      have hj0:(0:Int)≤(j:Int):=by omega
      have HLEN:Hid ((markedD k j ps).length=ps.length*4):=markedD_length k j ps (by omega)
      have HSTEP:Hid ((((((markedD k j ps).set (j*4) (.int .i64 ((k+4*j:Nat):Int))).set (j*4+1) (.string ⟨(markT (k+4*j+1)).toArray⟩)).set (j*4+2) (.string ⟨(markT (k+4*j+2)).toArray⟩)).set (j*4+3) (.string ⟨(markT (k+4*j+3)).toArray⟩))=markedD k (j+1) ps):=markedD_step k j ps hlt
      have K1:=fun W=>markText_any (k+4*j+1) W (by omega) (by omega)
      have K2:=fun W=>markText_any (k+4*j+2) W (by omega) (by omega)
      have K3:=fun W=>markText_any (k+4*j+3) W (by omega) (by omega)
      rw[show ((k+4*j+1:Nat):Int)=((k+4*j:Nat):Int)+1 by omega] at K1
      rw[show ((k+4*j+2:Nat):Int)=((k+4*j:Nat):Int)+1+1 by omega] at K2
      rw[show ((k+4*j+3:Nat):Int)=((k+4*j:Nat):Int)+1+1+1 by omega] at K3
      obtain⟨q,hq⟩:∃ q,q=k+4*j:=⟨_,rfl⟩
      rw[←hq] at K1 K2 K3 HSTEP ⊢
      have HQ:Hid (q=k+4*j):=hq
      have hqs:(q:Int)≤100000000:=by omega
      have hq0:(0:Int)≤(q:Int):=by omega
      obtain⟨t1,ht1⟩:∃ t,t=markT (q+1):=⟨_,rfl⟩
      obtain⟨t2,ht2⟩:∃ t,t=markT (q+2):=⟨_,rfl⟩
      obtain⟨t3,ht3⟩:∃ t,t=markT (q+3):=⟨_,rfl⟩
      rw[←ht1] at K1 HSTEP
      rw[←ht2] at K2 HSTEP
      rw[←ht3] at K3 HSTEP
      obtain⟨x0,hx0⟩:∃ o,wr.cell? ⟨g,j*4,none⟩=some o:=by rw[hown.cellAt (j*4) (by omega)];exact⟨_,List.getElem?_eq_getElem (by rw[HLEN.out];omega)⟩
      have f0:=hown.frozenAt (j*4)
      have st0:=hown.stored (j*4) (.int .i64 ((q:Nat):Int))
      have O0:=hidOwn st0.1
      have HG0:Hid (w.grownBy (wr.setCell ⟨g,j*4,none⟩ (.int .i64 ((q:Nat):Int))) (some g)):=hgr.trans st0.2
      clear hown hgr hq ht1 ht2 ht3 st0
      go_wp2_with fail
      refine (K1 _).mono ?_
      rintro e w1 ⟨rfl,b1'⟩
      have o1:=kept4 O0.out b1'
      have g1:=HG0.out.trans (grown_of_below b1' (some g))
      obtain⟨x1,hx1⟩:∃ o,w1.cell? ⟨g,j*4+1,none⟩=some o:=by rw[o1.cellAt (j*4+1) (by omega)];exact⟨_,List.getElem?_eq_getElem (by simp only[List.length_set];rw[HLEN.out];omega)⟩
      have f1:=o1.frozenAt (j*4+1)
      have st1:=o1.stored (j*4+1) (.string ⟨t1.toArray⟩)
      have O1:=hidOwn st1.1
      have HG1:Hid (w.grownBy (w1.setCell ⟨g,j*4+1,none⟩ (.string ⟨t1.toArray⟩)) (some g)):=g1.trans st1.2
      clear o1 g1 st1 b1' O0 HG0 hx0 f0
      go_wp2_with fail
      refine (K2 _).mono ?_
      rintro e w2 ⟨rfl,b2'⟩
      have o2:=kept4 O1.out b2'
      have g2:=HG1.out.trans (grown_of_below b2' (some g))
      obtain⟨x2,hx2⟩:∃ o,w2.cell? ⟨g,j*4+2,none⟩=some o:=by rw[o2.cellAt (j*4+2) (by omega)];exact⟨_,List.getElem?_eq_getElem (by simp only[List.length_set];rw[HLEN.out];omega)⟩
      have f2:=o2.frozenAt (j*4+2)
      have st2:=o2.stored (j*4+2) (.string ⟨t2.toArray⟩)
      have O2:=hidOwn st2.1
      have HG2:Hid (w.grownBy (w2.setCell ⟨g,j*4+2,none⟩ (.string ⟨t2.toArray⟩)) (some g)):=g2.trans st2.2
      clear o2 g2 st2 b2' O1 HG1 hx1 f1
      go_wp2_with fail
      refine (K3 _).mono ?_
      rintro e w3 ⟨rfl,b3'⟩
      have o3:=kept4 O2.out b3'
      have g3:=HG2.out.trans (grown_of_below b3' (some g))
      obtain⟨x3,hx3⟩:∃ o,w3.cell? ⟨g,j*4+3,none⟩=some o:=by rw[o3.cellAt (j*4+3) (by omega)];exact⟨_,List.getElem?_eq_getElem (by simp only[List.length_set];rw[HLEN.out];omega)⟩
      have f3:=o3.frozenAt (j*4+3)
      have st3:=o3.stored (j*4+3) (.string ⟨t3.toArray⟩)
      rw[HSTEP.out] at st3
      have O3:=hidOwn st3.1
      have HG3:Hid (w.grownBy (w3.setCell ⟨g,j*4+3,none⟩ (.string ⟨t3.toArray⟩)) (some g)):=g3.trans st3.2
      clear o3 g3 st3 b3' O2 HG2 hx2 f2
      go_wp2
      go_roundw
      case rel=>exact⟨j+1,by omega,by go_num,by have:=HQ.out;congr 1;omega,O3.out,HG3.out⟩
      case measure=>simp[intOf];omega
    · have hjl:j=ps.length:=by omega
      subst hjl
      rw[markedD_all] at hown
      go_wp2
      go_ret
      exact⟨by congr 2,hown,hgr⟩
set_option maxRecDepth 100000 in
set_option maxHeartbeats 2000000 in
theorem heldDOpS_any (n : Nat) (a : Option Addr) (m cap b1 k : Nat) (w : World) (hl : n ≤ 4000000) (hk : 0 < k) (hk2 : k ≤ 6000000) (hv : w.ownsRow b1 40 4 (.slice a m cap) n (dcells (marksD k n))) :
 Calls Try.prog 60 #[.slice a m cap,.int .i64 k] w fun e w'=>e=.returned (.int .i64 ((k:Int)+4*(n:Int)))∧w.grownBy w' none:=by
 rcases own_cases4 hv with ⟨hv0,hn,hx⟩ | ⟨g,cap',hv0,hg1,hg2,hc,hf⟩
 · cases hv0
   subst hn
   go_enter Try.func60,Try.ntmps60
   go_wp2
   refine wp_loop_rounds 1 ?_
   rw[rounds_succ]
   go_wp2
   go_ret
   exact⟨by simp,World.grownBy.refl _ _⟩
 · cases hv0
   have hcc:∀ j,j<n→w.cell? ⟨g,j*4,none⟩=some (.int .i64 ((k+4*j:Nat):Int))∧w.cell? ⟨g,j*4+1,none⟩=some (.string ⟨(markT (k+4*j+1)).toArray⟩)∧w.cell? ⟨g,j*4+2,none⟩=some (.string ⟨(markT (k+4*j+2)).toArray⟩)∧w.cell? ⟨g,j*4+3,none⟩=some (.string ⟨(markT (k+4*j+3)).toArray⟩):=fun j hj=>by
    have hj':j<(marksD k n).length:=by rw[marksD_length];exact hj
    have:=dcells_at (marksD k n) j hj'
    rw[marksD_at k n j hj'] at this
    exact⟨(hc _ (by omega)).trans this.1,(hc _ (by omega)).trans this.2.1,(hc _ (by omega)).trans this.2.2.1,(hc _ (by omega)).trans this.2.2.2⟩
   clear hc hf
   go_enter Try.func60,Try.ntmps60
   go_wp2
   go_loopw [1,5] (fun mm i wr=>∃ j:Nat,j≤n∧i=.int .i64 (j:Int)∧mm=.int .i64 ((k+4*j:Nat):Int)∧w.grownBy wr none) (fun _ i _=>n - (intOf i).toNat)
   case atStart=>exact⟨0,Nat.zero_le _,rfl,rfl,World.grownBy.refl _ _⟩
   case round =>
    obtain⟨j,hj,rfl,rfl,hgr⟩:=hrel
    by_cases hlt:j<n
    · have hj1:(j:Int)<(n:Int):=by omega
      have hj0:(0:Int)≤(j:Int):=by omega
      have c0:=(hgr.cell_far ⟨g,j*4,none⟩ hg2 (by simp)).trans (hcc j hlt).1
      have c1:=(hgr.cell_far ⟨g,j*4+1,none⟩ hg2 (by simp)).trans (hcc j hlt).2.1
      have c2:=(hgr.cell_far ⟨g,j*4+2,none⟩ hg2 (by simp)).trans (hcc j hlt).2.2.1
      have c3:=(hgr.cell_far ⟨g,j*4+3,none⟩ hg2 (by simp)).trans (hcc j hlt).2.2.2
      have hltwr:g<wr.heap.size:=Nat.lt_of_lt_of_le hg2 hgr.size
      have HG0:Hid (w.grownBy wr none):=hgr
      have K1:=fun W=>markText_any (k+4*j+1) W (by omega) (by omega)
      have K2:=fun W=>markText_any (k+4*j+2) W (by omega) (by omega)
      have K3:=fun W=>markText_any (k+4*j+3) W (by omega) (by omega)
      rw[show ((k+4*j+1:Nat):Int)=((k+4*j:Nat):Int)+1 by omega] at K1
      rw[show ((k+4*j+2:Nat):Int)=((k+4*j:Nat):Int)+1+1 by omega] at K2
      rw[show ((k+4*j+3:Nat):Int)=((k+4*j:Nat):Int)+1+1+1 by omega] at K3
      obtain⟨q,hq⟩:∃ q,q=k+4*j:=⟨_,rfl⟩
      rw[←hq] at K1 K2 K3 c0 c1 c2 c3 ⊢
      have HQ:Hid (q=k+4*j):=hq
      have hqs:(q:Int)≤100000000:=by omega
      have hq0:(0:Int)≤(q:Int):=by omega
      obtain⟨t1,ht1⟩:∃ t,t=markT (q+1):=⟨_,rfl⟩
      obtain⟨t2,ht2⟩:∃ t,t=markT (q+2):=⟨_,rfl⟩
      obtain⟨t3,ht3⟩:∃ t,t=markT (q+3):=⟨_,rfl⟩
      rw[←ht1] at K1 c1
      rw[←ht2] at K2 c2
      rw[←ht3] at K3 c3
      clear hcc hgr hv hq ht1 ht2 ht3
      first | (go_wp2;go_quiet (fail)) | skip
      go_wp2_with fail
      go_region_held3 (fun w'=>w'.cell? ⟨g,j*4+1,none⟩=some (.string ⟨t1.toArray⟩))
       (first | assumption | go_keep)
       ((go_at_call 85;refine (K1 _).mono ?_;rintro e w1 ⟨rfl,hb1⟩;have d1:=(hb1.cell (p:=⟨g,j*4+1,none⟩) (by simp;omega)).trans c1))
      all_goals
       have hb1':Below wr.heap.size wr w1:=⟨hb1.os,hb1.tape,hb1.output,hb1.size,hb1.block⟩
       have e12:=(hb1'.cell (p:=⟨g,j*4+2,none⟩) hltwr).trans c2
       have e13:=(hb1'.cell (p:=⟨g,j*4+3,none⟩) hltwr).trans c3
       have hltw1:g<w1.heap.size:=Nat.lt_of_lt_of_le hltwr hb1'.size
       have HG1:Hid (w.grownBy w1 none):=HG0.out.trans (grown_of_below hb1' none)
       clear hb1
       go_wp2_with fail
       go_region_held3 (fun w'=>w'.cell? ⟨g,j*4+2,none⟩=some (.string ⟨t2.toArray⟩))
        (first | assumption | go_keep)
        ((go_at_call 85;refine (K2 _).mono ?_;rintro e w2 ⟨rfl,hb2⟩;have d2:=(hb2.cell (p:=⟨g,j*4+2,none⟩) (by simp;omega)).trans e12))
       all_goals
        have hb2':Below w1.heap.size w1 w2:=⟨hb2.os,hb2.tape,hb2.output,hb2.size,hb2.block⟩
        have e23:=(hb2'.cell (p:=⟨g,j*4+3,none⟩) hltw1).trans e13
        have hltw2:g<w2.heap.size:=Nat.lt_of_lt_of_le hltw1 hb2'.size
        have HG2:Hid (w.grownBy w2 none):=HG1.out.trans (grown_of_below hb2' none)
        clear hb2
        go_wp2_with fail
        go_region_held3 (fun w'=>w'.cell? ⟨g,j*4+3,none⟩=some (.string ⟨t3.toArray⟩))
         (first | assumption | go_keep)
         ((go_at_call 85;refine (K3 _).mono ?_;rintro e w3 ⟨rfl,hb3⟩;have d3:=(hb3.cell (p:=⟨g,j*4+3,none⟩) (by simp;omega)).trans e23))
        all_goals
         have hb3':Below w2.heap.size w2 w3:=⟨hb3.os,hb3.tape,hb3.output,hb3.size,hb3.block⟩
         have hltw3:g<w3.heap.size:=Nat.lt_of_lt_of_le hltw2 hb3'.size
         have HG3:Hid (w.grownBy w3 none):=HG2.out.trans (grown_of_below hb3' none)
         clear hb3
         go_wp2
         go_roundw
         case rel=>exact⟨j+1,by omega,by go_num,by have:=HQ.out;congr 1;omega,HG3.out⟩
         case measure=>simp[intOf];omega
    · have hjl:j=n:=by omega
      subst hjl
      go_wp2
      go_ret
      exact⟨by congr 2,hgr⟩
open Go.ChangeShapes Go.WideShapes Go.ChangeAt Go.RowKit
set_option maxRecDepth 100000 in
set_option maxHeartbeats 400000 in
theorem szFileS_gen (L : Nat) (hL : L ≤ 1048576) (a : Option Addr) (cap : Nat) (ps : List PairL) (w : World) (hl : ps.length ≤ 9223372036854775807) (hm : ∀ p ∈ ps, p.1.length ≤ 9223372036854775807 ∧ p.2.length ≤ 9223372036854775807) (hs : IsPairs w a ps) :
 Calls Try.prog 39 #[.slice a ps.length cap,.int .i64 (L:Int)] w fun e w'=>(e=.returned (.int .i64 (-1))∨(ps.length+sizeP ps≤L∧∃ n:Nat,n≤L∧e=.returned (.int .i64 (n:Int))))∧Below w.heap.size w w':=by
 by_cases hb:ps.length≤L
 · rcases hs with rfl | ⟨b, off, rfl, hc⟩
   · go_enter Try.func39,Try.ntmps39
     go_wp2
     refine wp_loop_rounds 1 ?_
     rw[rounds_succ]
     go_wp2
     go_ret
     exact⟨.inr ⟨by simp[sizeP],L,Nat.le_refl _,rfl⟩,Below.refl _ _⟩
   · have hm' : ∀ j (h : j < ps.length), ps[j].1.length ≤ 9223372036854775807 ∧ ps[j].2.length ≤ 9223372036854775807 := fun j h => hm _ (List.getElem_mem _)
     clear hm
     go_enter Try.func39,Try.ntmps39
     go_wp2
     go_loopw [1,5] (fun v i wr=>∃ j q:Nat,j≤ps.length∧i=.int .i64 (j:Int)∧v=.int .i64 (q:Int)∧q+ps.length+sizeP (ps.take j)=L∧Below w.heap.size w wr) (fun _ i _=>ps.length - (intOf i).toNat)
     case atStart=>exact⟨0,L - ps.length,Nat.zero_le _,rfl,by simp;omega,by simp[sizeP];omega,Below.refl _ _⟩
     case round =>
      obtain⟨j,q,hj,rfl,rfl,hq,hbel⟩:=hrel
      have hsz:=hbel.size
      by_cases hlt:j<ps.length
      · have c1:=(hbel.cell (p:=⟨b,off+j*2,none⟩) (World.block_lt_of_cell? w _ (hc j hlt).1)).trans (hc j hlt).1
        have c2:=(hbel.cell (p:=⟨b,off+j*2+1,none⟩) (World.block_lt_of_cell? w _ (hc j hlt).2)).trans (hc j hlt).2
        have m1:=hm' j hlt
        have HS:Hid (sizeP (ps.take (j+1))=sizeP (ps.take j)+(ps[j].1.length+ps[j].2.length)):=sizeP_snoc ps j hlt
        have hj0:(0:Int)≤(j:Int):=by omega
        have hj1:(j:Int)<(ps.length:Int):=by omega
        have hqs:q≤1048576:=by omega
        have HQ:Hid (q+ps.length+sizeP (ps.take j)=L):=hq
        obtain⟨x,hx⟩:∃ x,x=ps[j].1:=⟨_,rfl⟩
        obtain⟨y,hy⟩:∃ y,y=ps[j].2:=⟨_,rfl⟩
        rw[←hx] at c1 m1 HS
        rw[←hy] at c2 m1 HS
        have K:=fun W=>szFile_any x y q W hqs m1.1 m1.2
        clear hc hm' hx hy hq m1
        go_wp2_with fail
        refine (K _).mono ?_
        rintro e w1 ⟨he,b1⟩
        have B1:=hbel.trans (b1.mono hsz)
        clear K b1 hbel
        rcases he with ⟨hn,rfl⟩ | ⟨hn,rfl⟩
        · go_wp2
          go_ret
          exact⟨.inl rfl,B1⟩
        · go_wp2
          go_roundw
          case rel=>exact⟨j+1,_,by omega,by go_num,rfl,by have:=HS.out;have:=HQ.out;omega,B1⟩
          case measure=>simp[intOf];omega
      · have hjl:j=ps.length:=by omega
        subst hjl
        have HQ:Hid (ps.length+sizeP ps≤L):=by rw[Hid];rw[List.take_length] at hq;omega
        have HQL:Hid (q≤L):=by rw[Hid];omega
        clear hq
        go_wp2
        go_ret
        exact⟨.inr ⟨HQ.out,q,HQL.out,rfl⟩,hbel⟩
 · have hb':¬ (ps.length:Int)≤L:=by omega
   clear hs hm
   go_enter Try.func39,Try.ntmps39
   go_wp2
   go_ret
   exact⟨.inl rfl,Below.refl _ _⟩
def bytesFl:Value→List UInt8
 | .string s=>s.data.toList
 | _=>[]
set_option maxRecDepth 100000 in
theorem files_of {H:Type} {enc:TypeId × Value→H} {W:World} {fuel:Nat} {u:Value} {y:DataW H × List MemPlace} (hf:DataW.trod enc Try.prog W 0 (fun _=>true) true fuel 22 [u]=some y) :
 ∃ (a:Option Addr) (ps:List PairL) (cap:Nat),u=.slice a ps.length cap∧(∀ p∈ps,p.1.length≤9223372036854775807∧p.2.length≤9223372036854775807)∧IsPairs W a ps∧ps.length≤9223372036854775807:=by
 rcases Go.Deep.open_slice_pairs Try.underlying22 Try.underlying105 (by kernel_rfl) rfl rfl (by kernel_rfl) (by kernel_rfl) hf with ⟨hcs,_⟩ | ⟨a,len,cap,m,n,V0,V1,D0,D1,P0,P1,hcs,_,hl,hm,hmm,_,hx⟩
 · simp at hcs
   exact⟨none,[],0,hcs,by simp,.inl rfl,by simp⟩
 · simp at hcs
   unfold maxLen at hm
   simp only[if_true] at hmm
   have each:∀ i,i<len→W.cell? (a.add (i*2))=some (.string ⟨(bytesFl (V0 i)).toArray⟩)∧W.cell? (a.add (i*2+1))=some (.string ⟨(bytesFl (V1 i)).toArray⟩)∧(bytesFl (V0 i)).length≤9223372036854775807∧(bytesFl (V1 i)).length≤9223372036854775807:=by
    intro i hi
    obtain⟨e0,e1,t0,t1⟩:=hx i (by omega)
    obtain⟨s0,hs0,_,w0⟩:=DataW.trod_string Try.underlying9 t0
    obtain⟨s1,hs1,_,w1⟩:=DataW.trod_string Try.underlying9 t1
    simp at hs0 hs1
    unfold maxLen at w0 w1
    rw[hs0] at e0 ⊢
    rw[hs1] at e1 ⊢
    refine⟨by rw[e0];simp[bytesFl],by rw[e1];simp[bytesFl],?_,?_⟩
    · simp only[bytesFl,Array.length_toList];exact w0
    · simp only[bytesFl,Array.length_toList];exact w1
   refine⟨some a,(List.range len).map (fun i=>(bytesFl (V0 i),bytesFl (V1 i))),cap,by rw[hcs];simp,?_,?_,by simp;omega⟩
   · intro p hp
     simp only[List.mem_map,List.mem_range] at hp
     obtain⟨i,hi,rfl⟩:=hp
     exact⟨(each i hi).2.2.1,(each i hi).2.2.2⟩
   · by_cases h0:len=0
     · exact .inl (by simp[h0])
     · obtain⟨b,off,spot⟩:=a
       have hc:=(each 0 (by omega)).1
       have hspot:spot=none:=by simpa [Addr.add] using World.cell?_spot hc
       subst hspot
       refine .inr ⟨b,off,rfl,fun j hj=>?_⟩
       simp at hj
       have hcj:=each j hj
       have e1:(⟨b,off,none⟩:Addr).add (j*2)=⟨b,off+j*2,none⟩:=by simp[Addr.add]
       have e2:(⟨b,off,none⟩:Addr).add (j*2+1)=⟨b,off+j*2+1,none⟩:=by simp[Addr.add,Nat.add_assoc]
       rw[e1,e2] at hcj
       simp only[List.getElem_map,List.getElem_range]
       exact⟨hcj.1,hcj.2.1⟩
set_option maxRecDepth 100000 in
theorem dops_of {H : Type} {enc : TypeId × Value → H} {W : World} {fuel : Nat} {u : Value} {y : DataW H × List MemPlace} (hf : DataW.trod enc Try.prog W 0 (fun _ => true) true fuel 23 [u] = some y) :
 ∃ (a:Option Addr) (ps:List DOpL) (cap:Nat),u=.slice a ps.length cap∧(∀ p∈ps,p.n.length≤9223372036854775807∧p.t.length≤9223372036854775807∧p.d.length≤9223372036854775807)∧IsDOps W a ps∧ps.length≤9223372036854775807:=by
 rcases Go.Deep.open_slice Try.underlying23 hf with ⟨hcs,_⟩ | ⟨a,len,cap,m,n,D,Pl,hcs,_,hl,hm,hmm,_,hx⟩
 · simp at hcs
   exact⟨none,[],0,hcs,by simp,.inl rfl,by simp⟩
 · simp at hcs
   unfold maxLen at hm
   simp only[if_true] at hmm
   have ce:Try.prog.cellsOf 36=4:=by kernel_rfl
   have each : ∀ i, ∃ q : DOpL, i < len → W.cell? (a.add (i * 4)) = some (.int .i64 q.k) ∧ W.cell? (a.add (i * 4 + 1)) = some (.string ⟨q.n.toArray⟩) ∧ W.cell? (a.add (i * 4 + 2)) = some (.string ⟨q.t.toArray⟩) ∧ W.cell? (a.add (i * 4 + 3)) = some (.string ⟨q.d.toArray⟩) ∧ q.n.length ≤ 9223372036854775807 ∧ q.t.length ≤ 9223372036854775807 ∧ q.d.length ≤ 9223372036854775807 := by
    intro i
    by_cases hi:i<len
    · obtain⟨cs',h1,h2⟩:=hx i (by omega)
      rw[ce] at h1
      obtain⟨_,hlen,hcell⟩:=World.cells?_some h1
      obtain⟨xs,k,hk,hxy,_,hxl,hf⟩:=DataW.trod_struct Try.underlying36 h2
      match xs,hxl,cs',hlen with
      | [y0, y1, y2, y3], _, [v0, v1, v2, v3], _ =>
        have g0:=hf 0 _ rfl
        have g1:=hf 1 _ rfl
        have g2:=hf 2 _ rfl
        have g3:=hf 3 _ rfl
        have k0:Try.prog.cellsOf 9=1:=by kernel_rfl
        have k1:Try.prog.cellsOf 2=1:=by kernel_rfl
        simp[k0,k1] at g0 g1 g2 g3
        have e0:=hcell 0 (by omega)
        have e1:=hcell 1 (by omega)
        have e2:=hcell 2 (by omega)
        have e3:=hcell 3 (by omega)
        rw[Go.Deep.add_add] at e0 e1 e2 e3
        obtain⟨s0,hs0,_,_⟩:=DataW.trod_int Try.underlying2 g0
        obtain⟨s1,hs1,_,w1⟩:=DataW.trod_string Try.underlying9 g1
        obtain⟨s2,hs2,_,w2⟩:=DataW.trod_string Try.underlying9 g2
        obtain⟨s3,hs3,_,w3⟩:=DataW.trod_string Try.underlying9 g3
        simp at hs0 hs1 hs2 hs3
        subst hs0 hs1 hs2 hs3
        unfold maxLen at w1 w2 w3
        refine⟨⟨s0,s1.data.toList,s2.data.toList,s3.data.toList⟩,fun _=>⟨by simpa using e0,by simpa using e1,by simpa using e2,by simpa using e3,?_,?_,?_⟩⟩
        · simp only[Array.length_toList];exact w1
        · simp only[Array.length_toList];exact w2
        · simp only[Array.length_toList];exact w3
    · exact⟨⟨0,[],[],[]⟩,fun h=>absurd h hi⟩
   obtain⟨q,hq⟩:=Classical.skolem.1 each
   refine⟨some a,(List.range len).map q,cap,by rw[hcs];simp,?_,?_,by simp;omega⟩
   · intro p hp
     simp only[List.mem_map,List.mem_range] at hp
     obtain⟨i,hi,rfl⟩:=hp
     exact (hq i hi).2.2.2.2
   · by_cases h0:len=0
     · exact .inl (by simp[h0])
     · obtain⟨b,off,spot⟩:=a
       have hc:=(hq 0 (by omega)).1
       have hspot:spot=none:=by simpa [Addr.add] using World.cell?_spot hc
       subst hspot
       refine .inr ⟨b,off,rfl,fun j hj=>?_⟩
       simp at hj
       have hcj:=hq j hj
       have e1:(⟨b,off,none⟩:Addr).add (j*4)=⟨b,off+j*4,none⟩:=by simp[Addr.add]
       have e2:(⟨b,off,none⟩:Addr).add (j*4+1)=⟨b,off+j*4+1,none⟩:=by simp[Addr.add,Nat.add_assoc]
       have e3:(⟨b,off,none⟩:Addr).add (j*4+2)=⟨b,off+j*4+2,none⟩:=by simp[Addr.add,Nat.add_assoc]
       have e4:(⟨b,off,none⟩:Addr).add (j*4+3)=⟨b,off+j*4+3,none⟩:=by simp[Addr.add,Nat.add_assoc]
       rw[e1,e2,e3,e4] at hcj
       simp only[List.getElem_map,List.getElem_range]
       exact⟨hcj.1,hcj.2.1,hcj.2.2.1,hcj.2.2.2.1⟩
set_option maxRecDepth 100000 in
theorem disk_of {H:Type} {enc:TypeId × Value→H} {W:World} {r:Reach} {b0:Nat} {v:Value} {d:DataW H} {p:List MemPlace} (hv:Value.okWide Try.prog W r b0 25 v) (h:DataW.Trod enc Try.prog W 0 (fun _=>true) true 25 v d p) :
 ∃ (a1 a2 a3:Option Addr) (c1 c2 c3:Nat) (live safe:List PairL) (ops:List DOpL),v=.agg #[.slice a1 live.length c1,.slice a2 safe.length c2,.slice a3 ops.length c3]∧(IsPairs W a1 live∧live.length≤9223372036854775807∧∀ p∈live,p.1.length≤9223372036854775807∧p.2.length≤9223372036854775807)∧(IsPairs W a2 safe∧safe.length≤9223372036854775807∧∀ p∈safe,p.1.length≤9223372036854775807∧p.2.length≤9223372036854775807)∧(IsDOps W a3 ops∧ops.length≤9223372036854775807∧∀ p∈ops,p.n.length≤9223372036854775807∧p.t.length≤9223372036854775807∧p.d.length≤9223372036854775807):=by
 obtain⟨u0,u1,u2,y0,y1,y2,n,rfl,_,_,t0,t1,t2⟩:=Go.Joins.open_agg3 Try.underlying25 (by kernel_rfl) (by kernel_rfl) hv h
 obtain⟨a1,live,c1,rfl,m1,i1,l1⟩:=files_of t0
 obtain⟨a2,safe,c2,rfl,m2,i2,l2⟩:=files_of t1
 obtain⟨a3,ops,c3,rfl,m3,i3,l3⟩:=dops_of t2
 exact⟨a1,a2,a3,c1,c2,c3,live,safe,ops,rfl,⟨i1,l1,m1⟩,⟨i2,l2,m2⟩,⟨i3,l3,m3⟩⟩
theorem dk_set {w:World} {b j:Nat} {u v x z:Value} {t:TypeId} (h:w.heap[b]? = some (.cells #[u,v,x] t (0,0))):(w.setCell ⟨b,j,none⟩ z).heap[b]? = some (.cells (#[u,v,x].setIfInBounds j z) t (0,0)):=by
 have hlt:=lt_of_block h
 have h':w.heap[b]=.cells #[u,v,x] t (0,0):=by simpa [Array.getElem?_eq_getElem hlt] using h
 show (w.heap.modify b _)[b]? = _
 rw[Array.getElem?_eq_getElem (by simpa using hlt),Array.getElem_modify_self,h']
 rfl
set_option maxRecDepth 100000 in
set_option maxHeartbeats 1000000 in
theorem szDisk_any (L:Nat) (hL:L≤1048576) (a1 a2 a3:Option Addr) (c1 c2 c3:Nat) (live safe:List PairL) (ops:List DOpL) (w:World) (hl1:live.length≤9223372036854775807) (hl2:safe.length≤9223372036854775807) (hl3:ops.length≤9223372036854775807) (hm1:∀ p∈live,p.1.length≤9223372036854775807∧p.2.length≤9223372036854775807) (hm2:∀ p∈safe,p.1.length≤9223372036854775807∧p.2.length≤9223372036854775807) (hm3:∀ p∈ops,p.n.length≤9223372036854775807∧p.t.length≤9223372036854775807∧p.d.length≤9223372036854775807) (hs1:IsPairs w a1 live) (hs2:IsPairs w a2 safe) (hs3:IsDOps w a3 ops) :
 Calls Try.prog 12 #[.agg #[.slice a1 live.length c1,.slice a2 safe.length c2,.slice a3 ops.length c3],.int .i64 (L:Int)] w fun e w'=>(e=.returned (.int .i64 (-1))∨(live.length+sizeP live≤L∧safe.length+sizeP safe≤L∧ops.length+sizeD ops≤L∧∃ n:Nat,n≤L∧e=.returned (.int .i64 (n:Int))))∧Below w.heap.size w w':=by
 have B0:Below w.heap.size w (w.alloc (.cells #[.slice a1 live.length c1,.slice a2 safe.length c2,.slice a3 ops.length c3] 25)):=(Below.refl _ _).alloc (Nat.le_refl _) _
 have H0:Hid ((w.alloc (.cells #[.slice a1 live.length c1,.slice a2 safe.length c2,.slice a3 ops.length c3] 25)).heap[w.heap.size]? = some (.cells #[.slice a1 live.length c1,.slice a2 safe.length c2,.slice a3 ops.length c3] 25 (0,0))):=heap_alloc_new w _
 obtain⟨p0,p1,p2,_⟩:=three_cells H0.out
 have K:=szFileS_gen L hL a1 c1 live _ hl1 hm1 (hs1.later B0)
 have HK2:Hid (∀ q W,q≤1048576→Below w.heap.size w W→_):=fun q W hq hW=>szFileS_gen q hq a2 c2 safe W hl2 hm2 (hs2.later hW)
 have HK3:Hid (∀ q W,q≤1048576→Below w.heap.size w W→_):=fun q W hq hW=>szDOpS_gen q hq a3 c3 ops W hl3 hm3 (hs3.later hW)
 clear hs1 hs2 hs3 hm1 hm2 hm3
 go_enter Try.func12,Try.ntmps12
 go_wp2_with fail
 refine K.mono ?_
 rintro e w1 ⟨he,b1⟩
 have B1:=B0.trans (b1.mono B0.size)
 rcases he with rfl | ⟨hsz,n,hn,rfl⟩
 · go_wp2
   go_ret
   exact⟨.inl rfl,B1⟩
 · have HA1:Hid (live.length+sizeP live≤L∧n≤L):=⟨hsz,hn⟩
   have hn0:(0:Int)≤(n:Int):=by omega
   have K2:=HK2.out n w1 (by omega) B1
   have H1:Hid (w1.heap[w.heap.size]? = some (.cells #[.slice a1 live.length c1,.slice a2 safe.length c2,.slice a3 ops.length c3] 25 (0,0))):=(b1.block w.heap.size (by simp)).trans H0.out
   clear hsz hn K b1 p0 p1 p2
   obtain⟨p0,p1,p2,_⟩:=three_cells H1.out
   go_wp2_with fail
   refine K2.mono ?_
   rintro e w2 ⟨he,b2⟩
   have B2:=B1.trans (b2.mono B1.size)
   rcases he with rfl | ⟨hsz,n2,hn2,rfl⟩
   · go_wp2
     go_ret
     exact⟨.inl rfl,B2⟩
   · have HA2:Hid (safe.length+sizeP safe≤L∧n2≤L):=by have:=HA1.out;exact⟨by omega,by omega⟩
     have hn20:(0:Int)≤(n2:Int):=by omega
     have K3:=HK3.out n2 w2 (by have:=HA2.out;omega) B2
     have H2:Hid (w2.heap[w.heap.size]? = some (.cells #[.slice a1 live.length c1,.slice a2 safe.length c2,.slice a3 ops.length c3] 25 (0,0))):=(b2.block w.heap.size (lt_of_block H1.out)).trans H1.out
     clear hsz hn2 K2 b2 p0 p1 p2
     obtain⟨p0,p1,p2,_⟩:=three_cells H2.out
     go_wp2_with fail
     refine K3.mono ?_
     rintro e w3 ⟨he,b3⟩
     have B3:=B2.trans (b3.mono B2.size)
     rcases he with rfl | ⟨hsz,n3,hn3,rfl⟩
     · go_wp2
       go_ret
       exact⟨.inl rfl,B3⟩
     · have HA3:Hid (ops.length+sizeD ops≤L∧n3≤L):=by have:=HA2.out;exact⟨by omega,by omega⟩
       have hn30:(0:Int)≤(n3:Int):=by omega
       clear hsz hn3 K3 b3 p0 p1 p2
       go_wp2
       go_ret
       exact⟨.inr ⟨HA1.out.1,HA2.out.1,HA3.out.1,n3,HA3.out.2,rfl⟩,B3⟩
set_option maxRecDepth 100000 in
set_option maxHeartbeats 4000000 in
theorem toDisk_any (a1 a2 a3:Option Addr) (c1 c2 c3:Nat) (live safe:List PairL) (ops:List DOpL) (w:World) (hl1:live.length≤1048576) (hl2:safe.length≤1048576) (hl3:ops.length≤1048576) (hs1:IsPairs w a1 live) (hs2:IsPairs w a2 safe) (hs3:IsDOps w a3 ops) :
 Calls Try.prog 14 #[.agg #[.slice a1 live.length c1,.slice a2 safe.length c2,.slice a3 ops.length c3]] w fun e w'=>∃ g1 g2 g3:Nat,e=.returned (.agg #[.slice (some ⟨g1,0,none⟩) live.length live.length,.slice (some ⟨g2,0,none⟩) safe.length safe.length,.slice (some ⟨g3,0,none⟩) ops.length ops.length])∧g1<g2∧g2<g3∧w'.ownsRow w.heap.size 84 2 (.slice (some ⟨g1,0,none⟩) live.length live.length) live.length (pcells live)∧w'.ownsRow w.heap.size 84 2 (.slice (some ⟨g2,0,none⟩) safe.length safe.length) safe.length (pcells safe)∧w'.ownsRow w.heap.size 40 4 (.slice (some ⟨g3,0,none⟩) ops.length ops.length) ops.length (dcells ops)∧Below w.heap.size w w':=by
 obtain⟨wa,hwa⟩:∃ wa,wa=((w.alloc (.cells #[.slice a1 live.length c1,.slice a2 safe.length c2,.slice a3 ops.length c3] 25)).alloc (.cells #[.slice none 0 0,.slice none 0 0,.slice none 0 0] 31)).alloc (.cells #[.slice none 0 0,.slice none 0 0,.slice none 0 0] 31):=⟨_,rfl⟩
 have Ba:Below w.heap.size w wa:=by rw[hwa];exact (((Below.refl _ _).alloc (Nat.le_refl _) _).alloc (by simp) _).alloc (by simp;omega) _
 have sa:wa.heap.size=w.heap.size+3:=by rw[hwa];simp
 have a0:wa.heap[w.heap.size]? = some (.cells #[.slice a1 live.length c1,.slice a2 safe.length c2,.slice a3 ops.length c3] 25 (0,0)):=by rw[hwa,Below.heap_alloc _ _ _ (by simp;omega),Below.heap_alloc _ _ _ (by simp)];exact heap_alloc_new w _
 have a1':wa.heap[w.heap.size+1]? = some (.cells #[.slice none 0 0,.slice none 0 0,.slice none 0 0] 31 (0,0)):=by
  rw[hwa,Below.heap_alloc _ _ _ (by simp)]
  have:=heap_alloc_new (w.alloc (.cells #[.slice a1 live.length c1,.slice a2 safe.length c2,.slice a3 ops.length c3] 25)) (.cells #[.slice none 0 0,.slice none 0 0,.slice none 0 0] 31)
  simpa using this
 have a2':wa.heap[w.heap.size+2]? = some (.cells #[.slice none 0 0,.slice none 0 0,.slice none 0 0] 31 (0,0)):=by
  rw[hwa]
  have:=heap_alloc_new ((w.alloc (.cells #[.slice a1 live.length c1,.slice a2 safe.length c2,.slice a3 ops.length c3] 25)).alloc (.cells #[.slice none 0 0,.slice none 0 0,.slice none 0 0] 31)) (.cells #[.slice none 0 0,.slice none 0 0,.slice none 0 0] 31)
  rw[show ((w.alloc (.cells #[.slice a1 live.length c1,.slice a2 safe.length c2,.slice a3 ops.length c3] 25)).alloc (.cells #[.slice none 0 0,.slice none 0 0,.slice none 0 0] 31)).heap.size=w.heap.size+2 by simp] at this
  exact this
 have K1:=toFileS_any a1 c1 live wa hl1 (hs1.later Ba)
 rw[sa] at K1
 rw[hwa] at K1
 have HS2:Hid (∀ W,Below w.heap.size w W→IsPairs W a2 safe):=fun W hW=>hs2.later hW
 have HS3:Hid (∀ W,Below w.heap.size w W→IsDOps W a3 ops):=fun W hW=>hs3.later hW
 clear hs1 hs2 hs3
 go_enter Try.func14,Try.ntmps14
 go_wp2_with fail
 refine K1.mono ?_
 rintro e w1 ⟨rfl,o1,b1⟩
 rw[←hwa] at b1
 clear K1 hwa
 have hb1:Below wa.heap.size wa w1:=by rw[sa];exact b1
 have B1:=Ba.trans (hb1.mono (by omega))
 have e0:=(hb1.block (w.heap.size) (by omega)).trans a0
 have e1:=(hb1.block (w.heap.size+1) (by omega)).trans a1'
 have e2:=(hb1.block (w.heap.size+2) (by omega)).trans a2'
 have O1:=hidOwn o1
 have s1:w.heap.size+3<w1.heap.size:=by have:=own_lt o1;omega
 have B1s:Below w.heap.size w (w1.setCell ⟨w.heap.size+1+1,0,none⟩ (.slice (some ⟨w.heap.size+3,0,none⟩) live.length live.length)):=B1.setCell (by simp;omega) _
 have sz1:(w1.setCell ⟨w.heap.size+1+1,0,none⟩ (.slice (some ⟨w.heap.size+3,0,none⟩) live.length live.length)).heap.size=w1.heap.size:=by simp
 have K2:=toFileS_any a2 c2 safe (w1.setCell ⟨w.heap.size+1+1,0,none⟩ (.slice (some ⟨w.heap.size+3,0,none⟩) live.length live.length)) hl2 (HS2.out _ B1s)
 rw[sz1] at K2
 obtain⟨p0,p1,p2,_⟩:=three_cells e0
 obtain⟨r0,r1,r2,rf⟩:=three_cells e2
 have rf0:=rf 0
 have E0:Hid ((w1.setCell ⟨w.heap.size+1+1,0,none⟩ (.slice (some ⟨w.heap.size+3,0,none⟩) live.length live.length)).heap[w.heap.size]? = _):=(Below.heap_setCell _ _ _ _ (by simp;omega)).trans e0
 have E1:Hid ((w1.setCell ⟨w.heap.size+1+1,0,none⟩ (.slice (some ⟨w.heap.size+3,0,none⟩) live.length live.length)).heap[w.heap.size+1]? = _):=(Below.heap_setCell _ _ _ _ (by simp)).trans e1
 have E2:Hid ((w1.setCell ⟨w.heap.size+1+1,0,none⟩ (.slice (some ⟨w.heap.size+3,0,none⟩) live.length live.length)).heap[w.heap.size+1+1]? = some (.cells #[(.slice (some ⟨w.heap.size+3,0,none⟩) live.length live.length),.slice none 0 0,.slice none 0 0] 31 (0,0))):=dk_set (j:=0) e2
 have O1s:Hid ((w1.setCell ⟨w.heap.size+1+1,0,none⟩ (.slice (some ⟨w.heap.size+3,0,none⟩) live.length live.length)).ownsRow (w.heap.size+3) 84 2 (.slice (some ⟨w.heap.size+3,0,none⟩) live.length live.length) live.length (pcells live)):=ownsRow_setCell_other O1.out (by simp[Value.ownBlock]) _
 clear a0 a1' a2' b1 hb1 Ba rf o1 sa e0 e1 e2 O1 HS2
 go_wp2_with fail
 refine K2.mono ?_
 rintro e w2 ⟨rfl,o2,b2⟩
 have b2':Below (w1.setCell ⟨w.heap.size+1+1,0,none⟩ (.slice (some ⟨w.heap.size+3,0,none⟩) live.length live.length)).heap.size (w1.setCell ⟨w.heap.size+1+1,0,none⟩ (.slice (some ⟨w.heap.size+3,0,none⟩) live.length live.length)) w2:=by rw[sz1];exact b2
 have B2:=B1s.trans (b2'.mono B1s.size)
 have f0:=(b2.block w.heap.size (by omega)).trans E0.out
 have f1:=(b2.block (w.heap.size+1) (by omega)).trans E1.out
 have f2:=(b2.block (w.heap.size+1+1) (by omega)).trans E2.out
 have O12:=hidOwn (kept2 O1s.out b2')
 have O2:=hidOwn o2
 have s2:w1.heap.size<w2.heap.size:=own_lt o2
 have B2s:Below w.heap.size w (w2.setCell ⟨w.heap.size+1+1,1,none⟩ (.slice (some ⟨w1.heap.size,0,none⟩) safe.length safe.length)):=B2.setCell (by simp;omega) _
 have sz2:(w2.setCell ⟨w.heap.size+1+1,1,none⟩ (.slice (some ⟨w1.heap.size,0,none⟩) safe.length safe.length)).heap.size=w2.heap.size:=by simp
 have K3:=toDOpS_any a3 c3 ops (w2.setCell ⟨w.heap.size+1+1,1,none⟩ (.slice (some ⟨w1.heap.size,0,none⟩) safe.length safe.length)) hl3 (HS3.out _ B2s)
 rw[sz2] at K3
 clear K2 E0 E1 E2 O1s b2 b2' B1s B1 o2 r0 r1 r2 rf0 p0 p1 p2 sz1 HS3
 obtain⟨p0,p1,p2,_⟩:=three_cells f0
 obtain⟨r0,r1,r2,rf⟩:=three_cells f2
 have rf1:=rf 1
 have E0:Hid ((w2.setCell ⟨w.heap.size+1+1,1,none⟩ (.slice (some ⟨w1.heap.size,0,none⟩) safe.length safe.length)).heap[w.heap.size]? = _):=(Below.heap_setCell _ _ _ _ (by simp;omega)).trans f0
 have E1:Hid ((w2.setCell ⟨w.heap.size+1+1,1,none⟩ (.slice (some ⟨w1.heap.size,0,none⟩) safe.length safe.length)).heap[w.heap.size+1]? = _):=(Below.heap_setCell _ _ _ _ (by simp)).trans f1
 have E2:Hid ((w2.setCell ⟨w.heap.size+1+1,1,none⟩ (.slice (some ⟨w1.heap.size,0,none⟩) safe.length safe.length)).heap[w.heap.size+1+1]? = some (.cells #[(.slice (some ⟨w.heap.size+3,0,none⟩) live.length live.length),(.slice (some ⟨w1.heap.size,0,none⟩) safe.length safe.length),.slice none 0 0] 31 (0,0))):=dk_set (j:=1) f2
 have O12s:Hid ((w2.setCell ⟨w.heap.size+1+1,1,none⟩ (.slice (some ⟨w1.heap.size,0,none⟩) safe.length safe.length)).ownsRow (w.heap.size+3) 84 2 (.slice (some ⟨w.heap.size+3,0,none⟩) live.length live.length) live.length (pcells live)):=ownsRow_setCell_other O12.out (by simp[Value.ownBlock]) _
 have O2s:Hid ((w2.setCell ⟨w.heap.size+1+1,1,none⟩ (.slice (some ⟨w1.heap.size,0,none⟩) safe.length safe.length)).ownsRow w1.heap.size 84 2 (.slice (some ⟨w1.heap.size,0,none⟩) safe.length safe.length) safe.length (pcells safe)):=ownsRow_setCell_other O2.out (by simp[Value.ownBlock];omega) _
 clear f0 f1 f2 rf O12 O2 B2
 go_wp2_with fail
 refine K3.mono ?_
 rintro e w3 ⟨rfl,o3,b3⟩
 have b3':Below (w2.setCell ⟨w.heap.size+1+1,1,none⟩ (.slice (some ⟨w1.heap.size,0,none⟩) safe.length safe.length)).heap.size (w2.setCell ⟨w.heap.size+1+1,1,none⟩ (.slice (some ⟨w1.heap.size,0,none⟩) safe.length safe.length)) w3:=by rw[sz2];exact b3
 have B3:=B2s.trans (b3'.mono B2s.size)
 have f1:=(b3.block (w.heap.size+1) (by omega)).trans E1.out
 have f2:=(b3.block (w.heap.size+1+1) (by omega)).trans E2.out
 have O13:=hidOwn (kept2 O12s.out b3')
 have O23:=hidOwn (kept2 O2s.out b3')
 have O3:=hidOwn o3
 have s3:w2.heap.size<w3.heap.size:=own_lt o3
 clear K3 E0 E1 E2 O12s O2s b3 b3' B2s o3 r0 r1 r2 rf1 p0 p1 p2 sz2
 obtain⟨r0,r1,r2,rf⟩:=three_cells f2
 obtain⟨q0,q1,q2,qf⟩:=three_cells f1
 have rf2:=rf 2
 have qf0:=qf 0
 have qf1:=qf 1
 have qf2:=qf 2
 have k1:(w3.setCell ⟨w.heap.size+1+1,2,none⟩ (.slice (some ⟨w2.heap.size,0,none⟩) ops.length ops.length)).heap[w.heap.size+1]? = _:=(Below.heap_setCell _ _ _ _ (by simp)).trans f1
 have y1:=dk_set (j:=0) (z:=(.slice (some ⟨w.heap.size+3,0,none⟩) live.length live.length)) k1
 have y2:=dk_set (j:=1) (z:=(.slice (some ⟨w1.heap.size,0,none⟩) safe.length safe.length)) y1
 have y3:=dk_set (j:=2) (z:=(.slice (some ⟨w2.heap.size,0,none⟩) ops.length ops.length)) y2
 have HY:Hid (_=_):=y3
 have HR1:Hid (((((w3.setCell ⟨w.heap.size+1+1,2,none⟩ (.slice (some ⟨w2.heap.size,0,none⟩) ops.length ops.length)).setCell ⟨w.heap.size+1,0,none⟩ (.slice (some ⟨w.heap.size+3,0,none⟩) live.length live.length)).setCell ⟨w.heap.size+1,1,none⟩ (.slice (some ⟨w1.heap.size,0,none⟩) safe.length safe.length)).setCell ⟨w.heap.size+1,2,none⟩ (.slice (some ⟨w2.heap.size,0,none⟩) ops.length ops.length)).ownsRow w.heap.size 84 2 (.slice (some ⟨w.heap.size+3,0,none⟩) live.length live.length) live.length (pcells live)) :=
  ownsRow_setCell_other (ownsRow_setCell_other (ownsRow_setCell_other (ownsRow_setCell_other (O13.out.mono (by omega)) (by simp[Value.ownBlock]) _) (by simp[Value.ownBlock]) _) (by simp[Value.ownBlock]) _) (by simp[Value.ownBlock]) _
 have HR2:Hid (((((w3.setCell ⟨w.heap.size+1+1,2,none⟩ (.slice (some ⟨w2.heap.size,0,none⟩) ops.length ops.length)).setCell ⟨w.heap.size+1,0,none⟩ (.slice (some ⟨w.heap.size+3,0,none⟩) live.length live.length)).setCell ⟨w.heap.size+1,1,none⟩ (.slice (some ⟨w1.heap.size,0,none⟩) safe.length safe.length)).setCell ⟨w.heap.size+1,2,none⟩ (.slice (some ⟨w2.heap.size,0,none⟩) ops.length ops.length)).ownsRow w.heap.size 84 2 (.slice (some ⟨w1.heap.size,0,none⟩) safe.length safe.length) safe.length (pcells safe)) :=
  ownsRow_setCell_other (ownsRow_setCell_other (ownsRow_setCell_other (ownsRow_setCell_other (O23.out.mono (by omega)) (by simp[Value.ownBlock];omega) _) (by simp[Value.ownBlock];omega) _) (by simp[Value.ownBlock];omega) _) (by simp[Value.ownBlock];omega) _
 have HR3:Hid (((((w3.setCell ⟨w.heap.size+1+1,2,none⟩ (.slice (some ⟨w2.heap.size,0,none⟩) ops.length ops.length)).setCell ⟨w.heap.size+1,0,none⟩ (.slice (some ⟨w.heap.size+3,0,none⟩) live.length live.length)).setCell ⟨w.heap.size+1,1,none⟩ (.slice (some ⟨w1.heap.size,0,none⟩) safe.length safe.length)).setCell ⟨w.heap.size+1,2,none⟩ (.slice (some ⟨w2.heap.size,0,none⟩) ops.length ops.length)).ownsRow w.heap.size 40 4 (.slice (some ⟨w2.heap.size,0,none⟩) ops.length ops.length) ops.length (dcells ops)) :=
  ownsRow_setCell_other (ownsRow_setCell_other (ownsRow_setCell_other (ownsRow_setCell_other (O3.out.mono (by omega)) (by simp[Value.ownBlock];omega) _) (by simp[Value.ownBlock];omega) _) (by simp[Value.ownBlock];omega) _) (by simp[Value.ownBlock];omega) _
 have HBB:Hid (Below w.heap.size w ((((w3.setCell ⟨w.heap.size+1+1,2,none⟩ (.slice (some ⟨w2.heap.size,0,none⟩) ops.length ops.length)).setCell ⟨w.heap.size+1,0,none⟩ (.slice (some ⟨w.heap.size+3,0,none⟩) live.length live.length)).setCell ⟨w.heap.size+1,1,none⟩ (.slice (some ⟨w1.heap.size,0,none⟩) safe.length safe.length)).setCell ⟨w.heap.size+1,2,none⟩ (.slice (some ⟨w2.heap.size,0,none⟩) ops.length ops.length))) :=
  (((B3.setCell (by simp;omega) _).setCell (by simp) _).setCell (by simp) _).setCell (by simp) _
 clear f1 f2 k1 y1 y2 y3 rf qf
 go_wp2
 exact bodyPost_ret (v:=.agg #[(.slice (some ⟨w.heap.size+3,0,none⟩) live.length live.length),(.slice (some ⟨w1.heap.size,0,none⟩) safe.length safe.length),(.slice (some ⟨w2.heap.size,0,none⟩) ops.length ops.length)]) (results_cell_row rfl _ _ (w.heap.size+1) 31 _ (0,0) _ rfl HY.out Try.underlying31 rfl (by kernel_rfl)) rfl ⟨_,_,_,rfl,s1,s2,HR1.out,HR2.out,HR3.out,HBB.out⟩
set_option maxRecDepth 100000 in
set_option maxHeartbeats 1000000 in
theorem eqDisk_same (live safe:List PairL) (ops:List DOpL) (a1 a2 a3 b1 b2 b3:Option Addr) (c1 c2 c3 d1 d2 d3:Nat) (w:World) (hl1:live.length≤16777216) (hl2:safe.length≤16777216) (hl3:ops.length≤16777216) (h1:IsPairs w a1 live∧IsPairs w b1 live) (h2:IsPairs w a2 safe∧IsPairs w b2 safe) (h3:IsDOps w a3 ops∧IsDOps w b3 ops) :
 Calls Try.prog 16 #[.agg #[.slice a1 live.length c1,.slice a2 safe.length c2,.slice a3 ops.length c3],.agg #[.slice b1 live.length d1,.slice b2 safe.length d2,.slice b3 ops.length d3]] w fun e w'=>e=.returned (.bool true)∧Below w.heap.size w w':=by
 have B0:Below w.heap.size w ((w.alloc (.cells #[.slice a1 live.length c1,.slice a2 safe.length c2,.slice a3 ops.length c3] 31)).alloc (.cells #[.slice b1 live.length d1,.slice b2 safe.length d2,.slice b3 ops.length d3] 31)):=((Below.refl _ _).alloc (Nat.le_refl _) _).alloc (by simp) _
 have K:=eqFileS_same live a1 b1 c1 d1 ((w.alloc (.cells #[.slice a1 live.length c1,.slice a2 safe.length c2,.slice a3 ops.length c3] 31)).alloc (.cells #[.slice b1 live.length d1,.slice b2 safe.length d2,.slice b3 ops.length d3] 31)) hl1 (h1.1.later B0) (h1.2.later B0)
 have HU2:Hid (∀ W,Below w.heap.size w W→IsPairs W a2 safe∧IsPairs W b2 safe):=fun W hW=>⟨h2.1.later hW,h2.2.later hW⟩
 have HU3:Hid (∀ W,Below w.heap.size w W→IsDOps W a3 ops∧IsDOps W b3 ops):=fun W hW=>⟨h3.1.later hW,h3.2.later hW⟩
 have H1:Hid (((w.alloc (.cells #[.slice a1 live.length c1,.slice a2 safe.length c2,.slice a3 ops.length c3] 31)).alloc (.cells #[.slice b1 live.length d1,.slice b2 safe.length d2,.slice b3 ops.length d3] 31)).heap[w.heap.size]? = some (.cells #[.slice a1 live.length c1,.slice a2 safe.length c2,.slice a3 ops.length c3] 31 (0,0))):=by
  rw[Hid,Below.heap_alloc _ _ _ (by simp)];exact heap_alloc_new _ _
 have H2:Hid (((w.alloc (.cells #[.slice a1 live.length c1,.slice a2 safe.length c2,.slice a3 ops.length c3] 31)).alloc (.cells #[.slice b1 live.length d1,.slice b2 safe.length d2,.slice b3 ops.length d3] 31)).heap[w.heap.size+1]? = some (.cells #[.slice b1 live.length d1,.slice b2 safe.length d2,.slice b3 ops.length d3] 31 (0,0))):=by
  have:=heap_alloc_new (w.alloc (.cells #[.slice a1 live.length c1,.slice a2 safe.length c2,.slice a3 ops.length c3] 31)) (.cells #[.slice b1 live.length d1,.slice b2 safe.length d2,.slice b3 ops.length d3] 31)
  rw[Hid];simpa using this
 obtain⟨p0,p1,p2,_⟩:=three_cells H1.out
 obtain⟨q0,q1,q2,_⟩:=three_cells H2.out
 clear h1 h2 h3
 go_enter Try.func16,Try.ntmps16
 go_wp2_with fail
 refine K.mono ?_
 rintro e w1 ⟨rfl,b1'⟩
 have B1:=B0.trans (b1'.mono B0.size)
 have HA1:Hid (w1.heap[w.heap.size]? = some (.cells #[.slice a1 live.length c1,.slice a2 safe.length c2,.slice a3 ops.length c3] 31 (0,0))):=(b1'.block w.heap.size (by simp;omega)).trans H1.out
 have HA2:Hid (w1.heap[w.heap.size+1]? = some (.cells #[.slice b1 live.length d1,.slice b2 safe.length d2,.slice b3 ops.length d3] 31 (0,0))):=(b1'.block (w.heap.size+1) (by simp)).trans H2.out
 clear p0 p1 p2 q0 q1 q2
 obtain⟨p0,p1,p2,_⟩:=three_cells HA1.out
 obtain⟨q0,q1,q2,_⟩:=three_cells HA2.out
 have K2:=eqFileS_same safe a2 b2 c2 d2 w1 hl2 (HU2.out w1 B1).1 (HU2.out w1 B1).2
 clear K b1' H1 H2 B0 HU2
 go_wp2_with fail
 refine K2.mono ?_
 rintro e w2 ⟨rfl,b2'⟩
 have B2:=B1.trans (b2'.mono B1.size)
 have HB1:Hid (w2.heap[w.heap.size]? = some (.cells #[.slice a1 live.length c1,.slice a2 safe.length c2,.slice a3 ops.length c3] 31 (0,0))):=(b2'.block w.heap.size (lt_of_block HA1.out)).trans HA1.out
 have HB2:Hid (w2.heap[w.heap.size+1]? = some (.cells #[.slice b1 live.length d1,.slice b2 safe.length d2,.slice b3 ops.length d3] 31 (0,0))):=(b2'.block (w.heap.size+1) (lt_of_block HA2.out)).trans HA2.out
 clear p0 p1 p2 q0 q1 q2
 obtain⟨p0,p1,p2,_⟩:=three_cells HB1.out
 obtain⟨q0,q1,q2,_⟩:=three_cells HB2.out
 have K3:=eqDOpS_same ops a3 b3 c3 d3 w2 hl3 (HU3.out w2 B2).1 (HU3.out w2 B2).2
 clear K2 b2' HA1 HA2 B1 HU3
 go_wp2_with fail
 refine K3.mono ?_
 rintro e w3 ⟨rfl,b3'⟩
 have B3:=B2.trans (b3'.mono B2.size)
 clear p0 p1 p2 q0 q1 q2
 go_wp2
 go_ret
 exact⟨rfl,B3⟩
set_option maxRecDepth 100000 in
set_option maxHeartbeats 2000000 in
theorem markDisk_any (live safe:List PairL) (ops:List DOpL) (x1 x2 x3:Option Addr) (m1 k1 m2 k2 m3 k3 b1 k:Nat) (w:World) (hl1:live.length≤1048576) (hl2:safe.length≤1048576) (hl3:ops.length≤1048576) (hk:0<k) (hk2:k≤1000000) (hap:∀ q,((Value.slice x1 m1 k1).ownBlock=some q→(Value.slice x2 m2 k2).ownBlock≠some q∧(Value.slice x3 m3 k3).ownBlock≠some q)∧((Value.slice x2 m2 k2).ownBlock=some q→(Value.slice x3 m3 k3).ownBlock≠some q)) (h1:w.ownsRow b1 84 2 (.slice x1 m1 k1) live.length (pcells live)) (h2:w.ownsRow b1 84 2 (.slice x2 m2 k2) safe.length (pcells safe)) (h3:w.ownsRow b1 40 4 (.slice x3 m3 k3) ops.length (dcells ops)) :
 Calls Try.prog 21 #[.agg #[.slice x1 m1 k1,.slice x2 m2 k2,.slice x3 m3 k3],.int .i64 k] w fun e w'=>e=.returned (.int .i64 ((k:Int)+2*(live.length:Int)+2*(safe.length:Int)+4*(ops.length:Int)))∧w'.ownsRow b1 84 2 (.slice x1 m1 k1) live.length (pcells (marksP k live.length))∧w'.ownsRow b1 84 2 (.slice x2 m2 k2) safe.length (pcells (marksP (k+2*live.length) safe.length))∧w'.ownsRow b1 40 4 (.slice x3 m3 k3) ops.length (dcells (marksD (k+2*live.length+2*safe.length) ops.length))∧∃ wm wn,w.grownBy wm (Value.slice x1 m1 k1).ownBlock∧wm.grownBy wn (Value.slice x2 m2 k2).ownBlock∧wn.grownBy w' (Value.slice x3 m3 k3).ownBlock:=by
 have B0:Below w.heap.size w (w.alloc (.cells #[.slice x1 m1 k1,.slice x2 m2 k2,.slice x3 m3 k3] 31)):=(Below.refl _ _).alloc (Nat.le_refl _) _
 have K:=markFileS_any live x1 m1 k1 b1 k (w.alloc (.cells #[.slice x1 m1 k1,.slice x2 m2 k2,.slice x3 m3 k3] 31)) (by omega) hk (by omega) (kept2 h1 B0)
 have G0:Hid (w.grownBy (w.alloc (.cells #[.slice x1 m1 k1,.slice x2 m2 k2,.slice x3 m3 k3] 31)) (Value.slice x1 m1 k1).ownBlock):=grown_of_below B0 _
 have H0:Hid ((w.alloc (.cells #[.slice x1 m1 k1,.slice x2 m2 k2,.slice x3 m3 k3] 31)).heap[w.heap.size]? = some (.cells #[.slice x1 m1 k1,.slice x2 m2 k2,.slice x3 m3 k3] 31 (0,0))):=heap_alloc_new w (.cells #[.slice x1 m1 k1,.slice x2 m2 k2,.slice x3 m3 k3] 31)
 obtain⟨p0,p1,p2,_⟩:=three_cells H0.out
 have HO2:Hid ((w.alloc (.cells #[.slice x1 m1 k1,.slice x2 m2 k2,.slice x3 m3 k3] 31)).ownsRow b1 84 2 (.slice x2 m2 k2) safe.length (pcells safe)):=kept2 h2 B0
 have HO3:Hid ((w.alloc (.cells #[.slice x1 m1 k1,.slice x2 m2 k2,.slice x3 m3 k3] 31)).ownsRow b1 40 4 (.slice x3 m3 k3) ops.length (dcells ops)):=kept4 h3 B0
 have HLT:Hid (∀ q,((Value.slice x1 m1 k1).ownBlock=some q→q<w.heap.size)∧((Value.slice x2 m2 k2).ownBlock=some q→q<w.heap.size)):=fun q=>⟨fun hq=>(h1.lt q hq).2,fun hq=>(h2.lt q hq).2⟩
 clear h1 h2 h3
 go_enter Try.func21,Try.ntmps21
 go_wp2_with fail
 refine K.mono ?_
 rintro e w1 ⟨rfl,o1,g1⟩
 have O1:=hidOwn o1
 have G1:Hid (w.grownBy w1 (Value.slice x1 m1 k1).ownBlock):=G0.out.trans g1
 have o2:=(HO2.out.kept g1 (by
  cases hq:(Value.slice x2 m2 k2).ownBlock with
  | none=>exact .inl rfl
  | some q=>exact .inr (fun e=>((hap q).1 e.symm).1 hq)))
 have o3:=(HO3.out.kept g1 (by
  cases hq:(Value.slice x3 m3 k3).ownBlock with
  | none=>exact .inl rfl
  | some q=>exact .inr (fun e=>((hap q).1 e.symm).2 hq)))
 have H1:Hid (w1.heap[w.heap.size]? = some (.cells #[.slice x1 m1 k1,.slice x2 m2 k2,.slice x3 m3 k3] 31 (0,0))):=(g1.block w.heap.size (by simp) (fun e=>by have:=(HLT.out _).1 e.symm;omega)).trans H0.out
 have O3a:Hid (w1.ownsRow b1 40 4 (.slice x3 m3 k3) ops.length (dcells ops)):=o3
 clear K o1 g1 G0 B0 p0 p1 p2 H0 HO2 HO3 o3
 obtain⟨p0,p1,p2,_⟩:=three_cells H1.out
 have K2:=markFileS_any safe x2 m2 k2 b1 (k+2*live.length) w1 (by omega) (by omega) (by omega) o2
 rw[show ((k+2*live.length:Nat):Int)=(k:Int)+2*(live.length:Int) by omega] at K2
 clear o2
 go_wp2_with fail
 refine K2.mono ?_
 rintro e w2 ⟨rfl,o2,g2⟩
 have O2:=hidOwn o2
 have O1':=hidOwn (O1.out.kept g2 (by
  cases hq:(Value.slice x1 m1 k1).ownBlock with
  | none=>exact .inl rfl
  | some q=>exact .inr (fun e=>((hap q).1 hq).1 e.symm)))
 have o3:=(O3a.out.kept g2 (by
  cases hq:(Value.slice x3 m3 k3).ownBlock with
  | none=>exact .inl rfl
  | some q=>exact .inr (fun e=>(hap q).2 e.symm hq)))
 have G2:Hid (w1.grownBy w2 (Value.slice x2 m2 k2).ownBlock):=g2
 have H2:Hid (w2.heap[w.heap.size]? = some (.cells #[.slice x1 m1 k1,.slice x2 m2 k2,.slice x3 m3 k3] 31 (0,0))):=(g2.block w.heap.size (lt_of_block H1.out) (fun e=>by have:=(HLT.out _).2 e.symm;omega)).trans H1.out
 clear K2 o2 g2 p0 p1 p2 O1 H1 O3a
 obtain⟨p0,p1,p2,_⟩:=three_cells H2.out
 have K3:=markDOpS_any ops x3 m3 k3 b1 (k+2*live.length+2*safe.length) w2 (by omega) (by omega) (by omega) o3
 rw[show ((k+2*live.length+2*safe.length:Nat):Int)=(k:Int)+2*(live.length:Int)+2*(safe.length:Int) by omega] at K3
 clear o3
 go_wp2_with fail
 refine K3.mono ?_
 rintro e w3 ⟨rfl,o3,g3⟩
 have O3:=hidOwn o3
 have O1b:=hidOwn (O1'.out.kept g3 (by
  cases hq:(Value.slice x1 m1 k1).ownBlock with
  | none=>exact .inl rfl
  | some q=>exact .inr (fun e=>((hap q).1 hq).2 e.symm)))
 have O2b:=hidOwn (O2.out.kept g3 (by
  cases hq:(Value.slice x2 m2 k2).ownBlock with
  | none=>exact .inl rfl
  | some q=>exact .inr (fun e=>(hap q).2 hq e.symm)))
 have G3:Hid (w2.grownBy w3 (Value.slice x3 m3 k3).ownBlock):=g3
 clear K3 o3 g3 p0 p1 p2 O1' O2 H2
 go_wp2
 go_ret
 exact⟨rfl,O1b.out,O2b.out,O3.out,w1,w2,G1.out,G2.out,G3.out⟩
set_option maxRecDepth 100000 in
set_option maxHeartbeats 2000000 in
theorem heldDisk_any (n1 n2 n3:Nat) (x1 x2 x3:Option Addr) (m1 k1 m2 k2 m3 k3 b1 k:Nat) (w:World) (hl1:n1≤1048576) (hl2:n2≤1048576) (hl3:n3≤1048576) (hk:0<k) (hk2:k≤1000000) (h1:w.ownsRow b1 84 2 (.slice x1 m1 k1) n1 (pcells (marksP k n1))) (h2:w.ownsRow b1 84 2 (.slice x2 m2 k2) n2 (pcells (marksP (k+2*n1) n2))) (h3:w.ownsRow b1 40 4 (.slice x3 m3 k3) n3 (dcells (marksD (k+2*n1+2*n2) n3))) :
 Calls Try.prog 22 #[.agg #[.slice x1 m1 k1,.slice x2 m2 k2,.slice x3 m3 k3],.int .i64 k] w fun e w'=>e=.returned (.int .i64 ((k:Int)+2*(n1:Int)+2*(n2:Int)+4*(n3:Int)))∧Below w.heap.size w w':=by
 have B0:Below w.heap.size w (w.alloc (.cells #[.slice x1 m1 k1,.slice x2 m2 k2,.slice x3 m3 k3] 31)):=(Below.refl _ _).alloc (Nat.le_refl _) _
 have K:=heldFileS_any n1 x1 m1 k1 b1 k (w.alloc (.cells #[.slice x1 m1 k1,.slice x2 m2 k2,.slice x3 m3 k3] 31)) (by omega) hk (by omega) (kept2 h1 B0)
 have H0:Hid ((w.alloc (.cells #[.slice x1 m1 k1,.slice x2 m2 k2,.slice x3 m3 k3] 31)).heap[w.heap.size]? = some (.cells #[.slice x1 m1 k1,.slice x2 m2 k2,.slice x3 m3 k3] 31 (0,0))):=heap_alloc_new w (.cells #[.slice x1 m1 k1,.slice x2 m2 k2,.slice x3 m3 k3] 31)
 obtain⟨p0,p1,p2,_⟩:=three_cells H0.out
 have HK2:Hid (∀ W,Below w.heap.size w W→_):=fun W hW=>heldFileS_any n2 x2 m2 k2 b1 (k+2*n1) W (by omega) (by omega) (by omega) (kept2 h2 hW)
 have HK3:Hid (∀ W,Below w.heap.size w W→_):=fun W hW=>heldDOpS_any n3 x3 m3 k3 b1 (k+2*n1+2*n2) W (by omega) (by omega) (by omega) (kept4 h3 hW)
 clear h1 h2 h3
 have h10:¬ (k:Int)+2*(n1:Int)<0:=by omega
 have h20:¬ (k:Int)+2*(n1:Int)+2*(n2:Int)<0:=by omega
 have h30:¬ (k:Int)+2*(n1:Int)+2*(n2:Int)+4*(n3:Int)<0:=by omega
 go_enter Try.func22,Try.ntmps22
 go_wp2_with fail
 refine K.mono ?_
 rintro e w1 ⟨rfl,g1⟩
 have b1':Below (w.alloc (.cells #[.slice x1 m1 k1,.slice x2 m2 k2,.slice x3 m3 k3] 31)).heap.size (w.alloc (.cells #[.slice x1 m1 k1,.slice x2 m2 k2,.slice x3 m3 k3] 31)) w1:=⟨g1.os,g1.tape,g1.output,g1.size,fun q hq=>g1.block q hq (by simp)⟩
 have B1:=B0.trans (b1'.mono B0.size)
 have H1:Hid (w1.heap[w.heap.size]? = some (.cells #[.slice x1 m1 k1,.slice x2 m2 k2,.slice x3 m3 k3] 31 (0,0))):=(b1'.block w.heap.size (by simp)).trans H0.out
 have K2:=HK2.out w1 B1
 rw[show ((k+2*n1:Nat):Int)=(k:Int)+2*(n1:Int) by omega] at K2
 clear K g1 b1' p0 p1 p2 H0 HK2
 obtain⟨p0,p1,p2,_⟩:=three_cells H1.out
 go_wp2_with fail
 refine K2.mono ?_
 rintro e w2 ⟨rfl,g2⟩
 have b2':Below w1.heap.size w1 w2:=⟨g2.os,g2.tape,g2.output,g2.size,fun q hq=>g2.block q hq (by simp)⟩
 have B2:=B1.trans (b2'.mono B1.size)
 have H2:Hid (w2.heap[w.heap.size]? = some (.cells #[.slice x1 m1 k1,.slice x2 m2 k2,.slice x3 m3 k3] 31 (0,0))):=(b2'.block w.heap.size (lt_of_block H1.out)).trans H1.out
 have K3:=HK3.out w2 B2
 rw[show ((k+2*n1+2*n2:Nat):Int)=(k:Int)+2*(n1:Int)+2*(n2:Int) by omega] at K3
 clear K2 g2 b2' p0 p1 p2 H1 HK3
 obtain⟨p0,p1,p2,_⟩:=three_cells H2.out
 go_wp2_with fail
 refine K3.mono ?_
 rintro e w3 ⟨rfl,g3⟩
 have b3':Below w2.heap.size w2 w3:=⟨g3.os,g3.tape,g3.output,g3.size,fun q hq=>g3.block q hq (by simp)⟩
 have B3:=B2.trans (b3'.mono B2.size)
 clear K3 g3 b3' p0 p1 p2 H2
 go_wp2
 go_ret
 exact⟨rfl,B3⟩
end Go.Proofs.Ytlllkdioojjaeaa
