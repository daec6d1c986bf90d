/-
 Contracts of the laws' own helpers on rows of File: copies, sizes, equal rows, marks laid and held.
-/
import Derived.Test.YtlllkdioojjaeaaStrsAll
import Derived.Test.YtlllkdioojjaeaaMathPair
import Derived.OneCell
import Derived.Deep.RegionHeld3
namespace Go.Proofs.Ytlllkdioojjaeaa
open Go.RowKit
set_option linter.unusedVariables false
theorem infoFile:(Try.prog.info? 84).map (fun i=>(i.zero,i.size,i.bytes))=some (some (.agg #[.string ⟨#[]⟩,.string ⟨#[]⟩]),2,32):=by kernel_rfl
set_option maxRecDepth 100000 in
theorem toFile_any (k v:List UInt8) (w:World) :
 Calls Try.prog 78 #[.agg #[.string ⟨k.toArray⟩,.string ⟨v.toArray⟩]] w fun e w'=>e=.returned (.agg #[.string ⟨k.toArray⟩,.string ⟨v.toArray⟩])∧Below w.heap.size w w':=by
 go_enter Try.func78,Try.ntmps78
 go_wp2
 have hb:(((w.alloc (.cells #[.string ⟨k.toArray⟩,.string ⟨v.toArray⟩] 105)).alloc (.cells #[.string ⟨k.toArray⟩,.string ⟨v.toArray⟩] 84)).alloc (.cells #[.string ⟨k.toArray⟩,.string ⟨v.toArray⟩] 84)).heap[w.heap.size+1]? = some (.cells #[.string ⟨k.toArray⟩,.string ⟨v.toArray⟩] 84 (0,0)):=by
  rw[Below.heap_alloc _ _ _ (by simp)]
  have:=heap_alloc_new (w.alloc (.cells #[.string ⟨k.toArray⟩,.string ⟨v.toArray⟩] 105)) (.cells #[.string ⟨k.toArray⟩,.string ⟨v.toArray⟩] 84)
  simpa using this
 exact bodyPost_ret (v:=.agg #[.string ⟨k.toArray⟩,.string ⟨v.toArray⟩]) (results_cell_row rfl _ _ (w.heap.size+1) 84 _ (0,0) _ rfl hb Try.underlying84 rfl (by kernel_rfl)) rfl ⟨rfl,(((Below.refl _ _).alloc (Nat.le_refl _) _).alloc (by simp) _).alloc (by simp;omega) _⟩
set_option maxRecDepth 100000 in
theorem szFile_any (k v:List UInt8) (q:Nat) (w:World) (hq:q≤1048576) (hk:k.length≤9223372036854775807) (hv:v.length≤9223372036854775807) :
 Calls Try.prog 74 #[.agg #[.string ⟨k.toArray⟩,.string ⟨v.toArray⟩],.int .i64 (q:Int)] w fun e w'=>((q<k.length+v.length∧e=.returned (.int .i64 (-1)))∨(k.length+v.length≤q∧e=.returned (.int .i64 ((q - (k.length+v.length):Nat):Int))))∧Below w.heap.size w w':=by
 have hb:Below w.heap.size w (w.alloc (.cells #[.string ⟨k.toArray⟩,.string ⟨v.toArray⟩] 105)):=(Below.refl _ _).alloc (Nat.le_refl _) _
 by_cases h1:k.length≤q
 · have h1':(k.length:Int)≤(q:Int):=by omega
   by_cases h2:k.length+v.length≤q
   · have h2':(v.length:Int)≤(q:Int) - (k.length:Int):=by omega
     have HE:Hid ((q:Int) - (k.length:Int) - (v.length:Int)=((q - (k.length+v.length):Nat):Int)):=by rw[Hid];omega
     go_enter Try.func74,Try.ntmps74
     go_wp2
     go_ret
     exact⟨.inr ⟨h2,by rw[←HE.out];rfl⟩,hb⟩
   · have h2':¬ (v.length:Int)≤(q:Int) - (k.length:Int):=by omega
     go_enter Try.func74,Try.ntmps74
     go_wp2
     go_ret
     first | exact⟨.inl ⟨by omega,rfl⟩,hb⟩ | exact⟨⟨by omega,rfl⟩,hb⟩
 · have h1':¬ (k.length:Int)≤(q:Int):=by omega
   go_enter Try.func74,Try.ntmps74
   go_wp2
   go_ret
   first | exact⟨.inl ⟨by omega,rfl⟩,hb⟩ | exact⟨⟨by omega,rfl⟩,hb⟩
set_option maxRecDepth 100000 in
set_option maxHeartbeats 400000 in
theorem szFileS_any (a : Option Addr) (cap : Nat) (ps : List PairL) (w : World) (hl : ps.length ≤ 9223372036854775807) (hm : ∀ p ∈ ps, p.1.length ≤ 9223372036854775807 ∧ p.2.length ≤ 9223372036854775807) (hs : IsPairs w a ps) :
 Calls Try.prog 39 #[.slice a ps.length cap,.int .i64 1048576] w fun e w'=>(e=.returned (.int .i64 (-1))∨(ps.length+sizeP ps≤1048576∧∃ n:Nat,e=.returned (.int .i64 (n:Int))))∧Below w.heap.size w w':=by
 by_cases hb:ps.length≤1048576
 · rcases hs with rfl | ⟨b, off, rfl, hc⟩
   · go_enter Try.func39,Try.ntmps39
     go_wp2
     refine wp_loop_rounds 1 ?_
     rw[rounds_succ]
     go_wp2
     go_ret
     exact⟨.inr ⟨by simp[sizeP],1048576,rfl⟩,Below.refl _ _⟩
   · have hm' : ∀ j (h : j < ps.length), ps[j].1.length ≤ 9223372036854775807 ∧ ps[j].2.length ≤ 9223372036854775807 := fun j h => hm _ (List.getElem_mem _)
     clear hm
     go_enter Try.func39,Try.ntmps39
     go_wp2
     go_loopw [1,5] (fun v i wr=>∃ j q:Nat,j≤ps.length∧i=.int .i64 (j:Int)∧v=.int .i64 (q:Int)∧q+ps.length+sizeP (ps.take j)=1048576∧Below w.heap.size w wr) (fun _ i _=>ps.length - (intOf i).toNat)
     case atStart=>exact⟨0,1048576 - ps.length,Nat.zero_le _,rfl,by simp;omega,by simp[sizeP];omega,Below.refl _ _⟩
     case round =>
      obtain⟨j,q,hj,rfl,rfl,hq,hbel⟩:=hrel
      have hsz:=hbel.size
      by_cases hlt:j<ps.length
      · have c1:=(hbel.cell (p:=⟨b,off+j*2,none⟩) (World.block_lt_of_cell? w _ (hc j hlt).1)).trans (hc j hlt).1
        have c2:=(hbel.cell (p:=⟨b,off+j*2+1,none⟩) (World.block_lt_of_cell? w _ (hc j hlt).2)).trans (hc j hlt).2
        have m1:=hm' j hlt
        have HS:Hid (sizeP (ps.take (j+1))=sizeP (ps.take j)+(ps[j].1.length+ps[j].2.length)):=sizeP_snoc ps j hlt
        have hj0:(0:Int)≤(j:Int):=by omega
        have hj1:(j:Int)<(ps.length:Int):=by omega
        have hqs:q≤1048576:=by omega
        have HQ:Hid (q+ps.length+sizeP (ps.take j)=1048576):=hq
        obtain⟨x,hx⟩:∃ x,x=ps[j].1:=⟨_,rfl⟩
        obtain⟨y,hy⟩:∃ y,y=ps[j].2:=⟨_,rfl⟩
        rw[←hx] at c1 m1 HS
        rw[←hy] at c2 m1 HS
        have K:=fun W=>szFile_any x y q W hqs m1.1 m1.2
        clear hc hm' hx hy hq m1
        go_wp2_with fail
        refine (K _).mono ?_
        rintro e w1 ⟨he,b1⟩
        have B1:=hbel.trans (b1.mono hsz)
        clear K b1 hbel
        rcases he with ⟨hn,rfl⟩ | ⟨hn,rfl⟩
        · go_wp2
          go_ret
          exact⟨.inl rfl,B1⟩
        · go_wp2
          go_roundw
          case rel=>exact⟨j+1,_,by omega,by go_num,rfl,by have:=HS.out;have:=HQ.out;omega,B1⟩
          case measure=>simp[intOf];omega
      · have hjl:j=ps.length:=by omega
        subst hjl
        have HQ:Hid (ps.length+sizeP ps≤1048576):=by rw[Hid];rw[List.take_length] at hq;omega
        clear hq
        go_wp2
        go_ret
        exact⟨.inr ⟨HQ.out,q,rfl⟩,hbel⟩
 · have hb':¬ (ps.length:Int)≤1048576:=by omega
   clear hs hm
   go_enter Try.func39,Try.ntmps39
   go_wp2
   go_ret
   exact⟨.inl rfl,Below.refl _ _⟩
set_option maxRecDepth 100000 in
set_option maxHeartbeats 400000 in
theorem toFileS_any (a:Option Addr) (cap:Nat) (ps:List PairL) (w:World) (hl:ps.length≤1048576) (hs:IsPairs w a ps) :
 Calls Try.prog 45 #[.slice a ps.length cap] w fun e w'=>e=.returned (.slice (some ⟨w.heap.size,0,none⟩) ps.length ps.length)∧w'.ownsRow w.heap.size 84 2 (.slice (some ⟨w.heap.size,0,none⟩) ps.length ps.length) ps.length (pcells ps)∧Below w.heap.size w w':=by
 obtain⟨i0,hi0,hz0,hz1,hz2⟩:=info_parts infoFile
 go_enter Try.func45,Try.ntmps45
 go_wp2_with (at_make;refine wpList_make_full _ rfl _ _ 28 rfl w.heap.size 84 i0 (.agg #[.string ⟨#[]⟩,.string ⟨#[]⟩]) 2 Try.underlying28 hi0 hz0 hz1 _ _ _ _ ps.length rfl rfl (by omega) (by omega) (by rw[hz2];omega) (by unfold maxLen;omega) (Nat.le_refl _) ?_;intro w0 hown0 hgrow0)
 rw[made_pairs] at hown0
 have hb0:=(Below.refl w.heap.size w).grown hgrow0 (Nat.le_refl _) (by simp)
 have hs0:=hgrow0.size
 rcases hs with rfl | ⟨b,off,rfl,hc⟩
 · refine wp_loop_rounds 1 ?_
   rw[rounds_succ]
   go_wp2
   go_ret
   exact⟨rfl,hown0,hb0⟩
 · clear hgrow0
   go_loopw [4] (fun i wr=>∃ j:Nat,j≤ps.length∧i=.int .i64 (j:Int)∧wr.ownsRow w.heap.size 84 2 (.slice (some ⟨w.heap.size,0,none⟩) ps.length ps.length) ps.length (laidP ps j)∧Below w.heap.size w wr) (fun i _=>ps.length - (intOf i).toNat)
   case atStart=>exact⟨0,Nat.zero_le _,rfl,by rw[laidP_zero];exact hown0,hb0⟩
   case round =>
    obtain⟨j,hj,rfl,hown,hbel⟩:=hrel
    have hsz:=hbel.size
    by_cases hlt:j<ps.length
    · have hbl:=World.block_lt_of_cell? w _ (hc j hlt).1
      have c1:=(hbel.cell (p:=⟨b,off+j*2,none⟩) hbl).trans (hc j hlt).1
      have c2:=(hbel.cell (p:=⟨b,off+j*2+1,none⟩) hbl).trans (hc j hlt).2
      simp only at hbl
      have hlt2:=own_lt hown
      have HST:Hid (∀ W,Below wr.heap.size wr W→(W.setCell ⟨w.heap.size,j*2,none⟩ (.string ⟨ps[j].1.toArray⟩)).ownsRow w.heap.size 84 2 (.slice (some ⟨w.heap.size,0,none⟩) ps.length ps.length) ps.length ((laidP ps j).set (j*2) (.string ⟨ps[j].1.toArray⟩))):=fun W hW=>((kept2 hown hW).stored (j*2) _).1
      have HL2:Hid (((laidP ps j).set (j*2) (.string ⟨ps[j].1.toArray⟩)).set (j*2+1) (.string ⟨ps[j].2.toArray⟩)=laidP ps (j+1)):=laidP_step ps j hlt
      have hj0:(0:Int)≤(j:Int):=by omega
      have hj1:(j:Int)<(ps.length:Int):=by omega
      have HOW:=hidOwn hown
      have HLEN:Hid ((laidP ps j).length=ps.length*2):=laidP_length ps j (by omega)
      obtain⟨x,hx⟩:∃ x,x=ps[j].1:=⟨_,rfl⟩
      obtain⟨y,hy⟩:∃ y,y=ps[j].2:=⟨_,rfl⟩
      rw[←hx] at c1 HST HL2
      rw[←hy] at c2 HL2
      have K:=toFile_any x y wr
      clear hc hx hy hown hown0 hb0
      go_wp2_with fail
      refine K.mono ?_
      rintro e w1 ⟨rfl,b1⟩
      have hO1:=kept2 HOW.out b1
      obtain⟨o1,ho1⟩:∃ o,w1.cell? ⟨w.heap.size,j*2,none⟩=some o:=by rw[hO1.cellAt (j*2) (by omega)];exact⟨_,List.getElem?_eq_getElem (by rw[HLEN.out];omega)⟩
      obtain⟨o2,ho2⟩:∃ o,w1.cell? ⟨w.heap.size,j*2+1,none⟩=some o:=by rw[hO1.cellAt (j*2+1) (by omega)];exact⟨_,List.getElem?_eq_getElem (by rw[HLEN.out];omega)⟩
      have hf1:=hO1.frozenAt (j*2)
      have hf2:=hO1.frozenAt (j*2+1)
      have hst:=((hO1.stored (j*2) (.string ⟨x.toArray⟩)).1.stored (j*2+1) (.string ⟨y.toArray⟩)).1
      rw[HL2.out] at hst
      have HS2:=hidOwn hst
      have hb2:=((hbel.trans (b1.mono hsz)).setCell (p:=⟨w.heap.size,j*2,none⟩) (Nat.le_refl _) (.string ⟨x.toArray⟩)).setCell (p:=⟨w.heap.size,j*2+1,none⟩) (Nat.le_refl _) (.string ⟨y.toArray⟩)
      clear hO1 b1 hst HOW HST HL2 K
      go_wp2
      go_roundw
      case rel=>exact⟨j+1,by omega,by go_num,HS2.out,hb2⟩
      case measure=>simp[intOf];omega
    · have hjl:j=ps.length:=by omega
      subst hjl
      rw[laidP_all] at hown
      clear hown0 hb0
      go_wp2
      go_ret
      exact⟨rfl,hown,hbel⟩
set_option maxRecDepth 100000 in
set_option maxHeartbeats 400000 in
theorem eqFile_same (k v:List UInt8) (w:World) :
 Calls Try.prog 82 #[.agg #[.string ⟨k.toArray⟩,.string ⟨v.toArray⟩],.agg #[.string ⟨k.toArray⟩,.string ⟨v.toArray⟩]] w fun e w'=>e=.returned (.bool true)∧Below w.heap.size w w':=by
 go_enter Try.func82,Try.ntmps82
 go_wp2
 go_ret
 exact⟨rfl,((Below.refl _ _).alloc (Nat.le_refl _) _).alloc (by simp) _⟩
set_option maxRecDepth 100000 in
set_option maxHeartbeats 400000 in
theorem eqFileS_same (ps : List PairL) (a c : Option Addr) (n m : Nat) (w : World) (hl : ps.length ≤ 16777216) (hu : IsPairs w a ps) (hv : IsPairs w c ps) :
 Calls Try.prog 53 #[.slice a ps.length n,.slice c ps.length m] w fun e w'=>e=.returned (.bool true)∧Below w.heap.size w w':=by
 rcases hu with rfl | ⟨b,off,rfl,h1⟩
 · go_enter Try.func53,Try.ntmps53
   go_wp2
   refine wp_loop_rounds 1 ?_
   rw[rounds_succ]
   go_wp2
   go_ret
   exact⟨rfl,Below.refl _ _⟩
 · rcases hv with rfl | ⟨d,of2,rfl,h2⟩
   · go_enter Try.func53,Try.ntmps53
     go_wp2
     refine wp_loop_rounds 1 ?_
     rw[rounds_succ]
     go_wp2
     go_ret
     exact⟨rfl,Below.refl _ _⟩
   · go_enter Try.func53,Try.ntmps53
     go_wp2
     go_loopw [5] (fun i wr=>∃ j:Nat,j≤ps.length∧i=.int .i64 (j:Int)∧Below w.heap.size w wr) (fun i _=>ps.length - (intOf i).toNat)
     case atStart=>exact⟨0,Nat.zero_le _,rfl,Below.refl _ _⟩
     case round =>
      obtain⟨j,hj,rfl,hbel⟩:=hrel
      have hsz:=hbel.size
      by_cases hlt:j<ps.length
      · have c1:=(hbel.cell (p:=⟨b,off+j*2,none⟩) (World.block_lt_of_cell? w _ (h1 j hlt).1)).trans (h1 j hlt).1
        have c2:=(hbel.cell (p:=⟨b,off+j*2+1,none⟩) (World.block_lt_of_cell? w _ (h1 j hlt).2)).trans (h1 j hlt).2
        have d1:=(hbel.cell (p:=⟨d,of2+j*2,none⟩) (World.block_lt_of_cell? w _ (h2 j hlt).1)).trans (h2 j hlt).1
        have d2:=(hbel.cell (p:=⟨d,of2+j*2+1,none⟩) (World.block_lt_of_cell? w _ (h2 j hlt).2)).trans (h2 j hlt).2
        have hj0:(0:Int)≤(j:Int):=by omega
        have hj1:(j:Int)<(ps.length:Int):=by omega
        obtain⟨x,hx⟩:∃ x,x=ps[j].1:=⟨_,rfl⟩
        obtain⟨y,hy⟩:∃ y,y=ps[j].2:=⟨_,rfl⟩
        rw[←hx] at c1 d1
        rw[←hy] at c2 d2
        have K:=fun W=>eqFile_same x y W
        clear h1 h2 hx hy
        go_wp2_with fail
        go_region_held3 (fun w'=>w'.cell? ⟨b,off+j*2,none⟩=some (.string ⟨x.toArray⟩)∧w'.cell? ⟨b,off+j*2+1,none⟩=some (.string ⟨y.toArray⟩)∧w'.cell? ⟨d,of2+j*2,none⟩=some (.string ⟨x.toArray⟩)∧w'.cell? ⟨d,of2+j*2+1,none⟩=some (.string ⟨y.toArray⟩))
         (first | (exact⟨by assumption,by assumption,by assumption,by assumption⟩) | go_keep)
         ((go_at_call 82
           refine (K _).mono ?_
           rintro e w1 ⟨rfl,b1'⟩
           have b1:Below wr.heap.size wr w1:=⟨b1'.os,b1'.tape,b1'.output,b1'.size,b1'.block⟩
           have x1:=(b1.cell (p:=⟨b,off+j*2,none⟩) (World.block_lt_of_cell? wr _ c1)).trans c1
           have x2:=(b1.cell (p:=⟨b,off+j*2+1,none⟩) (World.block_lt_of_cell? wr _ c2)).trans c2
           have y1:=(b1.cell (p:=⟨d,of2+j*2,none⟩) (World.block_lt_of_cell? wr _ d1)).trans d1
           have y2:=(b1.cell (p:=⟨d,of2+j*2+1,none⟩) (World.block_lt_of_cell? wr _ d2)).trans d2
           have B1:=hbel.trans (b1.mono hsz)))
        all_goals
         clear K
         go_wp2
         go_roundw
         case rel=>exact⟨j+1,by omega,by go_num,B1⟩
         case measure=>simp[intOf];omega
      · go_wp2
        go_ret
        exact⟨rfl,hbel⟩
end Go.Proofs.Ytlllkdioojjaeaa
