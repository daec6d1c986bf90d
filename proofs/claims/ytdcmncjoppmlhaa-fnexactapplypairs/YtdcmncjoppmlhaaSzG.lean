/-
 Contracts: the laws' sizes of pairs, ops and a batch, with whatever is left (written by mkszg.py).
-/
import Derived.Test.YtdcmncjoppmlhaaPairs
import Derived.Test.YtdcmncjoppmlhaaOpS
import Derived.Test.YtdcmncjoppmlhaaBatchS
import Derived.Test.YtdcmncjoppmlhaaBatchM
namespace Go.Proofs.Ytdcmncjoppmlhaa
open Go.RowKit
set_option linter.unusedVariables false
set_option maxRecDepth 100000 in
set_option maxHeartbeats 400000 in
theorem szPairS_gen (L : Nat) (hL : L ≤ 1048576) (a : Option Addr) (cap : Nat) (ps : List PairL) (w : World) (hl : ps.length ≤ 9223372036854775807) (hm : ∀ p ∈ ps, p.1.length ≤ 9223372036854775807 ∧ p.2.length ≤ 9223372036854775807) (hs : IsPairs w a ps) :
 Calls Try.prog 5 #[.slice a ps.length cap,.int .i64 (L:Int)] w fun e w'=>(e=.returned (.int .i64 (-1))∨(ps.length+sizeP ps≤L∧∃ n:Nat,n≤L∧e=.returned (.int .i64 (n:Int))))∧Below w.heap.size w w':=by
 by_cases hb:ps.length≤L
 · rcases hs with rfl | ⟨b, off, rfl, hc⟩
   · go_enter Try.func5,Try.ntmps5
     go_wp2
     refine wp_loop_rounds 1 ?_
     rw[rounds_succ]
     go_wp2
     go_ret
     exact⟨.inr ⟨by simp[sizeP],L,Nat.le_refl _,rfl⟩,Below.refl _ _⟩
   · have hm' : ∀ j (h : j < ps.length), ps[j].1.length ≤ 9223372036854775807 ∧ ps[j].2.length ≤ 9223372036854775807 := fun j h => hm _ (List.getElem_mem _)
     clear hm
     go_enter Try.func5,Try.ntmps5
     go_wp2
     go_loopw [1,5] (fun v i wr=>∃ j q:Nat,j≤ps.length∧i=.int .i64 (j:Int)∧v=.int .i64 (q:Int)∧q+ps.length+sizeP (ps.take j)=L∧Below w.heap.size w wr) (fun _ i _=>ps.length - (intOf i).toNat)
     case atStart=>exact⟨0,L - ps.length,Nat.zero_le _,rfl,by simp;omega,by simp[sizeP];omega,Below.refl _ _⟩
     case round =>
      obtain⟨j,q,hj,rfl,rfl,hq,hbel⟩:=hrel
      have hsz:=hbel.size
      by_cases hlt:j<ps.length
      · have c1:=(hbel.cell (p:=⟨b,off+j*2,none⟩) (World.block_lt_of_cell? w _ (hc j hlt).1)).trans (hc j hlt).1
        have c2:=(hbel.cell (p:=⟨b,off+j*2+1,none⟩) (World.block_lt_of_cell? w _ (hc j hlt).2)).trans (hc j hlt).2
        have m1:=hm' j hlt
        have HS:Hid (sizeP (ps.take (j+1))=sizeP (ps.take j)+(ps[j].1.length+ps[j].2.length)):=sizeP_snoc ps j hlt
        have hj0:(0:Int)≤(j:Int):=by omega
        have hj1:(j:Int)<(ps.length:Int):=by omega
        have hqs:q≤1048576:=by omega
        have HQ:Hid (q+ps.length+sizeP (ps.take j)=L):=hq
        obtain⟨x,hx⟩:∃ x,x=ps[j].1:=⟨_,rfl⟩
        obtain⟨y,hy⟩:∃ y,y=ps[j].2:=⟨_,rfl⟩
        rw[←hx] at c1 m1 HS
        rw[←hy] at c2 m1 HS
        have K:=fun W=>szPair_any x y q W hqs m1.1 m1.2
        clear hc hm' hx hy hq m1
        go_wp2_with fail
        refine (K _).mono ?_
        rintro e w1 ⟨he,b1⟩
        have B1:=hbel.trans (b1.mono hsz)
        clear K b1 hbel
        rcases he with ⟨hn,rfl⟩ | ⟨hn,rfl⟩
        · go_wp2
          go_ret
          exact⟨.inl rfl,B1⟩
        · go_wp2
          go_roundw
          case rel=>exact⟨j+1,_,by omega,by go_num,rfl,by have:=HS.out;have:=HQ.out;omega,B1⟩
          case measure=>simp[intOf];omega
      · have hjl:j=ps.length:=by omega
        subst hjl
        have HQ:Hid (ps.length+sizeP ps≤L):=by rw[Hid];rw[List.take_length] at hq;omega
        have HQL:Hid (q≤L):=by rw[Hid];omega
        clear hq
        go_wp2
        go_ret
        exact⟨.inr ⟨HQ.out,q,HQL.out,rfl⟩,hbel⟩
 · have hb':¬ (ps.length:Int)≤L:=by omega
   clear hs hm
   go_enter Try.func5,Try.ntmps5
   go_wp2
   go_ret
   exact⟨.inl rfl,Below.refl _ _⟩
set_option maxRecDepth 100000 in
set_option maxHeartbeats 400000 in
theorem szOpS_gen (L : Nat) (hL : L ≤ 1048576) (a : Option Addr) (cap : Nat) (ps : List OpL) (w : World) (hl : ps.length ≤ 9223372036854775807) (hm : ∀ p ∈ ps, p.1.length ≤ 9223372036854775807 ∧ p.2.1.length ≤ 9223372036854775807) (hs : IsOps w a ps) :
 Calls Try.prog 20 #[.slice a ps.length cap,.int .i64 (L:Int)] w fun e w'=>(e=.returned (.int .i64 (-1))∨(ps.length+sizeO ps≤L∧∃ n:Nat,n≤L∧e=.returned (.int .i64 (n:Int))))∧Below w.heap.size w w':=by
 by_cases hb:ps.length≤L
 · rcases hs with rfl | ⟨b, off, rfl, hc⟩
   · go_enter Try.func20,Try.ntmps20
     go_wp2
     refine wp_loop_rounds 1 ?_
     rw[rounds_succ]
     go_wp2
     go_ret
     exact⟨.inr ⟨by simp[sizeO],L,Nat.le_refl _,rfl⟩,Below.refl _ _⟩
   · have hm' : ∀ j (h : j < ps.length), ps[j].1.length ≤ 9223372036854775807 ∧ ps[j].2.1.length ≤ 9223372036854775807 := fun j h => hm _ (List.getElem_mem _)
     clear hm
     go_enter Try.func20,Try.ntmps20
     go_wp2
     go_loopw [1,5] (fun v i wr=>∃ j q:Nat,j≤ps.length∧i=.int .i64 (j:Int)∧v=.int .i64 (q:Int)∧q+ps.length+sizeO (ps.take j)=L∧Below w.heap.size w wr) (fun _ i _=>ps.length - (intOf i).toNat)
     case atStart=>exact⟨0,L - ps.length,Nat.zero_le _,rfl,by simp;omega,by simp[sizeO];omega,Below.refl _ _⟩
     case round =>
      obtain⟨j,q,hj,rfl,rfl,hq,hbel⟩:=hrel
      have hsz:=hbel.size
      by_cases hlt:j<ps.length
      · have hbl:=World.block_lt_of_cell? w _ (hc j hlt).1
        have c1:=(hbel.cell (p:=⟨b,off+j*3,none⟩) hbl).trans (hc j hlt).1
        have c2:=(hbel.cell (p:=⟨b,off+j*3+1,none⟩) hbl).trans (hc j hlt).2.1
        have c3:=(hbel.cell (p:=⟨b,off+j*3+2,none⟩) hbl).trans (hc j hlt).2.2
        have m1:=hm' j hlt
        have HS:Hid (sizeO (ps.take (j+1))=sizeO (ps.take j)+(ps[j].1.length+ps[j].2.1.length)):=sizeO_snoc ps j hlt
        have hj0:(0:Int)≤(j:Int):=by omega
        have hj1:(j:Int)<(ps.length:Int):=by omega
        have hqs:q≤1048576:=by omega
        have HQ:Hid (q+ps.length+sizeO (ps.take j)=L):=hq
        obtain⟨x,hx⟩:∃ x,x=ps[j].1:=⟨_,rfl⟩
        obtain⟨y,hy⟩:∃ y,y=ps[j].2.1:=⟨_,rfl⟩
        obtain⟨z,hz⟩:∃ z,z=ps[j].2.2:=⟨_,rfl⟩
        rw[←hx] at c1 m1 HS
        rw[←hy] at c2 m1 HS
        rw[←hz] at c3
        have K:=fun W=>szOp_any x y z q W hqs m1.1 m1.2
        clear hc hm' hx hy hz hq m1 hbl
        go_wp2_with fail
        refine (K _).mono ?_
        rintro e w1 ⟨he,b1⟩
        have B1:=hbel.trans (b1.mono hsz)
        clear K b1 hbel
        rcases he with ⟨hn,rfl⟩ | ⟨hn,rfl⟩
        · go_wp2
          go_ret
          exact⟨.inl rfl,B1⟩
        · go_wp2
          go_roundw
          case rel=>exact⟨j+1,_,by omega,by go_num,rfl,by have:=HS.out;have:=HQ.out;omega,B1⟩
          case measure=>simp[intOf];omega
      · have hjl:j=ps.length:=by omega
        subst hjl
        have HQ:Hid (ps.length+sizeO ps≤L):=by rw[Hid];rw[List.take_length] at hq;omega
        have HQL:Hid (q≤L):=by rw[Hid];omega
        clear hq
        go_wp2
        go_ret
        exact⟨.inr ⟨HQ.out,q,HQL.out,rfl⟩,hbel⟩
 · have hb':¬ (ps.length:Int)≤L:=by omega
   clear hs hm
   go_enter Try.func20,Try.ntmps20
   go_wp2
   go_ret
   exact⟨.inl rfl,Below.refl _ _⟩
set_option maxRecDepth 100000 in
set_option maxHeartbeats 1000000 in
theorem szBatch_gen (L:Nat) (hL:L≤1048576) (c n:Int) (a:Option Addr) (cap:Nat) (ps:List OpL) (w:World) (hl:ps.length≤9223372036854775807) (hm:∀ p∈ps,p.1.length≤9223372036854775807∧p.2.1.length≤9223372036854775807) (hs:IsOps w a ps) :
 Calls Try.prog 6 #[.agg #[.int .i64 c,.int .i64 n,.slice a ps.length cap],.int .i64 (L:Int)] w fun e w'=>(e=.returned (.int .i64 (-1))∨(ps.length+sizeO ps≤L∧∃ n:Nat,n≤L∧e=.returned (.int .i64 (n:Int))))∧Below w.heap.size w w':=by
 have B0:Below w.heap.size w (w.alloc (.cells #[.int .i64 c,.int .i64 n,.slice a ps.length cap] 25)):=(Below.refl _ _).alloc (Nat.le_refl _) _
 have BB:Hid (Below w.heap.size w (w.alloc (.cells #[.int .i64 c,.int .i64 n,.slice a ps.length cap] 25))):=B0
 have K:=szOpS_gen L hL a cap ps (w.alloc (.cells #[.int .i64 c,.int .i64 n,.slice a ps.length cap] 25)) hl hm (hs.later B0)
 clear hs hm B0
 go_enter Try.func6,Try.ntmps6
 go_wp2_with fail
 refine K.mono ?_
 rintro e w1 ⟨he,b1⟩
 have B1:=BB.out.trans (b1.mono BB.out.size)
 clear K b1
 rcases he with rfl | ⟨hle,q,hqL,rfl⟩
 · go_wp2
   go_ret
   exact⟨.inl rfl,B1⟩
 · have HL:Hid (ps.length+sizeO ps≤L∧q≤L):=⟨hle,hqL⟩
   clear hle hqL
   go_wp2
   go_ret
   exact⟨.inr ⟨HL.out.1,q,HL.out.2,rfl⟩,B1⟩
set_option maxRecDepth 100000 in
set_option maxHeartbeats 400000 in
theorem markBatch_gen (c n:Int) (ps:List OpL) (a:Option Addr) (m cap b1 k:Nat) (w:World) (hl:ps.length≤4000000) (hk:0<k) (hk2:k≤4000000) (hv:w.ownsRow b1 53 3 (.slice a m cap) ps.length (ocells ps)) :
 Calls Try.prog 14 #[.agg #[.int .i64 c,.int .i64 n,(.slice a m cap)],.int .i64 (k:Int)] w fun e w'=>e=.returned (.int .i64 ((k:Int)+3*(ps.length:Int)))∧w'.ownsRow b1 53 3 (.slice a m cap) ps.length (ocells (marksO k ps.length))∧w.grownBy w' (Value.slice a m cap).ownBlock:=by
 have K:=markOpS_any ps a m cap b1 k (w.alloc (.cells #[.int .i64 c,.int .i64 n,(.slice a m cap)] 34)) hl hk hk2 (hv.alloc _)
 have G:Hid (w.grownBy (w.alloc (.cells #[.int .i64 c,.int .i64 n,(.slice a m cap)] 34)) (Value.slice a m cap).ownBlock):=grown_alloc _ _ _
 clear hv
 go_enter Try.func14,Try.ntmps14
 go_wp2_with fail
 refine K.mono ?_
 rintro e w1 ⟨rfl,o1,g1⟩
 have O1:=hidOwn o1
 have G1:Hid (w.grownBy w1 (Value.slice a m cap).ownBlock):=G.out.trans g1
 clear K o1 g1
 go_wp2
 go_ret
 exact⟨rfl,O1.out,G1.out⟩
end Go.Proofs.Ytdcmncjoppmlhaa
