/-
 Contracts of the laws' own helpers: sizes of a client and of a row of ops with whatever is left, equal clients wherever they lie, marks of a client's keys and of a batch's ops, from any number on (written by mknbh.py).
-/
import Derived.Test.YtbpgpmchnjbclaaDoorNbN
import Derived.Test.YtbpgpmchnjbclaaDoorBatchM
import Derived.Test.YtbpgpmchnjbclaaDoorSzGen
namespace Go.Proofs.YtbpgpmchnjbclaaDoor
open Go.RowKit
set_option linter.unusedVariables false
set_option maxRecDepth 100000 in
set_option maxHeartbeats 400000 in
theorem eqS_isN (ls : List (List UInt8)) (a a' : Option Addr) (c c' : Nat) (w : World) (hl : ls.length ≤ 16777216) (hu : IsStrs w a ls) (hv : IsStrs w a' ls) :
 Calls Tryd.prog 32 #[.slice a ls.length c,.slice a' ls.length c'] w fun e w'=>e=.returned (.bool true)∧∃ q,w'=w.drewN q:=by
 rcases hu with rfl | ⟨b,off,rfl,hc⟩
 · go_enter Tryd.func32,Tryd.ntmps32
   go_wp2
   refine wp_loop_rounds 1 ?_
   rw[rounds_succ]
   go_wp2
   go_ret
   exact⟨rfl,0,rfl⟩
 · rcases hv with rfl | ⟨b',off',rfl,hc'⟩
   · go_enter Tryd.func32,Tryd.ntmps32
     go_wp2
     refine wp_loop_rounds 1 ?_
     rw[rounds_succ]
     go_wp2
     go_ret
     exact⟨rfl,0,rfl⟩
   · go_enter Tryd.func32,Tryd.ntmps32
     go_wp2
     go_loopw [5] (fun i wr=>∃ j q:Nat,j≤ls.length∧i=.int .i64 (j:Int)∧wr=w.drewN q) (fun i _=>ls.length - (intOf i).toNat)
     case atStart=>exact⟨0,0,Nat.zero_le _,rfl,rfl⟩
     case round =>
      obtain⟨j,q,hj,rfl,rfl⟩:=hrel
      by_cases hlt:j<ls.length
      · have c1:=hc j hlt
        have c2:=hc' j hlt
        have hj0:(0:Int)≤(j:Int):=by omega
        have hj1:(j:Int)<(ls.length:Int):=by omega
        obtain⟨x,hx⟩:∃ x,x=ls[j]:=⟨_,rfl⟩
        rw[←hx] at c1 c2
        clear hc hc' hx
        go_wp2
        go_quiet (fail)
        go_wp2
        go_roundw
        case rel=>exact⟨j+1,_,by omega,by go_num,rfl⟩
        case measure=>simp[intOf];omega
      · go_wp2
        go_ret
        exact⟨rfl,q,rfl⟩
set_option maxRecDepth 100000 in
set_option maxHeartbeats 1000000 in
theorem szClient_genN (L:Nat) (hL:L≤1048576) (a:Option Addr) (cap:Nat) (ls:List (List UInt8)) (s n:Int) (w:World) (hl:ls.length≤9223372036854775807) (hm:∀ l∈ls,l.length≤9223372036854775807) (hs:IsStrs w a ls) :
 Calls Tryd.prog 5 #[.agg #[.slice a ls.length cap,.int .i64 s,.int .i64 n],.int .i64 (L:Int)] w fun e w'=>(e=.returned (.int .i64 (-1))∨(ls.length+ls.flatten.length≤L∧∃ n:Nat,n≤L∧e=.returned (.int .i64 (n:Int))))∧Below w.heap.size w w':=by
 have B0:Below w.heap.size w (w.alloc (.cells #[.slice a ls.length cap,.int .i64 s,.int .i64 n] 24)):=(Below.refl _ _).alloc (Nat.le_refl _) _
 have BB:Hid (Below w.heap.size w (w.alloc (.cells #[.slice a ls.length cap,.int .i64 s,.int .i64 n] 24))):=B0
 have K:=szS_gen a cap ls L (w.alloc (.cells #[.slice a ls.length cap,.int .i64 s,.int .i64 n] 24)) hL hl hm (strs_later hs B0)
 clear hs hm B0
 go_enter Tryd.func5,Tryd.ntmps5
 go_wp2_with fail
 refine K.mono ?_
 rintro e w1 ⟨he,rfl⟩
 have B1:=BB.out
 clear K
 rcases he with rfl | ⟨hle,q,hqL,_,rfl⟩
 · go_wp2
   go_ret
   exact⟨.inl rfl,B1⟩
 · have HL:Hid (ls.length+ls.flatten.length≤L∧q≤L):=⟨hle,hqL⟩
   clear hle hqL
   go_wp2
   go_ret
   exact⟨.inr ⟨HL.out.1,q,HL.out.2,rfl⟩,B1⟩
set_option maxRecDepth 100000 in
set_option maxHeartbeats 1000000 in
theorem eqClient_is (a1 a2:Option Addr) (c1 c2:Nat) (ls:List (List UInt8)) (s n:Int) (w:World) (hl:ls.length≤16777216) (h1:IsStrs w a1 ls) (h2:IsStrs w a2 ls) :
 Calls Tryd.prog 11 #[.agg #[.slice a1 ls.length c1,.int .i64 s,.int .i64 n],.agg #[.slice a2 ls.length c2,.int .i64 s,.int .i64 n]] w fun e w'=>e=.returned (.bool true)∧Below w.heap.size w w':=by
 have Bx:Below w.heap.size w ((w.alloc (.cells #[.slice a1 ls.length c1,.int .i64 s,.int .i64 n] 28)).alloc (.cells #[.slice a2 ls.length c2,.int .i64 s,.int .i64 n] 28)):=((Below.refl _ _).alloc (Nat.le_refl _) _).alloc (by simp) _
 have K:=eqS_isN ls a1 a2 c1 c2 _ hl (strs_later h1 Bx) (strs_later h2 Bx)
 have HB:Hid (Below w.heap.size w ((w.alloc (.cells #[.slice a1 ls.length c1,.int .i64 s,.int .i64 n] 28)).alloc (.cells #[.slice a2 ls.length c2,.int .i64 s,.int .i64 n] 28))):=Bx
 clear h1 h2 Bx
 go_enter Tryd.func11,Tryd.ntmps11
 go_wp2_with fail
 refine K.mono ?_
 rintro e w1 ⟨rfl,q,rfl⟩
 have B1:Hid (Below w.heap.size w (((w.alloc (.cells #[.slice a1 ls.length c1,.int .i64 s,.int .i64 n] 28)).alloc (.cells #[.slice a2 ls.length c2,.int .i64 s,.int .i64 n] 28)).drewN q)):=⟨HB.out.os,HB.out.tape,HB.out.output,HB.out.size,HB.out.block⟩
 clear K
 go_wp2
 go_ret
 exact⟨rfl,B1.out⟩
set_option maxRecDepth 100000 in
set_option maxHeartbeats 1000000 in
theorem markClient_any (ls:List (List UInt8)) (s n:Int) (a:Option Addr) (m cap b1 k:Nat) (w:World) (hl:ls.length≤4000000) (hk:0<k) (hk2:k≤4000000) (hv:w.ownsRow b1 9 1 (.slice a m cap) ls.length (scells ls)) :
 Calls Tryd.prog 14 #[.agg #[.slice a m cap,.int .i64 s,.int .i64 n],.int .i64 (k:Int)] w fun e w'=>e=.returned (.int .i64 ((k:Int)+(ls.length:Int)))∧w'.ownsRow b1 9 1 (.slice a m cap) ls.length (scells (marks k ls.length))∧w.grownBy w' (Value.slice a m cap).ownBlock:=by
 have K:=markS_any ls (.slice a m cap) b1 k (w.alloc (.cells #[.slice a m cap,.int .i64 s,.int .i64 n] 28)) (by omega) hk (by omega) (hv.alloc _)
 have G:Hid (w.grownBy (w.alloc (.cells #[.slice a m cap,.int .i64 s,.int .i64 n] 28)) (Value.slice a m cap).ownBlock):=grown_alloc _ _ _
 clear hv
 go_enter Tryd.func14,Tryd.ntmps14
 go_wp2_with fail
 refine K.mono ?_
 rintro e w1 ⟨rfl,o1,g1⟩
 have O1:=hidOwn o1
 have G1:Hid (w.grownBy w1 (Value.slice a m cap).ownBlock):=G.out.trans g1
 clear K o1 g1
 go_wp2
 go_ret
 exact⟨rfl,O1.out,G1.out⟩
set_option maxRecDepth 100000 in
set_option maxHeartbeats 1000000 in
theorem heldClient_any (N:Nat) (s n:Int) (a:Option Addr) (m cap b1 k:Nat) (w:World) (hl:N≤4000000) (hk:0<k) (hk2:k≤4000000) (hv:w.ownsRow b1 9 1 (.slice a m cap) N (scells (marks k N))) :
 Calls Tryd.prog 17 #[.agg #[.slice a m cap,.int .i64 s,.int .i64 n],.int .i64 (k:Int)] w fun e w'=>e=.returned (.int .i64 ((k:Int)+(N:Int)))∧w.grownBy w' none:=by
 have K:=heldS_any N (.slice a m cap) b1 k (w.alloc (.cells #[.slice a m cap,.int .i64 s,.int .i64 n] 28)) (by omega) hk (by omega) (hv.alloc _)
 have G:Hid (w.grownBy (w.alloc (.cells #[.slice a m cap,.int .i64 s,.int .i64 n] 28)) none):=grown_alloc _ _ _
 have hk0:¬ (k:Int)+(N:Int)<0:=by omega
 have hkb:decide ((k:Int)+(N:Int)<0)=false:=decide_eq_false hk0
 clear hv
 go_enter Tryd.func17,Tryd.ntmps17
 go_wp2_with fail
 refine K.mono ?_
 rintro e w1 ⟨rfl,g1⟩
 have G1:Hid (w.grownBy w1 none):=G.out.trans g1
 clear K g1
 go_wp2
 go_ret
 exact⟨rfl,G1.out⟩
set_option maxRecDepth 100000 in
set_option maxHeartbeats 400000 in
theorem szOpS_genN (L : Nat) (hL : L ≤ 1048576) (a : Option Addr) (cap : Nat) (ps : List OpL) (w : World) (hl : ps.length ≤ 9223372036854775807) (hm : ∀ p ∈ ps, p.1.length ≤ 9223372036854775807 ∧ p.2.1.length ≤ 9223372036854775807) (hs : IsOps w a ps) :
 Calls Tryd.prog 6 #[.slice a ps.length cap,.int .i64 (L:Int)] w fun e w'=>(e=.returned (.int .i64 (-1))∨(ps.length+sizeO ps≤L∧∃ n:Nat,n≤L∧e=.returned (.int .i64 (n:Int))))∧Below w.heap.size w w':=by
 by_cases hb:ps.length≤L
 · rcases hs with rfl | ⟨b, off, rfl, hc⟩
   · go_enter Tryd.func6,Tryd.ntmps6
     go_wp2
     refine wp_loop_rounds 1 ?_
     rw[rounds_succ]
     go_wp2
     go_ret
     exact⟨.inr ⟨by simp[sizeO],L,Nat.le_refl _,rfl⟩,Below.refl _ _⟩
   · have hm' : ∀ j (h : j < ps.length), ps[j].1.length ≤ 9223372036854775807 ∧ ps[j].2.1.length ≤ 9223372036854775807 := fun j h => hm _ (List.getElem_mem _)
     clear hm
     go_enter Tryd.func6,Tryd.ntmps6
     go_wp2
     go_loopw [1,5] (fun v i wr=>∃ j q:Nat,j≤ps.length∧i=.int .i64 (j:Int)∧v=.int .i64 (q:Int)∧q+ps.length+sizeO (ps.take j)=L∧Below w.heap.size w wr) (fun _ i _=>ps.length - (intOf i).toNat)
     case atStart=>exact⟨0,L - ps.length,Nat.zero_le _,rfl,by simp;omega,by simp[sizeO];omega,Below.refl _ _⟩
     case round =>
      obtain⟨j,q,hj,rfl,rfl,hq,hbel⟩:=hrel
      have hsz:=hbel.size
      by_cases hlt:j<ps.length
      · have hbl:=World.block_lt_of_cell? w _ (hc j hlt).1
        have c1:=(hbel.cell (p:=⟨b,off+j*3,none⟩) hbl).trans (hc j hlt).1
        have c2:=(hbel.cell (p:=⟨b,off+j*3+1,none⟩) hbl).trans (hc j hlt).2.1
        have c3:=(hbel.cell (p:=⟨b,off+j*3+2,none⟩) hbl).trans (hc j hlt).2.2
        have m1:=hm' j hlt
        have HS:Hid (sizeO (ps.take (j+1))=sizeO (ps.take j)+(ps[j].1.length+ps[j].2.1.length)):=sizeO_snoc ps j hlt
        have hj0:(0:Int)≤(j:Int):=by omega
        have hj1:(j:Int)<(ps.length:Int):=by omega
        have hqs:q≤1048576:=by omega
        have HQ:Hid (q+ps.length+sizeO (ps.take j)=L):=hq
        obtain⟨x,hx⟩:∃ x,x=ps[j].1:=⟨_,rfl⟩
        obtain⟨y,hy⟩:∃ y,y=ps[j].2.1:=⟨_,rfl⟩
        obtain⟨z,hz⟩:∃ z,z=ps[j].2.2:=⟨_,rfl⟩
        rw[←hx] at c1 m1 HS
        rw[←hy] at c2 m1 HS
        rw[←hz] at c3
        have K:=fun W=>szOp_any x y z q W hqs m1.1 m1.2
        clear hc hm' hx hy hz hq m1 hbl
        go_wp2_with fail
        refine (K _).mono ?_
        rintro e w1 ⟨he,b1⟩
        have B1:=hbel.trans (b1.mono hsz)
        clear K b1 hbel
        rcases he with ⟨hn,rfl⟩ | ⟨hn,rfl⟩
        · go_wp2
          go_ret
          exact⟨.inl rfl,B1⟩
        · go_wp2
          go_roundw
          case rel=>exact⟨j+1,_,by omega,by go_num,rfl,by have:=HS.out;have:=HQ.out;omega,B1⟩
          case measure=>simp[intOf];omega
      · have hjl:j=ps.length:=by omega
        subst hjl
        have HQ:Hid (ps.length+sizeO ps≤L):=by rw[Hid];rw[List.take_length] at hq;omega
        have HQL:Hid (q≤L):=by rw[Hid];omega
        clear hq
        go_wp2
        go_ret
        exact⟨.inr ⟨HQ.out,q,HQL.out,rfl⟩,hbel⟩
 · have hb':¬ (ps.length:Int)≤L:=by omega
   clear hs hm
   go_enter Tryd.func6,Tryd.ntmps6
   go_wp2
   go_ret
   exact⟨.inl rfl,Below.refl _ _⟩
set_option maxRecDepth 100000 in
set_option maxHeartbeats 400000 in
theorem markBatch_genN (c n:Int) (ps:List OpL) (a:Option Addr) (m cap b1 k:Nat) (w:World) (hl:ps.length≤4000000) (hk:0<k) (hk2:k≤4000000) (hv:w.ownsRow b1 55 3 (.slice a m cap) ps.length (ocells ps)) :
 Calls Tryd.prog 16 #[.agg #[.int .i64 c,.int .i64 n,(.slice a m cap)],.int .i64 (k:Int)] w fun e w'=>e=.returned (.int .i64 ((k:Int)+3*(ps.length:Int)))∧w'.ownsRow b1 55 3 (.slice a m cap) ps.length (ocells (marksO k ps.length))∧w.grownBy w' (Value.slice a m cap).ownBlock:=by
 have K:=markOpS_any ps a m cap b1 k (w.alloc (.cells #[.int .i64 c,.int .i64 n,(.slice a m cap)] 31)) hl hk hk2 (hv.alloc _)
 have G:Hid (w.grownBy (w.alloc (.cells #[.int .i64 c,.int .i64 n,(.slice a m cap)] 31)) (Value.slice a m cap).ownBlock):=grown_alloc _ _ _
 clear hv
 go_enter Tryd.func16,Tryd.ntmps16
 go_wp2_with fail
 refine K.mono ?_
 rintro e w1 ⟨rfl,o1,g1⟩
 have O1:=hidOwn o1
 have G1:Hid (w.grownBy w1 (Value.slice a m cap).ownBlock):=G.out.trans g1
 clear K o1 g1
 go_wp2
 go_ret
 exact⟨rfl,O1.out,G1.out⟩
set_option maxRecDepth 100000 in
set_option maxHeartbeats 400000 in
theorem heldBatch_genN (c n:Int) (N:Nat) (a:Option Addr) (m cap b1 k:Nat) (w:World) (hl:N≤4000000) (hk:0<k) (hk2:k≤4000000) (hv:w.ownsRow b1 55 3 (.slice a m cap) N (ocells (marksO k N))) :
 Calls Tryd.prog 18 #[.agg #[.int .i64 c,.int .i64 n,(.slice a m cap)],.int .i64 (k:Int)] w fun e w'=>e=.returned (.int .i64 ((k:Int)+3*(N:Int)))∧w.grownBy w' none:=by
 have K:=heldOpS_any N a m cap b1 k (w.alloc (.cells #[.int .i64 c,.int .i64 n,(.slice a m cap)] 31)) hl hk hk2 (hv.alloc _)
 have G:Hid (w.grownBy (w.alloc (.cells #[.int .i64 c,.int .i64 n,(.slice a m cap)] 31)) none):=grown_alloc _ _ _
 have hk0:¬ (k:Int)+3*(N:Int)<0:=by omega
 have hkb:decide ((k:Int)+3*(N:Int)<0)=false:=decide_eq_false hk0
 clear hv
 go_enter Tryd.func18,Tryd.ntmps18
 go_wp2_with fail
 refine K.mono ?_
 rintro e w1 ⟨rfl,g1⟩
 have G1:Hid (w.grownBy w1 none):=G.out.trans g1
 clear K g1
 go_wp2
 go_ret
 exact⟨rfl,G1.out⟩
end Go.Proofs.YtbpgpmchnjbclaaDoor
