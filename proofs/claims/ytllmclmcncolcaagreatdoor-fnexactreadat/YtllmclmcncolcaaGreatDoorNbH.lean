import Derived.Test.YtllmclmcncolcaaGreatDoorClis
import Derived.Test.YtllmclmcncolcaaGreatDoorSzGen
namespace Go.Proofs.YtllmclmcncolcaaGreatDoor
open Go.RowKit
set_option linter.unusedVariables false
set_option maxRecDepth 100000 in
set_option maxHeartbeats 400000 in
theorem eqS_isN (ls : List (List UInt8)) (a a' : Option Addr) (c c' : Nat) (w : World) (hl : ls.length ≤ 16777216) (hu : IsStrs w a ls) (hv : IsStrs w a' ls) :
 Calls Tryz.prog 14 #[.slice a ls.length c,.slice a' ls.length c'] w fun e w'=>e=.returned (.bool true)∧∃ q,w'=w.drewN q:=by
 rcases hu with rfl | ⟨b,off,rfl,hc⟩
 · go_enter Tryz.func14,Tryz.ntmps14
   go_wp2
   refine wp_loop_rounds 1 ?_
   rw[rounds_succ]
   go_wp2
   go_ret
   exact⟨rfl,0,rfl⟩
 · rcases hv with rfl | ⟨b',off',rfl,hc'⟩
   · go_enter Tryz.func14,Tryz.ntmps14
     go_wp2
     refine wp_loop_rounds 1 ?_
     rw[rounds_succ]
     go_wp2
     go_ret
     exact⟨rfl,0,rfl⟩
   · go_enter Tryz.func14,Tryz.ntmps14
     go_wp2
     go_loopw [5] (fun i wr=>∃ j q:Nat,j≤ls.length∧i=.int .i64 (j:Int)∧wr=w.drewN q) (fun i _=>ls.length - (intOf i).toNat)
     case atStart=>exact⟨0,0,Nat.zero_le _,rfl,rfl⟩
     case round =>
      obtain⟨j,q,hj,rfl,rfl⟩:=hrel
      by_cases hlt:j<ls.length
      · have c1:=hc j hlt
        have c2:=hc' j hlt
        have hj0:(0:Int)≤(j:Int):=by omega
        have hj1:(j:Int)<(ls.length:Int):=by omega
        obtain⟨x,hx⟩:∃ x,x=ls[j]:=⟨_,rfl⟩
        rw[←hx] at c1 c2
        clear hc hc' hx
        go_wp2
        go_quiet (fail)
        go_wp2
        go_roundw
        case rel=>exact⟨j+1,_,by omega,by go_num,rfl⟩
        case measure=>simp[intOf];omega
      · go_wp2
        go_ret
        exact⟨rfl,q,rfl⟩
set_option maxRecDepth 100000 in
set_option maxHeartbeats 1000000 in
theorem szClient_genN (L:Nat) (hL:L≤1048576) (a:Option Addr) (cap:Nat) (ls:List (List UInt8)) (s n:Int) (w:World) (hl:ls.length≤9223372036854775807) (hm:∀ l∈ls,l.length≤9223372036854775807) (hs:IsStrs w a ls) :
 Calls Tryz.prog 4 #[.agg #[.slice a ls.length cap,.int .i64 s,.int .i64 n],.int .i64 (L:Int)] w fun e w'=>(e=.returned (.int .i64 (-1))∨(ls.length+ls.flatten.length≤L∧∃ n:Nat,n≤L∧e=.returned (.int .i64 (n:Int))))∧Below w.heap.size w w':=by
 have B0:Below w.heap.size w (w.alloc (.cells #[.slice a ls.length cap,.int .i64 s,.int .i64 n] 24)):=(Below.refl _ _).alloc (Nat.le_refl _) _
 have BB:Hid (Below w.heap.size w (w.alloc (.cells #[.slice a ls.length cap,.int .i64 s,.int .i64 n] 24))):=B0
 have K:=szS_gen a cap ls L (w.alloc (.cells #[.slice a ls.length cap,.int .i64 s,.int .i64 n] 24)) hL hl hm (strs_later hs B0)
 clear hs hm B0
 go_enter Tryz.func4,Tryz.ntmps4
 go_wp2_with fail
 refine K.mono ?_
 rintro e w1 ⟨he,rfl⟩
 have B1:=BB.out
 clear K
 rcases he with rfl | ⟨hle,q,hqL,_,rfl⟩
 · go_wp2
   go_ret
   exact⟨.inl rfl,B1⟩
 · have HL:Hid (ls.length+ls.flatten.length≤L∧q≤L):=⟨hle,hqL⟩
   clear hle hqL
   go_wp2
   go_ret
   exact⟨.inr ⟨HL.out.1,q,HL.out.2,rfl⟩,B1⟩
set_option maxRecDepth 100000 in
set_option maxHeartbeats 1000000 in
theorem eqClient_is (a1 a2:Option Addr) (c1 c2:Nat) (ls:List (List UInt8)) (s n:Int) (w:World) (hl:ls.length≤16777216) (h1:IsStrs w a1 ls) (h2:IsStrs w a2 ls) :
 Calls Tryz.prog 12 #[.agg #[.slice a1 ls.length c1,.int .i64 s,.int .i64 n],.agg #[.slice a2 ls.length c2,.int .i64 s,.int .i64 n]] w fun e w'=>e=.returned (.bool true)∧Below w.heap.size w w':=by
 have Bx:Below w.heap.size w ((w.alloc (.cells #[.slice a1 ls.length c1,.int .i64 s,.int .i64 n] 31)).alloc (.cells #[.slice a2 ls.length c2,.int .i64 s,.int .i64 n] 31)):=((Below.refl _ _).alloc (Nat.le_refl _) _).alloc (by simp) _
 have K:=eqS_isN ls a1 a2 c1 c2 _ hl (strs_later h1 Bx) (strs_later h2 Bx)
 have HB:Hid (Below w.heap.size w ((w.alloc (.cells #[.slice a1 ls.length c1,.int .i64 s,.int .i64 n] 31)).alloc (.cells #[.slice a2 ls.length c2,.int .i64 s,.int .i64 n] 31))):=Bx
 clear h1 h2 Bx
 go_enter Tryz.func12,Tryz.ntmps12
 go_wp2_with fail
 refine K.mono ?_
 rintro e w1 ⟨rfl,q,rfl⟩
 have B1:Hid (Below w.heap.size w (((w.alloc (.cells #[.slice a1 ls.length c1,.int .i64 s,.int .i64 n] 31)).alloc (.cells #[.slice a2 ls.length c2,.int .i64 s,.int .i64 n] 31)).drewN q)):=⟨HB.out.os,HB.out.tape,HB.out.output,HB.out.size,HB.out.block⟩
 clear K
 go_wp2
 go_ret
 exact⟨rfl,B1.out⟩
set_option maxRecDepth 100000 in
set_option maxHeartbeats 1000000 in
theorem markClient_any (ls:List (List UInt8)) (s n:Int) (a:Option Addr) (m cap b1 k:Nat) (w:World) (hl:ls.length≤4000000) (hk:0<k) (hk2:k≤4000000) (hv:w.ownsRow b1 9 1 (.slice a m cap) ls.length (scells ls)) :
 Calls Tryz.prog 15 #[.agg #[.slice a m cap,.int .i64 s,.int .i64 n],.int .i64 (k:Int)] w fun e w'=>e=.returned (.int .i64 ((k:Int)+(ls.length:Int)))∧w'.ownsRow b1 9 1 (.slice a m cap) ls.length (scells (marks k ls.length))∧w.grownBy w' (Value.slice a m cap).ownBlock:=by
 have K:=markS_any ls (.slice a m cap) b1 k (w.alloc (.cells #[.slice a m cap,.int .i64 s,.int .i64 n] 31)) (by omega) hk (by omega) (hv.alloc _)
 have G:Hid (w.grownBy (w.alloc (.cells #[.slice a m cap,.int .i64 s,.int .i64 n] 31)) (Value.slice a m cap).ownBlock):=World.grownBy_alloc _ _ _
 clear hv
 go_enter Tryz.func15,Tryz.ntmps15
 go_wp2_with fail
 refine K.mono ?_
 rintro e w1 ⟨rfl,o1,g1⟩
 have O1:=hidOwn o1
 have G1:Hid (w.grownBy w1 (Value.slice a m cap).ownBlock):=G.out.trans g1
 clear K o1 g1
 go_wp2
 go_ret
 exact⟨rfl,O1.out,G1.out⟩
set_option maxRecDepth 100000 in
set_option maxHeartbeats 1000000 in
theorem heldClient_any (N:Nat) (s n:Int) (a:Option Addr) (m cap b1 k:Nat) (w:World) (hl:N≤4000000) (hk:0<k) (hk2:k≤4000000) (hv:w.ownsRow b1 9 1 (.slice a m cap) N (scells (marks k N))) :
 Calls Tryz.prog 18 #[.agg #[.slice a m cap,.int .i64 s,.int .i64 n],.int .i64 (k:Int)] w fun e w'=>e=.returned (.int .i64 ((k:Int)+(N:Int)))∧w.grownBy w' none:=by
 have K:=heldS_any N (.slice a m cap) b1 k (w.alloc (.cells #[.slice a m cap,.int .i64 s,.int .i64 n] 31)) (by omega) hk (by omega) (hv.alloc _)
 have G:Hid (w.grownBy (w.alloc (.cells #[.slice a m cap,.int .i64 s,.int .i64 n] 31)) none):=World.grownBy_alloc _ _ _
 have hk0:¬ (k:Int)+(N:Int)<0:=by omega
 have hkb:decide ((k:Int)+(N:Int)<0)=false:=decide_eq_false hk0
 clear hv
 go_enter Tryz.func18,Tryz.ntmps18
 go_wp2_with fail
 refine K.mono ?_
 rintro e w1 ⟨rfl,g1⟩
 have G1:Hid (w.grownBy w1 none):=G.out.trans g1
 clear K g1
 go_wp2
 go_ret
 exact⟨rfl,G1.out⟩
end Go.Proofs.YtllmclmcncolcaaGreatDoor
