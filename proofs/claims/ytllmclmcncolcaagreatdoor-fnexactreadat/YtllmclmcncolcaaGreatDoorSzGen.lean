/-
 Contract: the size of a row of texts, whatever is left.
-/
import Derived.Test.YtllmclmcncolcaaGreatDoorStrsAll
namespace Go.Proofs.YtllmclmcncolcaaGreatDoor
open Go.RowKit
set_option linter.unusedVariables false
set_option maxRecDepth 100000 in
set_option maxHeartbeats 400000 in
theorem szS_gen (a : Option Addr) (cap : Nat) (ls : List (List UInt8)) (L : Nat) (w : World) (hL : L ≤ 1048576) (hl : ls.length ≤ 9223372036854775807) (hm : ∀ l ∈ ls, l.length ≤ 9223372036854775807) (hs : IsStrs w a ls) :
 Calls Tryz.prog 6 #[.slice a ls.length cap,.int .i64 (L:Int)] w fun e w'=>(e=.returned (.int .i64 (-1))∨(ls.length+ls.flatten.length≤L∧∃ n:Nat,n≤L∧n+(ls.length+ls.flatten.length)=L∧e=.returned (.int .i64 (n:Int))))∧w'=w:=by
 obtain⟨fl,hfl⟩:∃ fl,fl=ls.flatten.length:=⟨_,rfl⟩
 rw[←hfl]
 have HFL:Hid (fl=ls.flatten.length):=hfl
 clear hfl
 by_cases hb:ls.length≤L
 · rcases hs with rfl | ⟨b, off, rfl, hc⟩
   · go_enter Tryz.func6,Tryz.ntmps6
     go_wp2
     refine wp_loop_rounds 1 ?_
     rw[rounds_succ]
     go_wp2
     go_ret
     exact⟨.inr ⟨by rw[HFL.out];simp,L,Nat.le_refl _,by rw[HFL.out];simp,rfl⟩,rfl⟩
   · have hm' : ∀ j (h : j < ls.length), ls[j].length ≤ 9223372036854775807 := fun j h => hm _ (List.getElem_mem _)
     have hb':(ls.length:Int)≤(L:Int):=by omega
     clear hm
     go_enter Tryz.func6,Tryz.ntmps6
     go_wp2
     go_loop [1,5] (fun v i=>∃ j q:Nat,j≤ls.length∧i=.int .i64 (j:Int)∧v=.int .i64 (q:Int)∧q+ls.length+(ls.take j).flatten.length=L) (fun _ i=>ls.length - (intOf i).toNat)
     case atStart=>exact⟨0,L - ls.length,Nat.zero_le _,rfl,by simp;omega,by simp;omega⟩
     case round =>
      obtain⟨j,q,hj,rfl,rfl,hq⟩:=hrel
      by_cases hlt:j<ls.length
      · have c1:=hc j hlt
        have m1:=hm' j hlt
        have HS:Hid ((ls.take (j+1)).flatten.length=(ls.take j).flatten.length+ls[j].length):=by rw[Hid,flat_snoc ls j hlt,List.length_append]
        have hj0:(0:Int)≤(j:Int):=by omega
        have hj1:(j:Int)<(ls.length:Int):=by omega
        have hqs:q≤1048576:=by omega
        have HQ:Hid (q+ls.length+(ls.take j).flatten.length=L):=hq
        obtain⟨x,hx⟩:∃ x,x=ls[j]:=⟨_,rfl⟩
        rw[←hx] at c1 m1 HS
        clear hc hm' hx hq
        by_cases hle:x.length≤q
        · have hle':(x.length:Int)≤(q:Int):=by omega
          go_wp2
          go_round
          case rel=>exact⟨j+1,q - x.length,by omega,by go_num,by go_num,by have:=HS.out;have:=HQ.out;omega⟩
          case measure=>simp[intOf];omega
        · have hle':¬ (x.length:Int)≤(q:Int):=by omega
          go_wp2
          go_ret
          exact⟨.inl rfl,rfl⟩
      · have hjl:j=ls.length:=by omega
        subst hjl
        have HQ:Hid (q+(ls.length+fl)=L):=by rw[Hid,HFL.out];rw[List.take_length] at hq;omega
        clear hq
        go_wp2
        go_ret
        exact⟨.inr ⟨by have:=HQ.out;omega,q,by have:=HQ.out;omega,HQ.out,rfl⟩,rfl⟩
 · have hb':¬ (ls.length:Int)≤(L:Int):=by omega
   clear hs hm
   go_enter Tryz.func6,Tryz.ntmps6
   go_wp2
   go_ret
   exact⟨.inl rfl,rfl⟩
end Go.Proofs.YtllmclmcncolcaaGreatDoor
