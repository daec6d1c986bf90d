/-
 Contracts of the laws' own helpers: equal rows of texts, equal rows of numbers.
-/
import Derived.Test.YtglkmlfhcggckaaGreatDoorMath2
import Derived.Deep.QuietTactic
import Derived.BigQuiet
namespace Go.Proofs.YtglkmlfhcggckaaGreatDoor
open Go.RowKit
set_option linter.unusedVariables false
set_option maxRecDepth 100000 in
set_option maxHeartbeats 400000 in
theorem sameT_same (ls : List (List UInt8)) (u v : Value) (b1 b2 : Nat) (w : World) (hl : ls.length ≤ 16777216) (hu : w.ownsRow b1 9 1 u ls.length (scells ls)) (hv : w.ownsRow b2 9 1 v ls.length (scells ls)) :
 Calls Tryz.prog 8 #[u,v] w fun e w'=>e=.returned (.bool true)∧∃ q,w'=w.drewN q:=by
 rcases own_cases hu with ⟨rfl,hn,hx⟩ | ⟨g,cap,rfl,hg1,hg2,hc,hf⟩
 · rcases own_cases hv with ⟨rfl,_,_⟩ | ⟨g',cap',rfl,hg1',hg2',hc',hf'⟩
   · go_enter Tryz.func8,Tryz.ntmps8
     go_wp2
     refine wp_loop_rounds 1 ?_
     rw[rounds_succ]
     go_wp2
     go_ret
     exact⟨rfl,0,rfl⟩
   · rw[hn]
     go_enter Tryz.func8,Tryz.ntmps8
     go_wp2
     refine wp_loop_rounds 1 ?_
     rw[rounds_succ]
     go_wp2
     go_ret
     exact⟨rfl,0,rfl⟩
 · rcases own_cases hv with ⟨rfl,hn,_⟩ | ⟨g',cap',rfl,hg1',hg2',hc',hf'⟩
   · rw[hn]
     go_enter Tryz.func8,Tryz.ntmps8
     go_wp2
     refine wp_loop_rounds 1 ?_
     rw[rounds_succ]
     go_wp2
     go_ret
     exact⟨rfl,0,rfl⟩
   · clear hu hv hf hf'
     go_enter Tryz.func8,Tryz.ntmps8
     go_wp2
     go_loopw [5] (fun i wr=>∃ j q:Nat,j≤ls.length∧i=.int .i64 (j:Int)∧wr=w.drewN q) (fun i _=>ls.length - (intOf i).toNat)
     case atStart=>exact⟨0,0,Nat.zero_le _,rfl,rfl⟩
     case round =>
      obtain⟨j,q,hj,rfl,rfl⟩:=hrel
      by_cases hlt:j<ls.length
      · have c1:=(hc j hlt).trans (scells_at ls j hlt)
        have c2:=(hc' j hlt).trans (scells_at ls j hlt)
        have hj0:(0:Int)≤(j:Int):=by omega
        have hj1:(j:Int)<(ls.length:Int):=by omega
        obtain⟨x,hx⟩:∃ x,x=ls[j]:=⟨_,rfl⟩
        rw[←hx] at c1 c2
        clear hc hc' hx
        go_wp2
        go_quiet (fail)
        go_wp2
        go_roundw
        case rel=>exact⟨j+1,_,by omega,by go_num,rfl⟩
        case measure=>simp[intOf];omega
      · go_wp2
        go_ret
        exact⟨rfl,q,rfl⟩
end Go.Proofs.YtglkmlfhcggckaaGreatDoor
