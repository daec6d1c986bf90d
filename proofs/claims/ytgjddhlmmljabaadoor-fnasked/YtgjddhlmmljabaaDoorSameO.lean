/-
 Contract: two lists of ops that are the same.
-/
import Derived.Test.YtgjddhlmmljabaaDoorBats
import Derived.BigQuiet
import Derived.Deep.QuietTactic
namespace Go.Proofs.YtgjddhlmmljabaaDoor
open Go.RowKit
set_option linter.unusedVariables false
theorem below_dq {B:Nat} {w w':World} {q:Nat} (h:Below B w w'):Below B w (w'.drewN q):=⟨h.os,h.tape,h.output,h.size,h.block⟩
set_option maxRecDepth 100000 in
set_option maxHeartbeats 400000 in
theorem sameOps_same (ps : List OpL) (a c : Option Addr) (n m : Nat) (w : World) (hl : ps.length ≤ 16777216) (hu : IsOps w a ps) (hv : IsOps w c ps) :
 Calls Tryd.prog 9 #[.slice a ps.length n,.slice c ps.length m] w fun e w'=>e=.returned (.bool true)∧Below w.heap.size w w':=by
 rcases hu with rfl | ⟨b,off,rfl,h1⟩
 · go_enter Tryd.func9,Tryd.ntmps9
   go_wp2
   refine wp_loop_rounds 1 ?_
   rw[rounds_succ]
   go_wp2
   go_ret
   exact⟨rfl,Below.refl _ _⟩
 · rcases hv with rfl | ⟨d,of2,rfl,h2⟩
   · go_enter Tryd.func9,Tryd.ntmps9
     go_wp2
     refine wp_loop_rounds 1 ?_
     rw[rounds_succ]
     go_wp2
     go_ret
     exact⟨rfl,Below.refl _ _⟩
   · go_enter Tryd.func9,Tryd.ntmps9
     go_wp2
     go_loopw [5] (fun i wr=>∃ j:Nat,j≤ps.length∧i=.int .i64 (j:Int)∧Below w.heap.size w wr) (fun i _=>ps.length - (intOf i).toNat)
     case atStart=>exact⟨0,Nat.zero_le _,rfl,Below.refl _ _⟩
     case round =>
      obtain⟨j,hj,rfl,hbel⟩:=hrel
      have hsz:=hbel.size
      by_cases hlt:j<ps.length
      · have hbl:=World.block_lt_of_cell? w _ (h1 j hlt).1
        have hdl:=World.block_lt_of_cell? w _ (h2 j hlt).1
        have c1:=(hbel.cell (p:=⟨b,off+j*3,none⟩) hbl).trans (h1 j hlt).1
        have c2:=(hbel.cell (p:=⟨b,off+j*3+1,none⟩) hbl).trans (h1 j hlt).2.1
        have c3:=(hbel.cell (p:=⟨b,off+j*3+2,none⟩) hbl).trans (h1 j hlt).2.2
        have d1:=(hbel.cell (p:=⟨d,of2+j*3,none⟩) hdl).trans (h2 j hlt).1
        have d2:=(hbel.cell (p:=⟨d,of2+j*3+1,none⟩) hdl).trans (h2 j hlt).2.1
        have d3:=(hbel.cell (p:=⟨d,of2+j*3+2,none⟩) hdl).trans (h2 j hlt).2.2
        have hj0:(0:Int)≤(j:Int):=by omega
        have hj1:(j:Int)<(ps.length:Int):=by omega
        obtain⟨x,hx⟩:∃ x,x=ps[j].1:=⟨_,rfl⟩
        obtain⟨y,hy⟩:∃ y,y=ps[j].2.1:=⟨_,rfl⟩
        obtain⟨z,hz⟩:∃ z,z=ps[j].2.2:=⟨_,rfl⟩
        rw[←hx] at c1 d1
        rw[←hy] at c2 d2
        rw[←hz] at c3 d3
        clear h1 h2 hx hy hz hbl hdl
        go_wp2
        go_quiet (fail)
        go_wp2
        go_roundw
        case rel=>exact⟨j+1,by omega,by go_num,below_dq hbel⟩
        case measure=>simp[intOf];omega
      · go_wp2
        go_ret
        exact⟨rfl,hbel⟩
end Go.Proofs.YtgjddhlmmljabaaDoor
