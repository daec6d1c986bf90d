/-
 Contracts of the laws' own helpers on rows of numbers, whatever numbers.
-/
import Derived.Test.YtlllkdioojjaeaaMathCs
import Derived.Test.YtlllkdioojjaeaaDkMath
import Derived.Deep.QuietTactic
import Derived.BigQuiet
namespace Go.Proofs.Ytlllkdioojjaeaa
open Go.RowKit
set_option linter.unusedVariables false
theorem infoInt:(Try.prog.info? 2).map (fun i=>(i.zero,i.size,i.bytes))=some (some (.int .i64 0),1,8):=by kernel_rfl
theorem zcells_app (a b:List Int):zcells (a ++ b)=zcells a ++ zcells b:=by simp[zcells]
theorem plAt_lt {ks:List Int} {j:Nat} (h:j<ks.length):plAt ks j=ks[j]:=by simp[plAt,h]
theorem isInts_own {w:World} {base e n:Nat} {g cap:Nat} {ks:List Int} (hl:ks.length=n) (h:w.ownsRow base e 1 (.slice (some ⟨g,0,none⟩) n cap) n (zcells ks)):IsInts w (some ⟨g,0,none⟩) ks :=
 .inr ⟨g,0,rfl,fun j hj=>by rw[Nat.zero_add,h.cellAt j (by omega),zcells_at ks j hj]⟩
def zlaid (ks:List Int) (j:Nat):List Value:=zcells (ks.take j) ++ zcells (List.replicate (ks.length - j) 0)
theorem zlaid_step (ks:List Int) (j:Nat) (h:j<ks.length):(zlaid ks j).set j (.int .i64 (plAt ks j))=zlaid ks (j+1):=by
 have e1:List.replicate (ks.length - j) (0:Int)=0 :: List.replicate (ks.length - (j+1)) 0:=by
  rw[show ks.length - j=(ks.length - (j+1))+1 by omega,List.replicate_succ]
 unfold zlaid
 rw[e1,List.take_succ_eq_append_getElem h,plAt_lt h,List.set_append_right _ _ (by rw[zcells_length,List.length_take];omega),zcells_length,List.length_take,Nat.min_eq_left (by omega),Nat.sub_self,zcells_app,List.append_assoc]
 rfl
theorem zlaid_length (ks:List Int) (j:Nat) (h:j≤ks.length):(zlaid ks j).length=ks.length:=by simp[zlaid,zcells_length];omega
set_option maxRecDepth 100000 in
set_option maxHeartbeats 400000 in
theorem toZ_any (a:Option Addr) (cap:Nat) (ks:List Int) (w:World) (hl:ks.length≤1048576) (hs:IsInts w a ks) :
 Calls Try.prog 26 #[.slice a ks.length cap] w fun e w'=>e=.returned (.slice (some ⟨w.heap.size,0,none⟩) ks.length ks.length)∧w'.ownsRow w.heap.size 2 1 (.slice (some ⟨w.heap.size,0,none⟩) ks.length ks.length) ks.length (zcells ks)∧Below w.heap.size w w':=by
 obtain⟨i0,hi0,hz0,hz1,hz2⟩:=info_parts infoInt
 go_enter Try.func26,Try.ntmps26
 go_wp2_with (at_make;refine wpList_make_full _ rfl _ _ 45 rfl w.heap.size 2 i0 (.int .i64 0) 1 Try.underlying45 hi0 hz0 hz1 _ _ _ _ ks.length rfl rfl (by omega) (by omega) (by rw[hz2];omega) (by unfold maxLen;omega) (Nat.le_refl _) ?_;intro w0 hown0 hgrow0)
 rw[show (Value.int .i64 0).cells=#[.int .i64 0] from rfl,Nat.mul_one,toList_madeCells_one] at hown0
 have hb0:=(Below.refl w.heap.size w).grown hgrow0 (Nat.le_refl _) (by simp)
 have hs0:=hgrow0.size
 have hz:zlaid ks 0=List.replicate ks.length (.int .i64 0):=by simp[zlaid,zcells]
 rcases hs with rfl | ⟨b,off,rfl,hc⟩
 · refine wp_loop_rounds 1 ?_
   rw[rounds_succ]
   go_wp2
   go_ret
   exact⟨rfl,hown0,hb0⟩
 · clear hgrow0
   have HO0:Hid (w0.ownsRow w.heap.size 2 1 (.slice (some ⟨w.heap.size,0,none⟩) ks.length ks.length) ks.length (zlaid ks 0)):=by rw[hz];exact hown0
   clear hz hown0
   go_loopw [4] (fun i wr=>∃ j:Nat,j≤ks.length∧i=.int .i64 (j:Int)∧wr.ownsRow w.heap.size 2 1 (.slice (some ⟨w.heap.size,0,none⟩) ks.length ks.length) ks.length (zlaid ks j)∧Below w.heap.size w wr) (fun i _=>ks.length - (intOf i).toNat)
   case atStart=>exact⟨0,Nat.zero_le _,rfl,HO0.out,hb0⟩
   case round =>
    obtain⟨j,hj,rfl,hown,hbel⟩:=hrel
    by_cases hlt:j<ks.length
    · have hbl:=World.block_lt_of_cell? w _ (hc j hlt)
      have c1:=(hbel.cell (p:=⟨b,off+j,none⟩) hbl).trans (hc j hlt)
      have hc1:∃ o,wr.cell? ⟨w.heap.size,j,none⟩=some o:=by
       rw[hown.cellAt j (by omega)]
       exact⟨_,List.getElem?_eq_getElem (by rw[zlaid_length ks j (by omega)];exact hlt)⟩
      obtain⟨o,hc1⟩:=hc1
      have hf1:=hown.frozenAt j
      have hst:=(hown.stored j (.int .i64 (plAt ks j))).1
      rw[zlaid_step ks j hlt] at hst
      have hbel2:=hbel.setCell (p:=⟨w.heap.size,j,none⟩) (Nat.le_refl _) (.int .i64 (plAt ks j))
      have hj0:(0:Int)≤(j:Int):=by omega
      have hj1:(j:Int)<(ks.length:Int):=by omega
      obtain⟨x,hx⟩:∃ x,x=plAt ks j:=⟨_,rfl⟩
      rw[←hx] at c1 hst hbel2
      clear hc hx hown hbel hb0 HO0
      go_wp2
      go_roundw
      case rel=>exact⟨j+1,by omega,by go_num,hst,hbel2⟩
      case measure=>simp[intOf];omega
    · have hjl:j=ks.length:=by omega
      subst hjl
      have HQ:Hid (wr.ownsRow w.heap.size 2 1 (.slice (some ⟨w.heap.size,0,none⟩) ks.length ks.length) ks.length (zcells ks)):=by
       have h:=hown
       unfold zlaid at h
       rw[List.take_length,Nat.sub_self] at h
       rw[Hid];simpa [zcells] using h
      clear hown hb0 HO0
      go_wp2
      go_ret
      exact⟨rfl,HQ.out,hbel⟩
set_option maxRecDepth 100000 in
set_option maxHeartbeats 400000 in
theorem eqZ_same (ks:List Int) (n g cap g' cap':Nat) (w:World) (hl:n≤16777216) (hd:ks.length=n) (hu:IsInts w (some ⟨g,0,none⟩) ks) (hv:IsInts w (some ⟨g',0,none⟩) ks) :
 Calls Try.prog 28 #[.slice (some ⟨g,0,none⟩) n cap,.slice (some ⟨g',0,none⟩) n cap'] w fun e w'=>e=.returned (.bool true)∧Below w.heap.size w w':=by
 have hc:Hid (∀ j (h:j<ks.length),w.cell? ⟨g,j,none⟩=some (.int .i64 (plAt ks j))∧w.cell? ⟨g',j,none⟩=some (.int .i64 (plAt ks j))):=fun j h=>by
  obtain⟨b,o,e,h1⟩:=hu.at h
  obtain⟨b',o',e',h2⟩:=hv.at h
  cases e
  cases e'
  have:=h1 j h
  have:=h2 j h
  simp only[Nat.zero_add] at *
  exact⟨by assumption,by assumption⟩
 have HL:Hid (ks.length=n):=hd
 clear hu hv hd
 go_enter Try.func28,Try.ntmps28
 go_wp2
 go_loopw [5] (fun i wr=>∃ j q:Nat,j≤n∧i=.int .i64 (j:Int)∧wr=w.drewN q) (fun i _=>n - (intOf i).toNat)
 case atStart=>exact⟨0,0,Nat.zero_le _,rfl,rfl⟩
 case round =>
  obtain⟨j,q,hj,rfl,rfl⟩:=hrel
  by_cases hlt:j<n
  · have hjl:j<ks.length:=by have:=HL.out;omega
    obtain⟨c1,c2⟩:=hc.out j hjl
    have hj0:(0:Int)≤(j:Int):=by omega
    have hj1:(j:Int)<(n:Int):=by omega
    obtain⟨x,hx⟩:∃ x,x=plAt ks j:=⟨_,rfl⟩
    rw[←hx] at c1 c2
    clear hc hx
    go_wp2
    go_quiet (fail)
    go_wp2
    go_roundw
    case rel=>exact⟨j+1,_,by omega,by go_num,rfl⟩
    case measure=>simp[intOf];omega
  · go_wp2
    go_ret
    exact⟨rfl,⟨rfl,rfl,rfl,Nat.le_refl _,fun _ _=>rfl⟩⟩
set_option maxRecDepth 100000 in
set_option maxHeartbeats 400000 in
theorem markZ_any (ks:List Int) (n g cap b1 k:Nat) (x:Int) (w:World) (hx:x=(k:Int)) (hl:n≤16777216) (hd:ks.length=n) (hk:k≤67108864) (hv:w.ownsRow b1 2 1 (.slice (some ⟨g,0,none⟩) n cap) n (zcells ks)) :
 Calls Try.prog 29 #[.slice (some ⟨g,0,none⟩) n cap,.int .i64 x] w fun e w'=>e=.returned (.int .i64 ((k:Int)+(n:Int)))∧w.grownBy w' (some g):=by
 subst hx
 have hlen:(zcells ks).length=n:=by rw[zcells_length];exact hd
 obtain⟨xs,hxs⟩:∃ xs,xs=zcells ks:=⟨_,rfl⟩
 rw[←hxs] at hv hlen
 clear hxs hd
 go_enter Try.func29,Try.ntmps29
 go_wp2
 go_loopw [1,5] (fun m i wr=>∃ (j:Nat) (ys:List Value),j≤n∧i=.int .i64 (j:Int)∧m=.int .i64 ((k+j:Nat):Int)∧Hid (ys.length=n)∧wr.ownsRow b1 2 1 (.slice (some ⟨g,0,none⟩) n cap) n ys∧w.grownBy wr (some g)) (fun _ i _=>n - (intOf i).toNat)
 case atStart=>exact⟨0,xs,Nat.zero_le _,rfl,rfl,hlen,hv,World.grownBy.refl _ _⟩
 case round =>
  obtain⟨j,ys,hj,rfl,rfl,HY,hown,hgr⟩:=hrel
  clear hv hlen
  by_cases hlt:j<n
  · have hj1:(j:Int)<(n:Int):=by omega
    have hj0:(0:Int)≤(j:Int):=by omega
    have hc1:∃ o,wr.cell? ⟨g,j,none⟩=some o:=by
     rw[hown.cellAt j (by omega)]
     exact⟨_,List.getElem?_eq_getElem (by rw[HY.out];exact hlt)⟩
    obtain⟨o,hc1⟩:=hc1
    have hf1:=hown.frozenAt j
    have hst:=hown.stored j (.int .i64 ((k+j:Nat):Int))
    have hown2:=hst.1
    have hgr2:=hgr.trans hst.2
    have HY2:Hid ((ys.set j (.int .i64 ((k+j:Nat):Int))).length=n):=by rw[Hid,List.length_set];exact HY.out
    clear hown hst hgr
    go_wp2
    go_roundw
    case rel=>exact⟨j+1,_,by omega,by go_num,by go_num,HY2.out,hown2,hgr2⟩
    case measure=>simp[intOf];omega
  · have hjl:j=n:=by omega
    subst hjl
    go_wp2
    go_ret
    exact⟨by simp,hgr⟩
end Go.Proofs.Ytlllkdioojjaeaa
