/-
 Contracts of the laws' own helpers on rows of File: marks laid, marks held.
-/
import Derived.Test.YtlllkdioojjaeaaFileS
namespace Go.Proofs.Ytlllkdioojjaeaa
open Go.RowKit
set_option linter.unusedVariables false
set_option maxRecDepth 100000 in
set_option maxHeartbeats 400000 in
theorem markFileS_any (ps:List PairL) (a:Option Addr) (m cap b1 k:Nat) (w:World) (hl:ps.length≤4000000) (hk:0<k) (hk2:k≤4000000) (hv:w.ownsRow b1 84 2 (.slice a m cap) ps.length (pcells ps)) :
 Calls Try.prog 57 #[.slice a m cap,.int .i64 k] w fun e w'=>e=.returned (.int .i64 ((k:Int)+2*(ps.length:Int)))∧w'.ownsRow b1 84 2 (.slice a m cap) ps.length (pcells (marksP k ps.length))∧w.grownBy w' (Value.slice a m cap).ownBlock:=by
 rcases own_cases2 hv with ⟨hv0,hn,hx⟩ | ⟨g,cap',hv0,hg1,hg2,hc,hf⟩
 · cases hv0
   have hls:ps=[]:=List.length_eq_zero_iff.1 hn
   subst hls
   go_enter Try.func57,Try.ntmps57
   go_wp2
   refine wp_loop_rounds 1 ?_
   rw[rounds_succ]
   go_wp2
   go_ret
   exact⟨by simp,hv,World.grownBy.refl _ _⟩
 · cases hv0
   clear hc hf
   go_enter Try.func57,Try.ntmps57
   go_wp2
   go_loopw [1,5] (fun mm i wr=>∃ j:Nat,j≤ps.length∧i=.int .i64 (j:Int)∧mm=.int .i64 ((k+2*j:Nat):Int)∧wr.ownsRow b1 84 2 (.slice (some ⟨g,0,none⟩) ps.length cap) ps.length (markedP k j ps)∧w.grownBy wr (some g)) (fun _ i _=>ps.length - (intOf i).toNat)
   case atStart=>exact⟨0,Nat.zero_le _,rfl,rfl,by rw[markedP_zero];exact hv,World.grownBy.refl _ _⟩
   case round =>
    obtain⟨j,hj,rfl,rfl,hown,hgr⟩:=hrel
    by_cases hlt:j<ps.length
    · have hj1:(j:Int)<(ps.length:Int):=by omega
      have hj0:(0:Int)≤(j:Int):=by omega
      have HLEN:Hid ((markedP k j ps).length=ps.length*2):=markedP_length k j ps (by omega)
      have HSTEP:Hid (((markedP k j ps).set (j*2) (.string ⟨(markT (k+2*j)).toArray⟩)).set (j*2+1) (.string ⟨(markT (k+2*j+1)).toArray⟩)=markedP k (j+1) ps):=markedP_step k j ps hlt
      have K1:=fun W=>markText_any (k+2*j) W (by omega) (by omega)
      have K2:=fun W=>markText_any (k+2*j+1) W (by omega) (by omega)
      rw[show ((k+2*j+1:Nat):Int)=((k+2*j:Nat):Int)+1 by omega] at K2
      obtain⟨q,hq⟩:∃ q,q=k+2*j:=⟨_,rfl⟩
      rw[←hq] at K1 K2 HSTEP ⊢
      have HQ:Hid (q=k+2*j):=hq
      have HO:=hidOwn hown
      have HG:Hid (w.grownBy wr (some g)):=hgr
      have hqs:(q:Int)≤100000000:=by omega
      have hq0:(0:Int)≤(q:Int):=by omega
      obtain⟨t1,ht1⟩:∃ t,t=markT q:=⟨_,rfl⟩
      obtain⟨t2,ht2⟩:∃ t,t=markT (q+1):=⟨_,rfl⟩
      rw[←ht1] at K1 HSTEP
      rw[←ht2] at K2 HSTEP
      clear hown hgr hq ht1 ht2
      go_wp2_with fail
      refine (K1 _).mono ?_
      rintro e w1 ⟨rfl,b1'⟩
      have o1:=kept2 HO.out b1'
      have g1:=HG.out.trans (grown_of_below b1' (some g))
      obtain⟨x1,hx1⟩:∃ o,w1.cell? ⟨g,j*2,none⟩=some o:=by rw[o1.cellAt (j*2) (by omega)];exact⟨_,List.getElem?_eq_getElem (by rw[HLEN.out];omega)⟩
      have f1:=o1.frozenAt (j*2)
      have st1:=o1.stored (j*2) (.string ⟨t1.toArray⟩)
      have O2:=hidOwn st1.1
      have HG2:Hid (w.grownBy (w1.setCell ⟨g,j*2,none⟩ (.string ⟨t1.toArray⟩)) (some g)):=g1.trans st1.2
      clear o1 g1 st1 b1' HO HG
      go_wp2_with fail
      refine (K2 _).mono ?_
      rintro e w2 ⟨rfl,b2'⟩
      have o2:=kept2 O2.out b2'
      have g2:=HG2.out.trans (grown_of_below b2' (some g))
      obtain⟨x2,hx2⟩:∃ o,w2.cell? ⟨g,j*2+1,none⟩=some o:=by rw[o2.cellAt (j*2+1) (by omega)];exact⟨_,List.getElem?_eq_getElem (by rw[List.length_set,HLEN.out];omega)⟩
      have f2:=o2.frozenAt (j*2+1)
      have st2:=o2.stored (j*2+1) (.string ⟨t2.toArray⟩)
      rw[HSTEP.out] at st2
      have O3:=hidOwn st2.1
      have HG3:Hid (w.grownBy (w2.setCell ⟨g,j*2+1,none⟩ (.string ⟨t2.toArray⟩)) (some g)):=g2.trans st2.2
      clear o2 g2 st2 b2' O2 HG2 hx1 f1
      go_wp2
      go_roundw
      case rel=>exact⟨j+1,by omega,by go_num,by have:=HQ.out;congr 1;omega,O3.out,HG3.out⟩
      case measure=>simp[intOf];omega
    · have hjl:j=ps.length:=by omega
      subst hjl
      rw[markedP_all] at hown
      go_wp2
      go_ret
      exact⟨by congr 2,hown,hgr⟩
set_option maxRecDepth 100000 in
set_option maxHeartbeats 1000000 in
theorem heldFileS_any (n : Nat) (a : Option Addr) (m cap b1 k : Nat) (w : World) (hl : n ≤ 4000000) (hk : 0 < k) (hk2 : k ≤ 4000000) (hv : w.ownsRow b1 84 2 (.slice a m cap) n (pcells (marksP k n))) :
 Calls Try.prog 59 #[.slice a m cap,.int .i64 k] w fun e w'=>e=.returned (.int .i64 ((k:Int)+2*(n:Int)))∧w.grownBy w' none:=by
 rcases own_cases2 hv with ⟨hv0,hn,hx⟩ | ⟨g,cap',hv0,hg1,hg2,hc,hf⟩
 · cases hv0
   subst hn
   go_enter Try.func59,Try.ntmps59
   go_wp2
   refine wp_loop_rounds 1 ?_
   rw[rounds_succ]
   go_wp2
   go_ret
   exact⟨by simp,World.grownBy.refl _ _⟩
 · cases hv0
   have hcc:∀ j,j<n→w.cell? ⟨g,j*2,none⟩=some (.string ⟨(markT (k+2*j)).toArray⟩)∧w.cell? ⟨g,j*2+1,none⟩=some (.string ⟨(markT (k+2*j+1)).toArray⟩):=fun j hj=>by
    have hj':j<(marksP k n).length:=by rw[marksP_length];exact hj
    have:=pcells_at (marksP k n) j hj'
    rw[marksP_at k n j hj'] at this
    exact⟨(hc _ (by omega)).trans this.1,(hc _ (by omega)).trans this.2⟩
   clear hc hf
   go_enter Try.func59,Try.ntmps59
   go_wp2
   go_loopw [1,5] (fun mm i wr=>∃ j:Nat,j≤n∧i=.int .i64 (j:Int)∧mm=.int .i64 ((k+2*j:Nat):Int)∧w.grownBy wr none) (fun _ i _=>n - (intOf i).toNat)
   case atStart=>exact⟨0,Nat.zero_le _,rfl,rfl,World.grownBy.refl _ _⟩
   case round =>
    obtain⟨j,hj,rfl,rfl,hgr⟩:=hrel
    by_cases hlt:j<n
    · have hj1:(j:Int)<(n:Int):=by omega
      have hj0:(0:Int)≤(j:Int):=by omega
      have c1:=(hgr.cell_far ⟨g,j*2,none⟩ hg2 (by simp)).trans (hcc j hlt).1
      have c2:=(hgr.cell_far ⟨g,j*2+1,none⟩ hg2 (by simp)).trans (hcc j hlt).2
      have hwlt:g<wr.heap.size:=Nat.lt_of_lt_of_le hg2 hgr.size
      have HG:Hid (w.grownBy wr none):=hgr
      have K1:=fun W=>markText_any (k+2*j) W (by omega) (by omega)
      have K2:=fun W=>markText_any (k+2*j+1) W (by omega) (by omega)
      rw[show ((k+2*j+1:Nat):Int)=((k+2*j:Nat):Int)+1 by omega] at K2
      obtain⟨q,hq⟩:∃ q,q=k+2*j:=⟨_,rfl⟩
      rw[←hq] at K1 K2 c1 c2 ⊢
      have HQ:Hid (q=k+2*j):=hq
      have hqs:(q:Int)≤100000000:=by omega
      have hq0:(0:Int)≤(q:Int):=by omega
      obtain⟨t1,ht1⟩:∃ t,t=markT q:=⟨_,rfl⟩
      obtain⟨t2,ht2⟩:∃ t,t=markT (q+1):=⟨_,rfl⟩
      rw[←ht1] at K1 c1
      rw[←ht2] at K2 c2
      clear hcc hgr hv hq ht1 ht2
      go_wp2_with fail
      go_region_held3 (fun w'=>w'.cell? ⟨g,j*2,none⟩=some (.string ⟨t1.toArray⟩))
       (first | assumption | go_keep)
       ((go_at_call 85;refine (K1 _).mono ?_;rintro e w1 ⟨rfl,hb1⟩;have d1:=(hb1.cell (p:=⟨g,j*2,none⟩) (by simp;omega)).trans c1))
      all_goals
       have hb1':Below wr.heap.size wr w1:=⟨hb1.os,hb1.tape,hb1.output,hb1.size,hb1.block⟩
       have e2:=(hb1'.cell (p:=⟨g,j*2+1,none⟩) hwlt).trans c2
       have hw1:g<w1.heap.size:=Nat.lt_of_lt_of_le hwlt hb1'.size
       have HG1:Hid (w.grownBy w1 none):=HG.out.trans (grown_of_below hb1' none)
       clear hb1
       go_wp2_with fail
       go_region_held3 (fun w'=>w'.cell? ⟨g,j*2+1,none⟩=some (.string ⟨t2.toArray⟩))
        (first | assumption | go_keep)
        ((go_at_call 85;refine (K2 _).mono ?_;rintro e w2 ⟨rfl,hb2⟩;have d2:=(hb2.cell (p:=⟨g,j*2+1,none⟩) (by simp;omega)).trans e2))
       all_goals
        have hb2':Below w1.heap.size w1 w2:=⟨hb2.os,hb2.tape,hb2.output,hb2.size,hb2.block⟩
        have HG2:Hid (w.grownBy w2 none):=HG1.out.trans (grown_of_below hb2' none)
        clear hb2
        go_wp2
        go_roundw
        case rel=>exact⟨j+1,by omega,by go_num,by have:=HQ.out;congr 1;omega,HG2.out⟩
        case measure=>simp[intOf];omega
    · have hjl:j=n:=by omega
      subst hjl
      go_wp2
      go_ret
      exact⟨by congr 2,hgr⟩
end Go.Proofs.Ytlllkdioojjaeaa
