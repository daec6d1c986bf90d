/-
 Contracts of the laws' own helpers on rows of ops: marks laid, marks held (written by mkop.py).
-/
import Derived.Test.YtbpgpmchnjbclaaDoorOpS
namespace Go.Proofs.YtbpgpmchnjbclaaDoor
open Go.RowKit
set_option linter.unusedVariables false
set_option maxRecDepth 100000 in
set_option maxHeartbeats 400000 in
theorem markOpS_any (ps:List OpL) (a:Option Addr) (m cap b1 k:Nat) (w:World) (hl:ps.length≤4000000) (hk:0<k) (hk2:k≤4000000) (hv:w.ownsRow b1 55 3 (.slice a m cap) ps.length (ocells ps)) :
 Calls Tryd.prog 15 #[.slice a m cap,.int .i64 k] w fun e w'=>e=.returned (.int .i64 ((k:Int)+3*(ps.length:Int)))∧w'.ownsRow b1 55 3 (.slice a m cap) ps.length (ocells (marksO k ps.length))∧w.grownBy w' (Value.slice a m cap).ownBlock:=by
 rcases own_cases3 hv with ⟨hv0,hn,hx⟩ | ⟨g,cap',hv0,hg1,hg2,hc,hf⟩
 · cases hv0
   have hls:ps=[]:=List.length_eq_zero_iff.1 hn
   subst hls
   go_enter Tryd.func15,Tryd.ntmps15
   go_wp2
   refine wp_loop_rounds 1 ?_
   rw[rounds_succ]
   go_wp2
   go_ret
   exact⟨by simp,hv,World.grownBy.refl _ _⟩
 · cases hv0
   clear hc hf
   go_enter Tryd.func15,Tryd.ntmps15
   go_wp2
   go_loopw [1,5] (fun mm i wr=>∃ j:Nat,j≤ps.length∧i=.int .i64 (j:Int)∧mm=.int .i64 ((k+3*j:Nat):Int)∧wr.ownsRow b1 55 3 (.slice (some ⟨g,0,none⟩) ps.length cap) ps.length (markedO k j ps)∧w.grownBy wr (some g)) (fun _ i _=>ps.length - (intOf i).toNat)
   case atStart=>exact⟨0,Nat.zero_le _,rfl,rfl,by rw[markedO_zero];exact hv,World.grownBy.refl _ _⟩
   case round =>
    obtain⟨j,hj,rfl,rfl,hown,hgr⟩:=hrel
    by_cases hlt:j<ps.length
    · have hj1:(j:Int)<(ps.length:Int):=by omega
      have hj0:(0:Int)≤(j:Int):=by omega
      have HLEN:Hid ((markedO k j ps).length=ps.length*3):=markedO_length k j ps (by omega)
      have HSTEP:Hid ((((markedO k j ps).set (j*3) (.string ⟨(markT (k+3*j)).toArray⟩)).set (j*3+1) (.string ⟨(markT (k+3*j+1)).toArray⟩)).set (j*3+2) (.bool (decide ((k+3*j+2) % 3=0)))=markedO k (j+1) ps):=markedO_step k j ps hlt
      have K1:=fun W=>markText_any (k+3*j) W (by omega) (by omega)
      have K2:=fun W=>markText_any (k+3*j+1) W (by omega) (by omega)
      rw[show ((k+3*j+1:Nat):Int)=((k+3*j:Nat):Int)+1 by omega] at K2
      obtain⟨q,hq⟩:∃ q,q=k+3*j:=⟨_,rfl⟩
      rw[←hq] at K1 K2 HSTEP ⊢
      have HQ:Hid (q=k+3*j):=hq
      have HO:=hidOwn hown
      have HG:Hid (w.grownBy wr (some g)):=hgr
      have hqs:(q:Int)≤100000000:=by omega
      have hq0:(0:Int)≤(q:Int):=by omega
      obtain⟨t1,ht1⟩:∃ t,t=markT q:=⟨_,rfl⟩
      obtain⟨t2,ht2⟩:∃ t,t=markT (q+1):=⟨_,rfl⟩
      obtain⟨t3,ht3⟩:∃ t,t=decide ((q+2) % 3=0):=⟨_,rfl⟩
      have h3:(((q:Int)+2) % 3 == 0)=t3:=by
       rw[ht3,Bool.eq_iff_iff];simp;omega
      have h3d:decide (((q:Int)+2) % 3=0)=t3:=by
       rw[ht3,Bool.eq_iff_iff];simp;omega
      have h3t:(((q:Int)+2).tmod 3 == 0)=t3:=by
       rw[Int.tmod_eq_emod_of_nonneg (by omega)];exact h3
      have h3s:((q:Int)+1+1)=(q:Int)+2:=by omega
      rw[←ht1] at K1 HSTEP
      rw[←ht2] at K2 HSTEP
      rw[←ht3] at HSTEP
      clear hown hgr hq ht1 ht2 ht3
      go_wp2_with fail
      refine (K1 _).mono ?_
      rintro e w1 ⟨rfl,b1'⟩
      have o1:=kept3 HO.out b1'
      have g1:=HG.out.trans (grown_of_below b1' (some g))
      obtain⟨x1,hx1⟩:∃ o,w1.cell? ⟨g,j*3,none⟩=some o:=by rw[o1.cellAt (j*3) (by omega)];exact⟨_,List.getElem?_eq_getElem (by rw[HLEN.out];omega)⟩
      have f1:=o1.frozenAt (j*3)
      have st1:=o1.stored (j*3) (.string ⟨t1.toArray⟩)
      have O2:=hidOwn st1.1
      have HG2:Hid (w.grownBy (w1.setCell ⟨g,j*3,none⟩ (.string ⟨t1.toArray⟩)) (some g)):=g1.trans st1.2
      clear o1 g1 st1 b1' HO HG
      go_wp2_with fail
      refine (K2 _).mono ?_
      rintro e w2 ⟨rfl,b2'⟩
      have o2:=kept3 O2.out b2'
      have g2:=HG2.out.trans (grown_of_below b2' (some g))
      obtain⟨x2,hx2⟩:∃ o,w2.cell? ⟨g,j*3+1,none⟩=some o:=by rw[o2.cellAt (j*3+1) (by omega)];exact⟨_,List.getElem?_eq_getElem (by rw[List.length_set,HLEN.out];omega)⟩
      have f2:=o2.frozenAt (j*3+1)
      obtain⟨x3,hx3⟩:∃ o,w2.cell? ⟨g,j*3+2,none⟩=some o:=by rw[o2.cellAt (j*3+2) (by omega)];exact⟨_,List.getElem?_eq_getElem (by rw[List.length_set,HLEN.out];omega)⟩
      have f3:=o2.frozenAt (j*3+2)
      have st2:=o2.stored (j*3+1) (.string ⟨t2.toArray⟩)
      have st3:=st2.1.stored (j*3+2) (.bool t3)
      rw[HSTEP.out] at st3
      have O3:=hidOwn st3.1
      have HG3:Hid (w.grownBy ((w2.setCell ⟨g,j*3+1,none⟩ (.string ⟨t2.toArray⟩)).setCell ⟨g,j*3+2,none⟩ (.bool t3)) (some g)):=g2.trans (st2.2.trans st3.2)
      clear o2 g2 st2 st3 b2' O2 HG2 hx1 f1
      go_wp2
      go_roundw
      case rel=>exact⟨j+1,by omega,by go_num,by have:=HQ.out;congr 1;omega,O3.out,HG3.out⟩
      case measure=>simp[intOf];omega
    · have hjl:j=ps.length:=by omega
      subst hjl
      rw[markedO_all] at hown
      go_wp2
      go_ret
      exact⟨by congr 2,hown,hgr⟩
set_option maxRecDepth 100000 in
set_option maxHeartbeats 1000000 in
theorem heldOpS_any (n : Nat) (a : Option Addr) (m cap b1 k : Nat) (w : World) (hl : n ≤ 4000000) (hk : 0 < k) (hk2 : k ≤ 4000000) (hv : w.ownsRow b1 55 3 (.slice a m cap) n (ocells (marksO k n))) :
 Calls Tryd.prog 37 #[.slice a m cap,.int .i64 k] w fun e w'=>e=.returned (.int .i64 ((k:Int)+3*(n:Int)))∧w.grownBy w' none:=by
 rcases own_cases3 hv with ⟨hv0,hn,hx⟩ | ⟨g,cap',hv0,hg1,hg2,hc,hf⟩
 · cases hv0
   subst hn
   go_enter Tryd.func37,Tryd.ntmps37
   go_wp2
   refine wp_loop_rounds 1 ?_
   rw[rounds_succ]
   go_wp2
   go_ret
   exact⟨by simp,World.grownBy.refl _ _⟩
 · cases hv0
   have hcc:∀ j,j<n→w.cell? ⟨g,j*3,none⟩=some (.string ⟨(markT (k+3*j)).toArray⟩)∧w.cell? ⟨g,j*3+1,none⟩=some (.string ⟨(markT (k+3*j+1)).toArray⟩)∧w.cell? ⟨g,j*3+2,none⟩=some (.bool (decide ((k+3*j+2) % 3=0))):=fun j hj=>by
    have hj':j<(marksO k n).length:=by rw[marksO_length];exact hj
    have:=ocells_at (marksO k n) j hj'
    rw[marksO_at k n j hj'] at this
    exact⟨(hc _ (by omega)).trans this.1,(hc _ (by omega)).trans this.2.1,(hc _ (by omega)).trans this.2.2⟩
   clear hc hf
   go_enter Tryd.func37,Tryd.ntmps37
   go_wp2
   go_loopw [1,5] (fun mm i wr=>∃ j:Nat,j≤n∧i=.int .i64 (j:Int)∧mm=.int .i64 ((k+3*j:Nat):Int)∧w.grownBy wr none) (fun _ i _=>n - (intOf i).toNat)
   case atStart=>exact⟨0,Nat.zero_le _,rfl,rfl,World.grownBy.refl _ _⟩
   case round =>
    obtain⟨j,hj,rfl,rfl,hgr⟩:=hrel
    by_cases hlt:j<n
    · have hj1:(j:Int)<(n:Int):=by omega
      have hj0:(0:Int)≤(j:Int):=by omega
      have c1:=(hgr.cell_far ⟨g,j*3,none⟩ hg2 (by simp)).trans (hcc j hlt).1
      have c2:=(hgr.cell_far ⟨g,j*3+1,none⟩ hg2 (by simp)).trans (hcc j hlt).2.1
      have c3:=(hgr.cell_far ⟨g,j*3+2,none⟩ hg2 (by simp)).trans (hcc j hlt).2.2
      have hwlt:g<wr.heap.size:=Nat.lt_of_lt_of_le hg2 hgr.size
      have HG:Hid (w.grownBy wr none):=hgr
      have K1:=fun W=>markText_any (k+3*j) W (by omega) (by omega)
      have K2:=fun W=>markText_any (k+3*j+1) W (by omega) (by omega)
      rw[show ((k+3*j+1:Nat):Int)=((k+3*j:Nat):Int)+1 by omega] at K2
      obtain⟨q,hq⟩:∃ q,q=k+3*j:=⟨_,rfl⟩
      rw[←hq] at K1 K2 c1 c2 c3 ⊢
      have HQ:Hid (q=k+3*j):=hq
      have hqs:(q:Int)≤100000000:=by omega
      have hq0:(0:Int)≤(q:Int):=by omega
      obtain⟨t1,ht1⟩:∃ t,t=markT q:=⟨_,rfl⟩
      obtain⟨t2,ht2⟩:∃ t,t=markT (q+1):=⟨_,rfl⟩
      obtain⟨t3,ht3⟩:∃ t,t=decide ((q+2) % 3=0):=⟨_,rfl⟩
      have h3:(((q:Int)+2) % 3 == 0)=t3:=by
       rw[ht3,Bool.eq_iff_iff];simp;omega
      have h3d:decide (((q:Int)+2) % 3=0)=t3:=by
       rw[ht3,Bool.eq_iff_iff];simp;omega
      have h3t:(((q:Int)+2).tmod 3 == 0)=t3:=by
       rw[Int.tmod_eq_emod_of_nonneg (by omega)];exact h3
      have h3s:((q:Int)+1+1)=(q:Int)+2:=by omega
      rw[←ht1] at K1 c1
      rw[←ht2] at K2 c2
      rw[←ht3] at c3
      clear hcc hgr hv hq ht1 ht2 ht3
      go_wp2_with fail
      go_region_held3 (fun w'=>w'.cell? ⟨g,j*3,none⟩=some (.string ⟨t1.toArray⟩))
       (first | assumption | go_keep)
       ((go_at_call 35;refine (K1 _).mono ?_;rintro e w1 ⟨rfl,hb1⟩;have d1:=(hb1.cell (p:=⟨g,j*3,none⟩) (by simp;omega)).trans c1))
      all_goals
       have hb1':Below wr.heap.size wr w1:=⟨hb1.os,hb1.tape,hb1.output,hb1.size,hb1.block⟩
       have e2:=(hb1'.cell (p:=⟨g,j*3+1,none⟩) hwlt).trans c2
       have e3:=(hb1'.cell (p:=⟨g,j*3+2,none⟩) hwlt).trans c3
       have hw1:g<w1.heap.size:=Nat.lt_of_lt_of_le hwlt hb1'.size
       have HG1:Hid (w.grownBy w1 none):=HG.out.trans (grown_of_below hb1' none)
       clear hb1
       go_wp2_with fail
       go_region_held3 (fun w'=>w'.cell? ⟨g,j*3+1,none⟩=some (.string ⟨t2.toArray⟩))
        (first | assumption | go_keep)
        ((go_at_call 35;refine (K2 _).mono ?_;rintro e w2 ⟨rfl,hb2⟩;have d2:=(hb2.cell (p:=⟨g,j*3+1,none⟩) (by simp;omega)).trans e2))
       all_goals
        have hb2':Below w1.heap.size w1 w2:=⟨hb2.os,hb2.tape,hb2.output,hb2.size,hb2.block⟩
        have d3:=(hb2'.cell (p:=⟨g,j*3+2,none⟩) hw1).trans e3
        have HG2:Hid (w.grownBy w2 none):=HG1.out.trans (grown_of_below hb2' none)
        clear hb2
        go_wp2
        go_roundw
        case rel=>exact⟨j+1,by omega,by go_num,by have:=HQ.out;congr 1;omega,HG2.out⟩
        case measure=>simp[intOf];omega
    · have hjl:j=n:=by omega
      subst hjl
      go_wp2
      go_ret
      exact⟨by congr 2,hgr⟩
end Go.Proofs.YtbpgpmchnjbclaaDoor
