/-
 Contracts of the laws' own helpers on rows of disk ops and on disks: marks laid, marks held (written by mkdopm.py).
-/
import Derived.Test.YtlllkdioojjaeaaDOpS
import Derived.Test.YtlllkdioojjaeaaFileM
import Derived.Test.YtlllkdioojjaeaaSDiskOk
namespace Go.Proofs.Ytlllkdioojjaeaa
open Go.RowKit
set_option linter.unusedVariables false
set_option maxRecDepth 100000 in
set_option maxHeartbeats 1000000 in
theorem markDOpS_any (ps:List DOpL) (a:Option Addr) (m cap b1 k:Nat) (w:World) (hl:ps.length≤4000000) (hk:0<k) (hk2:k≤6000000) (hv:w.ownsRow b1 40 4 (.slice a m cap) ps.length (dcells ps)) :
 Calls Try.prog 58 #[.slice a m cap,.int .i64 k] w fun e w'=>e=.returned (.int .i64 ((k:Int)+4*(ps.length:Int)))∧w'.ownsRow b1 40 4 (.slice a m cap) ps.length (dcells (marksD k ps.length))∧w.grownBy w' (Value.slice a m cap).ownBlock:=by
 rcases own_cases4 hv with ⟨hv0,hn,hx⟩ | ⟨g,cap',hv0,hg1,hg2,hc,hf⟩
 · cases hv0
   have hls:ps=[]:=List.length_eq_zero_iff.1 hn
   subst hls
   go_enter Try.func58,Try.ntmps58
   go_wp2
   refine wp_loop_rounds 1 ?_
   rw[rounds_succ]
   go_wp2
   go_ret
   exact⟨by simp,hv,World.grownBy.refl _ _⟩
 · cases hv0
   clear hc hf
   go_enter Try.func58,Try.ntmps58
   go_wp2
   go_loopw [1,5] (fun mm i wr=>∃ j:Nat,j≤ps.length∧i=.int .i64 (j:Int)∧mm=.int .i64 ((k+4*j:Nat):Int)∧wr.ownsRow b1 40 4 (.slice (some ⟨g,0,none⟩) ps.length cap) ps.length (markedD k j ps)∧w.grownBy wr (some g)) (fun _ i _=>ps.length - (intOf i).toNat)
   case atStart=>exact⟨0,Nat.zero_le _,rfl,rfl,by rw[markedD_zero];exact hv,World.grownBy.refl _ _⟩
   case round =>
    obtain⟨j,hj,rfl,rfl,hown,hgr⟩:=hrel
    by_cases hlt:j<ps.length
    · have hj1:(j:Int)<(ps.length:Int):=by omega
      have hj0:(0:Int)≤(j:Int):=by omega
      have HLEN:Hid ((markedD k j ps).length=ps.length*4):=markedD_length k j ps (by omega)
      have HSTEP:Hid ((((((markedD k j ps).set (j*4) (.int .i64 ((k+4*j:Nat):Int))).set (j*4+1) (.string ⟨(markT (k+4*j+1)).toArray⟩)).set (j*4+2) (.string ⟨(markT (k+4*j+2)).toArray⟩)).set (j*4+3) (.string ⟨(markT (k+4*j+3)).toArray⟩))=markedD k (j+1) ps):=markedD_step k j ps hlt
      have K1:=fun W=>markText_any (k+4*j+1) W (by omega) (by omega)
      have K2:=fun W=>markText_any (k+4*j+2) W (by omega) (by omega)
      have K3:=fun W=>markText_any (k+4*j+3) W (by omega) (by omega)
      rw[show ((k+4*j+1:Nat):Int)=((k+4*j:Nat):Int)+1 by omega] at K1
      rw[show ((k+4*j+2:Nat):Int)=((k+4*j:Nat):Int)+1+1 by omega] at K2
      rw[show ((k+4*j+3:Nat):Int)=((k+4*j:Nat):Int)+1+1+1 by omega] at K3
      obtain⟨q,hq⟩:∃ q,q=k+4*j:=⟨_,rfl⟩
      rw[←hq] at K1 K2 K3 HSTEP ⊢
      have HQ:Hid (q=k+4*j):=hq
      have hqs:(q:Int)≤100000000:=by omega
      have hq0:(0:Int)≤(q:Int):=by omega
      obtain⟨t1,ht1⟩:∃ t,t=markT (q+1):=⟨_,rfl⟩
      obtain⟨t2,ht2⟩:∃ t,t=markT (q+2):=⟨_,rfl⟩
      obtain⟨t3,ht3⟩:∃ t,t=markT (q+3):=⟨_,rfl⟩
      rw[←ht1] at K1 HSTEP
      rw[←ht2] at K2 HSTEP
      rw[←ht3] at K3 HSTEP
      obtain⟨x0,hx0⟩:∃ o,wr.cell? ⟨g,j*4,none⟩=some o:=by rw[hown.cellAt (j*4) (by omega)];exact⟨_,List.getElem?_eq_getElem (by rw[HLEN.out];omega)⟩
      have f0:=hown.frozenAt (j*4)
      have st0:=hown.stored (j*4) (.int .i64 ((q:Nat):Int))
      have O0:=hidOwn st0.1
      have HG0:Hid (w.grownBy (wr.setCell ⟨g,j*4,none⟩ (.int .i64 ((q:Nat):Int))) (some g)):=hgr.trans st0.2
      clear hown hgr hq ht1 ht2 ht3 st0
      go_wp2_with fail
      refine (K1 _).mono ?_
      rintro e w1 ⟨rfl,b1'⟩
      have o1:=kept4 O0.out b1'
      have g1:=HG0.out.trans (grown_of_below b1' (some g))
      obtain⟨x1,hx1⟩:∃ o,w1.cell? ⟨g,j*4+1,none⟩=some o:=by rw[o1.cellAt (j*4+1) (by omega)];exact⟨_,List.getElem?_eq_getElem (by simp only[List.length_set];rw[HLEN.out];omega)⟩
      have f1:=o1.frozenAt (j*4+1)
      have st1:=o1.stored (j*4+1) (.string ⟨t1.toArray⟩)
      have O1:=hidOwn st1.1
      have HG1:Hid (w.grownBy (w1.setCell ⟨g,j*4+1,none⟩ (.string ⟨t1.toArray⟩)) (some g)):=g1.trans st1.2
      clear o1 g1 st1 b1' O0 HG0 hx0 f0
      go_wp2_with fail
      refine (K2 _).mono ?_
      rintro e w2 ⟨rfl,b2'⟩
      have o2:=kept4 O1.out b2'
      have g2:=HG1.out.trans (grown_of_below b2' (some g))
      obtain⟨x2,hx2⟩:∃ o,w2.cell? ⟨g,j*4+2,none⟩=some o:=by rw[o2.cellAt (j*4+2) (by omega)];exact⟨_,List.getElem?_eq_getElem (by simp only[List.length_set];rw[HLEN.out];omega)⟩
      have f2:=o2.frozenAt (j*4+2)
      have st2:=o2.stored (j*4+2) (.string ⟨t2.toArray⟩)
      have O2:=hidOwn st2.1
      have HG2:Hid (w.grownBy (w2.setCell ⟨g,j*4+2,none⟩ (.string ⟨t2.toArray⟩)) (some g)):=g2.trans st2.2
      clear o2 g2 st2 b2' O1 HG1 hx1 f1
      go_wp2_with fail
      refine (K3 _).mono ?_
      rintro e w3 ⟨rfl,b3'⟩
      have o3:=kept4 O2.out b3'
      have g3:=HG2.out.trans (grown_of_below b3' (some g))
      obtain⟨x3,hx3⟩:∃ o,w3.cell? ⟨g,j*4+3,none⟩=some o:=by rw[o3.cellAt (j*4+3) (by omega)];exact⟨_,List.getElem?_eq_getElem (by simp only[List.length_set];rw[HLEN.out];omega)⟩
      have f3:=o3.frozenAt (j*4+3)
      have st3:=o3.stored (j*4+3) (.string ⟨t3.toArray⟩)
      rw[HSTEP.out] at st3
      have O3:=hidOwn st3.1
      have HG3:Hid (w.grownBy (w3.setCell ⟨g,j*4+3,none⟩ (.string ⟨t3.toArray⟩)) (some g)):=g3.trans st3.2
      clear o3 g3 st3 b3' O2 HG2 hx2 f2
      go_wp2
      go_roundw
      case rel=>exact⟨j+1,by omega,by go_num,by have:=HQ.out;congr 1;omega,O3.out,HG3.out⟩
      case measure=>simp[intOf];omega
    · have hjl:j=ps.length:=by omega
      subst hjl
      rw[markedD_all] at hown
      go_wp2
      go_ret
      exact⟨by congr 2,hown,hgr⟩
set_option maxRecDepth 100000 in
set_option maxHeartbeats 2000000 in
theorem heldDOpS_any (n : Nat) (a : Option Addr) (m cap b1 k : Nat) (w : World) (hl : n ≤ 4000000) (hk : 0 < k) (hk2 : k ≤ 6000000) (hv : w.ownsRow b1 40 4 (.slice a m cap) n (dcells (marksD k n))) :
 Calls Try.prog 60 #[.slice a m cap,.int .i64 k] w fun e w'=>e=.returned (.int .i64 ((k:Int)+4*(n:Int)))∧w.grownBy w' none:=by
 rcases own_cases4 hv with ⟨hv0,hn,hx⟩ | ⟨g,cap',hv0,hg1,hg2,hc,hf⟩
 · cases hv0
   subst hn
   go_enter Try.func60,Try.ntmps60
   go_wp2
   refine wp_loop_rounds 1 ?_
   rw[rounds_succ]
   go_wp2
   go_ret
   exact⟨by simp,World.grownBy.refl _ _⟩
 · cases hv0
   have hcc:∀ j,j<n→w.cell? ⟨g,j*4,none⟩=some (.int .i64 ((k+4*j:Nat):Int))∧w.cell? ⟨g,j*4+1,none⟩=some (.string ⟨(markT (k+4*j+1)).toArray⟩)∧w.cell? ⟨g,j*4+2,none⟩=some (.string ⟨(markT (k+4*j+2)).toArray⟩)∧w.cell? ⟨g,j*4+3,none⟩=some (.string ⟨(markT (k+4*j+3)).toArray⟩):=fun j hj=>by
    have hj':j<(marksD k n).length:=by rw[marksD_length];exact hj
    have:=dcells_at (marksD k n) j hj'
    rw[marksD_at k n j hj'] at this
    exact⟨(hc _ (by omega)).trans this.1,(hc _ (by omega)).trans this.2.1,(hc _ (by omega)).trans this.2.2.1,(hc _ (by omega)).trans this.2.2.2⟩
   clear hc hf
   go_enter Try.func60,Try.ntmps60
   go_wp2
   go_loopw [1,5] (fun mm i wr=>∃ j:Nat,j≤n∧i=.int .i64 (j:Int)∧mm=.int .i64 ((k+4*j:Nat):Int)∧w.grownBy wr none) (fun _ i _=>n - (intOf i).toNat)
   case atStart=>exact⟨0,Nat.zero_le _,rfl,rfl,World.grownBy.refl _ _⟩
   case round =>
    obtain⟨j,hj,rfl,rfl,hgr⟩:=hrel
    by_cases hlt:j<n
    · have hj1:(j:Int)<(n:Int):=by omega
      have hj0:(0:Int)≤(j:Int):=by omega
      have c0:=(hgr.cell_far ⟨g,j*4,none⟩ hg2 (by simp)).trans (hcc j hlt).1
      have c1:=(hgr.cell_far ⟨g,j*4+1,none⟩ hg2 (by simp)).trans (hcc j hlt).2.1
      have c2:=(hgr.cell_far ⟨g,j*4+2,none⟩ hg2 (by simp)).trans (hcc j hlt).2.2.1
      have c3:=(hgr.cell_far ⟨g,j*4+3,none⟩ hg2 (by simp)).trans (hcc j hlt).2.2.2
      have hltwr:g<wr.heap.size:=Nat.lt_of_lt_of_le hg2 hgr.size
      have HG0:Hid (w.grownBy wr none):=hgr
      have K1:=fun W=>markText_any (k+4*j+1) W (by omega) (by omega)
      have K2:=fun W=>markText_any (k+4*j+2) W (by omega) (by omega)
      have K3:=fun W=>markText_any (k+4*j+3) W (by omega) (by omega)
      rw[show ((k+4*j+1:Nat):Int)=((k+4*j:Nat):Int)+1 by omega] at K1
      rw[show ((k+4*j+2:Nat):Int)=((k+4*j:Nat):Int)+1+1 by omega] at K2
      rw[show ((k+4*j+3:Nat):Int)=((k+4*j:Nat):Int)+1+1+1 by omega] at K3
      obtain⟨q,hq⟩:∃ q,q=k+4*j:=⟨_,rfl⟩
      rw[←hq] at K1 K2 K3 c0 c1 c2 c3 ⊢
      have HQ:Hid (q=k+4*j):=hq
      have hqs:(q:Int)≤100000000:=by omega
      have hq0:(0:Int)≤(q:Int):=by omega
      obtain⟨t1,ht1⟩:∃ t,t=markT (q+1):=⟨_,rfl⟩
      obtain⟨t2,ht2⟩:∃ t,t=markT (q+2):=⟨_,rfl⟩
      obtain⟨t3,ht3⟩:∃ t,t=markT (q+3):=⟨_,rfl⟩
      rw[←ht1] at K1 c1
      rw[←ht2] at K2 c2
      rw[←ht3] at K3 c3
      clear hcc hgr hv hq ht1 ht2 ht3
      first | (go_wp2;go_quiet (fail)) | skip
      go_wp2_with fail
      go_region_held3 (fun w'=>w'.cell? ⟨g,j*4+1,none⟩=some (.string ⟨t1.toArray⟩))
       (first | assumption | go_keep)
       ((go_at_call 85;refine (K1 _).mono ?_;rintro e w1 ⟨rfl,hb1⟩;have d1:=(hb1.cell (p:=⟨g,j*4+1,none⟩) (by simp;omega)).trans c1))
      all_goals
       have hb1':Below wr.heap.size wr w1:=⟨hb1.os,hb1.tape,hb1.output,hb1.size,hb1.block⟩
       have e12:=(hb1'.cell (p:=⟨g,j*4+2,none⟩) hltwr).trans c2
       have e13:=(hb1'.cell (p:=⟨g,j*4+3,none⟩) hltwr).trans c3
       have hltw1:g<w1.heap.size:=Nat.lt_of_lt_of_le hltwr hb1'.size
       have HG1:Hid (w.grownBy w1 none):=HG0.out.trans (grown_of_below hb1' none)
       clear hb1
       go_wp2_with fail
       go_region_held3 (fun w'=>w'.cell? ⟨g,j*4+2,none⟩=some (.string ⟨t2.toArray⟩))
        (first | assumption | go_keep)
        ((go_at_call 85;refine (K2 _).mono ?_;rintro e w2 ⟨rfl,hb2⟩;have d2:=(hb2.cell (p:=⟨g,j*4+2,none⟩) (by simp;omega)).trans e12))
       all_goals
        have hb2':Below w1.heap.size w1 w2:=⟨hb2.os,hb2.tape,hb2.output,hb2.size,hb2.block⟩
        have e23:=(hb2'.cell (p:=⟨g,j*4+3,none⟩) hltw1).trans e13
        have hltw2:g<w2.heap.size:=Nat.lt_of_lt_of_le hltw1 hb2'.size
        have HG2:Hid (w.grownBy w2 none):=HG1.out.trans (grown_of_below hb2' none)
        clear hb2
        go_wp2_with fail
        go_region_held3 (fun w'=>w'.cell? ⟨g,j*4+3,none⟩=some (.string ⟨t3.toArray⟩))
         (first | assumption | go_keep)
         ((go_at_call 85;refine (K3 _).mono ?_;rintro e w3 ⟨rfl,hb3⟩;have d3:=(hb3.cell (p:=⟨g,j*4+3,none⟩) (by simp;omega)).trans e23))
        all_goals
         have hb3':Below w2.heap.size w2 w3:=⟨hb3.os,hb3.tape,hb3.output,hb3.size,hb3.block⟩
         have hltw3:g<w3.heap.size:=Nat.lt_of_lt_of_le hltw2 hb3'.size
         have HG3:Hid (w.grownBy w3 none):=HG2.out.trans (grown_of_below hb3' none)
         clear hb3
         go_wp2
         go_roundw
         case rel=>exact⟨j+1,by omega,by go_num,by have:=HQ.out;congr 1;omega,HG3.out⟩
         case measure=>simp[intOf];omega
    · have hjl:j=n:=by omega
      subst hjl
      go_wp2
      go_ret
      exact⟨by congr 2,hgr⟩
end Go.Proofs.Ytlllkdioojjaeaa
