/-
 Contracts: whether pairs are right, of the program and of the model.
-/
import Derived.Test.YtdcmncjoppmlhaaPairs
import Derived.Test.YtdcmncjoppmlhaaMath2
import Derived.BigQuiet
import Derived.Deep.QuietTactic
namespace Go.Proofs.Ytdcmncjoppmlhaa
open Go.RowKit
set_option linter.unusedVariables false
def keyAt (ps:List PairL) (j:Nat):List UInt8:=(ps.getD j ([],[])).1
def valAt (ps:List PairL) (j:Nat):List UInt8:=(ps.getD j ([],[])).2
def okAt (ps:List PairL) (j:Nat):Bool:=decide ((keyAt ps j).length≤12) && decide (1≤(valAt ps j).length) && decide ((valAt ps j).length≤60) && (decide (j=0) || Op.bytesLess (keyAt ps (j - 1)) (keyAt ps j))
def pairsOkL (ps:List PairL):Bool:=decide (ps.length≤60) && (List.range ps.length).all (okAt ps)
theorem pairsOk_big (ps:List PairL) (h:¬ ps.length≤60):pairsOkL ps=false:=by simp[pairsOkL,h]
theorem pairsOk_bad (ps:List PairL) (j:Nat) (h:j<ps.length) (hb:okAt ps j=false):pairsOkL ps=false:=by
 have:(List.range ps.length).all (okAt ps)=false:=by
  rw[List.all_eq_false]
  exact⟨j,List.mem_range.2 h,by simp[hb]⟩
 simp[pairsOkL,this]
theorem pairsOk_all (ps:List PairL) (h60:ps.length≤60) (h:∀ j,j<ps.length→okAt ps j=true):pairsOkL ps=true:=by
 simp only[pairsOkL,Bool.and_eq_true,decide_eq_true_eq,List.all_eq_true,List.mem_range]
 exact⟨h60,h⟩
theorem pairsOk_of (ps:List PairL) (h:pairsOkL ps=true):ps.length≤60∧∀ j,j<ps.length→okAt ps j=true:=by
 simpa only[pairsOkL,Bool.and_eq_true,decide_eq_true_eq,List.all_eq_true,List.mem_range] using h
theorem keyAt_lt (ps:List PairL) (j:Nat) (h:j<ps.length):keyAt ps j=ps[j].1:=by simp[keyAt,h]
theorem valAt_lt (ps:List PairL) (j:Nat) (h:j<ps.length):valAt ps j=ps[j].2:=by simp[valAt,h]
theorem below_dr {B:Nat} {w w':World} {q:Nat} (h:Below B w w'):Below B w (w'.drewN q):=⟨h.os,h.tape,h.output,h.size,h.block⟩
theorem ba_toList (l:List UInt8):(⟨l.toArray⟩:ByteArray).toList=l:=by simp
set_option maxRecDepth 100000 in
set_option maxHeartbeats 400000 in
theorem impl_pairsOk (a : Option Addr) (cap : Nat) (ps : List PairL) (w : World) (hl : ps.length ≤ 1048576) (hm : ∀ p ∈ ps, p.1.length ≤ 1048576 ∧ p.2.length ≤ 1048576) (hs : IsPairs w a ps) :
 Calls Try.prog 27 #[.slice a ps.length cap] w fun e w'=>e=.returned (.bool (pairsOkL ps))∧Below w.heap.size w w':=by
 by_cases h60:ps.length≤60
 · have h60' : (ps.length : Int) ≤ 60 := by omega
   rcases hs with rfl | ⟨b,off,rfl,hc⟩
   · go_enter Try.func27,Try.ntmps27
     go_wp2
     refine wp_loop_rounds 1 ?_
     rw[rounds_succ]
     go_wp2
     go_ret
     exact⟨rfl,Below.refl _ _⟩
   · have hm' : ∀ j (h : j < ps.length), ps[j].1.length ≤ 1048576 ∧ ps[j].2.length ≤ 1048576 := fun j h => hm _ (List.getElem_mem _)
     have hc':∀ j,j<ps.length→w.cell? ⟨b,off+j*2,none⟩=some (.string ⟨(keyAt ps j).toArray⟩)∧w.cell? ⟨b,off+j*2+1,none⟩=some (.string ⟨(valAt ps j).toArray⟩):=fun j h=>by rw[keyAt_lt ps j h,valAt_lt ps j h];exact hc j h
     have hm2:∀ j,j<ps.length→(keyAt ps j).length≤1048576∧(valAt ps j).length≤1048576:=fun j h=>by rw[keyAt_lt ps j h,valAt_lt ps j h];exact hm' j h
     obtain⟨r,hr⟩:∃ r,r=pairsOkL ps:=⟨_,rfl⟩
     have HBAD:Hid (∀ j,j<ps.length→okAt ps j=false→r=false):=fun j h hb=>by rw[hr];exact pairsOk_bad ps j h hb
     have HALL:Hid ((∀ j,j<ps.length→okAt ps j=true)→r=true):=fun h=>by rw[hr];exact pairsOk_all ps h60 h
     rw[←hr]
     clear hm hc hm' hr
     go_enter Try.func27,Try.ntmps27
     go_wp2
     go_loopw [3,4,10] (fun _ _ i wr=>∃ j:Nat,j≤ps.length∧i=.int .i64 (j:Int)∧Hid (∀ k,k<j→okAt ps k=true)∧Below w.heap.size w wr) (fun _ _ i _=>ps.length - (intOf i).toNat)
     case atStart=>exact⟨0,Nat.zero_le _,rfl,fun k hk=>by omega,Below.refl _ _⟩
     case round =>
      obtain⟨j,hj,rfl,HA,hbel⟩:=hrel
      have hsz:=hbel.size
      by_cases hlt:j<ps.length
      · obtain ⟨c1', c2'⟩ := hc' j hlt
        have c1:=(hbel.cell (p:=⟨b,off+j*2,none⟩) (World.block_lt_of_cell? w _ c1')).trans c1'
        have c2:=(hbel.cell (p:=⟨b,off+j*2+1,none⟩) (World.block_lt_of_cell? w _ c2')).trans c2'
        clear c1' c2'
        have m1:=hm2 j hlt
        have hj0:(0:Int)≤(j:Int):=by omega
        have hj1:(j:Int)<(ps.length:Int):=by omega
        have HB:Hid (okAt ps j=false→r=false):=HBAD.out j hlt
        have HN:Hid (okAt ps j=true→∀ k,k<j+1→okAt ps k=true):=fun h k hk=>by
         by_cases e:k=j
         · rw[e];exact h
         · exact HA.out k (by omega)
        have HO:Hid (okAt ps j=(decide ((keyAt ps j).length≤12) && decide (1≤(valAt ps j).length) && decide ((valAt ps j).length≤60) && (decide (j=0) || Op.bytesLess (keyAt ps (j - 1)) (keyAt ps j)))):=rfl
        by_cases hz:j=0
        · subst hz
          simp only[Nat.zero_mul,Nat.add_zero] at c1 c2
          have hz0:¬ (0:Int)<((0:Nat):Int):=by omega
          have hzb:decide ((0:Int)<((0:Nat):Int))=false:=decide_eq_false (by omega)
          obtain⟨x,hx⟩:∃ x,x=keyAt ps 0:=⟨_,rfl⟩
          obtain⟨y,hy⟩:∃ y,y=valAt ps 0:=⟨_,rfl⟩
          rw[←hx] at c1 m1
          rw[←hy] at c2 m1
          have HO2:Hid (okAt ps 0=(decide (x.length≤12) && decide (1≤y.length) && decide (y.length≤60))):=by rw[Hid,HO.out,←hx,←hy];simp
          clear hc' hm2 hx hy HO HA HBAD HALL
          by_cases q1:x.length≤12
          · have q1':(x.length:Int)≤12:=by omega
            have q1b:decide ((12:Int)<(x.length:Int))=false:=decide_eq_false (by omega)
            by_cases q2:1≤y.length
            · have q2':(1:Int)≤(y.length:Int):=by omega
              have q2b:decide ((y.length:Int)<(1:Int))=false:=decide_eq_false (by omega)
              have q2n:¬ y=[]:=by intro e;rw[e] at q2;simp at q2
              have q2p:0<y.length:=by omega
              by_cases q3:y.length≤60
              · have q3':(y.length:Int)≤60:=by omega
                have q3b:decide ((60:Int)<(y.length:Int))=false:=decide_eq_false (by omega)
                have HT:Hid (okAt ps 0=true):=by rw[Hid,HO2.out];simp[q1,q2,q3]
                go_wp2
                go_quiet (fail)
                go_wp2
                go_roundw
                case rel=>exact⟨1,by omega,by first | rfl | go_num,HN.out HT.out,by first | exact hbel | exact (hbel.alloc hsz _) | exact below_dr (hbel.alloc hsz _) | exact below_dr hbel⟩
                case measure=>simp[intOf];omega
              · have q3':¬ (y.length:Int)≤60:=by omega
                have HR:Hid (r=false):=HB.out (by rw[HO2.out];simp[q3])
                go_wp2
                go_ret
                obtain rfl:=HR.out
                exact⟨rfl,by first | exact hbel | exact (hbel.alloc hsz _) | exact below_dr (hbel.alloc hsz _) | exact below_dr hbel⟩
            · have q2':¬ (1:Int)≤(y.length:Int):=by omega
              have HR:Hid (r=false):=HB.out (by rw[HO2.out];simp[q2])
              go_wp2
              go_ret
              obtain rfl:=HR.out
              exact⟨rfl,by first | exact hbel | exact (hbel.alloc hsz _) | exact below_dr (hbel.alloc hsz _) | exact below_dr hbel⟩
          · have q1':¬ (x.length:Int)≤12:=by omega
            have HR:Hid (r=false):=HB.out (by rw[HO2.out];simp[q1])
            go_wp2
            go_ret
            obtain rfl:=HR.out
            exact⟨rfl,by first | exact hbel | exact (hbel.alloc hsz _) | exact below_dr (hbel.alloc hsz _) | exact below_dr hbel⟩
        · obtain ⟨d1', _⟩ := hc' (j - 1) (by omega)
          have d1:=(hbel.cell (p:=⟨b,off+(j - 1)*2,none⟩) (World.block_lt_of_cell? w _ d1')).trans d1'
          clear d1'
          obtain⟨i1,hi1⟩:∃ i1,i1=j - 1:=⟨_,rfl⟩
          rw[←hi1] at d1 HO
          have hz':(0:Int)<(j:Int):=by omega
          have hz'':0<j:=by omega
          have hzb:decide ((0:Int)<(j:Int))=true:=by simp;omega
          have hzi:IntKind.i64.wrap ((j:Int) - 1)=(i1:Int):=by rw[i64_wrap_small _ (by omega) (by omega)];omega
          have hzt:((i1:Int)).toNat=i1:=by omega
          have hi2:(j:Int) - 1=(i1:Int):=by omega
          have hi0:(0:Int)≤(i1:Int):=by omega
          have hi3:(i1:Int)<(ps.length:Int):=by omega
          obtain⟨x,hx⟩:∃ x,x=keyAt ps j:=⟨_,rfl⟩
          obtain⟨y,hy⟩:∃ y,y=valAt ps j:=⟨_,rfl⟩
          obtain⟨z,hz2⟩:∃ z,z=keyAt ps i1:=⟨_,rfl⟩
          rw[←hx] at c1 m1
          rw[←hy] at c2 m1
          rw[←hz2] at d1
          have HO2:Hid (okAt ps j=(decide (x.length≤12) && decide (1≤y.length) && decide (y.length≤60) && Op.bytesLess z x)):=by rw[Hid,HO.out,←hx,←hy,←hz2];simp[hz]
          have d1a:(wr.alloc (.cells #[.string ⟨x.toArray⟩,.string ⟨y.toArray⟩] 54)).cell? ⟨b,off+i1*2,none⟩=some (.string ⟨z.toArray⟩):=by rw[World.cell?_alloc_lt _ _ _ (World.block_lt_of_cell? wr _ d1)];exact d1
          clear hc' hm2 hx hy HO HA HBAD HALL hz2 hi1
          by_cases q1:x.length≤12
          · have q1':(x.length:Int)≤12:=by omega
            have q1b:decide ((12:Int)<(x.length:Int))=false:=decide_eq_false (by omega)
            by_cases q2:1≤y.length
            · have q2':(1:Int)≤(y.length:Int):=by omega
              have q2b:decide ((y.length:Int)<(1:Int))=false:=decide_eq_false (by omega)
              have q2n:¬ y=[]:=by intro e;rw[e] at q2;simp at q2
              have q2p:0<y.length:=by omega
              by_cases q3:y.length≤60
              · have q3':(y.length:Int)≤60:=by omega
                have q3b:decide ((60:Int)<(y.length:Int))=false:=decide_eq_false (by omega)
                cases q4:Op.bytesLess z x with
                | true =>
                  have q4':Op.bytesLess (⟨z.toArray⟩:ByteArray).toList (⟨x.toArray⟩:ByteArray).toList=true:=by rw[ba_toList,ba_toList];exact q4
                  have HT:Hid (okAt ps j=true):=by rw[Hid,HO2.out];simp[q1,q2,q3,q4]
                  go_wp2
                  go_quiet (fail)
                  go_wp2
                  go_roundw
                  case rel=>exact⟨j+1,by omega,by go_num,HN.out HT.out,by first | exact hbel | exact (hbel.alloc hsz _) | exact below_dr (hbel.alloc hsz _) | exact below_dr hbel⟩
                  case measure=>simp[intOf];omega
                | false =>
                  have q4':Op.bytesLess (⟨z.toArray⟩:ByteArray).toList (⟨x.toArray⟩:ByteArray).toList=false:=by rw[ba_toList,ba_toList];exact q4
                  have HR:Hid (r=false):=HB.out (by rw[HO2.out];simp[q4])
                  go_wp2
                  go_quiet (fail)
                  go_wp2
                  go_ret
                  obtain rfl:=HR.out
                  exact⟨rfl,by first | exact hbel | exact (hbel.alloc hsz _) | exact below_dr (hbel.alloc hsz _) | exact below_dr hbel⟩
              · have q3':¬ (y.length:Int)≤60:=by omega
                have HR:Hid (r=false):=HB.out (by rw[HO2.out];simp[q3])
                go_wp2
                go_ret
                obtain rfl:=HR.out
                exact⟨rfl,by first | exact hbel | exact (hbel.alloc hsz _) | exact below_dr (hbel.alloc hsz _) | exact below_dr hbel⟩
            · have q2':¬ (1:Int)≤(y.length:Int):=by omega
              have HR:Hid (r=false):=HB.out (by rw[HO2.out];simp[q2])
              go_wp2
              go_ret
              obtain rfl:=HR.out
              exact⟨rfl,by first | exact hbel | exact (hbel.alloc hsz _) | exact below_dr (hbel.alloc hsz _) | exact below_dr hbel⟩
          · have q1':¬ (x.length:Int)≤12:=by omega
            have HR:Hid (r=false):=HB.out (by rw[HO2.out];simp[q1])
            go_wp2
            go_ret
            obtain rfl:=HR.out
            exact⟨rfl,by first | exact hbel | exact (hbel.alloc hsz _) | exact below_dr (hbel.alloc hsz _) | exact below_dr hbel⟩
      · have hjl:j=ps.length:=by omega
        subst hjl
        have HR:Hid (r=true):=HALL.out (fun k hk=>HA.out k hk)
        clear hc' hm2
        go_wp2
        go_ret
        obtain rfl:=HR.out
        exact⟨rfl,by first | exact hbel | exact (hbel.alloc hsz _) | exact below_dr (hbel.alloc hsz _) | exact below_dr hbel⟩
 · have h60':¬ (ps.length:Int)≤60:=by omega
   have HB:Hid (pairsOkL ps=false):=pairsOk_big ps h60
   obtain⟨r,hr⟩:∃ r,r=pairsOkL ps:=⟨_,rfl⟩
   rw[←hr] at HB ⊢
   clear hs hm hr
   go_enter Try.func27,Try.ntmps27
   go_wp2
   go_ret
   obtain rfl:=HB.out
   exact⟨rfl,Below.refl _ _⟩
set_option maxRecDepth 100000 in
set_option maxHeartbeats 400000 in
theorem spec_pairsOk (a : Option Addr) (cap : Nat) (ps : List PairL) (w : World) (hl : ps.length ≤ 1048576) (hm : ∀ p ∈ ps, p.1.length ≤ 1048576 ∧ p.2.length ≤ 1048576) (hs : IsPairs w a ps) :
 Calls Try.prog 21 #[.slice a ps.length cap] w fun e w'=>e=.returned (.bool (pairsOkL ps))∧Below w.heap.size w w':=by
 by_cases h60:ps.length≤60
 · have h60' : (ps.length : Int) ≤ 60 := by omega
   rcases hs with rfl | ⟨b,off,rfl,hc⟩
   · go_enter Try.func21,Try.ntmps21
     go_wp2
     refine wp_loop_rounds 1 ?_
     rw[rounds_succ]
     go_wp2
     go_ret
     exact⟨rfl,Below.refl _ _⟩
   · have hm' : ∀ j (h : j < ps.length), ps[j].1.length ≤ 1048576 ∧ ps[j].2.length ≤ 1048576 := fun j h => hm _ (List.getElem_mem _)
     have hc':∀ j,j<ps.length→w.cell? ⟨b,off+j*2,none⟩=some (.string ⟨(keyAt ps j).toArray⟩)∧w.cell? ⟨b,off+j*2+1,none⟩=some (.string ⟨(valAt ps j).toArray⟩):=fun j h=>by rw[keyAt_lt ps j h,valAt_lt ps j h];exact hc j h
     have hm2:∀ j,j<ps.length→(keyAt ps j).length≤1048576∧(valAt ps j).length≤1048576:=fun j h=>by rw[keyAt_lt ps j h,valAt_lt ps j h];exact hm' j h
     obtain⟨r,hr⟩:∃ r,r=pairsOkL ps:=⟨_,rfl⟩
     have HBAD:Hid (∀ j,j<ps.length→okAt ps j=false→r=false):=fun j h hb=>by rw[hr];exact pairsOk_bad ps j h hb
     have HALL:Hid ((∀ j,j<ps.length→okAt ps j=true)→r=true):=fun h=>by rw[hr];exact pairsOk_all ps h60 h
     rw[←hr]
     clear hm hc hm' hr
     go_enter Try.func21,Try.ntmps21
     go_wp2
     go_loopw [3] (fun i wr=>∃ j:Nat,j≤ps.length∧i=.int .i64 (j:Int)∧Hid (∀ k,k<j→okAt ps k=true)∧Below w.heap.size w wr) (fun i _=>ps.length - (intOf i).toNat)
     case atStart=>exact⟨0,Nat.zero_le _,rfl,fun k hk=>by omega,Below.refl _ _⟩
     case round =>
      obtain⟨j,hj,rfl,HA,hbel⟩:=hrel
      have hsz:=hbel.size
      by_cases hlt:j<ps.length
      · obtain ⟨c1', c2'⟩ := hc' j hlt
        have c1:=(hbel.cell (p:=⟨b,off+j*2,none⟩) (World.block_lt_of_cell? w _ c1')).trans c1'
        have c2:=(hbel.cell (p:=⟨b,off+j*2+1,none⟩) (World.block_lt_of_cell? w _ c2')).trans c2'
        clear c1' c2'
        have m1:=hm2 j hlt
        have hj0:(0:Int)≤(j:Int):=by omega
        have hj1:(j:Int)<(ps.length:Int):=by omega
        have HB:Hid (okAt ps j=false→r=false):=HBAD.out j hlt
        have HN:Hid (okAt ps j=true→∀ k,k<j+1→okAt ps k=true):=fun h k hk=>by
         by_cases e:k=j
         · rw[e];exact h
         · exact HA.out k (by omega)
        have HO:Hid (okAt ps j=(decide ((keyAt ps j).length≤12) && decide (1≤(valAt ps j).length) && decide ((valAt ps j).length≤60) && (decide (j=0) || Op.bytesLess (keyAt ps (j - 1)) (keyAt ps j)))):=rfl
        by_cases hz:j=0
        · subst hz
          simp only[Nat.zero_mul,Nat.add_zero] at c1 c2
          have hz0:¬ (0:Int)<((0:Nat):Int):=by omega
          have hzb:decide ((0:Int)<((0:Nat):Int))=false:=decide_eq_false (by omega)
          obtain⟨x,hx⟩:∃ x,x=keyAt ps 0:=⟨_,rfl⟩
          obtain⟨y,hy⟩:∃ y,y=valAt ps 0:=⟨_,rfl⟩
          rw[←hx] at c1 m1
          rw[←hy] at c2 m1
          have HO2:Hid (okAt ps 0=(decide (x.length≤12) && decide (1≤y.length) && decide (y.length≤60))):=by rw[Hid,HO.out,←hx,←hy];simp
          clear hc' hm2 hx hy HO HA HBAD HALL
          by_cases q1:x.length≤12
          · have q1':(x.length:Int)≤12:=by omega
            have q1b:decide ((12:Int)<(x.length:Int))=false:=decide_eq_false (by omega)
            by_cases q2:1≤y.length
            · have q2':(1:Int)≤(y.length:Int):=by omega
              have q2b:decide ((y.length:Int)<(1:Int))=false:=decide_eq_false (by omega)
              have q2n:¬ y=[]:=by intro e;rw[e] at q2;simp at q2
              have q2p:0<y.length:=by omega
              by_cases q3:y.length≤60
              · have q3':(y.length:Int)≤60:=by omega
                have q3b:decide ((60:Int)<(y.length:Int))=false:=decide_eq_false (by omega)
                have HT:Hid (okAt ps 0=true):=by rw[Hid,HO2.out];simp[q1,q2,q3]
                go_wp2
                go_quiet (fail)
                go_wp2
                go_roundw
                case rel=>exact⟨1,by omega,by first | rfl | go_num,HN.out HT.out,by first | exact hbel | exact (hbel.alloc hsz _) | exact below_dr (hbel.alloc hsz _) | exact below_dr hbel⟩
                case measure=>simp[intOf];omega
              · have q3':¬ (y.length:Int)≤60:=by omega
                have HR:Hid (r=false):=HB.out (by rw[HO2.out];simp[q3])
                go_wp2
                go_quiet (fail)
                go_wp2
                go_ret
                obtain rfl:=HR.out
                exact⟨rfl,by first | exact hbel | exact (hbel.alloc hsz _) | exact below_dr (hbel.alloc hsz _) | exact below_dr hbel⟩
            · have q2':¬ (1:Int)≤(y.length:Int):=by omega
              have HR:Hid (r=false):=HB.out (by rw[HO2.out];simp[q2])
              go_wp2
              go_quiet (fail)
              go_wp2
              go_ret
              obtain rfl:=HR.out
              exact⟨rfl,by first | exact hbel | exact (hbel.alloc hsz _) | exact below_dr (hbel.alloc hsz _) | exact below_dr hbel⟩
          · have q1':¬ (x.length:Int)≤12:=by omega
            have HR:Hid (r=false):=HB.out (by rw[HO2.out];simp[q1])
            go_wp2
            go_quiet (fail)
            go_wp2
            go_ret
            obtain rfl:=HR.out
            exact⟨rfl,by first | exact hbel | exact (hbel.alloc hsz _) | exact below_dr (hbel.alloc hsz _) | exact below_dr hbel⟩
        · obtain ⟨d1', _⟩ := hc' (j - 1) (by omega)
          have d1:=(hbel.cell (p:=⟨b,off+(j - 1)*2,none⟩) (World.block_lt_of_cell? w _ d1')).trans d1'
          clear d1'
          obtain⟨i1,hi1⟩:∃ i1,i1=j - 1:=⟨_,rfl⟩
          rw[←hi1] at d1 HO
          have hz':(0:Int)<(j:Int):=by omega
          have hz'':0<j:=by omega
          have hzb:decide ((0:Int)<(j:Int))=true:=by simp;omega
          have hzi:IntKind.i64.wrap ((j:Int) - 1)=(i1:Int):=by rw[i64_wrap_small _ (by omega) (by omega)];omega
          have hzt:((i1:Int)).toNat=i1:=by omega
          have hi2:(j:Int) - 1=(i1:Int):=by omega
          have hi0:(0:Int)≤(i1:Int):=by omega
          have hi3:(i1:Int)<(ps.length:Int):=by omega
          obtain⟨x,hx⟩:∃ x,x=keyAt ps j:=⟨_,rfl⟩
          obtain⟨y,hy⟩:∃ y,y=valAt ps j:=⟨_,rfl⟩
          obtain⟨z,hz2⟩:∃ z,z=keyAt ps i1:=⟨_,rfl⟩
          rw[←hx] at c1 m1
          rw[←hy] at c2 m1
          rw[←hz2] at d1
          have HO2:Hid (okAt ps j=(decide (x.length≤12) && decide (1≤y.length) && decide (y.length≤60) && Op.bytesLess z x)):=by rw[Hid,HO.out,←hx,←hy,←hz2];simp[hz]
          clear hc' hm2 hx hy HO HA HBAD HALL hz2 hi1
          by_cases q1:x.length≤12
          · have q1':(x.length:Int)≤12:=by omega
            have q1b:decide ((12:Int)<(x.length:Int))=false:=decide_eq_false (by omega)
            by_cases q2:1≤y.length
            · have q2':(1:Int)≤(y.length:Int):=by omega
              have q2b:decide ((y.length:Int)<(1:Int))=false:=decide_eq_false (by omega)
              have q2n:¬ y=[]:=by intro e;rw[e] at q2;simp at q2
              have q2p:0<y.length:=by omega
              by_cases q3:y.length≤60
              · have q3':(y.length:Int)≤60:=by omega
                have q3b:decide ((60:Int)<(y.length:Int))=false:=decide_eq_false (by omega)
                cases q4:Op.bytesLess z x with
                | true =>
                  have q4':Op.bytesLess (⟨z.toArray⟩:ByteArray).toList (⟨x.toArray⟩:ByteArray).toList=true:=by rw[ba_toList,ba_toList];exact q4
                  have HT:Hid (okAt ps j=true):=by rw[Hid,HO2.out];simp[q1,q2,q3,q4]
                  go_wp2
                  go_quiet (fail)
                  go_wp2
                  go_roundw
                  case rel=>exact⟨j+1,by omega,by go_num,HN.out HT.out,by first | exact hbel | exact (hbel.alloc hsz _) | exact below_dr (hbel.alloc hsz _) | exact below_dr hbel⟩
                  case measure=>simp[intOf];omega
                | false =>
                  have q4':Op.bytesLess (⟨z.toArray⟩:ByteArray).toList (⟨x.toArray⟩:ByteArray).toList=false:=by rw[ba_toList,ba_toList];exact q4
                  have HR:Hid (r=false):=HB.out (by rw[HO2.out];simp[q4])
                  go_wp2
                  go_quiet (fail)
                  go_wp2
                  go_ret
                  obtain rfl:=HR.out
                  exact⟨rfl,by first | exact hbel | exact (hbel.alloc hsz _) | exact below_dr (hbel.alloc hsz _) | exact below_dr hbel⟩
              · have q3':¬ (y.length:Int)≤60:=by omega
                have HR:Hid (r=false):=HB.out (by rw[HO2.out];simp[q3])
                go_wp2
                go_quiet (fail)
                go_wp2
                go_ret
                obtain rfl:=HR.out
                exact⟨rfl,by first | exact hbel | exact (hbel.alloc hsz _) | exact below_dr (hbel.alloc hsz _) | exact below_dr hbel⟩
            · have q2':¬ (1:Int)≤(y.length:Int):=by omega
              have HR:Hid (r=false):=HB.out (by rw[HO2.out];simp[q2])
              go_wp2
              go_quiet (fail)
              go_wp2
              go_ret
              obtain rfl:=HR.out
              exact⟨rfl,by first | exact hbel | exact (hbel.alloc hsz _) | exact below_dr (hbel.alloc hsz _) | exact below_dr hbel⟩
          · have q1':¬ (x.length:Int)≤12:=by omega
            have HR:Hid (r=false):=HB.out (by rw[HO2.out];simp[q1])
            go_wp2
            go_quiet (fail)
            go_wp2
            go_ret
            obtain rfl:=HR.out
            exact⟨rfl,by first | exact hbel | exact (hbel.alloc hsz _) | exact below_dr (hbel.alloc hsz _) | exact below_dr hbel⟩
      · have hjl:j=ps.length:=by omega
        subst hjl
        have HR:Hid (r=true):=HALL.out (fun k hk=>HA.out k hk)
        clear hc' hm2
        go_wp2
        go_ret
        obtain rfl:=HR.out
        exact⟨rfl,by first | exact hbel | exact (hbel.alloc hsz _) | exact below_dr (hbel.alloc hsz _) | exact below_dr hbel⟩
 · have h60':¬ (ps.length:Int)≤60:=by omega
   have HB:Hid (pairsOkL ps=false):=pairsOk_big ps h60
   obtain⟨r,hr⟩:∃ r,r=pairsOkL ps:=⟨_,rfl⟩
   rw[←hr] at HB ⊢
   clear hs hm hr
   go_enter Try.func21,Try.ntmps21
   go_wp2
   go_ret
   obtain rfl:=HB.out
   exact⟨rfl,Below.refl _ _⟩
end Go.Proofs.Ytdcmncjoppmlhaa
