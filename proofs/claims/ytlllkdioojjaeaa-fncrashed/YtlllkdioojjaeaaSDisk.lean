/-
 Contracts of chapter 14's model: names, files, forms.
-/
import Derived.Test.YtlllkdioojjaeaaMathDisk
namespace Go.Proofs.Ytlllkdioojjaeaa
open Go.RowKit
set_option linter.unusedVariables false
set_option maxRecDepth 100000 in
theorem spec_name (s:List UInt8) (w:World) (hs:s.length≤16777216) :
 Calls Try.prog 75 #[.string ⟨s.toArray⟩] w fun e w'=>e=.returned (.bool (nameOk s))∧w'=w:=by
 have hz:(ByteArray.mk s.toArray).size=s.length:=by simp[ByteArray.size]
 by_cases h1:1≤s.length
 · by_cases h2:s.length≤100
   · have HR:Hid (nameOk s=true):=by rw[Hid,nameOk,decide_eq_true h1,decide_eq_true h2];rfl
     have h1':(1:Int)≤(s.length:Int):=by omega
     have h2':(s.length:Int)≤100:=by omega
     rw[HR.out]
     clear h1 h2
     go_enter Try.func75,Try.ntmps75
     go_wp2
     go_ret
     exact⟨rfl,rfl⟩
   · have HR:Hid (nameOk s=false):=by rw[Hid,nameOk,decide_eq_false h2];simp
     have h1':(1:Int)≤(s.length:Int):=by omega
     have h2':¬ (s.length:Int)≤100:=by omega
     rw[HR.out]
     clear h1 h2
     go_enter Try.func75,Try.ntmps75
     go_wp2
     go_ret
     exact⟨rfl,rfl⟩
 · have HR:Hid (nameOk s=false):=by rw[Hid,nameOk,decide_eq_false h1];rfl
   have h1':¬ (1:Int)≤(s.length:Int):=by omega
   rw[HR.out]
   clear h1
   go_enter Try.func75,Try.ntmps75
   go_wp2
   go_ret
   exact⟨rfl,rfl⟩
set_option maxRecDepth 100000 in
set_option maxHeartbeats 1000000 in
theorem spec_files (a : Option Addr) (cap : Nat) (ps : List PairL) (w : World) (hl : ps.length ≤ 16777216) (hm : ∀ p ∈ ps, p.1.length ≤ 16777216 ∧ p.2.length ≤ 16777216) (hs : IsPairs w a ps) :
 Calls Try.prog 41 #[.slice a ps.length cap] w fun e w'=>e=.returned (.bool (filesOk ps))∧Below w.heap.size w w':=by
 by_cases h60:ps.length≤60
 · have h60' : (ps.length : Int) ≤ 60 := by omega
   rcases hs with rfl | ⟨b,off,rfl,hc⟩
   · have HR:Hid (filesOk []=true):=rfl
     rw[HR.out]
     go_enter Try.func41,Try.ntmps41
     go_wp2
     refine wp_loop_rounds 1 ?_
     rw[rounds_succ]
     go_wp2
     go_ret
     exact⟨rfl,Below.refl _ _⟩
   · have hc' : ∀ j, j < ps.length → w.cell? ⟨b, off + j * 2, none⟩ = some (.string ⟨(keyAt ps j).toArray⟩) ∧ w.cell? ⟨b, off + j * 2 + 1, none⟩ = some (.string ⟨(valAt ps j).toArray⟩) := fun j h => by rw [keyAt_lt ps j h, valAt_lt ps j h]; exact hc j h
     have hm2:∀ j,j<ps.length→(keyAt ps j).length≤16777216∧(valAt ps j).length≤16777216:=fun j h=>by rw[keyAt_lt ps j h,valAt_lt ps j h];exact hm _ (List.getElem_mem _)
     obtain⟨r,hr⟩:∃ r,r=filesOk ps:=⟨_,rfl⟩
     have HBAD:Hid (∀ j,j<ps.length→fileAt ps j=false→r=false):=fun j h hb=>by rw[hr];exact filesOk_bad ps j h hb
     have HALL:Hid ((∀ j,j<ps.length→fileAt ps j=true)→r=decide (dataN ps≤200000)):=fun h=>by rw[hr];exact filesOk_end ps h60 h
     have HDT:Hid (∀ j,j<ps.length→dataN (ps.take (j+1))=dataN (ps.take j)+(valAt ps j).length):=fun j h=>by rw[dataN_take ps j h,valAt_lt ps j h]
     have HDL:Hid (∀ j,dataN (ps.take j)≤1006632960):=fun j=>by
      have h1:=dataN_le (ps.take j) 16777216 (fun p hp=>(hm p (List.mem_of_mem_take hp)).2)
      have h2:(ps.take j).length≤60:=by rw[List.length_take];omega
      have h3:=Nat.mul_le_mul_right 16777216 h2
      omega
     rw[←hr]
     clear hm hc hr
     go_enter Try.func41,Try.ntmps41
     go_wp2
     go_loopw [3,4] (fun nn i wr=>∃ j:Nat,j≤ps.length∧i=.int .i64 (j:Int)∧nn=.int .i64 ((dataN (ps.take j):Nat):Int)∧Hid (∀ k,k<j→fileAt ps k=true)∧Below w.heap.size w wr) (fun _ i _=>ps.length - (intOf i).toNat)
     case atStart=>exact⟨0,Nat.zero_le _,rfl,rfl,fun k hk=>by omega,Below.refl _ _⟩
     case round =>
      obtain⟨j,hj,rfl,rfl,HA,hbel⟩:=hrel
      have hsz:=hbel.size
      by_cases hlt:j<ps.length
      · obtain ⟨c1', c2'⟩ := hc' j hlt
        have c1:=(hbel.cell (p:=⟨b,off+j*2,none⟩) (World.block_lt_of_cell? w _ c1')).trans c1'
        have c2:=(hbel.cell (p:=⟨b,off+j*2+1,none⟩) (World.block_lt_of_cell? w _ c2')).trans c2'
        clear c1' c2'
        have m1:=hm2 j hlt
        have hj0:(0:Int)≤(j:Int):=by omega
        have hj1:(j:Int)<(ps.length:Int):=by omega
        have HB:Hid (fileAt ps j=false→r=false):=HBAD.out j hlt
        have HN:Hid (fileAt ps j=true→∀ k,k<j+1→fileAt ps k=true):=fun h k hk=>by
         by_cases e:k=j
         · rw[e];exact h
         · exact HA.out k (by omega)
        have HO:Hid (fileAt ps j=(nameOk (keyAt ps j) && (decide (j=0) || Op.bytesLess (keyAt ps (j - 1)) (keyAt ps j)))):=rfl
        have HDJ:Hid (dataN (ps.take (j+1))=dataN (ps.take j)+(valAt ps j).length):=HDT.out j hlt
        have hdl:=HDL.out j
        have hdp:(j=0∨∃ i1,i1+1=j∧wr.cell? ⟨b,off+i1*2,none⟩=some (.string ⟨(keyAt ps i1).toArray⟩)):=by
         by_cases hz:j=0
         · exact .inl hz
         · obtain⟨d1',_⟩:=hc' (j - 1) (by omega)
           exact .inr ⟨j - 1,by omega,(hbel.cell (p:=⟨b,off+(j - 1)*2,none⟩) (World.block_lt_of_cell? w _ d1')).trans d1'⟩
        obtain⟨x,hx⟩:∃ x,x=keyAt ps j:=⟨_,rfl⟩
        obtain⟨y,hy⟩:∃ y,y=valAt ps j:=⟨_,rfl⟩
        rw[←hx] at c1 m1 HO
        rw[←hy] at c2 m1 HDJ
        have KN:∀ W,Calls Try.prog 75 #[.string ⟨x.toArray⟩] W fun e w'=>e=.returned (.bool (nameOk x))∧w'=W:=fun W=>spec_name x W m1.1
        obtain⟨nx,hnx⟩:∃ nx,nx=nameOk x:=⟨_,rfl⟩
        rw[←hnx] at KN HO
        obtain⟨dd,hdd⟩:∃ dd,dd=dataN (ps.take j):=⟨_,rfl⟩
        rw[←hdd] at hdl HDJ ⊢
        have hzy:(ByteArray.mk y.toArray).size=y.length:=by simp[ByteArray.size]
        clear hc' hm2 hx hy HA HBAD HALL HDT HDL hnx hdd
        cases nx with
        | false =>
          have HR:Hid (r=false):=HB.out (by rw[HO.out];rfl)
          clear HO HB HN hdp
          go_wp2
          go_quiet (first | (go_at_call 75;refine Calls.quiet_of_same (KN _)))
          go_wp2
          go_ret
          obtain rfl:=HR.out
          exact⟨rfl,by first | exact hbel | exact below_dr hbel⟩
        | true =>
          rcases hdp with rfl | ⟨i1,rfl,d1⟩
          · have HTT:Hid (fileAt ps 0=true):=by rw[Hid,HO.out];rfl
            simp only[Nat.zero_mul,Nat.add_zero] at c1 c2
            have hzb:decide ((0:Int)<((0:Nat):Int))=false:=decide_eq_false (by omega)
            clear HO HB
            go_wp2
            go_quiet (first | (go_at_call 75;refine Calls.quiet_of_same (KN _)))
            go_wp2
            go_roundw
            case rel=>exact⟨0+1,by omega,by go_num,by rw[HDJ.out];go_num,HN.out HTT.out,by first | exact hbel | exact below_dr hbel⟩
            case measure=>simp[intOf];omega
          · rw [Nat.add_sub_cancel] at HO
            obtain⟨z,hz2⟩:∃ z,z=keyAt ps i1:=⟨_,rfl⟩
            rw[←hz2] at d1 HO
            have hzb:decide ((0:Int)<((i1+1:Nat):Int))=true:=decide_eq_true (by omega)
            have hzp:(0:Int)<((i1+1:Nat):Int):=by omega
            have hzi:IntKind.i64.wrap (((i1+1:Nat):Int) - 1)=(i1:Int):=by rw[i64_wrap_small _ (by omega) (by omega)];omega
            have hi2:((i1+1:Nat):Int) - 1=(i1:Int):=by omega
            have hi0:(0:Int)≤(i1:Int):=by omega
            have hi3:(i1:Int)<(ps.length:Int):=by omega
            clear hz2
            cases q4:Op.bytesLess z x with
            | false =>
              have q4':Op.bytesLess (⟨z.toArray⟩:ByteArray).toList (⟨x.toArray⟩:ByteArray).toList=false:=by rw[ba_toList,ba_toList];exact q4
              have HR:Hid (r=false):=HB.out (by rw[HO.out,q4];simp)
              clear HO HB HN
              rcases bl_total z x q4 with g1 | g1
              · go_wp2
                go_quiet (first | (go_at_call 75;refine Calls.quiet_of_same (KN _)))
                go_wp2
                go_ret
                obtain rfl:=HR.out
                exact⟨rfl,by first | exact hbel | exact below_dr hbel⟩
              · subst g1
                go_wp2
                go_quiet (first | (go_at_call 75;refine Calls.quiet_of_same (KN _)))
                go_wp2
                go_ret
                obtain rfl:=HR.out
                exact⟨rfl,by first | exact hbel | exact below_dr hbel⟩
            | true =>
              have q4':Op.bytesLess (⟨z.toArray⟩:ByteArray).toList (⟨x.toArray⟩:ByteArray).toList=true:=by rw[ba_toList,ba_toList];exact q4
              obtain⟨g1,g2⟩:=bl_asym z x q4
              have HTT:Hid (fileAt ps (i1+1)=true):=by rw[Hid,HO.out,q4];simp
              clear HO HB
              go_wp2
              go_quiet (first | (go_at_call 75;refine Calls.quiet_of_same (KN _)))
              go_wp2
              go_roundw
              case rel=>exact⟨i1+1+1,by omega,by go_num,by rw[HDJ.out];go_num,HN.out HTT.out,by first | exact hbel | exact below_dr hbel⟩
              case measure=>simp[intOf];omega
      · have hjl:j=ps.length:=by omega
        subst hjl
        have HR:Hid (r=decide (dataN ps≤200000)):=HALL.out HA.out
        have hdl:=HDL.out ps.length
        rw[List.take_length] at hdl ⊢
        obtain⟨dd,hdd⟩:∃ dd,dd=dataN ps:=⟨_,rfl⟩
        rw[←hdd] at HR hdl ⊢
        clear hc' hm2 HDT HDL HALL HBAD hdd
        by_cases hd:dd≤200000
        · have hd':(dd:Int)≤200000:=by omega
          rw[decide_eq_true hd] at HR
          clear hd
          go_wp2
          go_ret
          obtain rfl:=HR.out
          exact⟨rfl,hbel⟩
        · have hd':¬ (dd:Int)≤200000:=by omega
          rw[decide_eq_false hd] at HR
          clear hd
          go_wp2
          go_ret
          obtain rfl:=HR.out
          exact⟨rfl,hbel⟩
 · have h60':¬ (ps.length:Int)≤60:=by omega
   have HR:Hid (filesOk ps=false):=filesOk_many ps h60
   rw[HR.out]
   clear hs hm
   go_enter Try.func41,Try.ntmps41
   go_wp2
   go_ret
   exact⟨rfl,Below.refl _ _⟩
end Go.Proofs.Ytlllkdioojjaeaa
