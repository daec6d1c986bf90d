/-
 Texts that are laid as one: SDisk, SForm, SPut, SCutF, SDo, SSame, SDo0, MathDk, SameF.
-/
import Derived.Test.YtlllkdioojjaeaaDkMath
import Derived.Test.YtlllkdioojjaeaaStrsX
import Derived.OneCell
import Derived.Deep.AppendLies
namespace Go.Proofs.Ytlllkdioojjaeaa
open Go.RowKit
set_option linter.unusedVariables false
set_option maxRecDepth 100000 in
theorem spec_name (s:List UInt8) (w:World) (hs:s.length≤16777216) :
 Calls Try.prog 75 #[.string ⟨s.toArray⟩] w fun e w'=>e=.returned (.bool (nameOk s))∧w'=w:=by
 have hz:(ByteArray.mk s.toArray).size=s.length:=by simp[ByteArray.size]
 by_cases h1:1≤s.length
 · by_cases h2:s.length≤100
   · have HR:Hid (nameOk s=true):=by rw[Hid,nameOk,decide_eq_true h1,decide_eq_true h2];rfl
     have h1':(1:Int)≤(s.length:Int):=by omega
     have h2':(s.length:Int)≤100:=by omega
     rw[HR.out]
     clear h1 h2
     go_enter Try.func75,Try.ntmps75
     go_wp2
     go_ret
     exact⟨rfl,rfl⟩
   · have HR:Hid (nameOk s=false):=by rw[Hid,nameOk,decide_eq_false h2];simp
     have h1':(1:Int)≤(s.length:Int):=by omega
     have h2':¬ (s.length:Int)≤100:=by omega
     rw[HR.out]
     clear h1 h2
     go_enter Try.func75,Try.ntmps75
     go_wp2
     go_ret
     exact⟨rfl,rfl⟩
 · have HR:Hid (nameOk s=false):=by rw[Hid,nameOk,decide_eq_false h1];rfl
   have h1':¬ (1:Int)≤(s.length:Int):=by omega
   rw[HR.out]
   clear h1
   go_enter Try.func75,Try.ntmps75
   go_wp2
   go_ret
   exact⟨rfl,rfl⟩
set_option maxRecDepth 100000 in
set_option maxHeartbeats 1000000 in
theorem spec_files (a : Option Addr) (cap : Nat) (ps : List PairL) (w : World) (hl : ps.length ≤ 16777216) (hm : ∀ p ∈ ps, p.1.length ≤ 16777216 ∧ p.2.length ≤ 16777216) (hs : IsPairs w a ps) :
 Calls Try.prog 41 #[.slice a ps.length cap] w fun e w'=>e=.returned (.bool (filesOk ps))∧Below w.heap.size w w':=by
 by_cases h60:ps.length≤60
 · have h60' : (ps.length : Int) ≤ 60 := by omega
   rcases hs with rfl | ⟨b,off,rfl,hc⟩
   · have HR:Hid (filesOk []=true):=rfl
     rw[HR.out]
     go_enter Try.func41,Try.ntmps41
     go_wp2
     refine wp_loop_rounds 1 ?_
     rw[rounds_succ]
     go_wp2
     go_ret
     exact⟨rfl,Below.refl _ _⟩
   · have hc' : ∀ j, j < ps.length → w.cell? ⟨b, off + j * 2, none⟩ = some (.string ⟨(keyAt ps j).toArray⟩) ∧ w.cell? ⟨b, off + j * 2 + 1, none⟩ = some (.string ⟨(valAt ps j).toArray⟩) := fun j h => by rw [keyAt_lt ps j h, valAt_lt ps j h]; exact hc j h
     have hm2:∀ j,j<ps.length→(keyAt ps j).length≤16777216∧(valAt ps j).length≤16777216:=fun j h=>by rw[keyAt_lt ps j h,valAt_lt ps j h];exact hm _ (List.getElem_mem _)
     obtain⟨r,hr⟩:∃ r,r=filesOk ps:=⟨_,rfl⟩
     have HBAD:Hid (∀ j,j<ps.length→fileAt ps j=false→r=false):=fun j h hb=>by rw[hr];exact filesOk_bad ps j h hb
     have HALL:Hid ((∀ j,j<ps.length→fileAt ps j=true)→r=decide (dataN ps≤200000)):=fun h=>by rw[hr];exact filesOk_end ps h60 h
     have HDT:Hid (∀ j,j<ps.length→dataN (ps.take (j+1))=dataN (ps.take j)+(valAt ps j).length):=fun j h=>by rw[dataN_take ps j h,valAt_lt ps j h]
     have HDL:Hid (∀ j,dataN (ps.take j)≤1006632960):=fun j=>by
      have h1:=dataN_le (ps.take j) 16777216 (fun p hp=>(hm p (List.mem_of_mem_take hp)).2)
      have h2:(ps.take j).length≤60:=by rw[List.length_take];omega
      have h3:=Nat.mul_le_mul_right 16777216 h2
      omega
     rw[←hr]
     clear hm hc hr
     go_enter Try.func41,Try.ntmps41
     go_wp2
     go_loopw [3,4] (fun nn i wr=>∃ j:Nat,j≤ps.length∧i=.int .i64 (j:Int)∧nn=.int .i64 ((dataN (ps.take j):Nat):Int)∧Hid (∀ k,k<j→fileAt ps k=true)∧Below w.heap.size w wr) (fun _ i _=>ps.length - (intOf i).toNat)
     case atStart=>exact⟨0,Nat.zero_le _,rfl,rfl,fun k hk=>by omega,Below.refl _ _⟩
     case round =>
      obtain⟨j,hj,rfl,rfl,HA,hbel⟩:=hrel
      have hsz:=hbel.size
      by_cases hlt:j<ps.length
      · obtain ⟨c1', c2'⟩ := hc' j hlt
        have c1:=(hbel.cell (p:=⟨b,off+j*2,none⟩) (World.block_lt_of_cell? w _ c1')).trans c1'
        have c2:=(hbel.cell (p:=⟨b,off+j*2+1,none⟩) (World.block_lt_of_cell? w _ c2')).trans c2'
        clear c1' c2'
        have m1:=hm2 j hlt
        have hj0:(0:Int)≤(j:Int):=by omega
        have hj1:(j:Int)<(ps.length:Int):=by omega
        have HB:Hid (fileAt ps j=false→r=false):=HBAD.out j hlt
        have HN:Hid (fileAt ps j=true→∀ k,k<j+1→fileAt ps k=true):=fun h k hk=>by
         by_cases e:k=j
         · rw[e];exact h
         · exact HA.out k (by omega)
        have HO:Hid (fileAt ps j=(nameOk (keyAt ps j) && (decide (j=0) || Op.bytesLess (keyAt ps (j - 1)) (keyAt ps j)))):=rfl
        have HDJ:Hid (dataN (ps.take (j+1))=dataN (ps.take j)+(valAt ps j).length):=HDT.out j hlt
        have hdl:=HDL.out j
        have hdp:(j=0∨∃ i1,i1+1=j∧wr.cell? ⟨b,off+i1*2,none⟩=some (.string ⟨(keyAt ps i1).toArray⟩)):=by
         by_cases hz:j=0
         · exact .inl hz
         · obtain⟨d1',_⟩:=hc' (j - 1) (by omega)
           exact .inr ⟨j - 1,by omega,(hbel.cell (p:=⟨b,off+(j - 1)*2,none⟩) (World.block_lt_of_cell? w _ d1')).trans d1'⟩
        obtain⟨x,hx⟩:∃ x,x=keyAt ps j:=⟨_,rfl⟩
        obtain⟨y,hy⟩:∃ y,y=valAt ps j:=⟨_,rfl⟩
        rw[←hx] at c1 m1 HO
        rw[←hy] at c2 m1 HDJ
        have KN:∀ W,Calls Try.prog 75 #[.string ⟨x.toArray⟩] W fun e w'=>e=.returned (.bool (nameOk x))∧w'=W:=fun W=>spec_name x W m1.1
        obtain⟨nx,hnx⟩:∃ nx,nx=nameOk x:=⟨_,rfl⟩
        rw[←hnx] at KN HO
        obtain⟨dd,hdd⟩:∃ dd,dd=dataN (ps.take j):=⟨_,rfl⟩
        rw[←hdd] at hdl HDJ ⊢
        have hzy:(ByteArray.mk y.toArray).size=y.length:=by simp[ByteArray.size]
        clear hc' hm2 hx hy HA HBAD HALL HDT HDL hnx hdd
        cases nx with
        | false =>
          have HR:Hid (r=false):=HB.out (by rw[HO.out];rfl)
          clear HO HB HN hdp
          go_wp2
          go_quiet (first | (go_at_call 75;refine Calls.quiet_of_same (KN _)))
          go_wp2
          go_ret
          obtain rfl:=HR.out
          exact⟨rfl,by first | exact hbel | exact below_dr hbel⟩
        | true =>
          rcases hdp with rfl | ⟨i1,rfl,d1⟩
          · have HTT:Hid (fileAt ps 0=true):=by rw[Hid,HO.out];rfl
            simp only[Nat.zero_mul,Nat.add_zero] at c1 c2
            have hzb:decide ((0:Int)<((0:Nat):Int))=false:=decide_eq_false (by omega)
            clear HO HB
            go_wp2
            go_quiet (first | (go_at_call 75;refine Calls.quiet_of_same (KN _)))
            go_wp2
            go_roundw
            case rel=>exact⟨0+1,by omega,by go_num,by rw[HDJ.out];go_num,HN.out HTT.out,by first | exact hbel | exact below_dr hbel⟩
            case measure=>simp[intOf];omega
          · rw [Nat.add_sub_cancel] at HO
            obtain⟨z,hz2⟩:∃ z,z=keyAt ps i1:=⟨_,rfl⟩
            rw[←hz2] at d1 HO
            have hzb:decide ((0:Int)<((i1+1:Nat):Int))=true:=decide_eq_true (by omega)
            have hzp:(0:Int)<((i1+1:Nat):Int):=by omega
            have hzi:IntKind.i64.wrap (((i1+1:Nat):Int) - 1)=(i1:Int):=by rw[i64_wrap_small _ (by omega) (by omega)];omega
            have hi2:((i1+1:Nat):Int) - 1=(i1:Int):=by omega
            have hi0:(0:Int)≤(i1:Int):=by omega
            have hi3:(i1:Int)<(ps.length:Int):=by omega
            clear hz2
            cases q4:Op.bytesLess z x with
            | false =>
              have q4':Op.bytesLess (⟨z.toArray⟩:ByteArray).toList (⟨x.toArray⟩:ByteArray).toList=false:=by rw[ba_toList,ba_toList];exact q4
              have HR:Hid (r=false):=HB.out (by rw[HO.out,q4];simp)
              clear HO HB HN
              rcases bl_total z x q4 with g1 | g1
              · go_wp2
                go_quiet (first | (go_at_call 75;refine Calls.quiet_of_same (KN _)))
                go_wp2
                go_ret
                obtain rfl:=HR.out
                exact⟨rfl,by first | exact hbel | exact below_dr hbel⟩
              · subst g1
                go_wp2
                go_quiet (first | (go_at_call 75;refine Calls.quiet_of_same (KN _)))
                go_wp2
                go_ret
                obtain rfl:=HR.out
                exact⟨rfl,by first | exact hbel | exact below_dr hbel⟩
            | true =>
              have q4':Op.bytesLess (⟨z.toArray⟩:ByteArray).toList (⟨x.toArray⟩:ByteArray).toList=true:=by rw[ba_toList,ba_toList];exact q4
              obtain⟨g1,g2⟩:=bl_asym z x q4
              have HTT:Hid (fileAt ps (i1+1)=true):=by rw[Hid,HO.out,q4];simp
              clear HO HB
              go_wp2
              go_quiet (first | (go_at_call 75;refine Calls.quiet_of_same (KN _)))
              go_wp2
              go_roundw
              case rel=>exact⟨i1+1+1,by omega,by go_num,by rw[HDJ.out];go_num,HN.out HTT.out,by first | exact hbel | exact below_dr hbel⟩
              case measure=>simp[intOf];omega
      · have hjl:j=ps.length:=by omega
        subst hjl
        have HR:Hid (r=decide (dataN ps≤200000)):=HALL.out HA.out
        have hdl:=HDL.out ps.length
        rw[List.take_length] at hdl ⊢
        obtain⟨dd,hdd⟩:∃ dd,dd=dataN ps:=⟨_,rfl⟩
        rw[←hdd] at HR hdl ⊢
        clear hc' hm2 HDT HDL HALL HBAD hdd
        by_cases hd:dd≤200000
        · have hd':(dd:Int)≤200000:=by omega
          rw[decide_eq_true hd] at HR
          clear hd
          go_wp2
          go_ret
          obtain rfl:=HR.out
          exact⟨rfl,hbel⟩
        · have hd':¬ (dd:Int)≤200000:=by omega
          rw[decide_eq_false hd] at HR
          clear hd
          go_wp2
          go_ret
          obtain rfl:=HR.out
          exact⟨rfl,hbel⟩
 · have h60':¬ (ps.length:Int)≤60:=by omega
   have HR:Hid (filesOk ps=false):=filesOk_many ps h60
   rw[HR.out]
   clear hs hm
   go_enter Try.func41,Try.ntmps41
   go_wp2
   go_ret
   exact⟨rfl,Below.refl _ _⟩
theorem four_cells {w:World} {b:Nat} {u v x y:Value} {t:TypeId} (h:w.heap[b]? = some (.cells #[u,v,x,y] t (0,0))) :
 w.cell? ⟨b,0,none⟩=some u∧w.cell? ⟨b,1,none⟩=some v∧w.cell? ⟨b,2,none⟩=some x∧w.cell? ⟨b,3,none⟩=some y∧∀ j,w.frozen? ⟨b,j,none⟩=false:=by
 refine⟨?_,?_,?_,?_,fun j=>frozen_of_row w b j _ t h⟩ <;> simp only[World.cell?,h] <;> rfl
set_option maxRecDepth 100000 in
theorem spec_in (n:Int) (w:World) :
 Calls Try.prog 62 #[.int .i64 n,.int .i64 1,.int .i64 3] w fun e w'=>e=.returned (.bool (decide (1≤n∧n≤3)))∧w'=w:=by
 by_cases h1:1≤n
 · by_cases h2:n≤3
   · have HR:Hid (decide (1≤n∧n≤3)=true):=decide_eq_true ⟨h1,h2⟩
     rw[HR.out]
     go_enter Try.func62,Try.ntmps62
     go_wp2
     go_ret
     exact⟨rfl,rfl⟩
   · have HR:Hid (decide (1≤n∧n≤3)=false):=decide_eq_false (fun h=>h2 h.2)
     rw[HR.out]
     go_enter Try.func62,Try.ntmps62
     go_wp2
     go_ret
     exact⟨rfl,rfl⟩
 · have HR:Hid (decide (1≤n∧n≤3)=false):=decide_eq_false (fun h=>h1 h.1)
   rw[HR.out]
   go_enter Try.func62,Try.ntmps62
   go_wp2
   go_ret
   exact⟨rfl,rfl⟩
def opV (o:DOpL):Array Value:=#[.int .i64 o.k,.string ⟨o.n.toArray⟩,.string ⟨o.t.toArray⟩,.string ⟨o.d.toArray⟩]
set_option maxRecDepth 100000 in
set_option maxHeartbeats 1000000 in
theorem spec_form (k:Int) (n t d:List UInt8) (w:World) (hn:n.length≤16777216) (ht:t.length≤16777216) (hd:d.length≤16777216) :
 Calls Try.prog 43 #[.agg #[.int .i64 k,.string ⟨n.toArray⟩,.string ⟨t.toArray⟩,.string ⟨d.toArray⟩]] w fun e w'=>e=.returned (.bool (formOk ⟨k,n,t,d⟩))∧Below w.heap.size w w':=by
 have B0:Below w.heap.size w (w.alloc (.cells #[.int .i64 k,.string ⟨n.toArray⟩,.string ⟨t.toArray⟩,.string ⟨d.toArray⟩] 40)):=(Below.refl _ _).alloc (Nat.le_refl _) _
 obtain⟨p0,p1,p2,p3,_⟩:=four_cells (heap_alloc_new w (.cells #[.int .i64 k,.string ⟨n.toArray⟩,.string ⟨t.toArray⟩,.string ⟨d.toArray⟩] 40))
 have KI:=fun W=>spec_in k W
 have KN:=fun W=>spec_name n W hn
 have KT:=fun W=>spec_name t W ht
 have HF:Hid (formOk ⟨k,n,t,d⟩=(decide (1≤k∧k≤3) && (nameOk n && (if k=2 then nameOk t && d.isEmpty else t.isEmpty && (decide (k=1) || d.isEmpty))))):=rfl
 obtain⟨ix,hix⟩:∃ ix,ix=decide (1≤k∧k≤3):=⟨_,rfl⟩
 obtain⟨nx,hnx⟩:∃ nx,nx=nameOk n:=⟨_,rfl⟩
 obtain⟨tx,htx⟩:∃ tx,tx=nameOk t:=⟨_,rfl⟩
 obtain⟨te,hte⟩:∃ te,t.isEmpty=te:=⟨_,rfl⟩
 obtain⟨de,hde⟩:∃ de,d.isEmpty=de:=⟨_,rfl⟩
 rw[←hix] at KI HF
 rw[←hnx] at KN HF
 rw[←htx] at KT HF
 rw[hte,hde] at HF
 obtain⟨fo,hfo⟩:∃ fo,fo=formOk ⟨k,n,t,d⟩:=⟨_,rfl⟩
 rw[←hfo] at HF ⊢
 clear hix hnx htx hfo
 by_cases hk2:k=2
 · subst hk2
   have HZ:=HF.out
   rw[if_pos rfl] at HZ
   have HZZ:Hid (fo=_):=HZ
   clear HZ HF
   cases ix <;> cases nx <;> cases tx <;> cases de
   all_goals
    go_enter Try.func43,Try.ntmps43
    go_wp2_with (first | (go_at_call 62;refine (KI _).mono ?_;rintro e w1 ⟨rfl,rfl⟩) | (go_at_call 75;first | (with_reducible refine (KN _).mono ?_;rintro e w1 ⟨rfl,rfl⟩) | (with_reducible refine (KT _).mono ?_;rintro e w1 ⟨rfl,rfl⟩)))
    first | (go_quiet (fail);go_wp2) | skip
    go_ret
    obtain rfl:=HZZ.out
    exact⟨rfl,by first | exact B0 | exact below_dr B0⟩
 · have HZ:=HF.out
   rw[if_neg hk2] at HZ
   have hk2b:(k == 2)=false:=by rw[beq_eq_false_iff_ne];exact hk2
   by_cases hk1:k=1
   · subst hk1
     have HZZ:Hid (fo=(ix && (nx && te))):=by rw[Hid,HZ];cases te <;> rfl
     clear HZ HF
     cases ix <;> cases nx <;> cases te
     all_goals
      go_enter Try.func43,Try.ntmps43
      go_wp2_with (first | (go_at_call 62;refine (KI _).mono ?_;rintro e w1 ⟨rfl,rfl⟩) | (go_at_call 75;first | (with_reducible refine (KN _).mono ?_;rintro e w1 ⟨rfl,rfl⟩) | (with_reducible refine (KT _).mono ?_;rintro e w1 ⟨rfl,rfl⟩)))
      first | (go_quiet (fail);go_wp2) | skip
      go_ret
      obtain rfl:=HZZ.out
      exact⟨rfl,by first | exact B0 | exact below_dr B0⟩
   · rw[decide_eq_false hk1] at HZ
     have hk1b:(k == 1)=false:=by rw[beq_eq_false_iff_ne];exact hk1
     have HZZ:Hid (fo=_):=HZ
     clear HZ HF
     cases ix <;> cases nx <;> cases te <;> cases de
     all_goals
      go_enter Try.func43,Try.ntmps43
      go_wp2_with (first | (go_at_call 62;refine (KI _).mono ?_;rintro e w1 ⟨rfl,rfl⟩) | (go_at_call 75;first | (with_reducible refine (KN _).mono ?_;rintro e w1 ⟨rfl,rfl⟩) | (with_reducible refine (KT _).mono ?_;rintro e w1 ⟨rfl,rfl⟩)))
      first | (go_quiet (fail);go_wp2) | skip
      go_ret
      obtain rfl:=HZZ.out
      exact⟨rfl,by first | exact B0 | exact below_dr B0⟩
def atF (fs:List PairL) (n:List UInt8):Int:=match fs.findIdx? (fun p=>p.1 == n) with
 | some j=>(j:Int)
 | none => -1
theorem atF_hit (fs:List PairL) (n:List UInt8) (j:Nat) (hj:j<fs.length) (hk:keyAt fs j=n) (ho:∀ q,q<j→keyAt fs q≠n):atF fs n=(j:Int):=by
 have:fs.findIdx? (fun p=>p.1 == n)=some j:=by
  rw[List.findIdx?_eq_some_iff_getElem]
  refine⟨hj,by rw[keyAt_lt fs j hj] at hk;simp[hk],fun q hq=>?_⟩
  have:=ho q hq
  rw[keyAt_lt fs q (by omega)] at this
  simpa using this
 rw[atF,this]
theorem atF_none (fs:List PairL) (n:List UInt8) (ho:∀ q,q<fs.length→keyAt fs q≠n):atF fs n = -1:=by
 have:fs.findIdx? (fun p=>p.1 == n)=none:=by
  rw[List.findIdx?_eq_none_iff]
  intro p hp
  obtain⟨q,hq,rfl⟩:=List.getElem_of_mem hp
  have:=ho q hq
  rw[keyAt_lt fs q hq] at this
  simpa using this
 rw[atF,this]
set_option maxRecDepth 100000 in
set_option maxHeartbeats 400000 in
theorem spec_at (a : Option Addr) (cap : Nat) (ps : List PairL) (h : List UInt8) (w : World) (hl : ps.length ≤ 16777216) (hs : IsPairs w a ps) :
 Calls Try.prog 64 #[.slice a ps.length cap,.string ⟨h.toArray⟩] w fun e w'=>e=.returned (.int .i64 (atF ps h))∧Below w.heap.size w w':=by
 rcases hs with rfl | ⟨b,off,rfl,hc⟩
 · go_enter Try.func64,Try.ntmps64
   go_wp2
   refine wp_loop_rounds 1 ?_
   rw[rounds_succ]
   go_wp2
   go_ret
   exact⟨rfl,Below.refl _ _⟩
 · have hc' : ∀ j, j < ps.length → w.cell? ⟨b, off + j * 2, none⟩ = some (.string ⟨(keyAt ps j).toArray⟩) := fun j h => by rw [keyAt_lt ps j h]; exact (hc j h).1
   obtain⟨r,hr⟩:∃ r,r=atF ps h:=⟨_,rfl⟩
   have HHIT:Hid (∀ j,j<ps.length→keyAt ps j=h→(∀ q,q<j→keyAt ps q≠h)→r=(j:Int)):=fun j hj hk ho=>by rw[hr];exact atF_hit ps h j hj hk ho
   have HNO:Hid ((∀ q,q<ps.length→keyAt ps q≠h)→r = -1):=fun ho=>by rw[hr];exact atF_none ps h ho
   rw[←hr]
   clear hc hr
   go_enter Try.func64,Try.ntmps64
   go_wp2
   go_loopw [5] (fun i wr=>∃ j:Nat,j≤ps.length∧i=.int .i64 (j:Int)∧Hid (∀ q,q<j→keyAt ps q≠h)∧Below w.heap.size w wr) (fun i _=>ps.length - (intOf i).toNat)
   case atStart=>exact⟨0,Nat.zero_le _,rfl,fun k hk=>by omega,Below.refl _ _⟩
   case round =>
    obtain⟨j,hj,rfl,HA,hbel⟩:=hrel
    have hsz:=hbel.size
    by_cases hlt:j<ps.length
    · have c1':=hc' j hlt
      have c1:=(hbel.cell (p:=⟨b,off+j*2,none⟩) (World.block_lt_of_cell? w _ c1')).trans c1'
      clear c1'
      have hj0:(0:Int)≤(j:Int):=by omega
      have hj1:(j:Int)<(ps.length:Int):=by omega
      have HB:Hid (keyAt ps j=h→r=(j:Int)):=fun e=>HHIT.out j hlt e HA.out
      have HN:Hid (keyAt ps j≠h→∀ k,k<j+1→keyAt ps k≠h):=fun e k hk=>by
       by_cases ek:k=j
       · rw[ek];exact e
       · exact HA.out k (by omega)
      obtain⟨x,hx⟩:∃ x,x=keyAt ps j:=⟨_,rfl⟩
      rw[←hx] at c1 HB HN
      clear hc' hx HA HHIT HNO
      by_cases he:x=h
      · subst he
        have HR:Hid (r=(j:Int)):=HB.out rfl
        clear HB HN
        go_wp2
        first | (go_quiet (fail);go_wp2) | skip
        go_ret
        obtain rfl:=HR.out
        exact⟨rfl,by first | exact hbel | exact below_dr hbel⟩
      · have heb:(x == h)=false:=by rw[beq_eq_false_iff_ne];exact he
        go_wp2
        first | (go_quiet (fail);go_wp2) | skip
        go_roundw
        case rel=>exact⟨j+1,by omega,by go_num,HN.out he,by first | exact hbel | exact below_dr hbel⟩
        case measure=>simp[intOf];omega
    · have hjl:j=ps.length:=by omega
      subst hjl
      have HR:Hid (r = -1):=HNO.out HA.out
      clear hc'
      go_wp2
      go_ret
      obtain rfl:=HR.out
      exact⟨rfl,hbel⟩
theorem bytesLess_irrefl:∀ x:List UInt8,Op.bytesLess x x=false
 | []=>rfl
 | a :: x=>by simp[Op.bytesLess,bytesLess_irrefl x]
theorem new_atP (w:World) {n:Nat} (h:w.heap.size=n) (o:Obj):(w.alloc o).heap[n]? = some o:=by rw[←h];exact heap_alloc_new w o
theorem pair_snoc {w:World} {B e n:Nat} {L:List PairL} {k v:List UInt8} {u:Value} (h:w.ownsRow B e 2 u n (pcells L ++ [.string ⟨k.toArray⟩,.string ⟨v.toArray⟩])):w.ownsRow B e 2 u n (pcells (L ++ [(k,v)])):=by rw[fcells_snoc];exact h
theorem below_app2 {B g n cap:Nat} {w wr w1:World} {o:Obj} (hbel:Below B w wr) (hB:B≤wr.heap.size) (hg:B≤g) (hgrow:(wr.alloc o).grownBy w1 (Value.slice (some ⟨g,0,none⟩) n cap).ownBlock):Below B w w1 :=
 (hbel.alloc hB o).grown hgrow (by simp;omega) (fun k hk=>by simp[Value.ownBlock] at hk;omega)
set_option maxRecDepth 100000 in
set_option maxHeartbeats 2000000 in
theorem spec_put (a : Option Addr) (cp : Nat) (ps : List PairL) (k v : List UInt8) (w : World) (hl : ps.length ≤ 16777216) (hm : ∀ p ∈ ps, p.1.length ≤ 16777216 ∧ p.2.length ≤ 16777216) (hkl : k.length ≤ 16777216) (hvl : v.length ≤ 16777216) (hs : IsPairs w a ps) :
 Calls Try.prog 76 #[.slice a ps.length cp,.string ⟨k.toArray⟩,.string ⟨v.toArray⟩] w fun e w'=>∃ g cap:Nat,e=.returned (.slice (some ⟨g,0,none⟩) (putL ps k v).length cap)∧(putL ps k v).length≤2*ps.length+1∧w'.ownsRow w.heap.size 84 2 (.slice (some ⟨g,0,none⟩) (putL ps k v).length cap) (putL ps k v).length (pcells (putL ps k v))∧Below w.heap.size w w':=by
 obtain⟨i0,hi0,hz0,hz1,hz2⟩:=info_parts infoFile
 have HV:Hid (putFold k v (ps.take 0)=([],false)):=by rw[Hid,putFold_zero]
 have HFIN:Hid (∀ L d,putFold k v ps=(L,d)→putL ps k v=if d=true then L else L ++ [(k,v)]):=fun L d h=>by rw[putL,h]
 rcases hs with rfl | ⟨b,off,rfl,hc⟩
 · have HE:Hid (putL [] k v=if false=true then [] else [] ++ [(k,v)]):=HFIN.out [] false (by have:=HV.out;simpa using this)
   go_enter Try.func76,Try.ntmps76
   go_wp2_with fail
   refine wp_loop_rounds 1 ?_
   rw[rounds_succ]
   have o0:=World.ownsRow_lit (e:=84) (size:=2) w #[] 0 (base:=w.heap.size) (Nat.le_refl _) (Nat.zero_le _) rfl
   have W1:Below w.heap.size w (w.alloc (.cells #[] 84)):=(Below.refl _ _).alloc (Nat.le_refl _) _
   go_wp2_with (at_builtin;refine wpList_append_lies _ rfl _ _ 28 rfl w.heap.size 84 i0 (.agg #[.string ⟨#[]⟩,.string ⟨#[]⟩]) 2 32 Try.underlying28 hi0 hz0 hz1 hz2 rfl (by decide) (.slice (some ⟨w.heap.size,0,none⟩) 0 0) 0 _ rfl (o0.alloc _) ⟨w.heap.size+1,0,none⟩ 1 1 [.string ⟨k.toArray⟩,.string ⟨v.toArray⟩] rfl rfl (World.news_of_block (cs:=#[.string ⟨k.toArray⟩,.string ⟨v.toArray⟩]) (t:=84) (fr:=(0,0)) (new_atP (w.alloc (.cells #[] 84)) (by simp) _)) (by simp[Value.oneCell']) (by omega) (by unfold maxLen;omega) (by omega) (by simp <;> omega) (w.heap.size+2) (by simp) ?_;intro g3 cap3 w3 hown3 hgrow3 hat3 hlt3)
   have B3:=below_app2 W1 W1.size (Nat.le_refl _) hgrow3
   have HO3:=hidOwn hown3
   clear hown3 hgrow3
   go_wp2
   go_ret
   have e:putL [] k v=[(k,v)]:=by rw[HE.out];rfl
   rw[e]
   exact⟨g3,cap3,rfl,by simp,HO3.out,B3⟩
 · have hc' : ∀ j, j < ps.length → w.cell? ⟨b, off + j * 2, none⟩ = some (.string ⟨(keyAt ps j).toArray⟩) ∧ w.cell? ⟨b, off + j * 2 + 1, none⟩ = some (.string ⟨(valAt ps j).toArray⟩) := fun j h => by rw [keyAt_lt ps j h, valAt_lt ps j h]; exact hc j h
   have HSTEP:Hid (∀ j,j<ps.length→∀ L d,putFold k v (ps.take j)=(L,d)→putFold k v (ps.take (j+1))=putStep k v (L,d) (keyAt ps j,valAt ps j)):=fun j h L d hh=>by
    rw[putFold_snoc k v ps j h,hh,keyAt_lt ps j h,valAt_lt ps j h]
   clear hm hc
   go_enter Try.func76,Try.ntmps76
   go_wp2
   go_loopw [7,8,9] (fun o dn i wr=>∃ (j g cap:Nat) (L:List PairL) (d:Bool),j≤ps.length∧i=.int .i64 (j:Int)∧dn=.bool d∧o=.slice (some ⟨g,0,none⟩) L.length cap∧Hid (putFold k v (ps.take j)=(L,d))∧L.length≤2*j∧wr.ownsRow w.heap.size 84 2 (.slice (some ⟨g,0,none⟩) L.length cap) L.length (pcells L)∧Below w.heap.size w wr) (fun _ _ i _=>ps.length - (intOf i).toNat)
   case atStart=>exact⟨0,w.heap.size,0,[],false,Nat.zero_le _,rfl,rfl,rfl,HV,Nat.zero_le _,World.ownsRow_lit w #[] 0 (Nat.le_refl _) (Nat.zero_le _) rfl,(Below.refl _ _).alloc (Nat.le_refl _) _⟩
   case round =>
    obtain⟨j,g,cap,L,d,hj,rfl,rfl,rfl,HL,hLl,hown,hbel⟩:=hrel
    have hsz:=hbel.size
    have hbg:=own_base hown
    by_cases hlt:j<ps.length
    · obtain⟨c1',c2'⟩:=hc' j hlt
      have hbl:=World.block_lt_of_cell? w _ c1'
      simp only at hbl
      have c1:=(hbel.cell (p:=⟨b,off+j*2,none⟩) hbl).trans c1'
      have c2:=(hbel.cell (p:=⟨b,off+j*2+1,none⟩) hbl).trans c2'
      have hj0:(0:Int)≤(j:Int):=by omega
      have hj1:(j:Int)<(ps.length:Int):=by omega
      have HS:Hid (putFold k v (ps.take (j+1))=putStep k v (L,d) (keyAt ps j,valAt ps j)):=HSTEP.out j hlt L d HL.out
      obtain⟨x,hx⟩:∃ x,x=keyAt ps j:=⟨_,rfl⟩
      obtain⟨y,hy⟩:∃ y,y=valAt ps j:=⟨_,rfl⟩
      rw[←hx] at c1 HS
      rw[←hy] at c2 HS
      have C1':=c1'
      have C2':=c2'
      rw[←hx] at C1'
      rw[←hy] at C2'
      have hblr:b<wr.heap.size:=by omega
      have HO:=hidOwn hown
      clear hc' hx hy c1' c2' HL HSTEP hown
      have C1:Hid (w.cell? ⟨b,off+j*2,none⟩=some (.string ⟨x.toArray⟩)):=C1'
      have C2:Hid (w.cell? ⟨b,off+j*2+1,none⟩=some (.string ⟨y.toArray⟩)):=C2'
      clear C1' C2'
      by_cases hput:d=false∧Op.bytesLess x k=false
      · obtain⟨rfl,hle⟩:=hput
        have hle':Op.bytesLess (⟨x.toArray⟩:ByteArray).toList (⟨k.toArray⟩:ByteArray).toList=false:=by rw[ba_toList,ba_toList];exact hle
        have o0:=HO.out
        clear HO c2
        by_cases hxk:x=k
        · subst hxk
          have HN:Hid (putFold x v (ps.take (j+1))=(L ++ [(x,v)],true)):=by rw[Hid,HS.out,pstep_put x v L (x,y) hle];simp
          go_wp2_with (at_builtin;refine wpList_append_lies _ rfl _ _ 28 rfl w.heap.size 84 i0 (.agg #[.string ⟨#[]⟩,.string ⟨#[]⟩]) 2 32 Try.underlying28 hi0 hz0 hz1 hz2 rfl (by decide) (.slice (some ⟨g,0,none⟩) L.length cap) L.length _ rfl (o0.alloc _) ⟨wr.heap.size,0,none⟩ 1 1 [.string ⟨x.toArray⟩,.string ⟨v.toArray⟩] rfl rfl (World.news_of_block (cs:=#[.string ⟨x.toArray⟩,.string ⟨v.toArray⟩]) (t:=84) (fr:=(0,0)) (heap_alloc_new wr _)) (by simp[Value.oneCell']) (by omega) (by unfold maxLen;omega) (by omega) (by simp <;> omega) (wr.heap.size+1) (by simp) ?_;intro g3 cap3 w3 hown3 hgrow3 hat3 hlt3;have B3:=below_app2 hbel hsz hbg hgrow3;have d1:=(B3.cell (p:=⟨b,off+j*2,none⟩) hbl).trans C1.out;have d2:=(B3.cell (p:=⟨b,off+j*2+1,none⟩) hbl).trans C2.out;clear c1)
          have HO3:Hid (w3.ownsRow w.heap.size 84 2 (.slice (some ⟨g3,0,none⟩) (L.length+1) cap3) (L.length+1) (pcells (L ++ [(x,v)]))):=by rw[Hid,fcells_snoc];exact hown3
          clear hown3 hgrow3 hat3 o0
          go_wp2
          go_roundw
          case rel=>exact⟨j+1,g3,cap3,L ++ [(x,v)],true,by omega,by go_num,rfl,by simp,HN,by simp;omega,by rw[List.length_append];exact HO3.out,B3⟩
          case measure=>simp[intOf];omega
        · have hbk:(x == k)=false:=by simp[hxk]
          have HN:Hid (putFold k v (ps.take (j+1))=(L ++ [(k,v)] ++ [(x,y)],true)):=by rw[Hid,HS.out,pstep_put k v L (x,y) hle];simp[hxk]
          go_wp2_with (first | (at_builtin;refine wpList_append_lies _ rfl _ _ 28 rfl w.heap.size 84 i0 (.agg #[.string ⟨#[]⟩,.string ⟨#[]⟩]) 2 32 Try.underlying28 hi0 hz0 hz1 hz2 rfl (by decide) (.slice (some ⟨g3,0,none⟩) (L.length+1) cap3) (L.length+1) _ rfl (hown.alloc _) ⟨w3.heap.size,0,none⟩ 1 1 [.string ⟨x.toArray⟩,.string ⟨y.toArray⟩] rfl rfl (World.news_of_block (cs:=#[.string ⟨x.toArray⟩,.string ⟨y.toArray⟩]) (t:=84) (fr:=(0,0)) (heap_alloc_new w3 _)) (by simp[Value.oneCell']) (by omega) (by unfold maxLen;omega) (by omega) (by simp <;> omega) (w3.heap.size+1) (by simp) ?_;intro g4 cap4 w4 hown4 hgrow3' hat4 hlt4) | (at_builtin;refine wpList_append_lies _ rfl _ _ 28 rfl w.heap.size 84 i0 (.agg #[.string ⟨#[]⟩,.string ⟨#[]⟩]) 2 32 Try.underlying28 hi0 hz0 hz1 hz2 rfl (by decide) (.slice (some ⟨g,0,none⟩) L.length cap) L.length _ rfl (o0.alloc _) ⟨wr.heap.size,0,none⟩ 1 1 [.string ⟨k.toArray⟩,.string ⟨v.toArray⟩] rfl rfl (World.news_of_block (cs:=#[.string ⟨k.toArray⟩,.string ⟨v.toArray⟩]) (t:=84) (fr:=(0,0)) (heap_alloc_new wr _)) (by simp[Value.oneCell']) (by omega) (by unfold maxLen;omega) (by omega) (by simp <;> omega) (wr.heap.size+1) (by simp) ?_;intro g3 cap3 w3 hown3 hgrow3 hat3 hlt3;have B3:=below_app2 hbel hsz hbg hgrow3;have d1:=(B3.cell (p:=⟨b,off+j*2,none⟩) hbl).trans C1.out;have d2:=(B3.cell (p:=⟨b,off+j*2+1,none⟩) hbl).trans C2.out;clear c1;have hown:=pair_snoc hown3;have hs3:=B3.size;have hbg3:=own_base hown;clear hown3 hat3 hlt3))
          have B4:=below_app2 B3 hs3 hbg3 hgrow3'
          have HO4:Hid (w4.ownsRow w.heap.size 84 2 (.slice (some ⟨g4,0,none⟩) (L.length+1+1) cap4) (L.length+1+1) (pcells (L ++ [(k,v)] ++ [(x,y)]))):=by rw[Hid,fcells_snoc];exact hown4
          clear hown4 hgrow3' hown
          go_wp2
          go_roundw
          case rel=>exact⟨j+1,g4,cap4,L ++ [(k,v)] ++ [(x,y)],true,by omega,by go_num,rfl,by simp,HN,by simp;omega,by rw[List.length_append,List.length_append];exact HO4.out,B4⟩
          case measure=>simp[intOf];omega
      · have hor:d=true∨Op.bytesLess x k=true:=by
         cases d
         · right;cases h:Op.bytesLess x k
           · exact absurd ⟨rfl,h⟩ hput
           · rfl
         · exact .inl rfl
        have hgd:(d=true)∨(d=false∧Op.bytesLess (⟨x.toArray⟩:ByteArray).toList (⟨k.toArray⟩:ByteArray).toList=true):=by
         rw[ba_toList,ba_toList]
         cases d
         · exact .inr ⟨rfl,hor.resolve_left (by simp)⟩
         · exact .inl rfl
        by_cases hxk:x=k
        · have HN:Hid (putFold k v (ps.take (j+1))=(L,d)):=by rw[Hid,HS.out,pstep_less k v L d (x,y) hor];simp[hxk]
          subst hxk
          rcases hgd with rfl | ⟨rfl,hle'⟩
          · clear hor hput
            go_wp2
            go_roundw
            case rel=>exact⟨j+1,g,cap,L,true,by omega,by go_num,rfl,rfl,HN,by omega,HO.out,hbel⟩
            case measure=>simp[intOf];omega
          · rw[ba_toList,bytesLess_irrefl] at hle'
            exact absurd hle' (by simp)
        · have hbk:(x == k)=false:=by simp[hxk]
          have HN:Hid (putFold k v (ps.take (j+1))=(L ++ [(x,y)],d)):=by rw[Hid,HS.out,pstep_less k v L d (x,y) hor];simp[hxk]
          rcases hgd with rfl | ⟨rfl,hle'⟩
          · clear hor hput
            have o0:=HO.out
            go_wp2_with (at_builtin;refine wpList_append_lies _ rfl _ _ 28 rfl w.heap.size 84 i0 (.agg #[.string ⟨#[]⟩,.string ⟨#[]⟩]) 2 32 Try.underlying28 hi0 hz0 hz1 hz2 rfl (by decide) (.slice (some ⟨g,0,none⟩) L.length cap) L.length _ rfl (o0.alloc _) ⟨wr.heap.size,0,none⟩ 1 1 [.string ⟨x.toArray⟩,.string ⟨y.toArray⟩] rfl rfl (World.news_of_block (cs:=#[.string ⟨x.toArray⟩,.string ⟨y.toArray⟩]) (t:=84) (fr:=(0,0)) (heap_alloc_new wr _)) (by simp[Value.oneCell']) (by omega) (by unfold maxLen;omega) (by omega) (by simp <;> omega) (wr.heap.size+1) (by simp) ?_;intro g3 cap3 w3 hown3 hgrow3 hat3 hlt3)
            have B3:=below_app2 hbel hsz hbg hgrow3
            have HO3:Hid (w3.ownsRow w.heap.size 84 2 (.slice (some ⟨g3,0,none⟩) (L.length+1) cap3) (L.length+1) (pcells (L ++ [(x,y)]))):=by rw[Hid,fcells_snoc];exact hown3
            clear hown3 hgrow3 o0 HO
            go_wp2
            go_roundw
            case rel=>exact⟨j+1,g3,cap3,L ++ [(x,y)],true,by omega,by go_num,rfl,by simp,HN,by simp;omega,by rw[List.length_append];exact HO3.out,B3⟩
            case measure=>simp[intOf];omega
          · have hle2:Op.bytesLess x k=true:=by rw[ba_toList,ba_toList] at hle';exact hle'
            clear hor hput
            have o0:=HO.out
            go_wp2_with (at_builtin;refine wpList_append_lies _ rfl _ _ 28 rfl w.heap.size 84 i0 (.agg #[.string ⟨#[]⟩,.string ⟨#[]⟩]) 2 32 Try.underlying28 hi0 hz0 hz1 hz2 rfl (by decide) (.slice (some ⟨g,0,none⟩) L.length cap) L.length _ rfl (o0.alloc _) ⟨wr.heap.size,0,none⟩ 1 1 [.string ⟨x.toArray⟩,.string ⟨y.toArray⟩] rfl rfl (World.news_of_block (cs:=#[.string ⟨x.toArray⟩,.string ⟨y.toArray⟩]) (t:=84) (fr:=(0,0)) (heap_alloc_new wr _)) (by simp[Value.oneCell']) (by omega) (by unfold maxLen;omega) (by omega) (by simp <;> omega) (wr.heap.size+1) (by simp) ?_;intro g3 cap3 w3 hown3 hgrow3 hat3 hlt3)
            have B3:=below_app2 hbel hsz hbg hgrow3
            have HO3:Hid (w3.ownsRow w.heap.size 84 2 (.slice (some ⟨g3,0,none⟩) (L.length+1) cap3) (L.length+1) (pcells (L ++ [(x,y)]))):=by rw[Hid,fcells_snoc];exact hown3
            clear hown3 hgrow3 o0 HO
            go_wp2
            go_roundw
            case rel=>exact⟨j+1,g3,cap3,L ++ [(x,y)],false,by omega,by go_num,rfl,by simp,HN,by simp;omega,by rw[List.length_append];exact HO3.out,B3⟩
            case measure=>simp[intOf];omega
    · have hjl:j=ps.length:=by omega
      subst hjl
      have hfl:=HL.out
      rw[List.take_length] at hfl
      have HE:Hid (putL ps k v=if d=true then L else L ++ [(k,v)]):=HFIN.out L d hfl
      clear hc' HSTEP HL hfl
      cases d
      · have o0:=hown
        go_wp2_with (at_builtin;refine wpList_append_lies _ rfl _ _ 28 rfl w.heap.size 84 i0 (.agg #[.string ⟨#[]⟩,.string ⟨#[]⟩]) 2 32 Try.underlying28 hi0 hz0 hz1 hz2 rfl (by decide) (.slice (some ⟨g,0,none⟩) L.length cap) L.length _ rfl (o0.alloc _) ⟨wr.heap.size,0,none⟩ 1 1 [.string ⟨k.toArray⟩,.string ⟨v.toArray⟩] rfl rfl (World.news_of_block (cs:=#[.string ⟨k.toArray⟩,.string ⟨v.toArray⟩]) (t:=84) (fr:=(0,0)) (heap_alloc_new wr _)) (by simp[Value.oneCell']) (by omega) (by unfold maxLen;omega) (by omega) (by simp <;> omega) (wr.heap.size+1) (by simp) ?_;intro g3 cap3 w3 hown3 hgrow3 hat3 hlt3)
        have B3:=below_app2 hbel hsz hbg hgrow3
        have HO3:Hid (w3.ownsRow w.heap.size 84 2 (.slice (some ⟨g3,0,none⟩) (L.length+1) cap3) (L.length+1) (pcells (L ++ [(k,v)]))):=by rw[Hid,fcells_snoc];exact hown3
        clear hown3 hgrow3 o0 hown
        go_wp2
        go_ret
        have e:putL ps k v=L ++ [(k,v)]:=by rw[HE.out];rfl
        rw[e,List.length_append]
        exact⟨g3,cap3,rfl,by simp;omega,HO3.out,B3⟩
      · go_wp2
        go_ret
        have e:putL ps k v=L:=by rw[HE.out];rfl
        rw[e]
        exact⟨g,cap,rfl,by omega,hown,hbel⟩
def cutF (fs:List PairL) (n:List UInt8):List PairL:=fs.filter fun p => !(p.1 == n)
theorem cutF_snoc (fs:List PairL) (n:List UInt8) (j:Nat) (h:j<fs.length):cutF (fs.take (j+1)) n=if (keyAt fs j == n)=true then cutF (fs.take j) n else cutF (fs.take j) n ++ [(keyAt fs j,valAt fs j)]:=by
 rw[take_snocP fs j h,cutF,List.filter_append,keyAt_lt fs j h,valAt_lt fs j h]
 cases he:fs[j].1 == n <;> simp[cutF,he]
theorem cutF_le (fs:List PairL) (n:List UInt8) (j:Nat):(cutF (fs.take j) n).length≤j:=by
 have:=List.length_filter_le (fun p:PairL => !(p.1 == n)) (fs.take j)
 rw[List.length_take] at this
 unfold cutF
 omega
set_option maxRecDepth 100000 in
set_option maxHeartbeats 2000000 in
theorem spec_cutF (a : Option Addr) (cp : Nat) (ps : List PairL) (k : List UInt8) (w : World) (hl : ps.length ≤ 16777216) (hs : IsPairs w a ps) :
 Calls Try.prog 77 #[.slice a ps.length cp,.string ⟨k.toArray⟩] w fun e w'=>∃ g cap:Nat,e=.returned (.slice (some ⟨g,0,none⟩) (cutF ps k).length cap)∧w'.ownsRow w.heap.size 84 2 (.slice (some ⟨g,0,none⟩) (cutF ps k).length cap) (cutF ps k).length (pcells (cutF ps k))∧Below w.heap.size w w':=by
 obtain⟨i0,hi0,hz0,hz1,hz2⟩:=info_parts infoFile
 rcases hs with rfl | ⟨b,off,rfl,hc⟩
 · have HE:Hid (cutF [] k=[]):=rfl
   rw[HE.out]
   go_enter Try.func77,Try.ntmps77
   go_wp2
   refine wp_loop_rounds 1 ?_
   rw[rounds_succ]
   go_wp2
   go_ret
   exact⟨w.heap.size,0,rfl,World.ownsRow_lit w #[] 0 (Nat.le_refl _) (Nat.zero_le _) rfl,(Below.refl _ _).alloc (Nat.le_refl _) _⟩
 · have hc' : ∀ j, j < ps.length → w.cell? ⟨b, off + j * 2, none⟩ = some (.string ⟨(keyAt ps j).toArray⟩) ∧ w.cell? ⟨b, off + j * 2 + 1, none⟩ = some (.string ⟨(valAt ps j).toArray⟩) := fun j h => by rw [keyAt_lt ps j h, valAt_lt ps j h]; exact hc j h
   have HSTEP:Hid (∀ j,j<ps.length→cutF (ps.take (j+1)) k=if (keyAt ps j == k)=true then cutF (ps.take j) k else cutF (ps.take j) k ++ [(keyAt ps j,valAt ps j)]):=fun j h=>cutF_snoc ps k j h
   have HLE:Hid (∀ j,(cutF (ps.take j) k).length≤j):=cutF_le ps k
   clear hc
   go_enter Try.func77,Try.ntmps77
   go_wp2
   go_loopw [5,6] (fun o i wr=>∃ (j g cap:Nat) (L:List PairL),j≤ps.length∧i=.int .i64 (j:Int)∧o=.slice (some ⟨g,0,none⟩) L.length cap∧Hid (cutF (ps.take j) k=L)∧L.length≤j∧wr.ownsRow w.heap.size 84 2 (.slice (some ⟨g,0,none⟩) L.length cap) L.length (pcells L)∧Below w.heap.size w wr) (fun _ i _=>ps.length - (intOf i).toNat)
   case atStart=>exact⟨0,w.heap.size,0,[],Nat.zero_le _,rfl,rfl,rfl,Nat.zero_le _,World.ownsRow_lit w #[] 0 (Nat.le_refl _) (Nat.zero_le _) rfl,(Below.refl _ _).alloc (Nat.le_refl _) _⟩
   case round =>
    obtain⟨j,g,cap,L,hj,rfl,rfl,HL,hLl,hown,hbel⟩:=hrel
    have hsz:=hbel.size
    have hbg:=own_base hown
    by_cases hlt:j<ps.length
    · obtain⟨c1',c2'⟩:=hc' j hlt
      have hbl:=World.block_lt_of_cell? w _ c1'
      simp only at hbl
      have c1:=(hbel.cell (p:=⟨b,off+j*2,none⟩) hbl).trans c1'
      have c2:=(hbel.cell (p:=⟨b,off+j*2+1,none⟩) hbl).trans c2'
      have hj0:(0:Int)≤(j:Int):=by omega
      have hj1:(j:Int)<(ps.length:Int):=by omega
      have HS:Hid (cutF (ps.take (j+1)) k=if (keyAt ps j == k)=true then L else L ++ [(keyAt ps j,valAt ps j)]):=by rw[Hid,HSTEP.out j hlt,HL.out]
      obtain⟨x,hx⟩:∃ x,x=keyAt ps j:=⟨_,rfl⟩
      obtain⟨y,hy⟩:∃ y,y=valAt ps j:=⟨_,rfl⟩
      rw[←hx] at c1 HS
      rw[←hy] at c2 HS
      have HO:=hidOwn hown
      clear hc' hx hy c1' c2' HL HSTEP hown
      by_cases hxk:x=k
      · have HN:Hid (cutF (ps.take (j+1)) k=L):=by rw[Hid,HS.out,if_pos (by simp[hxk])]
        subst hxk
        clear HS
        go_wp2
        go_roundw
        case rel=>exact⟨j+1,g,cap,L,by omega,by go_num,rfl,HN,by omega,HO.out,hbel⟩
        case measure=>simp[intOf];omega
      · have hbk:(x == k)=false:=by simp[hxk]
        have HN:Hid (cutF (ps.take (j+1)) k=L ++ [(x,y)]):=by rw[Hid,HS.out,hbk];rfl
        clear HS
        have o0:=HO.out
        go_wp2_with (at_builtin;refine wpList_append_lies _ rfl _ _ 28 rfl w.heap.size 84 i0 (.agg #[.string ⟨#[]⟩,.string ⟨#[]⟩]) 2 32 Try.underlying28 hi0 hz0 hz1 hz2 rfl (by decide) (.slice (some ⟨g,0,none⟩) L.length cap) L.length _ rfl (o0.alloc _) ⟨wr.heap.size,0,none⟩ 1 1 [.string ⟨x.toArray⟩,.string ⟨y.toArray⟩] rfl rfl (World.news_of_block (cs:=#[.string ⟨x.toArray⟩,.string ⟨y.toArray⟩]) (t:=84) (fr:=(0,0)) (heap_alloc_new wr _)) (by simp[Value.oneCell']) (by omega) (by unfold maxLen;omega) (by omega) (by simp <;> omega) (wr.heap.size+1) (by simp) ?_;intro g3 cap3 w3 hown3 hgrow3 hat3 hlt3)
        have B3:=below_app2 hbel hsz hbg hgrow3
        have HO3:Hid (w3.ownsRow w.heap.size 84 2 (.slice (some ⟨g3,0,none⟩) (L.length+1) cap3) (L.length+1) (pcells (L ++ [(x,y)]))):=by rw[Hid,fcells_snoc];exact hown3
        clear hown3 hgrow3 o0 HO
        go_wp2
        go_roundw
        case rel=>exact⟨j+1,g3,cap3,L ++ [(x,y)],by omega,by go_num,by simp,HN,by simp;omega,by rw[List.length_append];exact HO3.out,B3⟩
        case measure=>simp[intOf];omega
    · have hjl:j=ps.length:=by omega
      subst hjl
      have hfl:=HL.out
      rw[List.take_length] at hfl
      have HE:Hid (cutF ps k=L):=hfl
      have HO:=hidOwn hown
      clear hc' HSTEP HL hfl hown
      go_wp2
      go_ret
      rw[HE.out]
      exact⟨g,cap,rfl,HO.out,hbel⟩
theorem files_flat {w:World} {b off:Nat} {qs:List PairL} (h:IsPairs w (some ⟨b,off,none⟩) qs):∀ j u,(pcells qs)[j]? = some u→w.cell? ((⟨b,off,none⟩:Addr).add j)=some u:=by
 intro j u hu
 have hj:j<qs.length*2:=by
  have:=(List.getElem?_eq_some_iff.1 hu).1
  rwa [pcells_length] at this
 rcases h with rfl | ⟨b',off',he,hc⟩
 · simp at hj
 · cases he
   have ht:=hc (j / 2) (by omega)
   have hp:=pcells_at qs (j / 2) (by omega)
   rcases Nat.mod_two_eq_zero_or_one j with h0 | h0
   · have e:j=j / 2*2:=by omega
     rw[e] at hu ⊢
     rw[hp.1] at hu
     cases hu
     have ea:(⟨b,off,none⟩:Addr).add (j / 2*2)=⟨b,off+j / 2*2,none⟩:=by
      simp only[Addr.add]
      split
      · rename_i h9;rw[h9];rfl
      · rfl
     rw[ea];exact ht.1
   · have e:j=j / 2*2+1:=by omega
     rw[e] at hu ⊢
     rw[hp.2] at hu
     cases hu
     have ea:(⟨b,off,none⟩:Addr).add (j / 2*2+1)=⟨b,off+j / 2*2+1,none⟩:=by simp[Addr.add,Nat.add_assoc]
     rw[ea];exact ht.2
theorem files_one (qs:List PairL):∀ u∈pcells qs,u.oneCell'=true:=by
 induction qs with
 | nil=>simp[pcells]
 | cons p ps ih=>simp[pcells,Value.oneCell'];exact ih
theorem cat_bytes (x y:List UInt8):(⟨x.toArray⟩:ByteArray) ++ ⟨y.toArray⟩=⟨(x ++ y).toArray⟩:=by
 apply ByteArray.ext
 simp
def datF (fs:List PairL) (n:List UInt8):List UInt8:=if 0≤atF fs n then valAt fs (atF fs n).toNat else []
def doF (fs:List PairL) (o:DOpL):List PairL × Bool :=
 if o.k=1 then (putL fs o.n (datF fs o.n ++ o.d),true)
 else if atF fs o.n<0 then (fs,false)
 else (if o.k=2 then putL (cutF fs o.n) o.t (datF fs o.n) else cutF fs o.n,true)
theorem atF_range (fs:List PairL) (n:List UInt8):atF fs n = -1∨∃ j,j<fs.length∧atF fs n=(j:Int):=by
 unfold atF
 cases h:fs.findIdx? (fun p=>p.1 == n) with
 | none=>exact .inl rfl
 | some j =>
   rw[List.findIdx?_eq_some_iff_getElem] at h
   exact .inr ⟨j,h.1,rfl⟩
set_option maxRecDepth 100000 in
set_option maxHeartbeats 2000000 in
theorem spec_do (b off cp : Nat) (ps : List PairL) (k : Int) (n t d : List UInt8) (w : World) (hl : ps.length ≤ 1000) (hm : ∀ p ∈ ps, p.1.length ≤ 16777216 ∧ p.2.length ≤ 8388608) (hn : n.length ≤ 16777216) (ht : t.length ≤ 16777216) (hd : d.length ≤ 8388608) (hs : IsPairs w (some ⟨b, off, none⟩) ps) :
 Calls Try.prog 42 #[.slice (some ⟨b,off,none⟩) ps.length cp,.agg #[.int .i64 k,.string ⟨n.toArray⟩,.string ⟨t.toArray⟩,.string ⟨d.toArray⟩]] w fun e w'=>∃ (a:Option Addr) (m c:Nat),e=.returned (.tuple #[.slice a m c,.bool (doF ps ⟨k,n,t,d⟩).2])∧w'.ownsRow w.heap.size 84 2 (.slice a m c) (doF ps ⟨k,n,t,d⟩).1.length (pcells (doF ps ⟨k,n,t,d⟩).1)∧Below w.heap.size w w':=by
 obtain⟨i0,hi0,hz0,hz1,hz2⟩:=info_parts infoFile
 have B0:Below w.heap.size w (w.alloc (.cells #[.int .i64 k,.string ⟨n.toArray⟩,.string ⟨t.toArray⟩,.string ⟨d.toArray⟩] 40)):=(Below.refl _ _).alloc (Nat.le_refl _) _
 have H0:Hid ((w.alloc (.cells #[.int .i64 k,.string ⟨n.toArray⟩,.string ⟨t.toArray⟩,.string ⟨d.toArray⟩] 40)).heap[w.heap.size]? = some (.cells #[.int .i64 k,.string ⟨n.toArray⟩,.string ⟨t.toArray⟩,.string ⟨d.toArray⟩] 40 (0,0))):=heap_alloc_new w _
 obtain⟨p0,p1,p2,p3,_⟩:=four_cells H0.out
 have KA:=spec_at (some ⟨b,off,none⟩) cp ps n (w.alloc (.cells #[.int .i64 k,.string ⟨n.toArray⟩,.string ⟨t.toArray⟩,.string ⟨d.toArray⟩] 40)) (by omega) (hs.later B0)
 have HS:Hid (∀ W,Below w.heap.size w W→IsPairs W (some ⟨b,off,none⟩) ps):=fun W hW=>hs.later hW
 have HM:Hid (∀ p∈ps,p.1.length≤16777216∧p.2.length≤8388608):=hm
 have HPUT:Hid (∀ (a:Option Addr) (c:Nat) (qs:List PairL) (x v:List UInt8) W,qs.length≤1000→(∀ p∈qs,p.1.length≤16777216∧p.2.length≤16777216)→x.length≤16777216→v.length≤16777216→IsPairs W a qs→_):=fun a c qs x v W h1 h2 h3 h4 h5=>spec_put a c qs x v W (by omega) h2 h3 h4 h5
 have HCUT:Hid (∀ W,Below w.heap.size w W→_):=fun W hW=>spec_cutF (some ⟨b,off,none⟩) cp ps n W (by omega) (HS.out W hW)
 have HR:=atF_range ps n
 have HDO:Hid (doF ps ⟨k,n,t,d⟩=if k=1 then (putL ps n (datF ps n ++ d),true) else if atF ps n<0 then (ps,false) else (if k=2 then putL (cutF ps n) t (datF ps n) else cutF ps n,true)):=rfl
 have HDA:Hid (datF ps n=if 0≤atF ps n then valAt ps (atF ps n).toNat else []):=rfl
 obtain⟨at0,hat0⟩:∃ at0,at0=atF ps n:=⟨_,rfl⟩
 rw[←hat0] at KA HR HDO HDA
 obtain⟨R,hR⟩:∃ R,R=doF ps ⟨k,n,t,d⟩:=⟨_,rfl⟩
 rw[←hR] at HDO ⊢
 clear hs hm hat0 hR
 rcases HR with rfl | ⟨j,hj,rfl⟩
 · by_cases hk1:k=1
   · subst hk1
     have HZ:Hid (R=(putL ps n ([] ++ d),true)):=by rw[Hid,HDO.out,if_pos rfl,HDA.out,if_neg (by omega)]
     clear HDO HDA
     go_enter Try.func42,Try.ntmps42
     go_wp2_with fail
     refine KA.mono ?_
     rintro e w1 ⟨rfl,b1⟩
     have B1:=B0.trans (b1.mono B0.size)
     obtain⟨q0,q1,q2,q3,_⟩:=four_cells ((b1.block _ (lt_of_block H0.out)).trans H0.out)
     clear p0 p1 p2 p3 KA b1
     have KP:=HPUT.out (some ⟨b,off,none⟩) cp ps n d w1 (by omega) (fun p hp=>⟨(HM.out p hp).1,by have:=(HM.out p hp).2;omega⟩) hn (by omega) (HS.out w1 B1)
     go_wp2_with fail
     refine KP.mono ?_
     rintro e w2 ⟨g,c,rfl,_,o2,b2⟩
     have B2:=B1.trans (b2.mono B1.size)
     have O2:=hidOwn (o2.mono (base':=w.heap.size) B1.size)
     clear o2 b2
     go_wp2
     go_ret2
     rw[HZ.out]
     exact⟨_,_,_,rfl,by simpa using O2.out,B2⟩
   · have hk1b:(k == 1)=false:=by rw[beq_eq_false_iff_ne];exact hk1
     have HZ:Hid (R=(ps,false)):=by rw[Hid,HDO.out,if_neg hk1,if_pos (by omega)]
     clear HDO HDA
     go_enter Try.func42,Try.ntmps42
     go_wp2_with fail
     refine KA.mono ?_
     rintro e w1 ⟨rfl,b1⟩
     have B1:=B0.trans (b1.mono B0.size)
     have H1:Hid (w1.heap[w.heap.size]? = some (.cells #[.int .i64 k,.string ⟨n.toArray⟩,.string ⟨t.toArray⟩,.string ⟨d.toArray⟩] 40 (0,0))):=(b1.block _ (lt_of_block H0.out)).trans H0.out
     obtain⟨q0,q1,q2,q3,_⟩:=four_cells H1.out
     clear p0 p1 p2 p3 KA b1
     have L1:Hid (Below w1.heap.size w1 (w1.alloc (.cells #[] 84))):=(Below.refl _ _).alloc (Nat.le_refl _) _
     have HF:Hid (∀ i u,(pcells ps)[i]? = some u→(w1.alloc (.cells #[] 84)).cell? ((⟨b,off,none⟩:Addr).add i)=some u):=files_flat (HS.out _ (B1.trans (L1.out.mono B1.size)))
     have HO0:=hidOwn (World.ownsRow_lit (e:=84) (size:=2) w1 #[] 0 (base:=w1.heap.size) (Nat.le_refl _) (Nat.zero_le _) rfl)
     go_wp2_with (at_builtin;refine wpList_append_own _ rfl _ _ 28 rfl w1.heap.size 84 i0 (.agg #[.string ⟨#[]⟩,.string ⟨#[]⟩]) 2 32 Try.underlying28 hi0 hz0 hz1 hz2 rfl (by decide) (.slice (some ⟨w1.heap.size,0,none⟩) 0 0) 0 _ rfl HO0.out ⟨b,off,none⟩ ps.length cp (pcells ps) rfl (pcells_length ps) HF.out (files_one ps) (by unfold maxLen;omega) (by omega) (by simp <;> omega) ?_;intro v3 w3 hown3 hgrow3 hnil3;obtain⟨a3,m3,c3,rfl⟩:=own_slice2 hown3)
     have B3:Below w.heap.size w w3:=B1.trans ((L1.out.grown hgrow3 (by simp) (fun q hq=>by simp[Value.ownBlock] at hq;omega)).mono B1.size)
     have HO3:Hid (w3.ownsRow w.heap.size 84 2 (.slice a3 m3 c3) ps.length (pcells ps)):=by rw[Hid];exact (by simpa using hown3:w3.ownsRow w1.heap.size 84 2 (.slice a3 m3 c3) ps.length (pcells ps)).mono B1.size
     clear hown3 hgrow3 hnil3
     go_wp2
     go_ret2
     rw[HZ.out]
     exact⟨_,_,_,rfl,HO3.out,B3⟩
 · have hj0 : (0 : Int) ≤ (j : Int) := by omega
   have hj1:(j:Int)<(ps.length:Int):=by omega
   have hjn:¬ (j:Int)<0:=by omega
   have HV:Hid (datF ps n=valAt ps j):=by rw[Hid,HDA.out,if_pos hj0];simp
   have HCELL:Hid (∀ W,Below w.heap.size w W→W.cell? ⟨b,off+j*2+1,none⟩=some (.string ⟨(valAt ps j).toArray⟩)):=fun W hW=>by
    rcases HS.out W hW with h | ⟨b',off',he,hc⟩
    · rw[h] at hj;simp at hj
    · cases he
      rw[valAt_lt ps j hj];exact (hc j hj).2
   have hvl:(valAt ps j).length≤8388608:=by rw[valAt_lt ps j hj];exact (HM.out _ (List.getElem_mem hj)).2
   rw[HV.out] at HDO
   obtain⟨v,hv⟩:∃ v,v=valAt ps j:=⟨_,rfl⟩
   rw[←hv] at HDO HCELL hvl
   clear HDA HV hv
   by_cases hk1:k=1
   · have HZ:Hid (R=(putL ps n (v ++ d),true)):=by rw[Hid,HDO.out,if_pos hk1]
     clear HDO
     subst hk1
     go_enter Try.func42,Try.ntmps42
     go_wp2_with fail
     refine KA.mono ?_
     rintro e w1 ⟨rfl,b1⟩
     have B1:=B0.trans (b1.mono B0.size)
     have H1:Hid (w1.heap[w.heap.size]? = some (.cells #[.int .i64 1,.string ⟨n.toArray⟩,.string ⟨t.toArray⟩,.string ⟨d.toArray⟩] 40 (0,0))):=(b1.block _ (lt_of_block H0.out)).trans H0.out
     obtain⟨q0,q1,q2,q3,_⟩:=four_cells H1.out
     clear p0 p1 p2 p3 KA b1
     have c1:=HCELL.out w1 B1
     have hcat:=cat_bytes v d
     have KP:=HPUT.out (some ⟨b,off,none⟩) cp ps n (v ++ d) w1 (by omega) (fun p hp=>⟨(HM.out p hp).1,by have:=(HM.out p hp).2;omega⟩) hn (by rw[List.length_append];omega) (HS.out w1 B1)
     go_wp2_with fail
     refine KP.mono ?_
     rintro e w2 ⟨g,c,rfl,_,o2,b2⟩
     have B2:=B1.trans (b2.mono B1.size)
     have O2:=hidOwn (o2.mono (base':=w.heap.size) B1.size)
     clear o2 b2
     go_wp2
     go_ret2
     rw[HZ.out]
     exact⟨_,_,_,rfl,O2.out,B2⟩
   · have hk1b : (k == 1) = false := by rw [beq_eq_false_iff_ne]; exact hk1
     have HZ:Hid (R=(if k=2 then putL (cutF ps n) t v else cutF ps n,true)):=by rw[Hid,HDO.out,if_neg hk1,if_neg hjn]
     clear HDO
     go_enter Try.func42,Try.ntmps42
     go_wp2_with fail
     refine KA.mono ?_
     rintro e w1 ⟨rfl,b1⟩
     have B1:=B0.trans (b1.mono B0.size)
     have H1:Hid (w1.heap[w.heap.size]? = some (.cells #[.int .i64 k,.string ⟨n.toArray⟩,.string ⟨t.toArray⟩,.string ⟨d.toArray⟩] 40 (0,0))):=(b1.block _ (lt_of_block H0.out)).trans H0.out
     obtain⟨q0,q1,q2,q3,_⟩:=four_cells H1.out
     have KC:=HCUT.out w1 B1
     clear p0 p1 p2 p3 KA b1
     go_wp2_with fail
     refine KC.mono ?_
     rintro e w2 ⟨g,c,rfl,o2,b2⟩
     have B2:=B1.trans (b2.mono B1.size)
     have O2:=hidOwn (o2.mono (base':=w.heap.size) B1.size)
     have H2:Hid (w2.heap[w.heap.size]? = some (.cells #[.int .i64 k,.string ⟨n.toArray⟩,.string ⟨t.toArray⟩,.string ⟨d.toArray⟩] 40 (0,0))):=(b2.block _ (lt_of_block H1.out)).trans H1.out
     obtain⟨r0,r1,r2,r3,_⟩:=four_cells H2.out
     have c2:=HCELL.out w2 B2
     clear q0 q1 q2 q3 KC o2 b2
     by_cases hk2:k=2
     · rw [if_pos hk2] at HZ
       subst hk2
       have hcl:(cutF ps n).length≤1000:=by have:=cutF_le ps n ps.length;rw[List.take_length] at this;omega
       have KP:=HPUT.out (some ⟨g,0,none⟩) c (cutF ps n) t v w2.drew hcl (fun p hp=>by
        have hp':p∈ps:=(List.mem_filter.1 hp).1
        exact⟨(HM.out p hp').1,by have:=(HM.out p hp').2;omega⟩) ht (by omega) (isPairs_own O2.out).2.2
       have hSz:w.heap.size≤w2.heap.size:=B2.size
       go_wp2_with fail
       go_region_held3 (fun w'=>w'.cell? ⟨w.heap.size,2,none⟩=some (.string ⟨t.toArray⟩)∧w'.cell? ⟨b,off+j*2+1,none⟩=some (.string ⟨v.toArray⟩))
        (first | (exact⟨by assumption,by assumption⟩) | go_keep)
        ((go_at_call 76
          refine KP.mono ?_
          rintro e w3 ⟨g3,c3,rfl,_,o3,b3⟩
          have b3':Below w2.heap.size w2 w3:=⟨b3.os,b3.tape,b3.output,b3.size,b3.block⟩
          have d0:=(four_cells ((b3'.block _ (lt_of_block H2.out)).trans H2.out)).2.2.1
          have B3:=B2.trans (b3'.mono B2.size)
          have d1:=HCELL.out w3 B3
          have O3:=hidOwn (o3.mono (base':=w.heap.size) B2.size)
          clear o3 b3 b3'))
       all_goals
        go_wp2
        go_ret2
        rw[HZ.out]
        exact⟨_,_,_,rfl,O3.out,B3⟩
     · rw[if_neg hk2] at HZ
       have hk2b:(k == 2)=false:=by rw[beq_eq_false_iff_ne];exact hk2
       go_wp2
       go_ret2
       rw[HZ.out]
       exact⟨_,_,_,rfl,O2.out,B2⟩
theorem pair_at (ps:List PairL) (j:Nat) (h:j<ps.length):ps[j]=(keyAt ps j,valAt ps j):=by rw[keyAt_lt ps j h,valAt_lt ps j h]
theorem same_all (ps qs:List PairL) (hl:ps.length=qs.length) (h:∀ j,j<ps.length→keyAt ps j=keyAt qs j∧valAt ps j=valAt qs j):ps=qs :=
 List.ext_getElem hl fun j h1 h2=>by rw[pair_at ps j h1,pair_at qs j h2,(h j h1).1,(h j h1).2]
set_option maxRecDepth 100000 in
set_option maxHeartbeats 1000000 in
theorem spec_same (a b : Option Addr) (c d : Nat) (ps qs : List PairL) (w : World) (hl : ps.length ≤ 16777216) (hl2 : qs.length ≤ 16777216) (hs : IsPairs w a ps) (ht : IsPairs w b qs) :
 Calls Try.prog 44 #[.slice a ps.length c,.slice b qs.length d] w fun e w'=>e=.returned (.bool (decide (ps=qs)))∧Below w.heap.size w w':=by
 by_cases hle:ps.length=qs.length
 · have HYES : Hid ((∀ j, j < ps.length → keyAt ps j = keyAt qs j ∧ valAt ps j = valAt qs j) → decide (ps = qs) = true) := fun h => decide_eq_true (same_all ps qs hle h)
   have HNO:Hid (∀ j,¬ (keyAt ps j=keyAt qs j∧valAt ps j=valAt qs j)→decide (ps=qs)=false):=fun j h=>decide_eq_false (fun e=>h (by rw[e];exact⟨rfl,rfl⟩))
   have HC : Hid (∀ W, Below w.heap.size w W → ∀ j, j < ps.length → ∃ b1 o1 b2 o2, a = some ⟨b1, o1, none⟩ ∧ b = some ⟨b2, o2, none⟩ ∧ (W.cell? ⟨b1, o1 + j * 2, none⟩ = some (.string ⟨(keyAt ps j).toArray⟩) ∧ W.cell? ⟨b1, o1 + j * 2 + 1, none⟩ = some (.string ⟨(valAt ps j).toArray⟩)) ∧ W.cell? ⟨b2, o2 + j * 2, none⟩ = some (.string ⟨(keyAt qs j).toArray⟩) ∧ W.cell? ⟨b2, o2 + j * 2 + 1, none⟩ = some (.string ⟨(valAt qs j).toArray⟩)) := fun W hW j hj => by
    rcases hs.later hW with h | ⟨b1,o1,rfl,h1⟩
    · rw[h] at hj;simp at hj
    · rcases ht.later hW with h | ⟨b2,o2,rfl,h2⟩
      · rw[hle,h] at hj;simp at hj
      · refine⟨b1,o1,b2,o2,rfl,rfl,?_,?_⟩
        · rw[keyAt_lt ps j hj,valAt_lt ps j hj];exact h1 j hj
        · rw[keyAt_lt qs j (by omega),valAt_lt qs j (by omega)];exact h2 j (by omega)
   obtain⟨R,hR⟩:∃ R,R=decide (ps=qs):=⟨_,rfl⟩
   obtain⟨n,hn⟩:∃ n,n=ps.length:=⟨_,rfl⟩
   have hn2:qs.length=n:=by omega
   rw[←hR] at HYES HNO ⊢
   rw[hn2]
   rw[←hn] at HYES HC ⊢
   have hnl:n≤16777216:=by omega
   clear hs ht hR hle hn hn2 hl hl2
   go_enter Try.func44,Try.ntmps44
   go_wp2
   go_loopw [5] (fun i wr=>∃ j:Nat,j≤n∧i=.int .i64 (j:Int)∧Hid (∀ q,q<j→keyAt ps q=keyAt qs q∧valAt ps q=valAt qs q)∧Below w.heap.size w wr) (fun i _=>n - (intOf i).toNat)
   case atStart=>exact⟨0,Nat.zero_le _,rfl,fun k hk=>by omega,Below.refl _ _⟩
   case round =>
    obtain⟨j,hj,rfl,HA,hbel⟩:=hrel
    by_cases hlt:j<n
    · obtain⟨b1,o1,b2,o2,rfl,rfl,⟨c1,c2⟩,c3,c4⟩:=HC.out wr hbel j hlt
      have hj0:(0:Int)≤(j:Int):=by omega
      have hj1:(j:Int)<(n:Int):=by omega
      have HN:Hid (keyAt ps j=keyAt qs j∧valAt ps j=valAt qs j→∀ k,k<j+1→keyAt ps k=keyAt qs k∧valAt ps k=valAt qs k):=fun e k hk=>by
       by_cases ek:k=j
       · rw[ek];exact e
       · exact HA.out k (by omega)
      have HX:Hid (¬ (keyAt ps j=keyAt qs j∧valAt ps j=valAt qs j)→R=false):=HNO.out j
      obtain⟨x1,hx1⟩:∃ x,x=keyAt ps j:=⟨_,rfl⟩
      obtain⟨y1,hy1⟩:∃ y,y=valAt ps j:=⟨_,rfl⟩
      obtain⟨x2,hx2⟩:∃ x,x=keyAt qs j:=⟨_,rfl⟩
      obtain⟨y2,hy2⟩:∃ y,y=valAt qs j:=⟨_,rfl⟩
      rw[←hx1] at c1 HN HX
      rw[←hy1] at c2 HN HX
      rw[←hx2] at c3 HN HX
      rw[←hy2] at c4 HN HX
      clear hx1 hy1 hx2 hy2 HA HYES HNO HC
      by_cases h1:x1=x2
      · by_cases h2:y1=y2
        · have HNN:Hid (∀ k,k<j+1→keyAt ps k=keyAt qs k∧valAt ps k=valAt qs k):=HN.out ⟨h1,h2⟩
          subst h1 h2
          clear HN HX
          go_wp2
          first | (go_quiet (fail);go_wp2) | skip
          go_roundw
          case rel=>exact⟨j+1,by omega,by go_num,HNN,by first | exact hbel | exact below_dr hbel⟩
          case measure=>simp[intOf];omega
        · have HR:Hid (R=false):=HX.out (fun e=>h2 e.2)
          have h2b:(y1 == y2)=false:=by rw[beq_eq_false_iff_ne];exact h2
          subst h1
          clear HN HX
          go_wp2
          first | (go_quiet (fail);go_wp2) | skip
          go_ret
          rw[HR.out]
          exact⟨rfl,by first | exact hbel | exact below_dr hbel⟩
      · have HR:Hid (R=false):=HX.out (fun e=>h1 e.1)
        have h1b:(x1 == x2)=false:=by rw[beq_eq_false_iff_ne];exact h1
        clear HN HX
        go_wp2
        first | (go_quiet (fail);go_wp2) | skip
        go_ret
        rw[HR.out]
        exact⟨rfl,by first | exact hbel | exact below_dr hbel⟩
    · have hjl:j=n:=by omega
      subst hjl
      have HR:Hid (R=true):=HYES.out HA.out
      clear HYES HNO HC HA
      go_wp2
      go_ret
      rw[HR.out]
      exact⟨rfl,hbel⟩
 · have hle':¬ (ps.length:Int)=(qs.length:Int):=by omega
   have HR:Hid (decide (ps=qs)=false):=decide_eq_false (fun e=>hle (by rw[e]))
   clear hs ht
   go_enter Try.func44,Try.ntmps44
   go_wp2
   go_ret
   rw[HR.out]
   exact⟨rfl,Below.refl _ _⟩
set_option maxRecDepth 100000 in
set_option maxHeartbeats 2000000 in
theorem spec_do0 (cp:Nat) (k:Int) (n t d:List UInt8) (w:World) (hn:n.length≤16777216) (ht:t.length≤16777216) (hd:d.length≤8388608) :
 Calls Try.prog 42 #[.slice none 0 cp,.agg #[.int .i64 k,.string ⟨n.toArray⟩,.string ⟨t.toArray⟩,.string ⟨d.toArray⟩]] w fun e w'=>∃ (a:Option Addr) (m c:Nat),e=.returned (.tuple #[.slice a m c,.bool (doF [] ⟨k,n,t,d⟩).2])∧w'.ownsRow w.heap.size 84 2 (.slice a m c) (doF [] ⟨k,n,t,d⟩).1.length (pcells (doF [] ⟨k,n,t,d⟩).1)∧Below w.heap.size w w':=by
 have B0:Below w.heap.size w (w.alloc (.cells #[.int .i64 k,.string ⟨n.toArray⟩,.string ⟨t.toArray⟩,.string ⟨d.toArray⟩] 40)):=(Below.refl _ _).alloc (Nat.le_refl _) _
 have H0:Hid ((w.alloc (.cells #[.int .i64 k,.string ⟨n.toArray⟩,.string ⟨t.toArray⟩,.string ⟨d.toArray⟩] 40)).heap[w.heap.size]? = some (.cells #[.int .i64 k,.string ⟨n.toArray⟩,.string ⟨t.toArray⟩,.string ⟨d.toArray⟩] 40 (0,0))):=heap_alloc_new w _
 obtain⟨p0,p1,p2,p3,_⟩:=four_cells H0.out
 have KA:Calls Try.prog 64 #[.slice none 0 cp,.string ⟨n.toArray⟩] (w.alloc (.cells #[.int .i64 k,.string ⟨n.toArray⟩,.string ⟨t.toArray⟩,.string ⟨d.toArray⟩] 40)) _:=spec_at none cp [] n (w.alloc (.cells #[.int .i64 k,.string ⟨n.toArray⟩,.string ⟨t.toArray⟩,.string ⟨d.toArray⟩] 40)) (by simp) (.inl rfl)
 have HPUT:Hid (∀ (x v:List UInt8) W,x.length≤16777216→v.length≤16777216→Calls Try.prog 76 #[.slice none 0 cp,.string ⟨x.toArray⟩,.string ⟨v.toArray⟩] W _):=fun x v W h3 h4=>spec_put none cp [] x v W (by simp) (fun p hp=>by simp at hp) h3 h4 (.inl rfl)
 have e0:atF [] n = -1:=rfl
 rw[e0] at KA
 by_cases hk1:k=1
 · subst hk1
   have HZ:Hid (doF [] ⟨1,n,t,d⟩=(putL [] n d,true)):=by rw[Hid,doF,if_pos rfl,datF,e0,if_neg (by omega),List.nil_append]
   obtain⟨R,hR⟩:∃ R,R=doF [] ⟨1,n,t,d⟩:=⟨_,rfl⟩
   rw[←hR] at HZ ⊢
   clear hR e0
   go_enter Try.func42,Try.ntmps42
   go_wp2_with fail
   refine KA.mono ?_
   rintro e w1 ⟨rfl,b1⟩
   have B1:=B0.trans (b1.mono B0.size)
   obtain⟨q0,q1,q2,q3,_⟩:=four_cells ((b1.block _ (lt_of_block H0.out)).trans H0.out)
   clear p0 p1 p2 p3 KA b1
   have KP:=HPUT.out n d w1 hn (by omega)
   go_wp2_with fail
   refine KP.mono ?_
   rintro e w2 ⟨g,c,rfl,_,o2,b2⟩
   have B2:=B1.trans (b2.mono B1.size)
   have O2:=hidOwn (o2.mono (base':=w.heap.size) B1.size)
   clear o2 b2
   go_wp2
   go_ret2
   rw[HZ.out]
   exact⟨_,_,_,rfl,O2.out,B2⟩
 · have hk1b:(k == 1)=false:=by rw[beq_eq_false_iff_ne];exact hk1
   have HZ:Hid (doF [] ⟨k,n,t,d⟩=([],false)):=by rw[Hid,doF,if_neg hk1,e0,if_pos (by omega)]
   obtain⟨R,hR⟩:∃ R,R=doF [] ⟨k,n,t,d⟩:=⟨_,rfl⟩
   rw[←hR] at HZ ⊢
   clear hR e0
   go_enter Try.func42,Try.ntmps42
   go_wp2_with fail
   refine KA.mono ?_
   rintro e w1 ⟨rfl,b1⟩
   have B1:=B0.trans (b1.mono B0.size)
   have H1:Hid (w1.heap[w.heap.size]? = some (.cells #[.int .i64 k,.string ⟨n.toArray⟩,.string ⟨t.toArray⟩,.string ⟨d.toArray⟩] 40 (0,0))):=(b1.block _ (lt_of_block H0.out)).trans H0.out
   obtain⟨q0,q1,q2,q3,_⟩:=four_cells H1.out
   clear p0 p1 p2 p3 KA b1
   go_wp2
   go_ret2
   rw[HZ.out]
   exact⟨_,_,_,rfl,World.ownsRow_lit (e:=84) (size:=2) w1 #[] 0 (base:=w.heap.size) B1.size (Nat.zero_le _) rfl,B1.alloc B1.size _⟩
def opGoes (fs:List PairL) (o:DOpL):Bool:=(doF fs o).2 && (formOk o && filesOk (doF fs o).1)
def runF:List PairL→List DOpL→Option (List PairL)
 | fs,[]=>some fs
 | fs,o :: os=>if opGoes fs o=true then runF (doF fs o).1 os else none
theorem runF_snoc:∀ (os:List DOpL) (fs:List PairL) (o:DOpL),runF fs (os ++ [o])=(runF fs os).bind fun gs=>if opGoes gs o=true then some (doF gs o).1 else none
 | [],fs,o=>by simp[runF]
 | p :: os, fs, o => by
   rw[List.cons_append,runF,runF]
   split
   · exact runF_snoc os _ o
   · rfl
theorem runF_step (os:List DOpL) (fs gs:List PairL) (j:Nat) (h:j<os.length) (hg:runF fs (os.take j)=some gs):runF fs (os.take (j+1))=if opGoes gs os[j]=true then some (doF gs os[j]).1 else none:=by
 rw[List.take_succ_eq_append_getElem h,runF_snoc,hg];rfl
theorem runF_stop:∀ (os:List DOpL) (fs:List PairL) (j:Nat),runF fs (os.take j)=none→runF fs os=none
 | [],fs,j,h=>by simpa using h
 | o :: os,fs,0,h=>by simp[runF] at h
 | o :: os, fs, j + 1, h => by
   rw[List.take_succ_cons,runF] at h
   rw[runF]
   split
   · rename_i hg
     rw[if_pos hg] at h
     exact runF_stop os _ j h
   · rfl
def diskOk (live safe:List PairL) (ops:List DOpL):Bool:=filesOk live && (filesOk safe && (decide (ops.length≤200) && decide (runF safe ops=some live)))
set_option maxRecDepth 100000 in
set_option maxHeartbeats 1000000 in
theorem same_files (a b : Option Addr) (c d : Nat) (ps qs : List PairL) (w : World) (hl : ps.length ≤ 16777216) (hl2 : qs.length ≤ 16777216) (hs : IsPairs w a ps) (ht : IsPairs w b qs) :
 Calls Try.prog 36 #[.slice a ps.length c,.slice b qs.length d] w fun e w'=>e=.returned (.bool (decide (ps=qs)))∧Below w.heap.size w w':=by
 by_cases hle:ps.length=qs.length
 · have HYES : Hid ((∀ j, j < ps.length → keyAt ps j = keyAt qs j ∧ valAt ps j = valAt qs j) → decide (ps = qs) = true) := fun h => decide_eq_true (same_all ps qs hle h)
   have HNO:Hid (∀ j,¬ (keyAt ps j=keyAt qs j∧valAt ps j=valAt qs j)→decide (ps=qs)=false):=fun j h=>decide_eq_false (fun e=>h (by rw[e];exact⟨rfl,rfl⟩))
   have HC : Hid (∀ W, Below w.heap.size w W → ∀ j, j < ps.length → ∃ b1 o1 b2 o2, a = some ⟨b1, o1, none⟩ ∧ b = some ⟨b2, o2, none⟩ ∧ (W.cell? ⟨b1, o1 + j * 2, none⟩ = some (.string ⟨(keyAt ps j).toArray⟩) ∧ W.cell? ⟨b1, o1 + j * 2 + 1, none⟩ = some (.string ⟨(valAt ps j).toArray⟩)) ∧ W.cell? ⟨b2, o2 + j * 2, none⟩ = some (.string ⟨(keyAt qs j).toArray⟩) ∧ W.cell? ⟨b2, o2 + j * 2 + 1, none⟩ = some (.string ⟨(valAt qs j).toArray⟩)) := fun W hW j hj => by
    rcases hs.later hW with h | ⟨b1,o1,rfl,h1⟩
    · rw[h] at hj;simp at hj
    · rcases ht.later hW with h | ⟨b2,o2,rfl,h2⟩
      · rw[hle,h] at hj;simp at hj
      · refine⟨b1,o1,b2,o2,rfl,rfl,?_,?_⟩
        · rw[keyAt_lt ps j hj,valAt_lt ps j hj];exact h1 j hj
        · rw[keyAt_lt qs j (by omega),valAt_lt qs j (by omega)];exact h2 j (by omega)
   obtain⟨R,hR⟩:∃ R,R=decide (ps=qs):=⟨_,rfl⟩
   obtain⟨n,hn⟩:∃ n,n=ps.length:=⟨_,rfl⟩
   have hn2:qs.length=n:=by omega
   rw[←hR] at HYES HNO ⊢
   rw[hn2]
   rw[←hn] at HYES HC ⊢
   have hnl:n≤16777216:=by omega
   clear hs ht hR hle hn hn2 hl hl2
   go_enter Try.func36,Try.ntmps36
   go_wp2
   go_loopw [5] (fun i wr=>∃ j:Nat,j≤n∧i=.int .i64 (j:Int)∧Hid (∀ q,q<j→keyAt ps q=keyAt qs q∧valAt ps q=valAt qs q)∧Below w.heap.size w wr) (fun i _=>n - (intOf i).toNat)
   case atStart=>exact⟨0,Nat.zero_le _,rfl,fun k hk=>by omega,Below.refl _ _⟩
   case round =>
    obtain⟨j,hj,rfl,HA,hbel⟩:=hrel
    by_cases hlt:j<n
    · obtain⟨b1,o1,b2,o2,rfl,rfl,⟨c1,c2⟩,c3,c4⟩:=HC.out wr hbel j hlt
      have hj0:(0:Int)≤(j:Int):=by omega
      have hj1:(j:Int)<(n:Int):=by omega
      have HN:Hid (keyAt ps j=keyAt qs j∧valAt ps j=valAt qs j→∀ k,k<j+1→keyAt ps k=keyAt qs k∧valAt ps k=valAt qs k):=fun e k hk=>by
       by_cases ek:k=j
       · rw[ek];exact e
       · exact HA.out k (by omega)
      have HX:Hid (¬ (keyAt ps j=keyAt qs j∧valAt ps j=valAt qs j)→R=false):=HNO.out j
      obtain⟨x1,hx1⟩:∃ x,x=keyAt ps j:=⟨_,rfl⟩
      obtain⟨y1,hy1⟩:∃ y,y=valAt ps j:=⟨_,rfl⟩
      obtain⟨x2,hx2⟩:∃ x,x=keyAt qs j:=⟨_,rfl⟩
      obtain⟨y2,hy2⟩:∃ y,y=valAt qs j:=⟨_,rfl⟩
      rw[←hx1] at c1 HN HX
      rw[←hy1] at c2 HN HX
      rw[←hx2] at c3 HN HX
      rw[←hy2] at c4 HN HX
      clear hx1 hy1 hx2 hy2 HA HYES HNO HC
      by_cases h1:x1=x2
      · by_cases h2:y1=y2
        · have HNN:Hid (∀ k,k<j+1→keyAt ps k=keyAt qs k∧valAt ps k=valAt qs k):=HN.out ⟨h1,h2⟩
          subst h1 h2
          clear HN HX
          go_wp2
          first | (go_quiet (fail);go_wp2) | skip
          go_roundw
          case rel=>exact⟨j+1,by omega,by go_num,HNN,by first | exact hbel | exact below_dr hbel⟩
          case measure=>simp[intOf];omega
        · have HR:Hid (R=false):=HX.out (fun e=>h2 e.2)
          have h2b:(y1 == y2)=false:=by rw[beq_eq_false_iff_ne];exact h2
          subst h1
          clear HN HX
          go_wp2
          first | (go_quiet (fail);go_wp2) | skip
          go_ret
          rw[HR.out]
          exact⟨rfl,by first | exact hbel | exact below_dr hbel⟩
      · have HR:Hid (R=false):=HX.out (fun e=>h1 e.1)
        have h1b:(x1 == x2)=false:=by rw[beq_eq_false_iff_ne];exact h1
        clear HN HX
        go_wp2
        first | (go_quiet (fail);go_wp2) | skip
        go_ret
        rw[HR.out]
        exact⟨rfl,by first | exact hbel | exact below_dr hbel⟩
    · have hjl:j=n:=by omega
      subst hjl
      have HR:Hid (R=true):=HYES.out HA.out
      clear HYES HNO HC HA
      go_wp2
      go_ret
      rw[HR.out]
      exact⟨rfl,hbel⟩
 · have hle':¬ (ps.length:Int)=(qs.length:Int):=by omega
   have HR:Hid (decide (ps=qs)=false):=decide_eq_false (fun e=>hle (by rw[e]))
   clear hs ht
   go_enter Try.func36,Try.ntmps36
   go_wp2
   go_ret
   rw[HR.out]
   exact⟨rfl,Below.refl _ _⟩
end Go.Proofs.Ytlllkdioojjaeaa
