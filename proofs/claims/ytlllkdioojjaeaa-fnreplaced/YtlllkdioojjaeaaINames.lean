/-
 Texts that are laid as one: IFiles, IByName, IFit.
-/
import Derived.Test.YtlllkdioojjaeaaSDos
import Derived.Test.YtlllkdioojjaeaaMapFs
import Derived.Carry
import Derived.Maps.RangeWalk
namespace Go.Proofs.Ytlllkdioojjaeaa
open Go.RowKit
set_option linter.unusedVariables false
set_option maxRecDepth 100000 in
theorem impl_name (s:List UInt8) (w:World) (hs:s.length≤16777216) :
 Calls Try.prog 79 #[.string ⟨s.toArray⟩] w fun e w'=>e=.returned (.bool (nameOk s))∧w'=w:=by
 have hz:(ByteArray.mk s.toArray).size=s.length:=by simp[ByteArray.size]
 cases s with
 | nil =>
   have HR:Hid (nameOk []=false):=rfl
   rw[HR.out]
   go_enter Try.func79,Try.ntmps79
   go_wp2
   go_ret
   exact⟨rfl,rfl⟩
 | cons x r =>
   have hne:((x :: r) == ([]:List UInt8))=false:=rfl
   have hne2:(x :: r).isEmpty=false:=rfl
   by_cases h2:(x :: r).length≤100
   · have HR:Hid (nameOk (x :: r)=true):=by rw[Hid,nameOk,decide_eq_true h2,decide_eq_true (by simp)];rfl
     have h2':((x :: r).length:Int)≤100:=by omega
     rw[HR.out]
     obtain⟨l,hl⟩:∃ l,l=x :: r:=⟨_,rfl⟩
     have hn:¬ l=[]:=by rw[hl];simp
     rw[←hl] at hz hne hne2 h2' ⊢
     clear hl h2
     go_enter Try.func79,Try.ntmps79
     go_wp2
     go_ret
     exact⟨rfl,rfl⟩
   · have HR:Hid (nameOk (x :: r)=false):=by rw[Hid,nameOk,decide_eq_false h2];simp
     have h2':¬ ((x :: r).length:Int)≤100:=by omega
     rw[HR.out]
     obtain⟨l,hl⟩:∃ l,l=x :: r:=⟨_,rfl⟩
     have hn:¬ l=[]:=by rw[hl];simp
     rw[←hl] at hz hne hne2 h2' ⊢
     clear hl h2
     go_enter Try.func79,Try.ntmps79
     go_wp2
     go_ret
     exact⟨rfl,rfl⟩
set_option maxRecDepth 100000 in
set_option maxHeartbeats 1000000 in
theorem impl_areFiles (a : Option Addr) (cap : Nat) (ps : List PairL) (w : World) (hl : ps.length ≤ 16777216) (hm : ∀ p ∈ ps, p.1.length ≤ 16777216 ∧ p.2.length ≤ 16777216) (hs : IsPairs w a ps) :
 Calls Try.prog 47 #[.slice a ps.length cap] w fun e w'=>e=.returned (.bool (filesOk ps))∧Below w.heap.size w w':=by
 by_cases h60:ps.length≤60
 · have h60' : (ps.length : Int) ≤ 60 := by omega
   rcases hs with rfl | ⟨b,off,rfl,hc⟩
   · have HR:Hid (filesOk []=true):=rfl
     rw[HR.out]
     go_enter Try.func47,Try.ntmps47
     go_wp2
     refine wp_loop_rounds 1 ?_
     rw[rounds_succ]
     go_wp2
     go_ret
     exact⟨rfl,Below.refl _ _⟩
   · have hc' : ∀ j, j < ps.length → w.cell? ⟨b, off + j * 2, none⟩ = some (.string ⟨(keyAt ps j).toArray⟩) ∧ w.cell? ⟨b, off + j * 2 + 1, none⟩ = some (.string ⟨(valAt ps j).toArray⟩) := fun j h => by rw [keyAt_lt ps j h, valAt_lt ps j h]; exact hc j h
     have hm2:∀ j,j<ps.length→(keyAt ps j).length≤16777216∧(valAt ps j).length≤16777216:=fun j h=>by rw[keyAt_lt ps j h,valAt_lt ps j h];exact hm _ (List.getElem_mem _)
     obtain⟨r,hr⟩:∃ r,r=filesOk ps:=⟨_,rfl⟩
     have HBAD:Hid (∀ j,j<ps.length→fileAt ps j=false→r=false):=fun j h hb=>by rw[hr];exact filesOk_bad ps j h hb
     have HALL:Hid ((∀ j,j<ps.length→fileAt ps j=true)→r=decide (dataN ps≤200000)):=fun h=>by rw[hr];exact filesOk_end ps h60 h
     have HDT:Hid (∀ j,j<ps.length→dataN (ps.take (j+1))=dataN (ps.take j)+(valAt ps j).length):=fun j h=>by rw[dataN_take ps j h,valAt_lt ps j h]
     have HDL:Hid (∀ j,dataN (ps.take j)≤1006632960):=fun j=>by
      have h1:=dataN_le (ps.take j) 16777216 (fun p hp=>(hm p (List.mem_of_mem_take hp)).2)
      have h2:(ps.take j).length≤60:=by rw[List.length_take];omega
      have h3:=Nat.mul_le_mul_right 16777216 h2
      omega
     rw[←hr]
     clear hm hc hr
     go_enter Try.func47,Try.ntmps47
     go_wp2
     go_loopw [3,4,5,11] (fun nn _ _ i wr=>∃ j:Nat,j≤ps.length∧i=.int .i64 (j:Int)∧nn=.int .i64 ((dataN (ps.take j):Nat):Int)∧Hid (∀ k,k<j→fileAt ps k=true)∧Below w.heap.size w wr) (fun _ _ _ i _=>ps.length - (intOf i).toNat)
     case atStart=>exact⟨0,Nat.zero_le _,rfl,rfl,fun k hk=>by omega,Below.refl _ _⟩
     case round =>
      obtain⟨j,hj,rfl,rfl,HA,hbel⟩:=hrel
      have hsz:=hbel.size
      by_cases hlt:j<ps.length
      · obtain ⟨c1', c2'⟩ := hc' j hlt
        have c1:=(hbel.cell (p:=⟨b,off+j*2,none⟩) (World.block_lt_of_cell? w _ c1')).trans c1'
        have c2:=(hbel.cell (p:=⟨b,off+j*2+1,none⟩) (World.block_lt_of_cell? w _ c2')).trans c2'
        clear c1' c2'
        have m1:=hm2 j hlt
        have hj0:(0:Int)≤(j:Int):=by omega
        have hj1:(j:Int)<(ps.length:Int):=by omega
        have HB:Hid (fileAt ps j=false→r=false):=HBAD.out j hlt
        have HN:Hid (fileAt ps j=true→∀ k,k<j+1→fileAt ps k=true):=fun h k hk=>by
         by_cases e:k=j
         · rw[e];exact h
         · exact HA.out k (by omega)
        have HO:Hid (fileAt ps j=(nameOk (keyAt ps j) && (decide (j=0) || Op.bytesLess (keyAt ps (j - 1)) (keyAt ps j)))):=rfl
        have HDJ:Hid (dataN (ps.take (j+1))=dataN (ps.take j)+(valAt ps j).length):=HDT.out j hlt
        have hdl:=HDL.out j
        have hdp:(j=0∨∃ i1,i1+1=j∧wr.cell? ⟨b,off+i1*2,none⟩=some (.string ⟨(keyAt ps i1).toArray⟩)):=by
         by_cases hz:j=0
         · exact .inl hz
         · obtain⟨d1',_⟩:=hc' (j - 1) (by omega)
           exact .inr ⟨j - 1,by omega,(hbel.cell (p:=⟨b,off+(j - 1)*2,none⟩) (World.block_lt_of_cell? w _ d1')).trans d1'⟩
        obtain⟨x,hx⟩:∃ x,x=keyAt ps j:=⟨_,rfl⟩
        obtain⟨y,hy⟩:∃ y,y=valAt ps j:=⟨_,rfl⟩
        rw[←hx] at c1 m1 HO
        rw[←hy] at c2 m1 HDJ
        have KN:∀ W,Calls Try.prog 79 #[.string ⟨x.toArray⟩] W fun e w'=>e=.returned (.bool (nameOk x))∧w'=W:=fun W=>impl_name x W m1.1
        obtain⟨nx,hnx⟩:∃ nx,nx=nameOk x:=⟨_,rfl⟩
        rw[←hnx] at KN HO
        obtain⟨dd,hdd⟩:∃ dd,dd=dataN (ps.take j):=⟨_,rfl⟩
        rw[←hdd] at hdl HDJ ⊢
        have hzy:(ByteArray.mk y.toArray).size=y.length:=by simp[ByteArray.size]
        clear hc' hm2 hx hy HA HBAD HALL HDT HDL hnx hdd
        cases nx with
        | false =>
          have HR:Hid (r=false):=HB.out (by rw[HO.out];rfl)
          clear HO HB HN hdp
          go_wp2
          go_quiet (first | (go_at_call 79;refine Calls.quiet_of_same (KN _)))
          go_wp2
          go_ret
          obtain rfl:=HR.out
          exact⟨rfl,by first | exact hbel | exact (hbel.alloc hsz _) | exact below_dr (hbel.alloc hsz _) | exact below_dr hbel⟩
        | true =>
          rcases hdp with rfl | ⟨i1,rfl,d1⟩
          · have HTT:Hid (fileAt ps 0=true):=by rw[Hid,HO.out];rfl
            simp only[Nat.zero_mul,Nat.add_zero] at c1 c2
            have hzb:decide ((0:Int)<((0:Nat):Int))=false:=decide_eq_false (by omega)
            clear HO HB
            go_wp2
            go_quiet (first | (go_at_call 79;refine Calls.quiet_of_same (KN _)))
            go_wp2
            go_roundw
            case rel=>exact⟨0+1,by omega,by go_num,by rw[HDJ.out];go_num,HN.out HTT.out,by first | exact hbel | exact (hbel.alloc hsz _) | exact below_dr (hbel.alloc hsz _) | exact below_dr hbel⟩
            case measure=>simp[intOf];omega
          · rw [Nat.add_sub_cancel] at HO
            obtain⟨z,hz2⟩:∃ z,z=keyAt ps i1:=⟨_,rfl⟩
            rw[←hz2] at d1 HO
            have hzb:decide ((0:Int)<((i1+1:Nat):Int))=true:=decide_eq_true (by omega)
            have hzp:(0:Int)<((i1+1:Nat):Int):=by omega
            have hzi:IntKind.i64.wrap (((i1+1:Nat):Int) - 1)=(i1:Int):=by rw[i64_wrap_small _ (by omega) (by omega)];omega
            have hi2:((i1+1:Nat):Int) - 1=(i1:Int):=by omega
            have hi0:(0:Int)≤(i1:Int):=by omega
            have hi3:(i1:Int)<(ps.length:Int):=by omega
            have d1a:(wr.alloc (.cells #[.string ⟨x.toArray⟩,.string ⟨y.toArray⟩] 84)).cell? ⟨b,off+i1*2,none⟩=some (.string ⟨z.toArray⟩):=by rw[World.cell?_alloc_lt _ _ _ (World.block_lt_of_cell? wr _ d1)];exact d1
            clear hz2
            cases q4:Op.bytesLess z x with
            | false =>
              have q4':Op.bytesLess (⟨z.toArray⟩:ByteArray).toList (⟨x.toArray⟩:ByteArray).toList=false:=by rw[ba_toList,ba_toList];exact q4
              have HR:Hid (r=false):=HB.out (by rw[HO.out,q4];simp)
              clear HO HB HN
              rcases bl_total z x q4 with g1 | g1
              · go_wp2
                go_quiet (first | (go_at_call 79;refine Calls.quiet_of_same (KN _)))
                go_wp2
                go_ret
                obtain rfl:=HR.out
                exact⟨rfl,by first | exact hbel | exact (hbel.alloc hsz _) | exact below_dr (hbel.alloc hsz _) | exact below_dr hbel⟩
              · subst g1
                go_wp2
                go_quiet (first | (go_at_call 79;refine Calls.quiet_of_same (KN _)))
                go_wp2
                go_ret
                obtain rfl:=HR.out
                exact⟨rfl,by first | exact hbel | exact (hbel.alloc hsz _) | exact below_dr (hbel.alloc hsz _) | exact below_dr hbel⟩
            | true =>
              have q4':Op.bytesLess (⟨z.toArray⟩:ByteArray).toList (⟨x.toArray⟩:ByteArray).toList=true:=by rw[ba_toList,ba_toList];exact q4
              obtain⟨g1,g2⟩:=bl_asym z x q4
              have HTT:Hid (fileAt ps (i1+1)=true):=by rw[Hid,HO.out,q4];simp
              clear HO HB
              go_wp2
              go_quiet (first | (go_at_call 79;refine Calls.quiet_of_same (KN _)))
              go_wp2
              go_roundw
              case rel=>exact⟨i1+1+1,by omega,by go_num,by rw[HDJ.out];go_num,HN.out HTT.out,by first | exact hbel | exact (hbel.alloc hsz _) | exact below_dr (hbel.alloc hsz _) | exact below_dr hbel⟩
              case measure=>simp[intOf];omega
      · have hjl:j=ps.length:=by omega
        subst hjl
        have HR:Hid (r=decide (dataN ps≤200000)):=HALL.out HA.out
        have hdl:=HDL.out ps.length
        rw[List.take_length] at hdl ⊢
        obtain⟨dd,hdd⟩:∃ dd,dd=dataN ps:=⟨_,rfl⟩
        rw[←hdd] at HR hdl ⊢
        clear hc' hm2 HDT HDL HALL HBAD hdd
        by_cases hd:dd≤200000
        · have hd':(dd:Int)≤200000:=by omega
          rw[decide_eq_true hd] at HR
          clear hd
          go_wp2
          go_ret
          obtain rfl:=HR.out
          exact⟨rfl,hbel⟩
        · have hd':¬ (dd:Int)≤200000:=by omega
          rw[decide_eq_false hd] at HR
          clear hd
          go_wp2
          go_ret
          obtain rfl:=HR.out
          exact⟨rfl,hbel⟩
 · have h60':¬ (ps.length:Int)≤60:=by omega
   have HR:Hid (filesOk ps=false):=filesOk_many ps h60
   rw[HR.out]
   clear hs hm
   go_enter Try.func47,Try.ntmps47
   go_wp2
   go_ret
   exact⟨rfl,Below.refl _ _⟩
open Go.RowKit Go.Maps
theorem rise_take {L:List PairL} (h:Rise L) (j:Nat):Rise (L.take j):=h.sublist (List.take_sublist _ _)
theorem take_out {L:List PairL} (h:Rise L) (j:Nat) (hj:j<L.length):inK L[j].1 (L.take j)=false:=by
 cases hi:inK L[j].1 (L.take j) with
 | false=>rfl
 | true =>
   exfalso
   obtain⟨u,hu⟩:=(inK_iff _ _).1 hi
   obtain⟨i,h1,h2⟩:=List.mem_iff_getElem.1 hu
   have hi':i<j:=by rw[List.length_take] at h1;omega
   have:=List.pairwise_iff_getElem.1 h i j (by omega) hj hi'
   rw[List.getElem_take] at h2
   rw[h2] at this
   exact List.lt_irrefl _ this
theorem FMap.add {W:World} {base mb n:Nat} {L:List PairL} {D:DataW Value} {S} (h:FMap W base mb n L D S) (k d:List UInt8) (hk:k.length≤16777216) (hn:n<1048576) (hb:base≤W.heap.size) (hi:inK k L=false) (hM:Rise (L ++ [(k,d)])) (cap:Nat) (hc:d.length≤cap) :
 ∃ w5 D' S', (Instr.mapUpdate 75 (.map (some mb)) (.string ⟨k.toArray⟩) (.slice (some ⟨W.heap.size, 0, none⟩) d.length cap)).run Try.prog (W.alloc (.cells (bytesRow ⟨d.toArray⟩ cap) 5 ((bytesRow ⟨d.toArray⟩ cap).size, (bytesRow ⟨d.toArray⟩ cap).size + 1))) = .ok () w5 ∧
   FMap w5 base mb (n+1) (L ++ [(k,d)]) D' S'∧Below base W w5:=by
 have hw1:W.grownBy (W.alloc (.cells (bytesRow ⟨d.toArray⟩ cap) 5 ((bytesRow ⟨d.toArray⟩ cap).size,(bytesRow ⟨d.toArray⟩ cap).size+1))) none:=World.grownBy_alloc W _ none
 have hR:=conv_row W d base cap 5 hb hc
 obtain⟨w5,hrun,ho,hg⟩:=(h.own.alloc (.cells (bytesRow ⟨d.toArray⟩ cap) 5 ((bytesRow ⟨d.toArray⟩ cap).size,(bytesRow ⟨d.toArray⟩ cap).size+1))).update (t:=75) (e:=57) lawF Try.underlying75 (by unfold maxLen;omega) (keyF k hk) (fvR_sl (some ⟨W.heap.size,0,none⟩) d.length cap)
 have hno:∀ x∈L,x.1≠k:=fun x hx e=>by
  have:inK k L=true:=(inK_iff _ _).2 ⟨x.2,by rw[←e];exact hx⟩
  rw[hi] at this;cases this
 have hlt:=h.own.lt
 refine⟨w5,_,_,hrun,h.put k d _ hM (fun x=>?_) (by rw[hi];simp) none hw1 (fun _ _ _ _ _=>by simp) (.inr ⟨W.heap.size,cap,rfl,hR⟩) (fun p hp _ g hg' e=>?_) (fun e=>?_) (n+1) hg ho,?_⟩
 · rw[List.mem_append,List.mem_singleton]
   exact⟨fun h'=>h'.imp (fun h1=>⟨h1,hno x h1⟩) id,fun h'=>h'.imp (fun h1=>h1.1) id⟩
 · have:=((h.rows p hp).lt g hg').2
   simp[Value.ownBlock] at e
   omega
 · simp[Value.ownBlock] at e
   omega
 · have h2:=below_mb hg h.low (Nat.le_trans hb hw1.size)
   exact ((Below.refl _ _).alloc hb _).trans h2
set_option maxRecDepth 100000 in
set_option maxHeartbeats 2000000 in
theorem impl_byName (a:Option Addr) (cap:Nat) (ps:List PairL) (w:World) (hl:ps.length≤1000) (hm:∀ p∈ps,p.1.length≤16777216∧p.2.length≤16777216) (hr:Rise ps) (hs:IsPairs w a ps) :
 Calls Try.prog 48 #[.slice a ps.length cap] w fun e w'=>∃ mb,e=.returned (.map (some mb))∧Below w.heap.size w w'∧∃ D S,FMap w' w.heap.size mb ps.length ps D S:=by
 have hmm:=@run_makeMap Try.prog
 rcases hs with rfl | ⟨b,off,rfl,hc⟩
 · have F0:=fmap_made w w.heap.size (Nat.le_refl _)
   have HP:Hid (Below w.heap.size w (w.alloc (.map #[] 0))∧∃ D S,FMap (w.alloc (.map #[] 0)) w.heap.size w.heap.size 0 [] D S):=⟨(Below.refl _ _).alloc (Nat.le_refl _) _,_,_,F0⟩
   clear F0
   go_enter Try.func48,Try.ntmps48
   go_wp2
   refine wp_loop_rounds 1 ?_
   rw[rounds_succ]
   go_wp2
   go_ret
   exact⟨_,rfl,HP.out.1,HP.out.2⟩
 · have hc':∀ j,j<ps.length→w.cell? ⟨b,off+j*2,none⟩=some (.string ⟨(keyAt ps j).toArray⟩)∧w.cell? ⟨b,off+j*2+1,none⟩=some (.string ⟨(valAt ps j).toArray⟩):=fun j h=>by rw[keyAt_lt ps j h,valAt_lt ps j h];exact hc j h
   have HC:Hid (∀ W,Below w.heap.size w W→∀ j,j<ps.length→W.cell? ⟨b,off+j*2,none⟩=some (.string ⟨(keyAt ps j).toArray⟩)∧W.cell? ⟨b,off+j*2+1,none⟩=some (.string ⟨(valAt ps j).toArray⟩)):=fun W hW j h=>⟨(hW.cell (p:=⟨b,off+j*2,none⟩) (World.block_lt_of_cell? w _ (hc' j h).1)).trans (hc' j h).1,(hW.cell (p:=⟨b,off+j*2+1,none⟩) (World.block_lt_of_cell? w _ (hc' j h).2)).trans (hc' j h).2⟩
   have HM:Hid (∀ j,j<ps.length→(keyAt ps j).length≤16777216∧(valAt ps j).length≤16777216):=fun j h=>by rw[keyAt_lt ps j h,valAt_lt ps j h];exact hm _ (List.getElem_mem _)
   have HT:Hid (∀ j,j<ps.length→ps.take (j+1)=ps.take j ++ [(keyAt ps j,valAt ps j)]∧inK (keyAt ps j) (ps.take j)=false∧Rise (ps.take (j+1))):=fun j h=>by
    refine⟨?_,?_,rise_take hr _⟩
    · rw[take_snocP ps j h,keyAt_lt ps j h,valAt_lt ps j h]
    · rw[keyAt_lt ps j h];exact take_out hr j h
   have HF0:Hid (FMap (w.alloc (.map #[] 0)) w.heap.size w.heap.size 0 [] (.map []) (fun _=>.slice none 0 0)):=fmap_made w w.heap.size (Nat.le_refl _)
   have HB0:Hid (Below w.heap.size w (w.alloc (.map #[] 0))):=(Below.refl _ _).alloc (Nat.le_refl _) _
   have HE:Hid (ps.take ps.length=ps):=List.take_length
   obtain⟨ln,hln⟩:∃ ln,ln=ps.length:=⟨_,rfl⟩
   rw[←hln] at HC HM HT HE hl ⊢
   have HLN:Hid (ln=ps.length):=hln
   clear hm hc hc' hr hln
   go_enter Try.func48,Try.ntmps48
   go_wp2
   go_loopw [5,9] (fun _ i wr=>∃ j:Nat,j≤ln∧i=.int .i64 (j:Int)∧Hid (∃ D S,FMap wr w.heap.size w.heap.size j (ps.take j) D S)∧Hid (Below w.heap.size w wr)) (fun _ i _=>ln - (intOf i).toNat)
   case atStart=>exact⟨0,Nat.zero_le _,rfl,⟨_,_,HF0.out⟩,HB0⟩
   case round =>
    obtain⟨j,hj,rfl,HF,HB⟩:=hrel
    by_cases hlt:j<ln
    · obtain⟨c1,c2⟩:=HC.out wr HB.out j hlt
      obtain⟨m1,m2⟩:=HM.out j hlt
      obtain⟨t1,t2,t3⟩:=HT.out j hlt
      have hj0:(0:Int)≤(j:Int):=by omega
      have hj1:(j:Int)<(ln:Int):=by omega
      obtain⟨D,S,hF⟩:=HF.out
      obtain⟨x,hx⟩:∃ x,x=keyAt ps j:=⟨_,rfl⟩
      obtain⟨y,hy⟩:∃ y,y=valAt ps j:=⟨_,rfl⟩
      rw[←hx] at c1 m1 t1 t2
      rw[←hy] at c2 m2 t1
      have F1:=hF.alloc (.cells #[.string ⟨x.toArray⟩,.string ⟨y.toArray⟩] 84)
      have B1:Below w.heap.size w (wr.alloc (.cells #[.string ⟨x.toArray⟩,.string ⟨y.toArray⟩] 84)):=HB.out.alloc HB.out.size _
      have hz:(ByteArray.mk y.toArray).size=y.length:=by simp[ByteArray.size]
      have hcv:=run_bytes_of_string (P:=Try.prog) (wr.alloc (.cells #[.string ⟨x.toArray⟩,.string ⟨y.toArray⟩] 84)) 9 57 5 ⟨y.toArray⟩ Try.underlying9 Try.underlying57 Try.underlying5
      rw[hz] at hcv
      have hcap:=grownCap_ge (wr.alloc (.cells #[.string ⟨x.toArray⟩,.string ⟨y.toArray⟩] 84)) y.length 0 5
      obtain⟨cap0,hcap0⟩:∃ cap0,cap0=grownCap (wr.alloc (.cells #[.string ⟨x.toArray⟩,.string ⟨y.toArray⟩] 84)) y.length 0 5:=⟨_,rfl⟩
      rw[←hcap0] at hcv hcap
      have F2:FMap (wr.alloc (.cells #[.string ⟨x.toArray⟩,.string ⟨y.toArray⟩] 84)).drew w.heap.size w.heap.size j (ps.take j) D S:=F1.kept ⟨rfl,rfl,rfl,Nat.le_refl _,fun _ _ _=>rfl⟩
      obtain⟨w5,D',S',hrun5,F5,B5⟩:=F2.add x y m1 (by omega) B1.size t2 (by rw[←t1];exact t3) cap0 hcap
      have hs1:(wr.alloc (.cells #[.string ⟨x.toArray⟩,.string ⟨y.toArray⟩] 84)).drew.heap.size=wr.heap.size+1:=by simp[heap_drew]
      have hs2:(wr.alloc (.cells #[.string ⟨x.toArray⟩,.string ⟨y.toArray⟩] 84)).heap.size=wr.heap.size+1:=by simp
      obtain⟨W1,hW1⟩:∃ W1,W1=(wr.alloc (.cells #[.string ⟨x.toArray⟩,.string ⟨y.toArray⟩] 84)).drew.alloc (.cells (bytesRow ⟨y.toArray⟩ cap0) 5 ((bytesRow ⟨y.toArray⟩ cap0).size,(bytesRow ⟨y.toArray⟩ cap0).size+1)):=⟨_,rfl⟩
      rw[←hW1,hs2] at hcv
      rw[←hW1,hs1] at hrun5
      have HF5:Hid (∃ D S,FMap w5 w.heap.size w.heap.size (j+1) (ps.take (j+1)) D S):=⟨D',S',by rw[t1];exact F5⟩
      have HB5:Hid (Below w.heap.size w w5):=B1.trans ⟨B5.os,B5.tape,B5.output,B5.size,B5.block⟩
      clear hF F1 F2 F5 B1 B5 t1 t2 t3 hx hy HF HC HM HT hW1 hcap0 hcap hs1 hs2 hz
      go_wp2
      go_roundw
      case rel=>exact⟨j+1,by omega,by go_num,HF5,HB5⟩
      case measure=>simp[intOf];omega
    · have hjl:j=ln:=by omega
      subst hjl
      have HF5:Hid (∃ D S,FMap wr w.heap.size w.heap.size j ps D S):=by
       have:=HF.out
       rw[HE.out] at this
       exact this
      clear HF HC HM HT HE HLN hlt
      go_wp2
      go_ret
      exact⟨_,rfl,HB.out,HF5.out⟩
open Go.RowKit Go.Maps
def metF (left:Lit→Bool) (L:List PairL):List PairL:=L.filter fun p => !left (.string p.1)
theorem met_start {D:DataW Value} {L:List PairL} {S} (h:FD D L S):metF (Maps.has D) L=[]:=by
 unfold metF
 rw[List.filter_eq_nil_iff]
 intro p hp
 rw[(h.has p.1).2 ⟨p.2,hp⟩]
 simp
theorem met_end {left:Lit→Bool} {L:List PairL} (h:∀ kl,left kl=false):metF left L=L:=by
 unfold metF
 rw[List.filter_eq_self]
 intro p hp
 rw[h];rfl
theorem met_out {k:List UInt8} {left:Lit→Bool}:∀ L:List PairL,(∀ p∈L,p.1≠k)→metF (fun z=>left z && !z.sameKey (.string k)) L=metF left L:=fun L h=>by
 unfold metF
 refine List.filter_congr fun p hp=>?_
 have:(p.1 == k)=false:=by rw[beq_eq_false_iff_ne];exact h p hp
 simp[Lit.sameKey,this]
theorem met_step {k v : List UInt8} {left : Lit → Bool} (hlk : left (.string k) = true) : ∀ L : List PairL, Rise L → (k, v) ∈ L → dataN (metF (fun z => left z && !z.sameKey (.string k)) L) = dataN (metF left L) + v.length
 | [],_,h=>by simp at h
 | p :: L, hr, h => by
   obtain⟨h1,h2⟩:=List.pairwise_cons.1 hr
   rcases List.mem_cons.1 h with e | e
   · subst e
     have ho:∀ q∈L,q.1≠k:=fun q hq e=>by have:=h1 q hq;rw[e] at this;exact List.lt_irrefl _ this
     have e1:metF (fun z=>left z && !z.sameKey (.string k)) ((k,v) :: L)=(k,v) :: metF left L:=by
      rw[←met_out (k:=k) (left:=left) L ho]
      unfold metF
      rw[List.filter_cons_of_pos (by simp[Lit.sameKey])]
     have e2:metF left ((k,v) :: L)=metF left L:=by
      unfold metF
      rw[List.filter_cons_of_neg (by simp[hlk])]
     rw[e1,e2]
     simp[dataN,Nat.add_comm]
   · have ih:=met_step hlk L h2 e
     have hne:p.1≠k:=fun e'=>by have:=h1 _ e;rw[e'] at this;exact List.lt_irrefl _ this
     have hb:(p.1 == k)=false:=by rw[beq_eq_false_iff_ne];exact hne
     cases hl:left (.string p.1) with
     | true =>
       have e1:metF (fun z=>left z && !z.sameKey (.string k)) (p :: L)=metF (fun z=>left z && !z.sameKey (.string k)) L:=by
        unfold metF;rw[List.filter_cons_of_neg (by simp[Lit.sameKey,hl,hb])]
       have e2:metF left (p :: L)=metF left L:=by unfold metF;rw[List.filter_cons_of_neg (by simp[hl])]
       rw[e1,e2,ih]
     | false =>
       have e1:metF (fun z=>left z && !z.sameKey (.string k)) (p :: L)=p :: metF (fun z=>left z && !z.sameKey (.string k)) L:=by
        unfold metF;rw[List.filter_cons_of_pos (by simp[hl])]
       have e2:metF left (p :: L)=p :: metF left L:=by unfold metF;rw[List.filter_cons_of_pos (by simp[hl])]
       rw[e1,e2]
       simp only[dataN,List.map_cons,List.sum_cons] at ih ⊢
       omega
theorem data_sub {a b:List PairL} (h:a.Sublist b):dataN a≤dataN b:=by
 induction h with
 | slnil=>exact Nat.le_refl _
 | cons p _ ih=>simp only[dataN,List.map_cons,List.sum_cons] at ih ⊢;omega
 | cons_cons p _ ih=>simp only[dataN,List.map_cons,List.sum_cons] at ih ⊢;omega
def mkKf (x:List UInt8):Value:=.string ⟨x.toArray⟩
def mkVf (x:Option Addr × Nat × Nat):Value:=.slice x.1 x.2.1 x.2.2
theorem invKf (key:Value) (kl:Lit) (h:keyOf Try.prog 9 key=some kl):∃ x,key=mkKf x:=by
 obtain⟨x,hk,_⟩:=Maps.keyOf_str Try.underlying9 h
 exact⟨x,hk⟩
theorem invVf (v:Value) (y:DataW Value × List MemPlace) (h:fvR v=some y):∃ c,v=mkVf c:=by
 unfold fvR at h
 split at h
 · exact⟨(_,_,_),rfl⟩
 · cases h
set_option maxRecDepth 100000 in
set_option maxHeartbeats 2000000 in
theorem impl_fit (base mb n : Nat) (L : List PairL) (D : DataW Value) (S : List UInt8 → Value) (w : World) (hd : dataN L ≤ 1000000000000) (hF : FMap w base mb n L D S) :
 Calls Try.prog 50 #[.map (some mb)] w fun e w'=>e=.returned (.bool (decide (L.length≤60) && decide (dataN L≤200000)))∧Below w.heap.size w w':=by
 have hown:=hF.own
 have HM0:Hid (metF (Maps.has D) L=[]):=met_start hF.fd
 have HIN:Hid (∀ k:List UInt8,Maps.has D (.string k)=true→∃ v,(k,v)∈L):=fun k h=>(hF.fd.has k).1 h
 have HAT:Hid (∀ k v,(k,v)∈L→∀ z,D.atKey (.string k) z=.held (S k)∧∃ a c,S k=.slice a v.length c):=fun k v hv z=>⟨hF.fd.at_ _ hv z,(hF.rows _ hv).slice⟩
 have HST:Hid (∀ (left:Lit→Bool) k v,(k,v)∈L→left (.string k)=true→dataN (metF (fun z=>left z && !z.sameKey (.string k)) L)=dataN (metF left L)+v.length):=fun left k v hv hl=>met_step hl L hF.rise hv
 have HLE:Hid (∀ left:Lit→Bool,dataN (metF left L)≤dataN L):=fun left=>data_sub List.filter_sublist
 have HLN:Hid (∀ W,Below w.heap.size w W→∀ ty,(Builtin.len_ #[75] ty #[.map (some mb)]).run Try.prog W=.ok (.int .i64 ((L.length:Nat):Int)) W):=fun W hW ty=>by
  have:=(hF.below hW).own.len Try.underlying75 ty
  rw[hF.fd.size] at this
  exact this
 have hmb:=hown.lt
 obtain⟨r,hr⟩:∃ r,r=(decide (L.length≤60) && decide (dataN L≤200000)):=⟨_,rfl⟩
 have HRR:Hid (r=(decide (L.length≤60) && decide (dataN L≤200000))):=hr
 rw[←hr]
 clear hF hr
 go_enter Try.func50,Try.ntmps50
 go_wp2_with (first
  | (at_range;refine wpList_range_own _ rfl _ 75 rfl 9 57 lawF Try.underlying75 fvR mb n D rfl hown ?_;intro w3 hrg3 hg3 hs3)
  | go_in)
 go_frame
 have Bw3:Below w.heap.size w w3:=(Below.refl _ _).grown hg3 (Nat.le_refl _) (fun k hk=>by cases hk)
 go_loopw [3,5] (fun t _ wr=>∃ (left:Lit→Bool) (cnt tot:Nat),t=.int .i64 (tot:Int)∧wr.ranges Try.prog 9 fvR mb w.heap.size n D left cnt∧Hid (tot=dataN (metF left L))∧Hid (∀ k:List UInt8,left (.string k)=true→∃ v,(k,v)∈L)∧Below w.heap.size w wr) (fun _ _ wr=>wr.rangeLeft mb w.heap.size)
 case atStart=>exact⟨_,_,0,rfl,hrg3,by rw[Hid,HM0.out];rfl,HIN,Bw3⟩
 case round =>
  obtain⟨left,cnt,tot,rfl,hrg,HTOT,HLQ,hnx⟩:=hrel
  go_wp2_with (first
   | (at_next;refine wpList_next_ranges _ rfl _ rfl 9 lawF fvR mkKf mkVf invKf invVf mb w.heap.size n D left cnt rfl hrg ?_ ?_)
   | go_in)
  · intro hc0 hl0
    have ht:tot=dataN L:=by rw[HTOT.out,met_end hl0]
    have hlen:=HLN.out wr hnx 3
    obtain⟨ln,hln⟩:∃ ln,ln=L.length:=⟨_,rfl⟩
    rw[←ht,←hln] at HRR
    rw[←hln] at hlen
    rw[←ht] at hd
    clear HTOT HLQ HLN HLE HST HAT HIN HM0 hrg ht hln hrg3 hown
    by_cases h1:ln≤60
    · have h1':(ln:Int)≤60:=by omega
      by_cases h2:tot≤200000
      · have h2':(tot:Int)≤200000:=by omega
        have HR:Hid (r=true):=by rw[Hid,HRR.out,decide_eq_true h1,decide_eq_true h2];rfl
        clear h1 h2 HRR
        go_wp2
        go_ret
        obtain rfl:=HR.out
        exact⟨rfl,hnx⟩
      · have h2':¬ (tot:Int)≤200000:=by omega
        have HR:Hid (r=false):=by rw[Hid,HRR.out,decide_eq_false h2];simp
        clear h1 h2 HRR
        go_wp2
        go_ret
        obtain rfl:=HR.out
        exact⟨rfl,hnx⟩
    · have h1':¬ (ln:Int)≤60:=by omega
      have HR:Hid (r=false):=by rw[Hid,HRR.out,decide_eq_false h1];rfl
      clear h1 HRR
      go_wp2
      go_ret
      obtain rfl:=HR.out
      exact⟨rfl,hnx⟩
  · intro x c1 c2 c3 kl y1 y2 w4 cnt4 hkl hlk hy hat hrg4 hlt4 hg4 hs4 hen4
    have ekl:kl=.string x:=by
     obtain⟨x',hk',hkl',_⟩:=Maps.keyOf_str Try.underlying9 hkl
     have:x'=x:=by
      have h9:(Value.string ⟨x.toArray⟩)=.string ⟨x'.toArray⟩:=hk'
      have h8:=congrArg (fun u=>match u with | Value.string s=>s.data.toList | _=>[]) h9
      simpa using h8.symm
     rw[hkl',this]
    subst ekl
    obtain⟨v,hv⟩:=HLQ.out x hlk
    obtain⟨ha1,a9,c9,hs9⟩:=HAT.out x v hv (.held (.slice none 0 0))
    have e9:c2=v.length:=by
     have h9:=hat (.held (.slice none 0 0))
     rw[ha1,hs9] at h9
     have h8:y1=.held (.slice c1 c2 c3):=by
      have:some ((.held (.slice c1 c2 c3):DataW Value),([]:List MemPlace))=some (y1,y2):=hy
      cases this;rfl
     rw[h8] at h9
     cases h9;rfl
    have T4:Hid (tot+c2=dataN (metF (fun z=>left z && !z.sameKey (.string x)) L)):=by rw[Hid,HST.out left x v hv hlk,←HTOT.out,e9]
    have hle:=HLE.out (fun z=>left z && !z.sameKey (.string x))
    rw[←T4.out] at hle
    have Q4:Hid (∀ k:List UInt8,(left (.string k) && !(Lit.string k).sameKey (.string x))=true→∃ v,(k,v)∈L):=fun k h=>HLQ.out k (by simp at h;exact h.1)
    have R4:Hid (w4.ranges Try.prog 9 fvR mb w.heap.size n D (fun z=>left z && !z.sameKey (.string x)) cnt4):=hrg4
    have BW4:Hid (Below w.heap.size w w4):=hnx.grown hg4 hnx.size (fun j hj=>by cases hj;exact Nat.le_refl _)
    have hts:tot+c2≤1000000000000:=Nat.le_trans hle hd
    have hsum:IntKind.i64.wrap ((tot:Int)+(c2:Int))=((tot+c2:Nat):Int):=by rw[i64_wrap_small _ (by omega) (by omega)];omega
    unfold mkKf mkVf at hen4
    unfold mkKf mkVf
    simp only at hen4 ⊢
    clear hkl hat hrg4 hy HLQ HTOT HIN HM0 hs9 ha1 e9 hv hle HLE HST HAT HLN hrg3 hown hd
    go_wp2
    go_roundw
    case rel=>exact⟨_,cnt4,tot+c2,by first | rfl | go_num,R4.out,T4,Q4,BW4.out⟩
    case measure=>rw[R4.out.left_eq,hrg.left_eq];exact hlt4
end Go.Proofs.Ytlllkdioojjaeaa
