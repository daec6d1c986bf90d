/-
 Contract: Get, of the program.
-/
import Derived.Test.YtkbiegocclfnnaaDoorWayG
namespace Go.Proofs.YtkbiegocclfnnaaDoor
open Go.RowKit
set_option linter.unusedVariables false
set_option maxRecDepth 100000 in
set_option maxHeartbeats 2000000 in
theorem impl_get (a : Option Addr) (cap : Nat) (ps : List PairL) (root key : List UInt8) (w : World) (hT : Tab w) (hl : ps.length ≤ 1048576) (hm : ∀ p ∈ ps, p.1.length ≤ 1048576 ∧ p.2.length ≤ 1048576) (hs : IsPairs w a ps) (hr : root.length ≤ 1048576) (hk : key.length ≤ 1048576) :
 Calls Tryd.prog 17 #[.slice a ps.length cap,.string ⟨root.toArray⟩,.string ⟨key.toArray⟩] w fun e w'=>e=.returned (.tuple #[.int .i64 (getC ps root key),.string ⟨(getV ps root key).toArray⟩])∧Below w.heap.size w w':=by
 have K:=impl_heldNodesV a cap ps w hT hl hm hs
 have HT:Hid (Tab w):=hT
 have hzr:(ByteArray.mk root.toArray).size=root.length:=by simp[ByteArray.size]
 have hzk:(ByteArray.mk key.toArray).size=key.length:=by simp[ByteArray.size]
 by_cases hok:getOkL ps root key=true
 · have HC : Hid (getC ps root key = (walkL ps root key).2.1 ∧ getV ps root key = (walkL ps root key).2.2) := ⟨if_pos hok, if_pos hok⟩
   simp only[getOkL,Bool.and_eq_true,decide_eq_true_eq] at hok
   obtain⟨h1,h2,h3⟩:=hok
   have KA:Hid (∀ mb h W,h.length≤1048576→HeldM W mb ps ps.length→Calls Tryd.prog 21 #[.map (some mb),.string ⟨h.toArray⟩] W fun e w'=>AtPost W (findL ps h) e w'):=fun mb h W hh hM=>impl_atV mb ps h W h1 hh hM
   obtain⟨np,hnp⟩:∃ np,np=nibs key:=⟨_,rfl⟩
   have hnn:isNibs np=true:=by rw[hnp];exact nibs_nibs key
   have hnl:np.length≤24:=by rw[hnp,nibs_length];omega
   have HR0:Hid (root=emptyL→walkL ps root key=([],0,[])):=walkL_empty ps root key
   have HR1:Hid (¬ root=emptyL→walkL ps root key=wayL (findL ps) 30 root np):=by rw[hnp];exact walkL_way ps root key
   rw[HC.out.1,HC.out.2]
   obtain⟨R,hR⟩:∃ R,R=walkL ps root key:=⟨_,rfl⟩
   rw[←hR] at HR0 HR1 ⊢
   have KN:∀ W,Calls Tryd.prog 31 #[.string ⟨key.toArray⟩] W fun e w'=>e=.returned (.string ⟨np.toArray⟩)∧Below W.heap.size W w':=fun W=>by
    have:=impl_nibbles ⟨key.toArray⟩ W (by omega)
    have hkn:nibs (ByteArray.mk key.toArray).data.toList=np:=by rw[hnp]
    rw[hkn] at this
    exact this
   obtain⟨em,hem⟩:∃ em,em=emptyL:=⟨_,rfl⟩
   have KE:Hid (∀ W,Tab W→_):=fun W h=>impl_empty W h
   rw[←hem] at KE HR0 HR1
   rw[h1] at K
   have h2':(root.length:Int)=32:=by omega
   have h3':(key.length:Int)≤12:=by omega
   clear hs hm hT HC hR h2 h3 hnp hem
   by_cases he:root=em
   · have hR:=HR0.out he
     subst hR
     subst he
     go_enter Tryd.func17,Tryd.ntmps17
     go_wp2_with fail
     refine K.mono ?_
     rintro e w1 ⟨mb,rfl,hM,hmb,b1⟩
     have K2:=KE.out w1 (HT.out.later b1)
     go_wp2_with fail
     refine K2.mono ?_
     rintro e w2 ⟨rfl,b2⟩
     have B2:=b1.trans (b2.mono b1.size)
     go_wp2
     go_ret2
     exact⟨rfl,B2⟩
   · have heb : (root == em) = false := by rw [beq_eq_false_iff_ne]; exact he
     have HRW:Hid (R=wayL (findL ps) 30 root np):=HR1.out he
     clear HR0 HR1 he
     go_enter Tryd.func17,Tryd.ntmps17
     go_wp2_with fail
     refine K.mono ?_
     rintro e w1 ⟨mb,rfl,hM,hmb,b1⟩
     have HM1:Hid (HeldM w1 mb ps ps.length):=hM
     have K2:=KE.out w1 (HT.out.later b1)
     clear K hM
     go_wp2_with fail
     refine K2.mono ?_
     rintro e w2 ⟨rfl,b2⟩
     have B2:=b1.trans (b2.mono b1.size)
     have HM2:Hid (HeldM w2 mb ps ps.length):=HM1.out.later b2
     clear K2 b1 b2 HM1
     go_wp2_with fail
     refine (KN w2).mono ?_
     rintro e w3 ⟨rfl,b3⟩
     have B3:=B2.trans (b3.mono B2.size)
     have HM3:Hid (∀ W,Below w3.heap.size w3 W→HeldM W mb ps ps.length):=fun W hW=>(HM2.out.later b3).later hW
     clear b3 HM2 B2 KN
     go_wp2
     go_loopw [10,11,12,13,14,38] (fun v10 v11 _ _ _ i wr=>∃ (j:Nat) (h p:List UInt8),j≤30∧i=.int .i64 (j:Int)∧v10=.string ⟨h.toArray⟩∧v11=.string ⟨p.toArray⟩∧h.length≤1048576∧p.length≤24∧isNibs p=true∧Hid (R.2=(wayL (findL ps) (30 - j) h p).2)∧Below w3.heap.size w3 wr) (fun _ _ _ _ _ i _=>30 - (intOf i).toNat)
     case atStart=>exact⟨0,root,np,by omega,rfl,rfl,rfl,hr,hnl,hnn,by rw[Hid,HRW.out],Below.refl _ _⟩
     case round =>
      obtain⟨j,h,p,hj,rfl,rfl,rfl,hhl,hpl,hpn,HW,hbel⟩:=hrel
      have hsz:=hbel.size
      have BW:Hid (Below w.heap.size w wr):=B3.trans (hbel.mono B3.size)
      by_cases hlt:j<30
      · have hj1:(j:Int)<30:=by omega
        have hj0:(0:Int)≤(j:Int):=by omega
        obtain⟨f,hf⟩:∃ f,f=30 - (j+1):=⟨_,rfl⟩
        rw[show 30 - j=f+1 by omega] at HW
        have KF:=KA.out mb h wr hhl (HM3.out wr hbel)
        cases hfd:findL ps h with
        | none =>
          have HZ:Hid (R.2=(2,[])):=by rw[Hid,HW.out,wayL_none _ _ _ _ hfd]
          rw[hfd] at KF
          clear hfd HW
          go_wp2_with fail
          refine KF.mono ?_
          rintro e w4 ⟨rfl,b4⟩
          have B4:Hid (∀ o,Below w.heap.size w (w4.alloc o)):=fun o=>(BW.out.trans (b4.mono BW.out.size)).alloc (Nat.le_trans BW.out.size b4.size) o
          clear b4 KF
          go_wp2
          go_ret2
          exact⟨by rw[HZ.out];rfl,B4.out _⟩
        | some t =>
          rw[hfd] at KF
          have HEND:Hid (∀ c v,stepL (nodeAt t) p=.ends c v→R.2=(c,v)):=fun c v hs=>by rw[HW.out,wayL_ends _ _ _ _ _ _ _ hfd hs]
          have HON:Hid (∀ h' p',stepL (nodeAt t) p=.on h' p'→R.2=(wayL (findL ps) (30 - (j+1)) h' p').2):=fun h' p' hs=>by rw[HW.out,wayL_on _ _ _ _ _ _ _ hfd hs,←hf]
          have HAP:Hid (∀ W W' e,AtPost W (some t) e W'→∃ (a:Option Addr) (c:Nat),e=.returned (.tuple #[.agg #[.string ⟨t.toArray⟩,.int .i64 (nodeAt t).k,.string ⟨(nodeAt t).p.toArray⟩,.slice a (nodeAt t).ls.length c,.string ⟨(nodeAt t).v.toArray⟩],.bool true])∧IsStrs W a (nodeAt t).ls∧Below W.heap.size W W'):=fun W W' e hh=>by
           obtain⟨⟨a,c,h1,h2,_⟩,h4⟩:=hh
           exact⟨a,c,h1,h2,h4⟩
          obtain⟨_,_,_,_,htr⟩:=findL_ok ps h1 h t hfd
          have hok:=nodeAt_ok t htr
          have HKS:Hid (∀ (a:Option Addr) (c:Nat) W,IsStrs W a (nodeAt t).ls→Calls Tryd.prog 32 #[.agg #[.int .i64 (nodeAt t).k,.string ⟨(nodeAt t).p.toArray⟩,.slice a (nodeAt t).ls.length c,.string ⟨(nodeAt t).v.toArray⟩],.string ⟨p.toArray⟩] W fun e w'=>StepPost (stepL (nodeAt t) p) e∧Below W.heap.size W w'):=fun a c W hs=>impl_stepAt _ _ _ _ hok a c p W (by omega) hpn hs
          have HUS:Hid (∀ h' p',stepL (nodeAt t) p=.on h' p'→p'.length≤24∧isNibs p'=true∧h'.length=32):=fun h' p' hs=>by
           obtain⟨h1,h2,h3⟩:=stepL_used _ hok p h' p' hs
           exact⟨by rw[h1,List.length_drop];omega,by rw[h1];exact isNibs_drop _ p hpn,h3⟩
          obtain⟨nd,hnd⟩:∃ nd,nd=nodeAt t:=⟨_,rfl⟩
          rw[←hnd] at HEND HON HAP HKS HUS
          obtain⟨k,q,ls,v⟩:=nd
          simp only at HAP HKS
          obtain⟨st,hst⟩:∃ st,st=stepL ⟨k,q,ls,v⟩ p:=⟨_,rfl⟩
          rw[←hst] at HEND HON HKS HUS
          clear hfd HW hok hnd hst htr
          go_wp2_with fail
          refine KF.mono ?_
          rintro e w4 h4
          obtain⟨a4,c4,rfl,i4,b4⟩:=HAP.out wr w4 e h4
          have B4:Hid (Below w3.heap.size w3 (w4.alloc (.cells #[.string ⟨t.toArray⟩,.int .i64 k,.string ⟨q.toArray⟩,.slice a4 ls.length c4,.string ⟨v.toArray⟩] 56))):=(hbel.trans (b4.mono hsz)).alloc (Nat.le_trans hsz b4.size) _
          have I5:Hid (IsStrs (w4.alloc (.cells #[.string ⟨t.toArray⟩,.int .i64 k,.string ⟨q.toArray⟩,.slice a4 ls.length c4,.string ⟨v.toArray⟩] 56)) a4 ls):=strs_later (strs_later i4 b4) ((Below.refl _ _).alloc (Nat.le_refl _) _)
          have KS:=HKS.out a4 c4 _ I5.out
          obtain⟨n0,n1,n2,n3,n4,_⟩:=five_cells (heap_alloc_new w4 (.cells #[.string ⟨t.toArray⟩,.int .i64 k,.string ⟨q.toArray⟩,.slice a4 ls.length c4,.string ⟨v.toArray⟩] 56))
          clear h4 b4 i4 HAP KF HKS I5
          go_wp2_with fail
          refine KS.mono ?_
          rintro e w5 ⟨h5,b5⟩
          have B5:Hid (Below w3.heap.size w3 w5):=B4.out.trans (b5.mono B4.out.size)
          have BX:Hid (∀ o,Below w.heap.size w (w5.alloc o)):=fun o=>(B3.trans (B5.out.mono B3.size)).alloc (Nat.le_trans B3.size B5.out.size) o
          have BY:Hid (∀ o,Below w3.heap.size w3 (w5.alloc o)):=fun o=>B5.out.alloc B5.out.size o
          clear b5 KS n0 n1 n2 n3 n4 B4
          cases st with
          | ends c x =>
            have HZ:Hid (R.2=(c,x)):=HEND.out c x rfl
            obtain⟨qq,rfl⟩:∃ q:List UInt8,e=.returned (.agg #[.string ⟨#[]⟩,.string ⟨q.toArray⟩,.int .i64 c,.string ⟨x.toArray⟩]):=h5
            obtain⟨m0,m1,m2,m3,_⟩:=quad_cells (heap_alloc_new w5 (.cells #[.string ⟨#[]⟩,.string ⟨qq.toArray⟩,.int .i64 c,.string ⟨x.toArray⟩] 69))
            clear HEND HON HUS
            go_wp2
            first | (go_quiet (fail);go_wp2) | skip
            go_ret2
            exact⟨by rw[HZ.out];rfl,by first | exact BX.out _ | exact below_dr (BX.out _)⟩
          | on h' p' =>
            have HZ:Hid (R.2=(wayL (findL ps) (30 - (j+1)) h' p').2):=HON.out h' p' rfl
            obtain⟨hp1,hp2,hh32⟩:=HUS.out h' p' rfl
            obtain rfl:e=.returned (.agg #[.string ⟨h'.toArray⟩,.string ⟨p'.toArray⟩,.int .i64 0,.string ⟨#[]⟩]):=h5
            obtain⟨m0,m1,m2,m3,_⟩:=quad_cells (heap_alloc_new w5 (.cells #[.string ⟨h'.toArray⟩,.string ⟨p'.toArray⟩,.int .i64 0,.string ⟨#[]⟩] 69))
            have hhe:h'.isEmpty=false:=by cases h' with | nil=>simp at hh32 | cons _ _=>rfl
            clear HEND HON HUS
            go_wp2
            first | (go_quiet (fail);go_wp2) | skip
            go_roundw
            case rel=>exact⟨j+1,h',p',by omega,by go_num,rfl,rfl,by omega,hp1,hp2,HZ.out,by first | exact BY.out _ | exact below_dr (BY.out _)⟩
            case measure=>simp[intOf];omega
      · have hj30:j=30:=by omega
        have HZ:Hid (R.2=(2,[])):=by rw[Hid,HW.out,hj30];simp[wayL]
        have hjb:¬ (j:Int)<30:=by omega
        clear HW hj30
        go_wp2
        go_ret2
        exact⟨by rw[HZ.out];rfl,BW.out⟩
 · have HC:Hid (getC ps root key=3∧getV ps root key=[]):=⟨if_neg hok,if_neg hok⟩
   rw[HC.out.1,HC.out.2]
   by_cases h1:storeOkL ps=true
   · rw[h1] at K
     simp only[getOkL,h1,Bool.and_eq_true,decide_eq_true_eq] at hok
     clear hs hm hT HC h1
     by_cases h2:root.length=32
     · have h3:¬ key.length≤12:=fun h=>hok ⟨trivial,h2,h⟩
       have h2':(root.length:Int)=32:=by omega
       have h3':¬ (key.length:Int)≤12:=by omega
       clear hok h2
       go_enter Tryd.func17,Tryd.ntmps17
       go_wp2_with fail
       refine K.mono ?_
       rintro e w1 ⟨mb,rfl,hM,hmb,b1⟩
       clear hM
       go_wp2
       go_ret2
       exact⟨rfl,b1⟩
     · have h2':((root.length:Int) != 32)=true:=by rw[bne_iff_ne];omega
       clear hok h2
       go_enter Tryd.func17,Tryd.ntmps17
       go_wp2_with fail
       refine K.mono ?_
       rintro e w1 ⟨mb,rfl,hM,hmb,b1⟩
       clear hM
       go_wp2
       go_ret2
       exact⟨rfl,b1⟩
   · have h1':storeOkL ps=false:=by simpa using h1
     rw[h1'] at K
     clear hs hm hT HC h1 h1' hok
     go_enter Tryd.func17,Tryd.ntmps17
     go_wp2_with fail
     refine K.mono ?_
     rintro e w1 ⟨rfl,b1⟩
     go_wp2
     go_ret2
     exact⟨rfl,b1⟩
end Go.Proofs.YtkbiegocclfnnaaDoor
