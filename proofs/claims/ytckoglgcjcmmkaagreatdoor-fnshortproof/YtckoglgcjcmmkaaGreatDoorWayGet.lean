/-
 Texts that are laid as one: WayG, Get.
-/
import Derived.Test.YtckoglgcjcmmkaaGreatDoorStepAll
import Derived.Test.YtckoglgcjcmmkaaGreatDoorIReads
namespace Go.Proofs.YtckoglgcjcmmkaaGreatDoor
open Go.RowKit
set_option linter.unusedVariables false
theorem stepL_code (n:NodeL) (p:List UInt8) (c:Int) (v:List UInt8) (h:stepL n p=.ends c v):c=0∨c=1:=by
 unfold stepL at h
 split at h
 · split at h <;> cases h
   · exact .inr rfl
   · exact .inl rfl
 · split at h
   · split at h <;> cases h
     exact .inl rfl
   · split at h
     · split at h <;> cases h
       · exact .inl rfl
       · exact .inr rfl
     · split at h <;> cases h
       exact .inl rfl
theorem walkL_empty (ps:List PairL) (root key:List UInt8) (h:root=emptyL):walkL ps root key=([],0,[]):=if_pos h
theorem walkL_way (ps:List PairL) (root key:List UInt8) (h:¬ root=emptyL):walkL ps root key=wayL (findL ps) 30 root (nibs key):=if_neg h
set_option maxRecDepth 100000 in
set_option maxHeartbeats 2000000 in
theorem spec_l6Walk (a : Option Addr) (cap : Nat) (ps : List PairL) (root key : List UInt8) (w : World) (hl : ps.length ≤ 1048576) (hm : ∀ p ∈ ps, p.1.length ≤ 1048576 ∧ p.2.length ≤ 1048576) (hs : IsPairs w a ps) (hst : storeOkL ps = true) (hr : root.length ≤ 1048576) (hk : key.length ≤ 12) :
 Calls Tryz.prog 31 #[.slice a ps.length cap,.string ⟨root.toArray⟩,.string ⟨key.toArray⟩] w fun e w'=>∃ (a':Option Addr) (m c:Nat),e=.returned (.tuple #[.slice a' m c,.int .i64 (walkL ps root key).2.1,.string ⟨(walkL ps root key).2.2.toArray⟩])∧w'.ownsRow w.heap.size 9 1 (.slice a' m c) (walkL ps root key).1.length (scells (walkL ps root key).1)∧Below w.heap.size w w':=by
 obtain⟨i0,hi0,hz0,hz1,hz2⟩:=info_parts info9a
 have KN:=spec_nibbles ⟨key.toArray⟩ (w.alloc (.cells #[] 9)) (by simp[ByteArray.size];omega)
 have B0:Below w.heap.size w (w.alloc (.cells #[] 9)):=(Below.refl _ _).alloc (Nat.le_refl _) _
 have O0:=hidOwn (World.ownsRow_lit (e:=9) (size:=1) w #[] 0 (base:=w.heap.size) (Nat.le_refl _) (Nat.zero_le _) rfl)
 have HS:Hid (∀ W,Below w.heap.size w W→IsPairs W a ps):=fun W hW=>hs.later hW
 have HM:Hid (∀ p∈ps,p.1.length≤1048576∧p.2.length≤1048576):=hm
 have HST:Hid (storeOkL ps=true):=hst
 obtain⟨np,hnp⟩:∃ np,np=nibs key:=⟨_,rfl⟩
 have hnn:isNibs np=true:=by rw[hnp];exact nibs_nibs key
 have hnl:np.length≤24:=by rw[hnp,nibs_length];omega
 have HR0:Hid (root=emptyL→walkL ps root key=([],0,[])):=walkL_empty ps root key
 have HR1:Hid (¬ root=emptyL→walkL ps root key=wayL (findL ps) 30 root np):=by rw[hnp];exact walkL_way ps root key
 obtain⟨R,hR⟩:∃ R,R=walkL ps root key:=⟨_,rfl⟩
 rw[←hR] at HR0 HR1 ⊢
 have hkn:nibs (ByteArray.mk key.toArray).data.toList=np:=by rw[hnp]
 rw[hkn] at KN
 obtain⟨em,hem⟩:∃ em,em=emptyL:=⟨_,rfl⟩
 have KE:=fun W=>spec_empty W
 rw[←hem] at KE HR0 HR1
 clear hs hm hst hR hkn hnp hem
 by_cases he:root=em
 · have hR:=HR0.out he
   subst hR
   subst he
   go_enter Tryz.func31,Tryz.ntmps31
   go_wp2_with fail
   refine KN.mono ?_
   rintro e w1 ⟨rfl,b1⟩
   have B1:=B0.trans (b1.mono B0.size)
   have O1:=hidOwn (kept1 O0.out b1)
   go_wp2_with fail
   refine (KE w1).mono ?_
   rintro e w2 ⟨rfl,b2⟩
   have B2:=B1.trans (b2.mono B1.size)
   have O2:=hidOwn (kept1 O1.out b2)
   go_wp2
   go_ret3
   exact⟨_,_,_,rfl,O2.out,B2⟩
 · have heb : (root == em) = false := by rw [beq_eq_false_iff_ne]; exact he
   have HR:=HR1.out he
   have HRW:Hid (R=wayL (findL ps) 30 root np):=HR
   clear HR HR0 HR1 he
   go_enter Tryz.func31,Tryz.ntmps31
   go_wp2_with fail
   refine KN.mono ?_
   rintro e w1 ⟨rfl,b1⟩
   have B1:=B0.trans (b1.mono B0.size)
   have O1:=hidOwn (kept1 O0.out b1)
   go_wp2_with fail
   refine (KE w1).mono ?_
   rintro e w2 ⟨rfl,b2⟩
   have B2:=B1.trans (b2.mono B1.size)
   have O2:=hidOwn (kept1 O1.out b2)
   clear b1 b2 O0 O1 B0 B1 KN KE
   go_wp2
   go_loopw [1,9,10,11,12,13,14,15,16,17] (fun v1 v9 v10 _ _ _ _ _ _ _ wr=>∃ (j c2:Nat) (a2:Option Addr) (h p:List UInt8) (ts:List (List UInt8)),j≤30∧v1=.string ⟨h.toArray⟩∧v9=.slice a2 j c2∧v10=.string ⟨p.toArray⟩∧h.length≤1048576∧p.length≤24∧isNibs p=true∧Hid (R=(ts ++ (wayL (findL ps) (30 - j) h p).1,(wayL (findL ps) (30 - j) h p).2))∧wr.ownsRow w.heap.size 9 1 (.slice a2 j c2) j (scells ts)∧Below w.heap.size w wr) (fun _ v9 _ _ _ _ _ _ _ _ _=>30 - vlen v9)
   case atStart=>exact⟨0,0,some ⟨w.heap.size,0,none⟩,root,np,[],by omega,rfl,rfl,rfl,hr,hnl,hnn,by rw[Hid,HRW.out];rfl,O2.out,B2⟩
   case round =>
    obtain⟨j,c2,a2,h,p,ts,hj,rfl,rfl,rfl,hhl,hpl,hpn,HW,hown,hbel⟩:=hrel
    have hsz:=hbel.size
    have hlow:∀ k,(Value.slice a2 j c2).ownBlock=some k→w.heap.size≤k∧k<wr.heap.size:=fun k hk=>hown.lt k hk
    have HOW:=hidOwn hown
    have hjn:ts.length=j:=by have:=hown.1;rw[scells_length] at this;omega
    clear hown
    by_cases hlt:j<30
    · have hj1 : (j : Int) < 30 := by omega
      have hj0:(0:Int)≤(j:Int):=by omega
      obtain⟨f,hf⟩:∃ f,f=30 - (j+1):=⟨_,rfl⟩
      rw[show 30 - j=f+1 by omega] at HW
      have KF:=spec_l6Find a cap ps h wr hl (HS.out wr hbel)
      cases hfd:findL ps h with
      | none =>
        have HZ:Hid (R=(ts,2,[])):=by rw[Hid,HW.out,wayL_none _ _ _ _ hfd];simp
        rw[hfd] at KF
        have HKR:Hid (∀ W,Calls Tryz.prog 42 #[.string ⟨#[]⟩] W fun e w'=>ReadPost W (readNode []) e w'):=fun W=>spec_readNode [] W (by simp)
        clear hfd HW
        simp only[Option.getD_none,Option.isSome_none] at KF
        go_wp2_with fail
        refine KF.mono ?_
        rintro e w3 ⟨rfl,b3⟩
        have B3:=hbel.trans (b3.mono hsz)
        have O3:=hidOwn (kept1 HOW.out b3)
        clear KF b3
        go_wp2_with fail
        refine (HKR.out w3).mono ?_
        rintro e w4 h4
        obtain⟨a4,c4,rfl,o4,b4⟩:=read_post h4
        have B4:=B3.trans (b4.mono B3.size)
        have O4:=hidOwn (kept1 O3.out b4)
        have BX:Hid (∀ o,Below w.heap.size w (w4.alloc o)):=fun o=>B4.alloc B4.size o
        have OX:Hid (∀ o,(w4.alloc o).ownsRow w.heap.size 9 1 (.slice a2 j c2) j (scells ts)):=fun o=>O4.out.alloc o
        clear b4 o4 h4 O3 O4 B4
        go_wp2
        go_ret3
        obtain rfl:=HZ.out
        exact⟨_,_,_,rfl,by rw[hjn];exact OX.out _,BX.out _⟩
      | some t =>
        have htl:=findL_small ps HM.out h t hfd
        obtain⟨_,_,_,_,htr⟩:=findL_ok ps HST.out h t hfd
        have hok:=nodeAt_ok t htr
        have HKR:Hid (∀ W,Calls Tryz.prog 42 #[.string ⟨t.toArray⟩] W fun e w'=>ReadPost W (readNode t) e w'):=fun W=>spec_readNode t W htl
        have HEND:Hid (∀ c v,stepL (nodeAt t) p=.ends c v→R=(ts ++ [t],c,v)):=fun c v hs=>by rw[HW.out,wayL_ends _ _ _ _ _ _ _ hfd hs]
        have HON:Hid (∀ h' p',stepL (nodeAt t) p=.on h' p'→R=(ts ++ [t] ++ (wayL (findL ps) (30 - (j+1)) h' p').1,(wayL (findL ps) (30 - (j+1)) h' p').2)):=fun h' p' hs=>by rw[HW.out,wayL_on _ _ _ _ _ _ _ hfd hs,←hf];simp
        rw[hfd] at KF
        simp only[Option.getD_some,Option.isSome_some] at KF
        have HRP:Hid (∀ W W' e,ReadPost W (readNode t) e W'→∃ (a:Option Addr) (c:Nat),e=.returned (.tuple #[.agg #[.int .i64 (nodeAt t).k,.string ⟨(nodeAt t).p.toArray⟩,.slice a (nodeAt t).ls.length c,.string ⟨(nodeAt t).v.toArray⟩],.bool (readNode t).isSome])∧W'.ownsRow W.heap.size 9 1 (.slice a (nodeAt t).ls.length c) (nodeAt t).ls.length (scells (nodeAt t).ls)∧Below W.heap.size W W'):=fun W W' e h=>read_post h
        have HKS:Hid (∀ (a:Option Addr) (c:Nat) W,IsStrs W a (nodeAt t).ls→Calls Tryz.prog 44 #[.agg #[.int .i64 (nodeAt t).k,.string ⟨(nodeAt t).p.toArray⟩,.slice a (nodeAt t).ls.length c,.string ⟨(nodeAt t).v.toArray⟩],.string ⟨p.toArray⟩] W fun e w'=>SStepPost (stepL (nodeAt t) p) e∧Below W.heap.size W w'):=fun a c W hs=>spec_l6Step _ _ _ _ hok a c p W (by omega) hpn hs
        have HKU:Hid (∀ (a:Option Addr) (n m:Nat) W,Calls Tryz.prog 45 #[.agg #[.int .i64 (nodeAt t).k,.string ⟨(nodeAt t).p.toArray⟩,.slice a n m,.string ⟨(nodeAt t).v.toArray⟩]] W fun e w'=>e=.returned (.int .i64 (usedL (nodeAt t):Int))∧Below W.heap.size W w'):=fun a n m W=>spec_l6Used _ _ n m a _ W (by have:=(ok_parts _ hok).1;omega) (nodeAt t).ls
        have HUS:Hid (∀ h' p',stepL (nodeAt t) p=.on h' p'→p'=p.drop (usedL (nodeAt t))∧usedL (nodeAt t)≤p.length∧h'.length=32):=fun h' p' hs=>stepL_used _ hok p h' p' hs
        have HSC:Hid (∀ c v,stepL (nodeAt t) p=.ends c v→c=0∨c=1):=fun c v hs=>stepL_code _ p c v hs
        rw[htr] at HRP
        obtain⟨nd,hnd⟩:∃ nd,nd=nodeAt t:=⟨_,rfl⟩
        rw[←hnd] at HEND HON HRP HKS HKU HUS HSC
        obtain⟨k,q,ls,v⟩:=nd
        simp only at HRP HKS HKU
        obtain⟨us,hus⟩:∃ us,us=usedL ⟨k,q,ls,v⟩:=⟨_,rfl⟩
        rw[←hus] at HKU HUS
        obtain⟨st,hst⟩:∃ st,st=stepL ⟨k,q,ls,v⟩ p:=⟨_,rfl⟩
        rw[←hst] at HEND HON HKS HUS HSC
        clear hfd HW hok hnd hus hst htr htl
        go_wp2_with fail
        refine KF.mono ?_
        rintro e w3 ⟨rfl,b3⟩
        have B3:=hbel.trans (b3.mono hsz)
        have O3:=hidOwn (kept1 HOW.out b3)
        clear KF
        go_wp2_with fail
        refine (HKR.out w3).mono ?_
        rintro e w4 h4
        obtain⟨a4,c4,rfl,o4,b4⟩:=HRP.out w3 w4 e h4
        have B4:=B3.trans (b4.mono B3.size)
        have O4:=hidOwn (kept1 O3.out b4)
        have s3:=b3.size
        have s4:=b4.size
        have B5:Hid (Below w.heap.size w (w4.alloc (.cells #[.int .i64 k,.string ⟨q.toArray⟩,.slice a4 ls.length c4,.string ⟨v.toArray⟩] 57))):=B4.alloc B4.size _
        have O5:(w4.alloc (.cells #[.int .i64 k,.string ⟨q.toArray⟩,.slice a4 ls.length c4,.string ⟨v.toArray⟩] 57)).ownsRow w.heap.size 9 1 (.slice a2 j c2) j (scells ts):=O4.out.alloc _
        have HO5:=hidOwn O5
        have H5:Hid ((w4.alloc (.cells #[.int .i64 k,.string ⟨q.toArray⟩,.slice a4 ls.length c4,.string ⟨v.toArray⟩] 57)).heap[w4.heap.size]? = some (.cells #[.int .i64 k,.string ⟨q.toArray⟩,.slice a4 ls.length c4,.string ⟨v.toArray⟩] 57 (0,0))):=heap_alloc_new w4 _
        have OK5:=hidOwn (o4.alloc (.cells #[.int .i64 k,.string ⟨q.toArray⟩,.slice a4 ls.length c4,.string ⟨v.toArray⟩] 57))
        have hsz5:(w4.alloc (.cells #[.int .i64 k,.string ⟨q.toArray⟩,.slice a4 ls.length c4,.string ⟨v.toArray⟩] 57)).heap.size=w4.heap.size+1:=by simp
        have HST6:Hid (∀ w6,((w4.alloc (.cells #[.int .i64 k,.string ⟨q.toArray⟩,.slice a4 ls.length c4,.string ⟨v.toArray⟩] 57)).alloc (.cells #[.string ⟨t.toArray⟩] 9)).grownBy w6 (Value.slice a2 j c2).ownBlock→w6.heap[w4.heap.size]? = some (.cells #[.int .i64 k,.string ⟨q.toArray⟩,.slice a4 ls.length c4,.string ⟨v.toArray⟩] 57 (0,0))∧IsStrs w6 a4 ls∧Below w.heap.size w w6):=fun w6 hg=>by
         refine⟨?_,?_,?_⟩
         · refine (hg.block w4.heap.size (by simp;omega) (fun e=>?_)).trans ((Below.heap_alloc _ _ _ (by simp)).trans H5.out)
           have:=hlow _ e.symm
           omega
         · refine (strs_own ((OK5.out.alloc (.cells #[.string ⟨t.toArray⟩] 9)).kept hg ?_)).2.2
           cases hb:(Value.slice a4 ls.length c4).ownBlock with
           | none=>exact .inl rfl
           | some z=>exact .inr fun e=>by have h1:=(OK5.out.lt z hb).1;have h2:=hlow z e.symm;omega
         · exact (B5.out.alloc B5.out.size _).grown hg (by have:=B5.out.size;simp at this ⊢;omega) (fun z hz=>(hlow z hz).1)
        have hj30:j≤30:=by omega
        clear h4 b3 b4 o4 O3 O4 B3 B4 O5 HRP HKR
        go_wp2_with (at_builtin;refine wpList_append_lies _ rfl _ _ 30 rfl w.heap.size 9 i0 (.string ⟨#[]⟩) 1 16 Tryz.underlying30 hi0 hz0 hz1 hz2 rfl (by decide) (.slice a2 j c2) j _ rfl (HO5.out.alloc _) ⟨w4.heap.size+1,0,none⟩ 1 1 [.string ⟨t.toArray⟩] rfl rfl (World.news_of_block (cs:=#[.string ⟨t.toArray⟩]) (t:=9) (fr:=(0,0)) (by have:=heap_alloc_new (w4.alloc (.cells #[.int .i64 k,.string ⟨q.toArray⟩,.slice a4 ls.length c4,.string ⟨v.toArray⟩] 57)) (.cells #[.string ⟨t.toArray⟩] 9);rw[hsz5] at this;exact this)) (by simp[Value.oneCell']) (by omega) (by unfold maxLen;omega) (by omega) (by simp;omega) (w4.heap.size+2) (by simp) ?_;intro g2 cap2 w6 hown6 hgrow hat hlt6;obtain⟨h6,i6,b6⟩:=HST6.out w6 hgrow;obtain⟨n0,n1,n2,n3,_⟩:=quad_cells h6;have H6:Hid (w6.heap[w4.heap.size]? = some (.cells #[.int .i64 k,.string ⟨q.toArray⟩,.slice a4 ls.length c4,.string ⟨v.toArray⟩] 57 (0,0))):=h6;have I6:Hid (IsStrs w6 a4 ls):=i6;have B6:Hid (Below w.heap.size w w6):=b6;have O6:Hid (w6.ownsRow w.heap.size 9 1 (.slice (some ⟨g2,0,none⟩) (j+1) cap2) (j+1) (scells (ts ++ [t]))):=(by rw[Hid,scells_snoc];exact hown6);clear h6 i6 b6 hown6 hgrow)
        refine (HKS.out a4 c4 w6 I6.out).mono ?_
        rintro e w7 ⟨h7,b7⟩
        have B7:Hid (Below w.heap.size w w7):=B6.out.trans (b7.mono B6.out.size)
        have O7:=hidOwn (kept1 O6.out b7)
        have H7:Hid (w7.heap[w4.heap.size]? = some (.cells #[.int .i64 k,.string ⟨q.toArray⟩,.slice a4 ls.length c4,.string ⟨v.toArray⟩] 57 (0,0))):=(b7.block _ (lt_of_block H6.out)).trans H6.out
        have hsl:(ts ++ [t]).length=j+1:=by simp[hjn]
        clear n0 n1 n2 n3 H6 I6 B6 O6 b7 HST6 HKS
        cases st with
        | ends c x =>
          have HZ:Hid (R=(ts ++ [t],c,x)):=HEND.out c x rfl
          have hcc:=HSC.out c x rfl
          obtain rfl:e=.returned (.tuple #[.string ⟨#[]⟩,.int .i64 c,.string ⟨x.toArray⟩]):=h7
          clear HEND HON HUS HSC
          have fin:∃ (a':Option Addr) (m c':Nat),Ending.returned (.tuple #[.slice (some ⟨g2,0,none⟩) (j+1) cap2,.int .i64 c,.string ⟨x.toArray⟩])=.returned (.tuple #[.slice a' m c',.int .i64 R.2.1,.string ⟨R.2.2.toArray⟩])∧w7.ownsRow w.heap.size 9 1 (.slice a' m c') R.1.length (scells R.1)∧Below w.heap.size w w7:=by
           rw[HZ.out]
           exact⟨_,_,_,rfl,by rw[hsl];exact O7.out,B7.out⟩
          have HFIN:Hid (∃ (a':Option Addr) (m c':Nat),Ending.returned (.tuple #[.slice (some ⟨g2,0,none⟩) (j+1) cap2,.int .i64 c,.string ⟨x.toArray⟩])=.returned (.tuple #[.slice a' m c',.int .i64 R.2.1,.string ⟨R.2.2.toArray⟩])∧w7.ownsRow w.heap.size 9 1 (.slice a' m c') R.1.length (scells R.1)∧Below w.heap.size w w7):=fin
          clear fin HZ
          rcases hcc with rfl | rfl
          · go_wp2
            go_ret3
            exact HFIN.out
          · go_wp2
            go_ret3
            exact HFIN.out
        | on h' p' =>
          have HZ:=HON.out h' p' rfl
          have HZZ:Hid (R=(ts ++ [t] ++ (wayL (findL ps) (30 - (j+1)) h' p').1,(wayL (findL ps) (30 - (j+1)) h' p').2)):=HZ
          obtain⟨hp',hul,hh'⟩:=HUS.out h' p' rfl
          obtain rfl:e=.returned (.tuple #[.string ⟨h'.toArray⟩,.int .i64 2,.string ⟨#[]⟩]):=h7
          have hx:=ext_from p us hul
          rw[←hp'] at hx
          have hul':(us:Int)≤(p.length:Int):=by omega
          have hpl':p'.length≤24:=by rw[hp',List.length_drop];omega
          have hpn':isNibs p'=true:=by rw[hp'];exact isNibs_dropS us p hpn
          have hzp:(ByteArray.mk p.toArray).size=p.length:=by simp[ByteArray.size]
          obtain⟨n0,n1,n2,n3,_⟩:=quad_cells H7.out
          have KU:=HKU.out a4 ls.length c4 w7
          clear HEND HON HUS HSC HZ hp' HKU
          go_wp2_with fail
          refine KU.mono ?_
          rintro e w8 ⟨rfl,b8⟩
          have B8:Hid (Below w.heap.size w w8):=B7.out.trans (b8.mono B7.out.size)
          have O8:=hidOwn (kept1 O7.out b8)
          clear KU b8 n0 n1 n2 n3 H7 O7 B7
          go_wp2
          go_roundw
          case rel=>exact⟨j+1,cap2,some ⟨g2,0,none⟩,h',p',ts ++ [t],by omega,rfl,rfl,rfl,by omega,hpl',hpn',HZZ.out,O8.out,B8.out⟩
          case measure=>simp[vlen];omega
    · have hj30:j=30:=by omega
      have HZ:Hid (R=(ts,2,[])):=by rw[Hid,HW.out,hj30];simp[wayL]
      have hjb:¬ (j:Int)<30:=by omega
      clear HW hj30
      go_wp2
      go_ret3
      obtain rfl:=HZ.out
      exact⟨_,_,_,rfl,by rw[hjn];exact HOW.out,hbel⟩
set_option maxRecDepth 100000 in
set_option maxHeartbeats 2000000 in
theorem impl_get (a : Option Addr) (cap : Nat) (ps : List PairL) (root key : List UInt8) (w : World) (hT : Tab w) (hl : ps.length ≤ 1048576) (hm : ∀ p ∈ ps, p.1.length ≤ 1048576 ∧ p.2.length ≤ 1048576) (hs : IsPairs w a ps) (hr : root.length ≤ 1048576) (hk : key.length ≤ 1048576) :
 Calls Tryz.prog 12 #[.slice a ps.length cap,.string ⟨root.toArray⟩,.string ⟨key.toArray⟩] w fun e w'=>e=.returned (.tuple #[.int .i64 (getC ps root key),.string ⟨(getV ps root key).toArray⟩])∧Below w.heap.size w w':=by
 have K:=impl_heldNodesV a cap ps w hT hl hm hs
 have HT:Hid (Tab w):=hT
 have hzr:(ByteArray.mk root.toArray).size=root.length:=by simp[ByteArray.size]
 have hzk:(ByteArray.mk key.toArray).size=key.length:=by simp[ByteArray.size]
 by_cases hok:getOkL ps root key=true
 · have HC : Hid (getC ps root key = (walkL ps root key).2.1 ∧ getV ps root key = (walkL ps root key).2.2) := ⟨if_pos hok, if_pos hok⟩
   simp only[getOkL,Bool.and_eq_true,decide_eq_true_eq] at hok
   obtain⟨h1,h2,h3⟩:=hok
   have KA:Hid (∀ mb h W,h.length≤1048576→HeldM W mb ps ps.length→Calls Tryz.prog 29 #[.map (some mb),.string ⟨h.toArray⟩] W fun e w'=>AtPost W (findL ps h) e w'):=fun mb h W hh hM=>impl_atV mb ps h W h1 hh hM
   obtain⟨np,hnp⟩:∃ np,np=nibs key:=⟨_,rfl⟩
   have hnn:isNibs np=true:=by rw[hnp];exact nibs_nibs key
   have hnl:np.length≤24:=by rw[hnp,nibs_length];omega
   have HR0:Hid (root=emptyL→walkL ps root key=([],0,[])):=walkL_empty ps root key
   have HR1:Hid (¬ root=emptyL→walkL ps root key=wayL (findL ps) 30 root np):=by rw[hnp];exact walkL_way ps root key
   rw[HC.out.1,HC.out.2]
   obtain⟨R,hR⟩:∃ R,R=walkL ps root key:=⟨_,rfl⟩
   rw[←hR] at HR0 HR1 ⊢
   have KN:∀ W,Calls Tryz.prog 36 #[.string ⟨key.toArray⟩] W fun e w'=>e=.returned (.string ⟨np.toArray⟩)∧Below W.heap.size W w':=fun W=>by
    have:=impl_nibbles ⟨key.toArray⟩ W (by omega)
    have hkn:nibs (ByteArray.mk key.toArray).data.toList=np:=by rw[hnp]
    rw[hkn] at this
    exact this
   obtain⟨em,hem⟩:∃ em,em=emptyL:=⟨_,rfl⟩
   have KE:Hid (∀ W,Tab W→_):=fun W h=>impl_empty W h
   rw[←hem] at KE HR0 HR1
   rw[h1] at K
   have h2':(root.length:Int)=32:=by omega
   have h3':(key.length:Int)≤12:=by omega
   clear hs hm hT HC hR h2 h3 hnp hem
   by_cases he:root=em
   · have hR:=HR0.out he
     subst hR
     subst he
     go_enter Tryz.func12,Tryz.ntmps12
     go_wp2_with fail
     refine K.mono ?_
     rintro e w1 ⟨mb,rfl,hM,hmb,b1⟩
     have K2:=KE.out w1 (HT.out.later b1)
     go_wp2_with fail
     refine K2.mono ?_
     rintro e w2 ⟨rfl,b2⟩
     have B2:=b1.trans (b2.mono b1.size)
     go_wp2
     go_ret2
     exact⟨rfl,B2⟩
   · have heb : (root == em) = false := by rw [beq_eq_false_iff_ne]; exact he
     have HRW:Hid (R=wayL (findL ps) 30 root np):=HR1.out he
     clear HR0 HR1 he
     go_enter Tryz.func12,Tryz.ntmps12
     go_wp2_with fail
     refine K.mono ?_
     rintro e w1 ⟨mb,rfl,hM,hmb,b1⟩
     have HM1:Hid (HeldM w1 mb ps ps.length):=hM
     have K2:=KE.out w1 (HT.out.later b1)
     clear K hM
     go_wp2_with fail
     refine K2.mono ?_
     rintro e w2 ⟨rfl,b2⟩
     have B2:=b1.trans (b2.mono b1.size)
     have HM2:Hid (HeldM w2 mb ps ps.length):=HM1.out.later b2
     clear K2 b1 b2 HM1
     go_wp2_with fail
     refine (KN w2).mono ?_
     rintro e w3 ⟨rfl,b3⟩
     have B3:=B2.trans (b3.mono B2.size)
     have HM3:Hid (∀ W,Below w3.heap.size w3 W→HeldM W mb ps ps.length):=fun W hW=>(HM2.out.later b3).later hW
     clear b3 HM2 B2 KN
     go_wp2
     go_loopw [10,11,12,13,14,38] (fun v10 v11 _ _ _ i wr=>∃ (j:Nat) (h p:List UInt8),j≤30∧i=.int .i64 (j:Int)∧v10=.string ⟨h.toArray⟩∧v11=.string ⟨p.toArray⟩∧h.length≤1048576∧p.length≤24∧isNibs p=true∧Hid (R.2=(wayL (findL ps) (30 - j) h p).2)∧Below w3.heap.size w3 wr) (fun _ _ _ _ _ i _=>30 - (intOf i).toNat)
     case atStart=>exact⟨0,root,np,by omega,rfl,rfl,rfl,hr,hnl,hnn,by rw[Hid,HRW.out],Below.refl _ _⟩
     case round =>
      obtain⟨j,h,p,hj,rfl,rfl,rfl,hhl,hpl,hpn,HW,hbel⟩:=hrel
      have hsz:=hbel.size
      have BW:Hid (Below w.heap.size w wr):=B3.trans (hbel.mono B3.size)
      by_cases hlt:j<30
      · have hj1:(j:Int)<30:=by omega
        have hj0:(0:Int)≤(j:Int):=by omega
        obtain⟨f,hf⟩:∃ f,f=30 - (j+1):=⟨_,rfl⟩
        rw[show 30 - j=f+1 by omega] at HW
        have KF:=KA.out mb h wr hhl (HM3.out wr hbel)
        cases hfd:findL ps h with
        | none =>
          have HZ:Hid (R.2=(2,[])):=by rw[Hid,HW.out,wayL_none _ _ _ _ hfd]
          rw[hfd] at KF
          clear hfd HW
          go_wp2_with fail
          refine KF.mono ?_
          rintro e w4 ⟨rfl,b4⟩
          have B4:Hid (∀ o,Below w.heap.size w (w4.alloc o)):=fun o=>(BW.out.trans (b4.mono BW.out.size)).alloc (Nat.le_trans BW.out.size b4.size) o
          clear b4 KF
          go_wp2
          go_ret2
          exact⟨by rw[HZ.out];rfl,B4.out _⟩
        | some t =>
          rw[hfd] at KF
          have HEND:Hid (∀ c v,stepL (nodeAt t) p=.ends c v→R.2=(c,v)):=fun c v hs=>by rw[HW.out,wayL_ends _ _ _ _ _ _ _ hfd hs]
          have HON:Hid (∀ h' p',stepL (nodeAt t) p=.on h' p'→R.2=(wayL (findL ps) (30 - (j+1)) h' p').2):=fun h' p' hs=>by rw[HW.out,wayL_on _ _ _ _ _ _ _ hfd hs,←hf]
          have HAP:Hid (∀ W W' e,AtPost W (some t) e W'→∃ (a:Option Addr) (c:Nat),e=.returned (.tuple #[.agg #[.string ⟨t.toArray⟩,.int .i64 (nodeAt t).k,.string ⟨(nodeAt t).p.toArray⟩,.slice a (nodeAt t).ls.length c,.string ⟨(nodeAt t).v.toArray⟩],.bool true])∧IsStrs W a (nodeAt t).ls∧Below W.heap.size W W'):=fun W W' e hh=>by
           obtain⟨⟨a,c,h1,h2,_⟩,h4⟩:=hh
           exact⟨a,c,h1,h2,h4⟩
          obtain⟨_,_,_,_,htr⟩:=findL_ok ps h1 h t hfd
          have hok:=nodeAt_ok t htr
          have HKS:Hid (∀ (a:Option Addr) (c:Nat) W,IsStrs W a (nodeAt t).ls→Calls Tryz.prog 37 #[.agg #[.int .i64 (nodeAt t).k,.string ⟨(nodeAt t).p.toArray⟩,.slice a (nodeAt t).ls.length c,.string ⟨(nodeAt t).v.toArray⟩],.string ⟨p.toArray⟩] W fun e w'=>StepPost (stepL (nodeAt t) p) e∧Below W.heap.size W w'):=fun a c W hs=>impl_stepAt _ _ _ _ hok a c p W (by omega) hpn hs
          have HUS:Hid (∀ h' p',stepL (nodeAt t) p=.on h' p'→p'.length≤24∧isNibs p'=true∧h'.length=32):=fun h' p' hs=>by
           obtain⟨h1,h2,h3⟩:=stepL_used _ hok p h' p' hs
           exact⟨by rw[h1,List.length_drop];omega,by rw[h1];exact isNibs_dropS _ p hpn,h3⟩
          obtain⟨nd,hnd⟩:∃ nd,nd=nodeAt t:=⟨_,rfl⟩
          rw[←hnd] at HEND HON HAP HKS HUS
          obtain⟨k,q,ls,v⟩:=nd
          simp only at HAP HKS
          obtain⟨st,hst⟩:∃ st,st=stepL ⟨k,q,ls,v⟩ p:=⟨_,rfl⟩
          rw[←hst] at HEND HON HKS HUS
          clear hfd HW hok hnd hst htr
          go_wp2_with fail
          refine KF.mono ?_
          rintro e w4 h4
          obtain⟨a4,c4,rfl,i4,b4⟩:=HAP.out wr w4 e h4
          have B4:Hid (Below w3.heap.size w3 (w4.alloc (.cells #[.string ⟨t.toArray⟩,.int .i64 k,.string ⟨q.toArray⟩,.slice a4 ls.length c4,.string ⟨v.toArray⟩] 59))):=(hbel.trans (b4.mono hsz)).alloc (Nat.le_trans hsz b4.size) _
          have I5:Hid (IsStrs (w4.alloc (.cells #[.string ⟨t.toArray⟩,.int .i64 k,.string ⟨q.toArray⟩,.slice a4 ls.length c4,.string ⟨v.toArray⟩] 59)) a4 ls):=strs_later (strs_later i4 b4) ((Below.refl _ _).alloc (Nat.le_refl _) _)
          have KS:=HKS.out a4 c4 _ I5.out
          obtain⟨n0,n1,n2,n3,n4,_⟩:=five_cells (heap_alloc_new w4 (.cells #[.string ⟨t.toArray⟩,.int .i64 k,.string ⟨q.toArray⟩,.slice a4 ls.length c4,.string ⟨v.toArray⟩] 59))
          clear h4 b4 i4 HAP KF HKS I5
          go_wp2_with fail
          refine KS.mono ?_
          rintro e w5 ⟨h5,b5⟩
          have B5:Hid (Below w3.heap.size w3 w5):=B4.out.trans (b5.mono B4.out.size)
          have BX:Hid (∀ o,Below w.heap.size w (w5.alloc o)):=fun o=>(B3.trans (B5.out.mono B3.size)).alloc (Nat.le_trans B3.size B5.out.size) o
          have BY:Hid (∀ o,Below w3.heap.size w3 (w5.alloc o)):=fun o=>B5.out.alloc B5.out.size o
          clear b5 KS n0 n1 n2 n3 n4 B4
          cases st with
          | ends c x =>
            have HZ:Hid (R.2=(c,x)):=HEND.out c x rfl
            obtain⟨qq,rfl⟩:∃ q:List UInt8,e=.returned (.agg #[.string ⟨#[]⟩,.string ⟨q.toArray⟩,.int .i64 c,.string ⟨x.toArray⟩]):=h5
            obtain⟨m0,m1,m2,m3,_⟩:=quad_cells (heap_alloc_new w5 (.cells #[.string ⟨#[]⟩,.string ⟨qq.toArray⟩,.int .i64 c,.string ⟨x.toArray⟩] 67))
            clear HEND HON HUS
            go_wp2
            first | (go_quiet (fail);go_wp2) | skip
            go_ret2
            exact⟨by rw[HZ.out];rfl,by first | exact BX.out _ | exact below_dr (BX.out _)⟩
          | on h' p' =>
            have HZ:Hid (R.2=(wayL (findL ps) (30 - (j+1)) h' p').2):=HON.out h' p' rfl
            obtain⟨hp1,hp2,hh32⟩:=HUS.out h' p' rfl
            obtain rfl:e=.returned (.agg #[.string ⟨h'.toArray⟩,.string ⟨p'.toArray⟩,.int .i64 0,.string ⟨#[]⟩]):=h5
            obtain⟨m0,m1,m2,m3,_⟩:=quad_cells (heap_alloc_new w5 (.cells #[.string ⟨h'.toArray⟩,.string ⟨p'.toArray⟩,.int .i64 0,.string ⟨#[]⟩] 67))
            have hhe:h'.isEmpty=false:=by cases h' with | nil=>simp at hh32 | cons _ _=>rfl
            clear HEND HON HUS
            go_wp2
            first | (go_quiet (fail);go_wp2) | skip
            go_roundw
            case rel=>exact⟨j+1,h',p',by omega,by go_num,rfl,rfl,by omega,hp1,hp2,HZ.out,by first | exact BY.out _ | exact below_dr (BY.out _)⟩
            case measure=>simp[intOf];omega
      · have hj30:j=30:=by omega
        have HZ:Hid (R.2=(2,[])):=by rw[Hid,HW.out,hj30];simp[wayL]
        have hjb:¬ (j:Int)<30:=by omega
        clear HW hj30
        go_wp2
        go_ret2
        exact⟨by rw[HZ.out];rfl,BW.out⟩
 · have HC:Hid (getC ps root key=3∧getV ps root key=[]):=⟨if_neg hok,if_neg hok⟩
   rw[HC.out.1,HC.out.2]
   by_cases h1:storeOkL ps=true
   · rw[h1] at K
     simp only[getOkL,h1,Bool.and_eq_true,decide_eq_true_eq] at hok
     clear hs hm hT HC h1
     by_cases h2:root.length=32
     · have h3:¬ key.length≤12:=fun h=>hok ⟨trivial,h2,h⟩
       have h2':(root.length:Int)=32:=by omega
       have h3':¬ (key.length:Int)≤12:=by omega
       clear hok h2
       go_enter Tryz.func12,Tryz.ntmps12
       go_wp2_with fail
       refine K.mono ?_
       rintro e w1 ⟨mb,rfl,hM,hmb,b1⟩
       clear hM
       go_wp2
       go_ret2
       exact⟨rfl,b1⟩
     · have h2':((root.length:Int) != 32)=true:=by rw[bne_iff_ne];omega
       clear hok h2
       go_enter Tryz.func12,Tryz.ntmps12
       go_wp2_with fail
       refine K.mono ?_
       rintro e w1 ⟨mb,rfl,hM,hmb,b1⟩
       clear hM
       go_wp2
       go_ret2
       exact⟨rfl,b1⟩
   · have h1':storeOkL ps=false:=by simpa using h1
     rw[h1'] at K
     clear hs hm hT HC h1 h1' hok
     go_enter Tryz.func12,Tryz.ntmps12
     go_wp2_with fail
     refine K.mono ?_
     rintro e w1 ⟨rfl,b1⟩
     go_wp2
     go_ret2
     exact⟨rfl,b1⟩
end Go.Proofs.YtckoglgcjcmmkaaGreatDoor
