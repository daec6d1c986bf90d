/-
 Proofs on lists; contract: CheckProof, of the model.
-/
import Derived.Test.YtllmclmcncolcaaGreatDoorStepAll
namespace Go.Proofs.YtllmclmcncolcaaGreatDoor
open Go.RowKit
set_option linter.unusedVariables false
def chkP:List (List UInt8)→List UInt8→List UInt8→Int × List UInt8
 | [],_,_=>(0,[])
 | t :: ts, root, path => if (readNode t).isSome = true ∧ sumL t = root then (match stepL (nodeAt t) path with
     | .ends c v=>if ts=[] then (if c=1 then (2,v) else (1,[])) else (0,[])
     | .on h p=>chkP ts h p) else (0,[])
theorem chkP_bad (t:List UInt8) (ts:List (List UInt8)) (root path:List UInt8) (h:¬ ((readNode t).isSome=true∧sumL t=root)):chkP (t :: ts) root path=(0,[]):=by rw[chkP,if_neg h]
theorem chkP_ends (t:List UInt8) (ts:List (List UInt8)) (root path:List UInt8) (h1:(readNode t).isSome=true) (h2:sumL t=root) (c:Int) (v:List UInt8) (hs:stepL (nodeAt t) path=.ends c v):chkP (t :: ts) root path=if ts=[] then (if c=1 then (2,v) else (1,[])) else (0,[]):=by rw[chkP,if_pos ⟨h1,h2⟩,hs]
theorem chkP_on (t:List UInt8) (ts:List (List UInt8)) (root path:List UInt8) (h1:(readNode t).isSome=true) (h2:sumL t=root) (h p:List UInt8) (hs:stepL (nodeAt t) path=.on h p):chkP (t :: ts) root path=chkP ts h p:=by rw[chkP,if_pos ⟨h1,h2⟩,hs]
def chkOk (root key:List UInt8) (ts:List (List UInt8)):Bool:=decide (root.length=32) && (decide (key.length≤12) && decide (ts.length≤30))
def chkR (root key:List UInt8) (ts:List (List UInt8)):Int × List UInt8 :=
 if chkOk root key ts=true then (if root=emptyL then (if ts=[] then (1,[]) else (0,[])) else chkP ts root (nibs key)) else (0,[])
theorem chkR_no (root key:List UInt8) (ts:List (List UInt8)) (h:chkOk root key ts=false):chkR root key ts=(0,[]):=by rw[chkR,h];rfl
theorem chkR_empty (key:List UInt8) (ts:List (List UInt8)) (h:chkOk emptyL key ts=true):chkR emptyL key ts=if ts=[] then (1,[]) else (0,[]):=by rw[chkR,if_pos h,if_pos rfl]
theorem chkR_way (root key:List UInt8) (ts:List (List UInt8)) (h:chkOk root key ts=true) (he:¬ root=emptyL):chkR root key ts=chkP ts root (nibs key):=by rw[chkR,if_pos h,if_neg he]
theorem drop_at (ts:List (List UInt8)) (j:Nat) (h:j<ts.length):ts.drop j=ts[j] :: ts.drop (j+1):=List.drop_eq_getElem_cons h
theorem drop_end (ts:List (List UInt8)) (j:Nat) (h:j+1=ts.length):ts.drop (j+1)=[]:=by rw[List.drop_eq_nil_iff];omega
theorem drop_more (ts:List (List UInt8)) (j:Nat) (h:j+1<ts.length):ts.drop (j+1)≠[]:=fun e=>by rw[List.drop_eq_nil_iff] at e;omega
set_option maxRecDepth 100000 in
set_option maxHeartbeats 2000000 in
theorem spec_checkProof (root key : List UInt8) (b : Option Addr) (cb : Nat) (ts : List (List UInt8)) (w : World) (hr : root.length ≤ 1048576) (hk : key.length ≤ 1048576) (htl : ts.length ≤ 1048576) (htm : ∀ l ∈ ts, l.length ≤ 1048576) (hts : IsStrs w b ts) :
 Calls Tryz.prog 23 #[.string ⟨root.toArray⟩,.string ⟨key.toArray⟩,.slice b ts.length cb] w fun e w'=>e=.returned (.tuple #[.int .i64 (chkR root key ts).1,.string ⟨(chkR root key ts).2.toArray⟩])∧Below w.heap.size w w':=by
 have hzr:(ByteArray.mk root.toArray).size=root.length:=by simp[ByteArray.size]
 have hzk:(ByteArray.mk key.toArray).size=key.length:=by simp[ByteArray.size]
 have HTS:Hid (∀ W,Below w.heap.size w W→IsStrs W b ts):=fun W hW=>strs_later hts hW
 have HTM:Hid (∀ l∈ts,l.length≤1048576):=htm
 clear hts htm
 by_cases hok:chkOk root key ts=true
 · have hparts := hok
   simp only[chkOk,Bool.and_eq_true,decide_eq_true_eq] at hparts
   obtain⟨h1,h2,h3⟩:=hparts
   have h1':((root.length:Int) != 32)=false:=by rw[bne_eq_false_iff_eq];omega
   have h1'':(root.length:Int)=32:=by omega
   have h2':(key.length:Int)≤12:=by omega
   have h3':(ts.length:Int)≤30:=by omega
   have h2b:decide ((12:Int)<(key.length:Int))=false:=decide_eq_false (by omega)
   have h3b:decide ((30:Int)<(ts.length:Int))=false:=decide_eq_false (by omega)
   obtain⟨em,hem⟩:∃ em,em=emptyL:=⟨_,rfl⟩
   have KE:∀ W,Calls Tryz.prog 36 #[] W fun e w'=>e=.returned (.string ⟨em.toArray⟩)∧Below W.heap.size W w':=fun W=>by rw[hem];exact spec_empty W
   by_cases he:root=em
   · have HR:Hid (chkR root key ts=if ts=[] then (1,[]) else (0,[])):=by subst he;subst hem;exact chkR_empty key ts hok
     rw[HR.out]
     subst he
     clear hem hok h1 h2 h3 HR
     cases ts with
     | nil =>
       rw[if_pos rfl]
       go_enter Tryz.func23,Tryz.ntmps23
       go_wp2_with fail
       refine (KE w).mono ?_
       rintro e w1 ⟨rfl,b1⟩
       go_wp2
       go_ret2
       exact⟨rfl,b1⟩
     | cons t r =>
       rw[if_neg (by simp)]
       obtain⟨n,hn⟩:∃ n,n=(t :: r).length:=⟨_,rfl⟩
       have hn0:(0:Int)<(n:Int):=by rw[hn];simp
       rw[←hn] at h3' h3b ⊢
       clear hn HTS HTM htl
       go_enter Tryz.func23,Tryz.ntmps23
       go_wp2_with fail
       refine (KE w).mono ?_
       rintro e w1 ⟨rfl,b1⟩
       go_wp2
       go_ret2
       exact⟨rfl,b1⟩
   · have heb : (root == em) = false := by rw [beq_eq_false_iff_ne]; exact he
     obtain⟨np,hnp⟩:∃ np,np=nibs key:=⟨_,rfl⟩
     have hnn:isNibs np=true:=by rw[hnp];exact nibs_nibs key
     have hnl:np.length≤24:=by rw[hnp,nibs_length];omega
     have HR:Hid (chkR root key ts=chkP ts root np):=by rw[hnp];exact chkR_way root key ts hok (by rw[←hem];exact he)
     obtain⟨R,hR⟩:∃ R,R=chkR root key ts:=⟨_,rfl⟩
     rw[←hR] at HR ⊢
     have KN:∀ W,Calls Tryz.prog 37 #[.string ⟨key.toArray⟩] W fun e w'=>e=.returned (.string ⟨np.toArray⟩)∧Below W.heap.size W w':=fun W=>by
      have:=spec_nibbles ⟨key.toArray⟩ W (by omega)
      have hkn:nibs (ByteArray.mk key.toArray).data.toList=np:=by rw[hnp]
      rw[hkn] at this
      exact this
     clear hem hok h1 h2 he hnp hR
     go_enter Tryz.func23,Tryz.ntmps23
     go_wp2_with fail
     refine (KE w).mono ?_
     rintro e w1 ⟨rfl,b1⟩
     go_wp2_with fail
     refine (KN w1).mono ?_
     rintro e w2 ⟨rfl,b2⟩
     have B2:=b1.trans (b2.mono b1.size)
     clear b1 b2 KE KN
     go_wp2
     go_loopw [0,8,9,10,11,12,13,14] (fun v0 v8 i _ _ _ _ _ wr=>∃ (j:Nat) (h p:List UInt8),j≤ts.length∧i=.int .i64 (j:Int)∧v0=.string ⟨h.toArray⟩∧v8=.string ⟨p.toArray⟩∧h.length≤1048576∧p.length≤24∧isNibs p=true∧Hid (R=chkP (ts.drop j) h p)∧Below w.heap.size w wr) (fun _ _ i _ _ _ _ _ _=>ts.length - (intOf i).toNat)
     case atStart=>exact⟨0,root,np,Nat.zero_le _,rfl,rfl,rfl,hr,hnl,hnn,HR.out,B2⟩
     case round =>
      obtain⟨j,h,p,hj,rfl,rfl,rfl,hhl,hpl,hpn,HW,hbel⟩:=hrel
      have hsz:=hbel.size
      by_cases hlt:j<ts.length
      · obtain ⟨bb, off, rfl, hc⟩ : ∃ bb off, b = some ⟨bb, off, none⟩ ∧ ∀ j (h : j < ts.length), wr.cell? ⟨bb, off + j, none⟩ = some (.string ⟨ts[j].toArray⟩) := by
         rcases HTS.out wr hbel with h | h
         · rw[h] at hlt;simp at hlt
         · exact h
        have c1:=hc j hlt
        have hbb:bb<wr.heap.size:=World.block_lt_of_cell? wr _ c1
        have htl':=HTM.out _ (List.getElem_mem hlt)
        have hj0:(0:Int)≤(j:Int):=by omega
        have hj1:(j:Int)<(ts.length:Int):=by omega
        rw[drop_at ts j hlt] at HW
        obtain⟨t,ht⟩:∃ t,t=ts[j]:=⟨_,rfl⟩
        rw[←ht] at c1 htl' HW
        have KR:=spec_readNode t wr htl'
        have HKS:Hid (∀ W,Calls Tryz.prog 39 #[.string ⟨t.toArray⟩] W fun e w'=>e=.returned (.string ⟨(sumL t).toArray⟩)∧Below W.heap.size W w'):=fun W=>spec_sum t W htl'
        have HRP:Hid (∀ W W' e,ReadPost W (readNode t) e W'→∃ (a:Option Addr) (c:Nat),e=.returned (.tuple #[.agg #[.int .i64 (nodeAt t).k,.string ⟨(nodeAt t).p.toArray⟩,.slice a (nodeAt t).ls.length c,.string ⟨(nodeAt t).v.toArray⟩],.bool (readNode t).isSome])∧W'.ownsRow W.heap.size 9 1 (.slice a (nodeAt t).ls.length c) (nodeAt t).ls.length (scells (nodeAt t).ls)∧Below W.heap.size W W'):=fun W W' e h=>read_post h
        have HBAD:Hid (¬ ((readNode t).isSome=true∧sumL t=h)→R=(0,[])):=fun hh=>by rw[HW.out,chkP_bad _ _ _ _ hh]
        have HEND:Hid ((readNode t).isSome=true→sumL t=h→∀ c v,stepL (nodeAt t) p=.ends c v→R=if ts.drop (j+1)=[] then (if c=1 then (2,v) else (1,[])) else (0,[])):=fun h1 h2 c v hs=>by rw[HW.out,chkP_ends _ _ _ _ h1 h2 c v hs]
        have HON:Hid ((readNode t).isSome=true→sumL t=h→∀ h' p',stepL (nodeAt t) p=.on h' p'→R=chkP (ts.drop (j+1)) h' p'):=fun h1 h2 h' p' hs=>by rw[HW.out,chkP_on _ _ _ _ h1 h2 h' p' hs]
        obtain⟨su,hsu⟩:∃ su,su=sumL t:=⟨_,rfl⟩
        rw[←hsu] at HKS HBAD HEND HON
        cases hok:(readNode t).isSome with
        | false =>
          rw[hok] at HRP HBAD
          have HZ:Hid (R=(0,[])):=HBAD.out (by simp)
          clear hok HW HBAD HEND HON hsu ht hc
          go_wp2_with fail
          refine KR.mono ?_
          rintro e w3 h3
          obtain⟨a3,c3,rfl,o3,b3⟩:=HRP.out wr w3 e h3
          have B3:Hid (∀ o,Below w.heap.size w (w3.alloc o)):=fun o=>(hbel.trans (b3.mono hsz)).alloc (Nat.le_trans hsz b3.size) o
          clear h3 o3 b3 KR HRP c1
          go_wp2
          go_ret2
          exact⟨by rw[HZ.out];rfl,B3.out _⟩
        | true =>
          rw[hok] at HRP HBAD
          have hnok:=nodeAt_ok t hok
          have HKT:Hid (∀ (a:Option Addr) (c:Nat) W,IsStrs W a (nodeAt t).ls→Calls Tryz.prog 40 #[.agg #[.int .i64 (nodeAt t).k,.string ⟨(nodeAt t).p.toArray⟩,.slice a (nodeAt t).ls.length c,.string ⟨(nodeAt t).v.toArray⟩],.string ⟨p.toArray⟩] W fun e w'=>SStepPost (stepL (nodeAt t) p) e∧Below W.heap.size W w'):=fun a c W hs=>spec_l6Step _ _ _ _ hnok a c p W (by omega) hpn hs
          have HKU:Hid (∀ (a:Option Addr) (n m:Nat) W,Calls Tryz.prog 41 #[.agg #[.int .i64 (nodeAt t).k,.string ⟨(nodeAt t).p.toArray⟩,.slice a n m,.string ⟨(nodeAt t).v.toArray⟩]] W fun e w'=>e=.returned (.int .i64 (usedL (nodeAt t):Int))∧Below W.heap.size W w'):=fun a n m W=>spec_l6Used _ _ n m a _ W (by have:=(ok_parts _ hnok).1;omega) (nodeAt t).ls
          have HUS:Hid (∀ h' p',stepL (nodeAt t) p=.on h' p'→p'=p.drop (usedL (nodeAt t))∧usedL (nodeAt t)≤p.length∧h'.length=32):=fun h' p' hs=>stepL_used _ hnok p h' p' hs
          have HSC:Hid (∀ c v,stepL (nodeAt t) p=.ends c v→c=0∨c=1):=fun c v hs=>stepL_code _ p c v hs
          have HEND2:Hid (su=h→∀ c v,stepL (nodeAt t) p=.ends c v→R=if ts.drop (j+1)=[] then (if c=1 then (2,v) else (1,[])) else (0,[])):=HEND.out hok
          have HON2:Hid (su=h→∀ h' p',stepL (nodeAt t) p=.on h' p'→R=chkP (ts.drop (j+1)) h' p'):=HON.out hok
          obtain⟨nd,hnd⟩:∃ nd,nd=nodeAt t:=⟨_,rfl⟩
          rw[←hnd] at HEND2 HON2 HRP HKT HKU HUS HSC
          obtain⟨k,q,ls,v⟩:=nd
          simp only at HRP HKT HKU
          obtain⟨us,hus⟩:∃ us,us=usedL ⟨k,q,ls,v⟩:=⟨_,rfl⟩
          rw[←hus] at HKU HUS
          obtain⟨st,hst⟩:∃ st,st=stepL ⟨k,q,ls,v⟩ p:=⟨_,rfl⟩
          rw[←hst] at HEND2 HON2 HKT HUS HSC
          have HD1:Hid (j+1=ts.length→ts.drop (j+1)=[]):=drop_end ts j
          have HD2:Hid (j+1<ts.length→ts.drop (j+1)≠[]):=drop_more ts j
          clear hok HW HEND HON hsu ht hc hnok hnd hus hst
          go_wp2_with fail
          refine KR.mono ?_
          rintro e w3 h3
          obtain⟨a3,c3,rfl,o3,b3⟩:=HRP.out wr w3 e h3
          have B4:Hid (Below w.heap.size w (w3.alloc (.cells #[.int .i64 k,.string ⟨q.toArray⟩,.slice a3 ls.length c3,.string ⟨v.toArray⟩] 79))):=(hbel.trans (b3.mono hsz)).alloc (Nat.le_trans hsz b3.size) _
          have H4:Hid ((w3.alloc (.cells #[.int .i64 k,.string ⟨q.toArray⟩,.slice a3 ls.length c3,.string ⟨v.toArray⟩] 79)).heap[w3.heap.size]? = some (.cells #[.int .i64 k,.string ⟨q.toArray⟩,.slice a3 ls.length c3,.string ⟨v.toArray⟩] 79 (0,0))):=heap_alloc_new w3 _
          have O4:=hidOwn (o3.alloc (.cells #[.int .i64 k,.string ⟨q.toArray⟩,.slice a3 ls.length c3,.string ⟨v.toArray⟩] 79))
          have c4:(w3.alloc (.cells #[.int .i64 k,.string ⟨q.toArray⟩,.slice a3 ls.length c3,.string ⟨v.toArray⟩] 79)).cell? ⟨bb,off+j,none⟩=some (.string ⟨t.toArray⟩):=by rw[World.cell?_alloc_lt _ _ _ (by show bb<_;have:=b3.size;omega)];exact (b3.cell (p:=⟨bb,off+j,none⟩) hbb).trans c1
          clear h3 o3 b3 KR HRP c1
          go_wp2_with fail
          refine (HKS.out _).mono ?_
          rintro e w5 ⟨rfl,b5⟩
          have B5:Hid (Below w.heap.size w w5):=B4.out.trans (b5.mono B4.out.size)
          have H5:Hid (w5.heap[w3.heap.size]? = some (.cells #[.int .i64 k,.string ⟨q.toArray⟩,.slice a3 ls.length c3,.string ⟨v.toArray⟩] 79 (0,0))):=(b5.block _ (lt_of_block H4.out)).trans H4.out
          have I5:Hid (IsStrs w5 a3 ls):=(strs_own (kept1 O4.out b5)).2.2
          clear b5 B4 H4 O4 c4 HKS
          by_cases he:su=h
          · have HE2:=HEND2.out he
            have HO2:=HON2.out he
            have HE3:Hid (∀ c v,st=.ends c v→R=if ts.drop (j+1)=[] then (if c=1 then (2,v) else (1,[])) else (0,[])):=HE2
            have HO3:Hid (∀ h' p',st=.on h' p'→R=chkP (ts.drop (j+1)) h' p'):=HO2
            subst he
            obtain⟨n0,n1,n2,n3,_⟩:=quad_cells H5.out
            have KT:=HKT.out a3 c3 w5 I5.out
            clear HE2 HO2 HEND2 HON2 HBAD HKT
            go_wp2_with fail
            refine KT.mono ?_
            rintro e w6 ⟨h6,b6⟩
            have B6:Hid (Below w.heap.size w w6):=B5.out.trans (b6.mono B5.out.size)
            have H6:Hid (w6.heap[w3.heap.size]? = some (.cells #[.int .i64 k,.string ⟨q.toArray⟩,.slice a3 ls.length c3,.string ⟨v.toArray⟩] 79 (0,0))):=(b6.block _ (lt_of_block H5.out)).trans H5.out
            clear n0 n1 n2 n3 b6 KT B5 H5 I5
            cases st with
            | ends c x =>
              have HZ:=HE3.out c x rfl
              have hcc:=HSC.out c x rfl
              obtain rfl:e=.returned (.tuple #[.string ⟨#[]⟩,.int .i64 c,.string ⟨x.toArray⟩]):=h6
              by_cases hl1:j+1<ts.length
              · rw[if_neg (HD2.out hl1)] at HZ
                have HZZ:Hid (R=(0,[])):=HZ
                have hl1':(j:Int)+1<(ts.length:Int):=by omega
                clear HZ HE3 HO3 HUS HSC HD1 HD2
                rcases hcc with rfl | rfl
                · go_wp2
                  go_ret2
                  exact⟨by rw[HZZ.out];rfl,B6.out⟩
                · go_wp2
                  go_ret2
                  exact⟨by rw[HZZ.out];rfl,B6.out⟩
              · rw[if_pos (HD1.out (by omega))] at HZ
                have HZZ:Hid (R=if c=1 then (2,x) else (1,[])):=HZ
                have hl1':¬ (j:Int)+1<(ts.length:Int):=by omega
                clear HZ HE3 HO3 HUS HSC HD1 HD2
                rcases hcc with rfl | rfl
                · go_wp2
                  go_ret2
                  exact⟨by first | (rw[HZZ.out,if_neg (by decide)];rfl) | (rw[HZZ.out];rfl),B6.out⟩
                · go_wp2
                  go_ret2
                  exact⟨by first | (rw[HZZ.out,if_pos rfl];rfl) | (rw[HZZ.out];rfl),B6.out⟩
            | on h' p' =>
              have HZ:Hid (R=chkP (ts.drop (j+1)) h' p'):=HO3.out h' p' rfl
              obtain⟨hp',hul,hh'⟩:=HUS.out h' p' rfl
              obtain rfl:e=.returned (.tuple #[.string ⟨h'.toArray⟩,.int .i64 2,.string ⟨#[]⟩]):=h6
              have hx:=ext_from p us hul
              rw[←hp'] at hx
              have hul':(us:Int)≤(p.length:Int):=by omega
              have hpl':p'.length≤24:=by rw[hp',List.length_drop];omega
              have hpn':isNibs p'=true:=by rw[hp'];exact isNibs_drop us p hpn
              have hzp:(ByteArray.mk p.toArray).size=p.length:=by simp[ByteArray.size]
              obtain⟨n0,n1,n2,n3,_⟩:=quad_cells H6.out
              have KU:=HKU.out a3 ls.length c3 w6
              clear HE3 HO3 HUS HSC hp' HKU HD1 HD2
              go_wp2_with fail
              refine KU.mono ?_
              rintro e w7 ⟨rfl,b7⟩
              have B7:Hid (Below w.heap.size w w7):=B6.out.trans (b7.mono B6.out.size)
              clear KU b7 n0 n1 n2 n3 H6 B6
              go_wp2
              go_roundw
              case rel=>exact⟨j+1,h',p',by omega,by go_num,rfl,rfl,by omega,hpl',hpn',HZ.out,B7.out⟩
              case measure=>simp[intOf];omega
          · have heb2:(su == h)=false:=by rw[beq_eq_false_iff_ne];exact he
            have HZ:Hid (R=(0,[])):=HBAD.out (fun e=>he e.2)
            clear HEND2 HON2 HBAD HKT he
            go_wp2
            go_ret2
            exact⟨by rw[HZ.out];rfl,B5.out⟩
      · have hjl:j=ts.length:=by omega
        have HZ:Hid (R=(0,[])):=by rw[Hid,HW.out,hjl,List.drop_length];rfl
        have hjb:¬ (j:Int)<(ts.length:Int):=by omega
        clear HW hjl
        go_wp2
        go_ret2
        exact⟨by rw[HZ.out];rfl,hbel⟩
 · have hok':chkOk root key ts=false:=by simpa using hok
   have HR:Hid (chkR root key ts=(0,[])):=chkR_no root key ts hok'
   rw[HR.out]
   simp only[chkOk,Bool.and_eq_true,decide_eq_true_eq] at hok
   clear hok' HR HTS HTM
   by_cases h1:root.length=32
   · have h1':((root.length:Int) != 32)=false:=by rw[bne_eq_false_iff_eq];omega
     have h1'':(root.length:Int)=32:=by omega
     by_cases h2:key.length≤12
     · have h3:¬ ts.length≤30:=fun h=>hok ⟨h1,h2,h⟩
       have h3':¬ (ts.length:Int)≤30:=by omega
       have h2':(key.length:Int)≤12:=by omega
       clear hok h1 h2 h3
       go_enter Tryz.func23,Tryz.ntmps23
       go_wp2
       go_ret2
       exact⟨rfl,Below.refl _ _⟩
     · have h2':¬ (key.length:Int)≤12:=by omega
       clear hok h1 h2
       go_enter Tryz.func23,Tryz.ntmps23
       go_wp2
       go_ret2
       exact⟨rfl,Below.refl _ _⟩
   · have h1':((root.length:Int) != 32)=true:=by rw[bne_iff_ne];omega
     clear hok h1
     go_enter Tryz.func23,Tryz.ntmps23
     go_wp2
     go_ret2
     exact⟨rfl,Below.refl _ _⟩
end Go.Proofs.YtllmclmcncolcaaGreatDoor
