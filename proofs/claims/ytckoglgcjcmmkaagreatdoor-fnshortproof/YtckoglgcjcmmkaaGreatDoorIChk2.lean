/-
 The state of a check of a proof, and the iterator of the way, walked for this one caller.
-/
import Derived.Test.YtckoglgcjcmmkaaGreatDoorIChk
import Derived.RangeFuncBound
import Derived.RangeFuncCalls
import Derived.Shelf.Abstract
import Derived.Shelf.RegionOpen
import Derived.WalkKit
import Derived.OwnWalkIn
import Derived.TacticsInMore
import Derived.LoopNIn
import Derived.LoopIn
namespace Go.Proofs.YtckoglgcjcmmkaaGreatDoor
open Go.RowKit Go.Shelf
set_option linter.unusedVariables false
structure CkS (w0:World) (R L b:Nat) (root key:List UInt8) (xs:List (List UInt8)) (W:World):Prop where
 below:Below w0.heap.size w0 W
 ord:w0.heap.size≤R∧R+1<L∧L<b∧b+2<W.heap.size
 r0:W.heap[R]? = some (.cells #[.int .i64 0] 2 (0,0))
 r1:W.heap[R+1]? = some (.cells #[.string ⟨#[]⟩] 9 (0,0))
 left:LeftB w0 W L xs
 box0:W.cell? ⟨b,0,none⟩=some (.string ⟨root.toArray⟩)
 box1:W.cell? ⟨b+1,0,none⟩=some (.string ⟨key.toArray⟩)
 box2:W.cell? ⟨b+2,0,none⟩=some (.func (.func 32) #[] #[.pointer (some ⟨L,0,none⟩)])
theorem CkS.next {w0:World} {R L b:Nat} {root key:List UInt8} {xs r:List (List UInt8)} {W W':World} (h:CkS w0 R L b root key xs W) (k:KeptN W W' L) (lf:LeftB w0 W' L r):CkS w0 R L b root key r W':=by
 obtain⟨o1,o2,o3,o4⟩:=h.ord
 have hs:=k.size
 exact⟨k.below h.below (by omega),⟨o1,o2,o3,by omega⟩,(k.block R (by omega) (by omega)).trans h.r0,(k.block (R+1) (by omega) (by omega)).trans h.r1,lf,
  (World.cell?_of_block (a:=⟨b,0,none⟩) (k.block b (by omega) (by omega))).trans h.box0,(World.cell?_of_block (a:=⟨b+1,0,none⟩) (k.block (b+1) (by omega) (by omega))).trans h.box1,(World.cell?_of_block (a:=⟨b+2,0,none⟩) (k.block (b+2) (by omega) (by omega))).trans h.box2⟩
theorem CkS.later {w0:World} {R L b:Nat} {root key:List UInt8} {xs:List (List UInt8)} {W W':World} (h:CkS w0 R L b root key xs W) (k:Below W.heap.size W W'):CkS w0 R L b root key xs W':=by
 obtain⟨o1,o2,o3,o4⟩:=h.ord
 obtain⟨ao,c,l1,l2,l3⟩:=h.left
 exact h.next (KeptN.of_below k) ⟨ao,c,(k.block L (by omega)).trans l1,l2,l3⟩
theorem put_far {W:World} {l k:Nat} {o o':Obj} {cs:Array Value} {t:TypeId} {f:Nat × Nat} (ho:W.heap[l]? = some o) (hc:o.isCells=false) (h:W.heap[k]? = some (.cells cs t f)):(W.putObj l o').heap[k]? = some (.cells cs t f):=by
 refine (World.putObj_heap_other (fun e=>?_)).trans h
 subst e
 rw[h] at ho
 cases ho
 cases hc
theorem CkS.put {w0:World} {R L b B:Nat} {root key:List UInt8} {xs:List (List UInt8)} (hB:w0.heap.size≤B):AbidesB B (CkS w0 R L b root key xs):=fun W l o o' h hl ho hc=>by
 obtain⟨o1,o2,o3,o4⟩:=h.ord
 obtain⟨ao,c,l1,l2,l3⟩:=h.left
 exact⟨raw_below hB W l o o' h.below hl ho hc,⟨o1,o2,o3,by simpa using o4⟩,put_far ho hc h.r0,put_far ho hc h.r1,⟨ao,c,put_far ho hc l1,l2,l3⟩,raw_cell h.box0 ho hc,raw_cell h.box1 ho hc,raw_cell h.box2 ho hc⟩
theorem undrewC {W w1:World} (h:Below W.drew.heap.size W.drew w1):Below W.heap.size W w1:=⟨h.os,h.tape,h.output,h.size,h.block⟩
theorem four_rowC {w:World} {b:Nat} {u v x y:Value} {t:TypeId} (h:w.heap[b]? = some (.cells #[u,v,x,y] t (0,0))):w.cell? ⟨b,0,none⟩=some u∧w.cell? ⟨b,1,none⟩=some v∧w.cell? ⟨b,2,none⟩=some x∧w.cell? ⟨b,3,none⟩=some y:=by
 refine⟨?_,?_,?_,?_⟩ <;> simp only[World.cell?,h] <;> rfl
theorem drewC (w:World) (q:Nat):Below w.heap.size w (w.drewN q):=⟨rfl,rfl,rfl,Nat.le_refl _,fun _ _=>rfl⟩
theorem keepsC {W W':World} (b:Below W.heap.size W W'):KeepsOthers W W':=⟨b.size,fun k o hk _=>(b.block k (Array.getElem?_eq_some_iff.1 hk).1).trans hk⟩
theorem keepsN {W W':World} {L:Nat} {cs:Array Value} {t:TypeId} {f:Nat × Nat} (k:KeptN W W' L) (h:W.heap[L]? = some (.cells cs t f)):KeepsOthers W W':=⟨k.size,fun j o hj ho=>(k.block j (Array.getElem?_eq_some_iff.1 hj).1 (fun e=>by
 subst e
 rw[h] at hj
 cases hj
 cases ho)).trans hj⟩
structure CkX where
 hv:Value
 nx:List UInt8
 pa:List UInt8
 c:Int
 v:List UInt8
 xs:List (List UInt8)
 sb:Nat
def ckE (x:CkX):Array Value:=#[x.hv,.agg #[.string ⟨x.nx.toArray⟩,.string ⟨x.pa.toArray⟩,.int .i64 x.c,.string ⟨x.v.toArray⟩]]
def StepC (x:CkX) (W:World):Prop:=W.heap[x.sb]? = some (.cells #[.string ⟨x.nx.toArray⟩,.string ⟨x.pa.toArray⟩,.int .i64 x.c,.string ⟨x.v.toArray⟩] 67 (0,0))
def CkY (w0:World) (R L b:Nat) (root key:List UInt8) (Q:Int × List UInt8) (x:CkX) (W:World):Prop:=CkS w0 R L b root key x.xs W∧(b+2<x.sb∧StepC x W)∧(x.nx=[]→x.xs=[]→Q=if x.c=1 then (2,x.v) else (1,[]))
def CkI (w0:World) (R L b:Nat) (root key:List UInt8) (x:CkX) (W:World):Prop:=CkS w0 R L b root key x.xs W∧StepC x W∧¬ (x.nx=[]∧x.xs=[])
def CkO (w0:World) (R:Nat) (Q:Int × List UInt8) (c:Code) (W:World):Prop:=c=.ret∧Below w0.heap.size w0 W∧W.cell? ⟨R,0,none⟩=some (.int .i64 Q.1)∧W.cell? ⟨R+1,0,none⟩=some (.string ⟨Q.2.toArray⟩)
def CkZ (w0:World) (R L b:Nat) (root key:List UInt8) (Q:Int × List UInt8) (W:World):Prop:=Q=(0,[])∧∃ xs,CkS w0 R L b root key xs W
set_option maxRecDepth 100000 in
set_option maxHeartbeats 2000000 in
theorem ck_iter (w0 : World) (R L b : Nat) (root key : List UInt8) (ts : List (List UInt8)) (Q : Int × List UInt8) (hT : Tab w0) (hGL : 0 ≠ L) (hroot : root.length ≤ 1048576) (hkey : key.length ≤ 12) (htm : ∀ t ∈ ts, t.length ≤ 1048576) (htl : ts.length ≤ 30) (hQ : chkP ts root (nibs key) = Q)
 (l:Nat) (BK:World→Prop) (BX:Code→World→Prop) (W:World) (hBK:∀ A B,KeepsOthers A B→BK A→BK B) (hBX:∀ c A B,KeepsOthers A B→BX c A→BX c B)
 (hY:∀ x W1,CkY w0 R L b root key Q x W1→BK W1→YieldAt Fence.wide 1 Tryz.prog l (ckE x) W1 fun e W'=>(e=.returned (.bool true)∧CkI w0 R L b root key x W'∧BK W')∨(e=.returned (.bool false)∧∃ c,CkO w0 R Q c W'∧BX c W'))
 (hJ:CkS w0 R L b root key ts W) (hB:BK W) :
 CallsIn Fence.wide 2 Tryz.prog 53 (#[.func (.yield l) #[] #[]] ++ #[.pointer (some ⟨b,0,none⟩),.pointer (some ⟨b+1,0,none⟩),.pointer (some ⟨b+2,0,none⟩)]) W fun e W'=>(∃ v,e=.returned v)∧((CkZ w0 R L b root key Q W'∧BK W')∨(∃ c,CkO w0 R Q c W'∧BX c W')):=by
 have KN:∀ W,Calls Tryz.prog 36 #[.string ⟨key.toArray⟩] W fun e w'=>e=.returned (.string ⟨(nibs key).toArray⟩)∧Below W.heap.size W w':=fun W=>impl_nibbles ⟨key.toArray⟩ W (by simp[ByteArray.size];omega)
 have hnn:isNibs (nibs key)=true:=nibs_nibs key
 have hnl:(nibs key).length≤24:=by rw[nibs_length];omega
 obtain⟨np,hnp⟩:∃ np,np=nibs key:=⟨_,rfl⟩
 rw[←hnp] at KN hnn hnl hQ
 have HJ:Hid (CkS w0 R L b root key ts W):=hJ
 have c0:=hJ.box0
 have c1:=hJ.box1
 clear hnp hJ
 refine callsIn_of_wp Tryz.func53 rfl trivial ?_ rfl
 simp only[Tryz.ntmps53,List.size_toArray,List.length_cons,List.length_nil,Nat.reduceAdd,Nat.reduceSub,Array.replicate_succ,Array.replicate_zero,List.push_toArray,List.append_toArray,List.nil_append,List.cons_append]
 gi_wp2
 refine wpIn_wide.2 ?_
 have S0:W.drew.cell? ⟨b,0,none⟩=some (.string ⟨root.toArray⟩)∧W.drew.cell? ⟨b+1,0,none⟩=some (.string ⟨key.toArray⟩):=⟨c0,c1⟩
 have hb0:=World.block_lt_of_cell? W _ c0
 have hb1:=World.block_lt_of_cell? W _ c1
 go_region_held3 (fun w'=>w'.cell? ⟨b,0,none⟩=some (.string ⟨root.toArray⟩)∧w'.cell? ⟨b+1,0,none⟩=some (.string ⟨key.toArray⟩))
  (first | with_reducible exact S0 | with_reducible exact S1 | go_keep)
  ((go_at_call 36
    refine (KN _).mono ?_
    rintro e w1 ⟨rfl,b1⟩
    have S1:w1.cell? ⟨b,0,none⟩=some (.string ⟨root.toArray⟩)∧w1.cell? ⟨b+1,0,none⟩=some (.string ⟨key.toArray⟩):=⟨(b1.cell (p:=⟨b,0,none⟩) hb0).trans c0,(b1.cell (p:=⟨b+1,0,none⟩) hb1).trans c1⟩
    have HJ1:Hid (CkS w0 R L b root key ts w1):=HJ.out.later (undrewC b1)
    have HB1:Hid (BK w1):=hBK _ _ (keepsC (undrewC b1)) hB
    clear b1))
 clear c0 c1 S0 S1 hb0 hb1 HJ hB KN
 have HQ:Hid (chkP ts root np=Q):=hQ
 have HTM:Hid (∀ t∈ts,t.length≤1048576):=htm
 have HT:Hid (Tab w0):=hT
 have HBK:Hid (∀ A B,KeepsOthers A B→BK A→BK B):=hBK
 have HYY:Hid (∀ x W1,CkY w0 R L b root key Q x W1→BK W1→YieldAt Fence.wide 1 Tryz.prog l (ckE x) W1 fun e W'=>(e=.returned (.bool true)∧CkI w0 R L b root key x W'∧BK W')∨(e=.returned (.bool false)∧∃ c,CkO w0 R Q c W'∧BX c W')):=hY
 clear hQ htm hT hBK hY
 gi_wp2
 gi_loopw [5,6,7,8,9,13] (fun u5 u6 _ _ _ u13 wr=>∃ (j:Nat) (h p:List UInt8) (xs:List (List UInt8)),u5=.string ⟨h.toArray⟩∧u6=.string ⟨p.toArray⟩∧u13=.int .i64 (j:Int)∧j+xs.length≤30∧h.length≤1048576∧p.length≤1048576∧isNibs p=true∧Hid (∀ t∈xs,t.length≤1048576)∧Hid (chkP xs h p=Q)∧Hid (CkS w0 R L b root key xs wr)∧Hid (BK wr)) (fun _ _ _ _ _ u13 _=>30 - (intOf u13).toNat)
 case atStart=>exact⟨0,root,np,ts,rfl,rfl,rfl,by omega,hroot,by omega,hnn,HTM,HQ,HJ1,HB1⟩
 case round =>
  obtain⟨j,h,p,xs,rfl,rfl,rfl,hjx,hhl,hpl,hpn,HXM,HQX,HS,HB⟩:=hrel
  clear HJ1 HB1 HQ HTM hnn hnl hroot hkey htl
  by_cases hj:j<30
  · have hj1 : (j : Int) < 30 := by omega
    have c2:=HS.out.box2
    have K1:=callsIn_wide (n:=1).2 (impl_nextText L h xs w0 wr (HT.out.later HS.out.below) HXM.out (by omega) HS.out.below (by have:=HS.out.ord;omega) HS.out.left hGL)
    cases xs with
    | nil =>
      simp only[NextPost] at K1
      have HQ0:Hid (Q=(0,[])):=HQX.out.symm
      gi_wp2
      refine⟨trivial,K1.mono ?_⟩
      rintro e w1 ⟨rfl,b1⟩
      have FIN:Hid (∀ o,CkZ w0 R L b root key Q (w1.alloc o)∧BK (w1.alloc o)):=fun o=>⟨⟨HQ0.out,[],(HS.out.later b1).later ((Below.refl _ _).alloc (Nat.le_refl _) _)⟩,HBK.out _ _ ((keepsC b1).trans (KeepsOthers.alloc _ _)) HB.out⟩
      clear K1 b1 HS HB HQ0 HQX HXM c2
      gi_wp2
      refine bodyPost_ret (results_none rfl _ _ _) rfl ?_
      exact⟨⟨_,rfl⟩,.inl (FIN.out _)⟩
    | cons t r =>
      simp only[NextPost] at K1
      have hLC:∃ ao c,wr.heap[L]? = some (.cells #[.slice ao (t :: r).length c] 30 (0,0)):=by obtain⟨ao,c,l1,_⟩:=HS.out.left;exact⟨ao,c,l1⟩
      have HLC:Hid (∃ ao c,wr.heap[L]? = some (.cells #[.slice ao (t :: r).length c] 30 (0,0))):=hLC
      obtain⟨bq,hbq⟩:∃ bq,bq=nextOk t h:=⟨_,rfl⟩
      rw[←hbq] at K1
      have HBQ:Hid (bq=nextOk t h):=hbq
      clear hbq hLC
      gi_wp2
      refine⟨trivial,K1.mono ?_⟩
      rintro e w1 ⟨k,q,a1,m1,c1,v,rfl,hk,hq,hm,hv,i1,lf1,kn1⟩
      have HS1:Hid (CkS w0 R L b root key r w1):=HS.out.next kn1 lf1
      have HB1:Hid (BK w1):=by
       obtain⟨ao,c,l1⟩:=HLC.out
       exact HBK.out _ _ (keepsN kn1 l1) HB.out
      have HND:Hid (k=(nodeAt t).k∧q=(nodeAt t).p∧m1=(nodeAt t).ls.length∧v=(nodeAt t).v∧IsStrs w1 a1 (nodeAt t).ls):=⟨hk,hq,hm,hv,i1⟩
      clear K1 HS HB HLC c2 kn1 lf1 i1 hk hq hm hv
      cases bq with
      | false =>
        have HQ0:Hid (Q=(0,[])):=by
         rw[Hid,←HQX.out]
         refine chkP_bad t r h p (fun hh=>?_)
         have:=HBQ.out
         rw[nextOk,hh.1,hh.2] at this
         simp at this
        have FIN:Hid (∀ o,CkZ w0 R L b root key Q (w1.alloc o)∧BK (w1.alloc o)):=fun o=>⟨⟨HQ0.out,r,HS1.out.later ((Below.refl _ _).alloc (Nat.le_refl _) _)⟩,HBK.out _ _ (KeepsOthers.alloc _ _) HB1.out⟩
        clear HS1 HB1 HQ0 HQX HXM HBQ HND
        gi_wp2
        refine bodyPost_ret (results_none rfl _ _ _) rfl ?_
        exact⟨⟨_,rfl⟩,.inl (FIN.out _)⟩
      | true =>
        obtain⟨hrd,hsm⟩:(readNode t).isSome=true∧sumL t=h:=by
         have:=HBQ.out
         simp only[nextOk,Bool.true_eq,Bool.and_eq_true,beq_iff_eq] at this
         exact this
        obtain⟨e1,e2,e3,e4,i1⟩:=HND.out
        have hok:=nodeAt_ok t hrd
        have HOK:Hid (NodeL.ok ⟨k,q,(nodeAt t).ls,v⟩=true∧nodeAt t=⟨k,q,(nodeAt t).ls,v⟩):=by
         have e:nodeAt t=⟨k,q,(nodeAt t).ls,v⟩:=by rw[e1,e2,e4]
         exact⟨by rw[←e];exact hok,e⟩
        have HIS:Hid (IsStrs w1 a1 (nodeAt t).ls):=i1
        obtain⟨ls,hls⟩:∃ ls,ls=(nodeAt t).ls:=⟨_,rfl⟩
        rw[←hls] at HOK HIS e3
        subst e3
        have K2:=fun W (hW:Below w1.heap.size w1 W)=>callsIn_wide (n:=1).2 (impl_stepAt k q ls v HOK.out.1 a1 c1 p W hpl hpn (strs_later HIS.out hW))
        have HST:Hid (stepL (nodeAt t) p=stepL ⟨k,q,ls,v⟩ p):=by rw[Hid,HOK.out.2]
        obtain⟨st,hst⟩:∃ st,st=stepL ⟨k,q,ls,v⟩ p:=⟨_,rfl⟩
        rw[←hst] at K2 HST
        have HRS:Hid ((readNode t).isSome=true∧sumL t=h):=⟨hrd,hsm⟩
        have K3:=K2 _ ((Below.refl _ _).alloc (Nat.le_refl _) (.cells #[.string ⟨t.toArray⟩,.int .i64 k,.string ⟨q.toArray⟩,.slice a1 ls.length c1,.string ⟨v.toArray⟩] 59))
        have HQ1:Hid ((w1.alloc (.cells #[.string ⟨t.toArray⟩,.int .i64 k,.string ⟨q.toArray⟩,.slice a1 ls.length c1,.string ⟨v.toArray⟩] 59)).heap[w1.heap.size]? = some (.cells #[.string ⟨t.toArray⟩,.int .i64 k,.string ⟨q.toArray⟩,.slice a1 ls.length c1,.string ⟨v.toArray⟩] 59 (0,0))):=heap_alloc_new w1 _
        have HS2:Hid (CkS w0 R L b root key r (w1.alloc (.cells #[.string ⟨t.toArray⟩,.int .i64 k,.string ⟨q.toArray⟩,.slice a1 ls.length c1,.string ⟨v.toArray⟩] 59))):=HS1.out.later ((Below.refl _ _).alloc (Nat.le_refl _) _)
        have HB2:Hid (BK (w1.alloc (.cells #[.string ⟨t.toArray⟩,.int .i64 k,.string ⟨q.toArray⟩,.slice a1 ls.length c1,.string ⟨v.toArray⟩] 59))):=HBK.out _ _ (KeepsOthers.alloc _ _) HB1.out
        clear hrd hsm e1 e2 e4 i1 hok HND HOK HIS hls hst K2 HBQ HS1 HB1
        gi_wp2
        refine⟨trivial,K3.mono ?_⟩
        rintro e w2 ⟨hse,b2⟩
        have HS3:Hid (CkS w0 R L b root key r w2):=HS2.out.later b2
        have HB3:Hid (BK w2):=HBK.out _ _ (keepsC b2) HB2.out
        have hs2:w1.heap.size<w2.heap.size:=by have:=b2.size;simp at this;omega
        have HQ2:Hid (w2.heap[w1.heap.size]? = some (.cells #[.string ⟨t.toArray⟩,.int .i64 k,.string ⟨q.toArray⟩,.slice a1 ls.length c1,.string ⟨v.toArray⟩] 59 (0,0))):=(b2.block _ (by simp)).trans HQ1.out
        clear K3 HS2 HB2 HQ1 b2
        cases st with
        | ends c x =>
          obtain⟨qq,rfl⟩:∃ q:List UInt8,e=.returned (.agg #[.string ⟨#[]⟩,.string ⟨q.toArray⟩,.int .i64 c,.string ⟨x.toArray⟩]):=hse
          obtain⟨g0,g1,g2,g3,g4,_⟩:=five_cells HQ2.out
          have HQE:Hid (Q=if r=[] then (if c=1 then (2,x) else (1,[])) else (0,[])):=by
           rw[Hid,←HQX.out];exact chkP_ends t r h p HRS.out.1 HRS.out.2 c x HST.out
          have hord:=HS3.out.ord
          obtain⟨fn,tm,asg,bo,hy,hR⟩:=HYY.out ⟨(.agg #[.string ⟨t.toArray⟩,.int .i64 k,.string ⟨q.toArray⟩,.slice a1 ls.length c1,.string ⟨v.toArray⟩]),[],qq,c,x,r,w2.heap.size⟩ (w2.alloc (.cells #[.string ⟨#[]⟩,.string ⟨qq.toArray⟩,.int .i64 c,.string ⟨x.toArray⟩] 67)) ⟨HS3.out.later ((Below.refl _ _).alloc (Nat.le_refl _) _),⟨by show b+2<w2.heap.size;omega,heap_alloc_new w2 _⟩,fun _ hr=>by rw[HQE.out];exact if_pos hr⟩ (HBK.out _ _ (KeepsOthers.alloc _ _) HB3.out)
          dsimp only[ckE] at hy
          clear HS3 HB3 HQ2 HQX HXM HYY hord HST HRS
          gi_wp2
          refine hR.mono ?_
          rintro e W4 (⟨rfl,hI,hB4⟩ | ⟨rfl,c9,hO,hX⟩)
          · obtain⟨s4,st4,hne⟩:=hI
            obtain⟨n0,n1,n2,n3⟩:=four_rowC st4
            have HS4:Hid (CkS w0 R L b root key r W4):=s4
            have HB4:Hid (BK W4):=hB4
            have HQ4:Hid (Q=(0,[])):=by rw[Hid,HQE.out];exact if_neg (fun hr=>hne ⟨rfl,hr⟩)
            dsimp only at n0 n1 n2 n3
            clear s4 st4 hne hB4 hy hR
            gi_wp2
            refine bodyPost_ret (results_none rfl _ _ _) rfl ?_
            exact⟨⟨_,rfl⟩,.inl ⟨⟨HQ4.out,r,HS4.out⟩,HB4.out⟩⟩
          · have HO:Hid (CkO w0 R Q c9 W4∧BX c9 W4):=⟨hO,hX⟩
            clear hO hX hy hR
            gi_wp2
            refine bodyPost_ret (results_none rfl _ _ _) rfl ?_
            exact⟨⟨_,rfl⟩,.inr ⟨c9,HO.out⟩⟩
        | on h' p' =>
          obtain rfl:e=.returned (.agg #[.string ⟨h'.toArray⟩,.string ⟨p'.toArray⟩,.int .i64 0,.string ⟨#[]⟩]):=hse
          obtain⟨g0,g1,g2,g3,g4,_⟩:=five_cells HQ2.out
          obtain⟨u1,u2,u3⟩:=stepL_used (nodeAt t) (nodeAt_ok t HRS.out.1) p h' p' HST.out
          have hhe:h'.isEmpty=false:=by cases h' with | nil=>simp at u3 | cons _ _=>rfl
          have hhb:(h' == [])=false:=by rw[beq_eq_false_iff_ne];intro e;rw[e] at u3;simp at u3
          have hp1:p'.length≤1048576:=by rw[u1,List.length_drop];omega
          have hp2:isNibs p'=true:=by rw[u1];exact isNibs_dropS _ _ hpn
          have hh1:h'.length≤1048576:=by omega
          have HQE:Hid (chkP r h' p'=Q):=by
           rw[Hid,←HQX.out];exact (chkP_on t r h p HRS.out.1 HRS.out.2 h' p' HST.out).symm
          have hord:=HS3.out.ord
          obtain⟨fn,tm,asg,bo,hy,hR⟩:=HYY.out ⟨(.agg #[.string ⟨t.toArray⟩,.int .i64 k,.string ⟨q.toArray⟩,.slice a1 ls.length c1,.string ⟨v.toArray⟩]),h',p',0,[],r,w2.heap.size⟩ (w2.alloc (.cells #[.string ⟨h'.toArray⟩,.string ⟨p'.toArray⟩,.int .i64 0,.string ⟨#[]⟩] 67)) ⟨HS3.out.later ((Below.refl _ _).alloc (Nat.le_refl _) _),⟨by show b+2<w2.heap.size;omega,heap_alloc_new w2 _⟩,fun hn=>by dsimp only at hn;rw[hn] at u3;simp at u3⟩ (HBK.out _ _ (KeepsOthers.alloc _ _) HB3.out)
          dsimp only[ckE] at hy
          have HXR:Hid (∀ t∈r,t.length≤1048576):=fun y hy=>HXM.out y (List.mem_cons_of_mem _ hy)
          have hjr:j+1+r.length≤30:=by simp at hjx;omega
          clear HS3 HB3 HQ2 HQX HXM HYY hord HST HRS u1 u2 u3 hjx
          gi_wp2
          refine hR.mono ?_
          rintro e W4 (⟨rfl,hI,hB4⟩ | ⟨rfl,c9,hO,hX⟩)
          · obtain⟨s4,st4,hne⟩:=hI
            obtain⟨n0,n1,n2,n3⟩:=four_rowC st4
            have HS4:Hid (CkS w0 R L b root key r W4):=s4
            have HB4:Hid (BK W4):=hB4
            dsimp only at n0 n1 n2 n3
            clear s4 st4 hne hB4 hy hR
            gi_wp2
            refine wpIn_wide.2 ?_
            go_quiet (fail)
            gi_wp2
            go_roundw
            case rel=>exact⟨j+1,h',p',r,rfl,rfl,by go_num,hjr,hh1,hp1,hp2,HXR,HQE,HS4.out.later (drewC _ _),HBK.out _ _ (keepsC (drewC _ _)) HB4.out⟩
            case measure=>simp[intOf];omega
          · have HO:Hid (CkO w0 R Q c9 W4∧BX c9 W4):=⟨hO,hX⟩
            clear hO hX hy hR
            gi_wp2
            refine bodyPost_ret (results_none rfl _ _ _) rfl ?_
            exact⟨⟨_,rfl⟩,.inr ⟨c9,HO.out⟩⟩
  · have hxs:xs=[]:=List.length_eq_zero_iff.1 (by omega)
    subst hxs
    have hj1:¬ (j:Int)<30:=by omega
    have HQ0:Hid (Q=(0,[])):=HQX.out.symm
    gi_wp2
    go_end0
    exact⟨⟨_,rfl⟩,.inl ⟨⟨HQ0.out,[],HS.out⟩,HB.out⟩⟩
end Go.Proofs.YtckoglgcjcmmkaaGreatDoor
