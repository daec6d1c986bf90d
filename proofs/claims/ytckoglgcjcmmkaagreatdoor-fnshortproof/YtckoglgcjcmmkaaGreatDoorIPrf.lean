/-
 The state of a proof that is gathered, and the iterator of the way, walked for this one caller (ProofOf).
-/
import Derived.Test.YtckoglgcjcmmkaaGreatDoorWayGet
import Derived.Test.YtckoglgcjcmmkaaGreatDoorRfRaw
import Derived.RangeFuncBound
import Derived.RangeFuncCalls
import Derived.RangeFuncBox
import Derived.Shelf.Abstract
import Derived.Shelf.RegionOpen
import Derived.WalkKit
import Derived.OwnWalkIn
import Derived.TacticsInMore
import Derived.LoopNIn
import Derived.LoopIn
import Derived.BigQuiet
namespace Go.Proofs.YtckoglgcjcmmkaaGreatDoor
open Go.RowKit Go.Shelf
set_option linter.unusedVariables false
theorem undrewQ {W w1:World} (h:Below W.drew.heap.size W.drew w1):Below W.heap.size W w1:=⟨h.os,h.tape,h.output,h.size,h.block⟩
theorem keepsQ {W W':World} (b:Below W.heap.size W W'):KeepsOthers W W':=⟨b.size,fun k o hk _=>(b.block k (Array.getElem?_eq_some_iff.1 hk).1).trans hk⟩
theorem drewQ (w:World) (q:Nat):Below w.heap.size w (w.drewN q):=⟨rfl,rfl,rfl,Nat.le_refl _,fun _ _=>rfl⟩
theorem four_rowQ {w:World} {b:Nat} {u v x y:Value} {t:TypeId} (h:w.heap[b]? = some (.cells #[u,v,x,y] t (0,0))):w.cell? ⟨b,0,none⟩=some u∧w.cell? ⟨b,1,none⟩=some v∧w.cell? ⟨b,2,none⟩=some x∧w.cell? ⟨b,3,none⟩=some y:=by
 refine⟨?_,?_,?_,?_⟩ <;> simp only[World.cell?,h] <;> rfl
theorem put_farQ {W:World} {l k:Nat} {o o':Obj} {cs:Array Value} {t:TypeId} {f:Nat × Nat} (ho:W.heap[l]? = some o) (hc:o.isCells=false) (h:W.heap[k]? = some (.cells cs t f)):(W.putObj l o').heap[k]? = some (.cells cs t f):=by
 refine (World.putObj_heap_other (fun e=>?_)).trans h
 subst e
 rw[h] at ho
 cases ho
 cases hc
structure PfS (wM:World) (P b mb:Nat) (pre:List (List UInt8)) (W:World):Prop where
 below:Below wM.heap.size wM W
 ord:wM.heap.size≤P∧P<b∧b+2<W.heap.size
 row:∃ v,Boxed W P 30 v∧W.ownsRow wM.heap.size 9 1 v pre.length (scells pre)
 box2:∃ ft,ft≠9∧Boxed W (b+2) ft (.func (.func 29) #[.map (some mb)] #[])
theorem PfS.later {wM:World} {P b mb:Nat} {pre:List (List UInt8)} {W W':World} (h:PfS wM P b mb pre W) (k:Below W.heap.size W W'):PfS wM P b mb pre W':=by
 obtain⟨o1,o2,o3⟩:=h.ord
 obtain⟨v,r1,r2⟩:=h.row
 obtain⟨ft,f1,f2⟩:=h.box2
 have hs:=k.size
 exact⟨h.below.trans (k.mono h.below.size),⟨o1,o2,by omega⟩,⟨v,(k.block P (by omega)).trans r1,kept1 r2 k⟩,ft,f1,(k.block _ (by omega)).trans f2⟩
theorem PfS.put {wM:World} {P b mb B:Nat} {pre:List (List UInt8)} (hB:wM.heap.size≤B):AbidesB B (PfS wM P b mb pre):=fun W l o o' h hl ho hc=>by
 obtain⟨o1,o2,o3⟩:=h.ord
 obtain⟨v,r1,r2⟩:=h.row
 obtain⟨ft,f1,f2⟩:=h.box2
 exact⟨raw_below hB W l o o' h.below hl ho hc,⟨o1,o2,by simpa using o3⟩,⟨v,put_farQ ho hc r1,ownsRow_putObj r2 _ ho hc⟩,ft,f1,put_farQ ho hc f2⟩
structure PfX where
 t:List UInt8
 k:Int
 q:List UInt8
 a:Option Addr
 m:Nat
 c:Nat
 v:List UInt8
 nx:List UInt8
 pa:List UInt8
 cd:Int
 x:List UInt8
 sb:Nat
 pre:List (List UInt8)
def pfE (x:PfX):Array Value:=#[.agg #[.string ⟨x.t.toArray⟩,.int .i64 x.k,.string ⟨x.q.toArray⟩,.slice x.a x.m x.c,.string ⟨x.v.toArray⟩],.agg #[.string ⟨x.nx.toArray⟩,.string ⟨x.pa.toArray⟩,.int .i64 x.cd,.string ⟨x.x.toArray⟩]]
def StepP (x:PfX) (W:World):Prop:=W.heap[x.sb]? = some (.cells #[.string ⟨x.nx.toArray⟩,.string ⟨x.pa.toArray⟩,.int .i64 x.cd,.string ⟨x.x.toArray⟩] 67 (0,0))
def PfY (wM:World) (P b mb:Nat) (x:PfX) (W:World):Prop:=PfS wM P b mb x.pre W∧StepP x W∧b+2<x.sb∧x.pre.length≤30
def PfI (wM:World) (P b mb:Nat) (x:PfX) (W:World):Prop:=PfS wM P b mb (x.pre ++ [x.t]) W∧StepP x W
def PfZ (wM:World) (P b mb:Nat) (T:List (List UInt8)) (W:World):Prop:=PfS wM P b mb T W
set_option maxRecDepth 100000 in
set_option maxHeartbeats 2000000 in
theorem pf_iter (ps : List PairL) (hst : storeOkL ps = true) (wM : World) (P b mb : Nat) (root key : List UInt8) (T : List (List UInt8)) (hM : HeldM wM mb ps ps.length) (hroot : root.length ≤ 1048576) (hkey : key.length ≤ 12) (hT : (wayL (findL ps) 30 root (nibs key)).1 = T)
 (l:Nat) (BK:World→Prop) (BX:Code→World→Prop) (W:World) (hBK:∀ A B,KeepsOthers A B→BK A→BK B) (hBX:∀ c A B,KeepsOthers A B→BX c A→BX c B)
 (hY:∀ x W1,PfY wM P b mb x W1→BK W1→YieldAt Fence.wide 1 Tryz.prog l (pfE x) W1 fun e W'=>(e=.returned (.bool true)∧PfI wM P b mb x W'∧BK W')∨(e=.returned (.bool false)∧∃ c,(fun (_:Code) (_:World)=>False) c W'∧BX c W'))
 (hJ:PfS wM P b mb [] W∧W.cell? ⟨b,0,none⟩=some (.string ⟨root.toArray⟩)∧W.cell? ⟨b+1,0,none⟩=some (.string ⟨key.toArray⟩)) (hB:BK W) :
 CallsIn Fence.wide 2 Tryz.prog 53 (#[.func (.yield l) #[] #[]] ++ #[.pointer (some ⟨b,0,none⟩),.pointer (some ⟨b+1,0,none⟩),.pointer (some ⟨b+2,0,none⟩)]) W fun e W'=>(∃ v,e=.returned v)∧((PfZ wM P b mb T W'∧BK W')∨(∃ c,(fun (_:Code) (_:World)=>False) c W'∧BX c W')):=by
 have KN:∀ W,Calls Tryz.prog 36 #[.string ⟨key.toArray⟩] W fun e w'=>e=.returned (.string ⟨(nibs key).toArray⟩)∧Below W.heap.size W w':=fun W=>impl_nibbles ⟨key.toArray⟩ W (by simp[ByteArray.size];omega)
 have hnn:isNibs (nibs key)=true:=nibs_nibs key
 have hnl:(nibs key).length≤24:=by rw[nibs_length];omega
 obtain⟨np,hnp⟩:∃ np,np=nibs key:=⟨_,rfl⟩
 rw[←hnp] at KN hnn hnl hT
 have HJ:Hid (PfS wM P b mb [] W):=hJ.1
 have c0:=hJ.2.1
 have c1:=hJ.2.2
 clear hnp hJ
 refine callsIn_of_wp Tryz.func53 rfl trivial ?_ rfl
 simp only[Tryz.ntmps53,List.size_toArray,List.length_cons,List.length_nil,Nat.reduceAdd,Nat.reduceSub,Array.replicate_succ,Array.replicate_zero,List.push_toArray,List.append_toArray,List.nil_append,List.cons_append]
 gi_wp2
 refine wpIn_wide.2 ?_
 have S0:W.drew.cell? ⟨b,0,none⟩=some (.string ⟨root.toArray⟩)∧W.drew.cell? ⟨b+1,0,none⟩=some (.string ⟨key.toArray⟩):=⟨c0,c1⟩
 have hb0:=World.block_lt_of_cell? W _ c0
 have hb1:=World.block_lt_of_cell? W _ c1
 go_region_held3 (fun w'=>w'.cell? ⟨b,0,none⟩=some (.string ⟨root.toArray⟩)∧w'.cell? ⟨b+1,0,none⟩=some (.string ⟨key.toArray⟩))
  (first | with_reducible exact S0 | with_reducible exact S1 | go_keep)
  ((go_at_call 36
    refine (KN _).mono ?_
    rintro e w1 ⟨rfl,b1⟩
    have S1:w1.cell? ⟨b,0,none⟩=some (.string ⟨root.toArray⟩)∧w1.cell? ⟨b+1,0,none⟩=some (.string ⟨key.toArray⟩):=⟨(b1.cell (p:=⟨b,0,none⟩) hb0).trans c0,(b1.cell (p:=⟨b+1,0,none⟩) hb1).trans c1⟩
    have HJ1:Hid (PfS wM P b mb [] w1):=HJ.out.later (undrewQ b1)
    have HB1:Hid (BK w1):=hBK _ _ (keepsQ (undrewQ b1)) hB
    clear b1))
 clear c0 c1 S0 S1 hb0 hb1 HJ hB KN
 have HQ:Hid ((wayL (findL ps) 30 root np).1=T):=hT
 have HBK:Hid (∀ A B,KeepsOthers A B→BK A→BK B):=hBK
 have HM:Hid (HeldM wM mb ps ps.length):=hM
 have HSO:Hid (storeOkL ps=true):=hst
 have HYY:Hid (∀ x W1,PfY wM P b mb x W1→BK W1→YieldAt Fence.wide 1 Tryz.prog l (pfE x) W1 fun e W'=>(e=.returned (.bool true)∧PfI wM P b mb x W'∧BK W')∨(e=.returned (.bool false)∧∃ c,(fun (_:Code) (_:World)=>False) c W'∧BX c W')):=hY
 clear hT hBK hY hM hst
 gi_wp2
 gi_loopw [5,6,7,8,9,13] (fun u5 u6 _ _ _ u13 wr=>∃ (j:Nat) (h p:List UInt8) (pre:List (List UInt8)),u5=.string ⟨h.toArray⟩∧u6=.string ⟨p.toArray⟩∧u13=.int .i64 (j:Int)∧j≤30∧pre.length≤j∧h.length≤1048576∧p.length≤1048576∧isNibs p=true∧Hid (pre ++ (wayL (findL ps) (30 - j) h p).1=T)∧Hid (PfS wM P b mb pre wr)∧Hid (BK wr)) (fun _ _ _ _ _ u13 _=>30 - (intOf u13).toNat)
 case atStart=>exact⟨0,root,np,[],rfl,rfl,rfl,by omega,by simp,hroot,by omega,hnn,HQ,HJ1,HB1⟩
 case round =>
  obtain⟨j,h,p,pre,rfl,rfl,rfl,hj30,hpj,hhl,hpl,hpn,HQX,HS,HB⟩:=hrel
  clear HJ1 HB1 HQ hnn hnl hroot hkey
  by_cases hj:j<30
  · have hj1 : (j : Int) < 30 := by omega
    obtain⟨f,hf⟩:∃ f,30 - j=f+1:=⟨30 - j - 1,by omega⟩
    rw[hf] at HQX
    obtain⟨ft,_,hbx⟩:=HS.out.box2
    have c2:=hbx.cell
    clear hbx
    have K1:=callsIn_wide (n:=1).2 (impl_atV mb ps h wr HSO.out hhl (HM.out.later HS.out.below))
    cases hfd:findL ps h with
    | none =>
      rw[hfd] at K1
      simp only[AtPost] at K1
      have HT0:Hid (T=pre):=by rw[Hid,←HQX.out,wayL_none _ _ _ _ hfd];simp
      clear hfd HQX
      gi_wp2
      refine⟨trivial,K1.mono ?_⟩
      rintro e w1 ⟨rfl,b1⟩
      have FIN:Hid (∀ o,PfZ wM P b mb T (w1.alloc o)∧BK (w1.alloc o)):=fun o=>⟨by rw[HT0.out];exact (HS.out.later b1).later ((Below.refl _ _).alloc (Nat.le_refl _) _),HBK.out _ _ ((keepsQ b1).trans (KeepsOthers.alloc _ _)) HB.out⟩
      clear K1 b1 HS HB HT0 c2
      gi_wp2
      refine bodyPost_ret (results_none rfl _ _ _) rfl ?_
      exact⟨⟨_,rfl⟩,.inl (FIN.out _)⟩
    | some t =>
      rw[hfd] at K1
      simp only[AtPost] at K1
      have HFD:Hid (findL ps h=some t):=hfd
      clear hfd
      gi_wp2
      refine⟨trivial,K1.mono ?_⟩
      rintro e w1 ⟨⟨a1,c1,rfl,i1,hrd⟩,b1⟩
      have HS1:Hid (PfS wM P b mb pre w1):=HS.out.later b1
      have HB1:Hid (BK w1):=HBK.out _ _ (keepsQ b1) HB.out
      have hok:=nodeAt_ok t hrd
      obtain⟨k,hk⟩:∃ k,k=(nodeAt t).k:=⟨_,rfl⟩
      obtain⟨q,hq⟩:∃ q,q=(nodeAt t).p:=⟨_,rfl⟩
      obtain⟨ls,hls⟩:∃ ls,ls=(nodeAt t).ls:=⟨_,rfl⟩
      obtain⟨v,hv⟩:∃ v,v=(nodeAt t).v:=⟨_,rfl⟩
      have HND:Hid (nodeAt t=⟨k,q,ls,v⟩):=by rw[Hid,hk,hq,hls,hv]
      have HOK:Hid (NodeL.ok ⟨k,q,ls,v⟩=true):=by rw[Hid,←HND.out];exact hok
      have HIS:Hid (IsStrs w1 a1 ls):=by rw[Hid,hls];exact strs_later i1 b1
      rw[←hk,←hq,←hls,←hv]
      have K2:=fun W (hW:Below w1.heap.size w1 W)=>callsIn_wide (n:=1).2 (impl_stepAt k q ls v HOK.out a1 c1 p W hpl hpn (strs_later HIS.out hW))
      have HST:Hid (stepL (nodeAt t) p=stepL ⟨k,q,ls,v⟩ p):=by rw[Hid,HND.out]
      obtain⟨st,hst⟩:∃ st,st=stepL ⟨k,q,ls,v⟩ p:=⟨_,rfl⟩
      rw[←hst] at K2 HST
      have HRD:Hid ((readNode t).isSome=true):=hrd
      have K3:=K2 _ ((Below.refl _ _).alloc (Nat.le_refl _) (.cells #[.string ⟨t.toArray⟩,.int .i64 k,.string ⟨q.toArray⟩,.slice a1 ls.length c1,.string ⟨v.toArray⟩] 59))
      have HQ1:Hid ((w1.alloc (.cells #[.string ⟨t.toArray⟩,.int .i64 k,.string ⟨q.toArray⟩,.slice a1 ls.length c1,.string ⟨v.toArray⟩] 59)).heap[w1.heap.size]? = some (.cells #[.string ⟨t.toArray⟩,.int .i64 k,.string ⟨q.toArray⟩,.slice a1 ls.length c1,.string ⟨v.toArray⟩] 59 (0,0))):=heap_alloc_new w1 _
      have HS2:Hid (PfS wM P b mb pre (w1.alloc (.cells #[.string ⟨t.toArray⟩,.int .i64 k,.string ⟨q.toArray⟩,.slice a1 ls.length c1,.string ⟨v.toArray⟩] 59))):=HS1.out.later ((Below.refl _ _).alloc (Nat.le_refl _) _)
      have HB2:Hid (BK (w1.alloc (.cells #[.string ⟨t.toArray⟩,.int .i64 k,.string ⟨q.toArray⟩,.slice a1 ls.length c1,.string ⟨v.toArray⟩] 59))):=HBK.out _ _ (KeepsOthers.alloc _ _) HB1.out
      clear hrd hk hq hls hv hok HOK HIS HND hst K2 K1 HS HB HS1 HB1 b1 i1 c2
      gi_wp2
      refine⟨trivial,K3.mono ?_⟩
      rintro e w2 ⟨hse,b2⟩
      have HS3:Hid (PfS wM P b mb pre w2):=HS2.out.later b2
      have HB3:Hid (BK w2):=HBK.out _ _ (keepsQ b2) HB2.out
      have hs2:w1.heap.size<w2.heap.size:=by have:=b2.size;simp at this;omega
      have HQ2:Hid (w2.heap[w1.heap.size]? = some (.cells #[.string ⟨t.toArray⟩,.int .i64 k,.string ⟨q.toArray⟩,.slice a1 ls.length c1,.string ⟨v.toArray⟩] 59 (0,0))):=(b2.block _ (by simp)).trans HQ1.out
      have HYP:Hid (∀ (nx pa:List UInt8) (cd:Int) (x:List UInt8),PfY wM P b mb ⟨t,k,q,a1,ls.length,c1,v,nx,pa,cd,x,w2.heap.size,pre⟩ (w2.alloc (.cells #[.string ⟨nx.toArray⟩,.string ⟨pa.toArray⟩,.int .i64 cd,.string ⟨x.toArray⟩] 67))∧BK (w2.alloc (.cells #[.string ⟨nx.toArray⟩,.string ⟨pa.toArray⟩,.int .i64 cd,.string ⟨x.toArray⟩] 67))):=fun nx pa cd x=>by
       have hord:=HS3.out.ord
       exact⟨⟨HS3.out.later ((Below.refl _ _).alloc (Nat.le_refl _) _),heap_alloc_new w2 _,by show b+2<w2.heap.size;omega,by show pre.length≤30;omega⟩,HBK.out _ _ (KeepsOthers.alloc _ _) HB3.out⟩
      clear K3 HS2 HB2 HQ1 b2 HS3 HB3
      cases st with
      | ends c x =>
        obtain⟨qq,rfl⟩:∃ q:List UInt8,e=.returned (.agg #[.string ⟨#[]⟩,.string ⟨q.toArray⟩,.int .i64 c,.string ⟨x.toArray⟩]):=hse
        obtain⟨g0,g1,g2,g3,g4,_⟩:=five_cells HQ2.out
        have HQE:Hid (pre ++ [t]=T):=by rw[Hid,←HQX.out,wayL_ends _ _ _ _ t c x HFD.out HST.out]
        obtain⟨fn,tm,asg,bo,hy,hR⟩:=HYY.out _ _ (HYP.out [] qq c x).1 (HYP.out [] qq c x).2
        dsimp only[pfE] at hy
        clear HQ2 HQX HYY HST HRD HYP HFD
        gi_wp2
        refine hR.mono ?_
        rintro e W4 (⟨rfl,hI,hB4⟩ | ⟨rfl,c9,hO,hX⟩)
        · obtain⟨s4,st4⟩:=hI
          obtain⟨n0,n1,n2,n3⟩:=four_rowQ st4
          have HS4:Hid (PfS wM P b mb (pre ++ [t]) W4):=s4
          have HB4:Hid (BK W4):=hB4
          dsimp only at n0 n1 n2 n3
          clear s4 st4 hB4 hy hR
          gi_wp2
          refine bodyPost_ret (results_none rfl _ _ _) rfl ?_
          exact⟨⟨_,rfl⟩,.inl ⟨by rw[←HQE.out];exact HS4.out,HB4.out⟩⟩
        · exact hO.elim
      | on h' p' =>
        obtain rfl:e=.returned (.agg #[.string ⟨h'.toArray⟩,.string ⟨p'.toArray⟩,.int .i64 0,.string ⟨#[]⟩]):=hse
        obtain⟨g0,g1,g2,g3,g4,_⟩:=five_cells HQ2.out
        obtain⟨u1,u2,u3⟩:=stepL_used (nodeAt t) (nodeAt_ok t HRD.out) p h' p' HST.out
        have hhe:h'.isEmpty=false:=by cases h' with | nil=>simp at u3 | cons _ _=>rfl
        have hhb:(h' == [])=false:=by rw[beq_eq_false_iff_ne];intro e;rw[e] at u3;simp at u3
        have hp1:p'.length≤1048576:=by rw[u1,List.length_drop];omega
        have hp2:isNibs p'=true:=by rw[u1];exact isNibs_dropS _ _ hpn
        have hh1:h'.length≤1048576:=by omega
        have HQE:Hid ((pre ++ [t]) ++ (wayL (findL ps) (30 - (j+1)) h' p').1=T):=by
         have ef:30 - (j+1)=f:=by omega
         rw[Hid,←HQX.out,wayL_on _ _ _ _ t h' p' HFD.out HST.out,ef];simp
        obtain⟨fn,tm,asg,bo,hy,hR⟩:=HYY.out _ _ (HYP.out h' p' 0 []).1 (HYP.out h' p' 0 []).2
        dsimp only[pfE] at hy
        clear HQ2 HQX HYY HST HRD HYP HFD u1 u2 u3
        gi_wp2
        refine hR.mono ?_
        rintro e W4 (⟨rfl,hI,hB4⟩ | ⟨rfl,c9,hO,hX⟩)
        · obtain⟨s4,st4⟩:=hI
          obtain⟨n0,n1,n2,n3⟩:=four_rowQ st4
          have HS4:Hid (PfS wM P b mb (pre ++ [t]) W4):=s4
          have HB4:Hid (BK W4):=hB4
          dsimp only at n0 n1 n2 n3
          clear s4 st4 hB4 hy hR
          gi_wp2
          refine wpIn_wide.2 ?_
          go_quiet (fail)
          gi_wp2
          go_roundw
          case rel=>exact⟨j+1,h',p',pre ++ [t],rfl,rfl,by go_num,by omega,by simp;omega,hh1,hp1,hp2,HQE,HS4.out.later (drewQ _ _),HBK.out _ _ (keepsQ (drewQ _ _)) HB4.out⟩
          case measure=>simp[intOf];omega
        · exact hO.elim
  · have hj30':j=30:=by omega
    have HT0:Hid (pre=T):=by
     have:=HQX.out
     rw[hj30'] at this
     rw[Hid]
     simpa [wayL] using this
    have hj1:¬ (j:Int)<30:=by omega
    clear hj30' HQX
    gi_wp2
    go_end0
    exact⟨⟨_,rfl⟩,by rw[←HT0.out];exact HS.out,HB.out⟩
end Go.Proofs.YtckoglgcjcmmkaaGreatDoor
