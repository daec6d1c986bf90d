/-
 At every code an op that is done on a drawn disk is seen, and not safe yet, and one that is refused changes nothing: FnDone answers true. No condition.
-/
import Derived.Test.YtlllkdioojjaeaaDrawDo
import Derived.Test.YtlllkdioojjaeaaMathDn
import Derived.Test.YtlllkdioojjaeaaSDos
import Derived.Test.YtlllkdioojjaeaaIDos
import Derived.Deep.RegionHeld3
import Derived.ProofKit
import Derived.OpenShut
import Derived.ShutString
import Derived.ChangeOld
import Derived.Below
namespace Go.Proofs.Ytlllkdioojjaeaa.fnDone
open Go.ChangeShapes Go.WideShapes Go.ChangeAt Go.RowKit
open Go.ChangeMaps (open_string shut_string)
set_option linter.unusedVariables false
theorem own:ownKnob Try.prog.godebug=none:=by kernel_rfl
theorem read_le {live safe:List PairL} {ops:List DOpL} {n:List UInt8} (h:DSz live safe ops):(readR live safe ops n).length≤1048576:=by
 unfold readR
 split
 · exact datF_le (fun p hp=>(h.1.2.1 p hp).2) n
 · simp
set_option maxRecDepth 100000 in
set_option maxHeartbeats 8000000 in
theorem walk (a0 : Option Addr) (len0 cap0 : Nat) (w : World) (w0 : Code w a0 len0) :
 Calls Try.prog 10 #[.slice a0 len0 cap0] w fun e w'=>e=.returned (.bool true)∧Below w.heap.size w w':=by
 by_cases hb:len0≤1048576
 · have HB := bigNo len0 cap0 a0 w hb
   have HC:Hid (Code w a0 len0):=w0
   clear w0
   go_enter Try.func10,Try.ntmps10
   go_wp2_with fail
   refine HB.mono ?_
   rintro e w ⟨rfl,rfl⟩
   clear HB
   have HD:=drawDo len0 cap0 a0 w hb HC.out
   go_wp2_with fail
   refine HD.mono ?_
   rintro e w1 ⟨x1,x2,x3,k1,k2,k3,live,safe,ops,ok,nm,tt,dd,rfl,hnm,htt,hdd,hG,hS,hol,B1⟩
   obtain⟨wa,hwa⟩:∃ wa,wa=(w1.alloc (.cells #[.slice x1 live.length k1,.slice x2 safe.length k2,.slice x3 ops.length k3] 31)).alloc (.cells #[.int .i64 ok,.string ⟨nm.toArray⟩,.string ⟨tt.toArray⟩,.string ⟨dd.toArray⟩] 40):=⟨_,rfl⟩
   have ba:Below w1.heap.size w1 wa:=by rw[hwa];exact ((Below.refl _ _).alloc (Nat.le_refl _) _).alloc (by simp) _
   have bd0:Hid (wa.heap[w1.heap.size]? = some (.cells #[.slice x1 live.length k1,.slice x2 safe.length k2,.slice x3 ops.length k3] 31 (0,0))):=by rw[hwa,Hid,Below.heap_alloc _ _ _ (by simp)];exact heap_alloc_new w1 _
   have bo0:Hid (wa.heap[w1.heap.size+1]? = some (.cells #[.int .i64 ok,.string ⟨nm.toArray⟩,.string ⟨tt.toArray⟩,.string ⟨dd.toArray⟩] 40 (0,0))):=by
    rw[hwa,Hid]
    have:=heap_alloc_new (w1.alloc (.cells #[.slice x1 live.length k1,.slice x2 safe.length k2,.slice x3 ops.length k3] 31)) (.cells #[.int .i64 ok,.string ⟨nm.toArray⟩,.string ⟨tt.toArray⟩,.string ⟨dd.toArray⟩] 40)
    simpa using this
   have HBW:Hid (Below w.heap.size w wa):=B1.trans (ba.mono B1.size)
   have hGa:=hG.later ba
   have HIS:Hid (∀ W,Below wa.heap.size wa W→IsPairs W x1 live∧IsPairs W x2 safe∧IsDOps W x3 ops):=fun W hW=>⟨hGa.1.pairs.later hW,hGa.2.1.pairs.later hW,hGa.2.2.1.dops.later hW⟩
   have HSZ:=hS.1
   have HKS:Hid (∀ W,Below wa.heap.size wa W→Calls Try.prog 13 #[.agg #[.slice x1 live.length k1,.slice x2 safe.length k2,.slice x3 ops.length k3]] W fun e w'=>e=.returned (.bool (diskOk live safe ops))∧Below W.heap.size W w'):=fun W hW=>spec_diskOk x1 x2 x3 k1 k2 k3 live safe ops W hG.2.2.2.2.1.ok HSZ.1 HSZ.2.1 HSZ.2.2.1 HSZ.2.2.2.1 HSZ.2.2.2.2.1 HSZ.2.2.2.2.2 (HIS.out W hW).1 (HIS.out W hW).2.1 (HIS.out W hW).2.2
   have HDI:=fun W (hW:Below wa.heap.size wa W)=>impl_doX x1 x2 x3 k1 k2 k3 live safe ops ok nm tt dd W hG.2.2.2.1.ok hG.2.2.2.1.cap hG.2.2.2.2.1.ok hG.2.2.2.2.1.cap hG.2.2.2.2.2.ok hG.2.2.2.2.2.cap HSZ.1 HSZ.2.1 HSZ.2.2.1 HSZ.2.2.2.1 HSZ.2.2.2.2.1 HSZ.2.2.2.2.2 (by omega) (by omega) (by omega) (HIS.out W hW).1 (HIS.out W hW).2.1 (HIS.out W hW).2.2
   have HDM:=fun W (hW:Below wa.heap.size wa W)=>spec_doX x1 x2 x3 k1 k2 k3 live safe ops ok nm tt dd W hG.2.2.2.1.ok hG.2.2.2.2.1.ok HSZ.1 HSZ.2.1 HSZ.2.2.1 HSZ.2.2.2.1 HSZ.2.2.2.2.1 HSZ.2.2.2.2.2 (by omega) (by omega) (by omega) (HIS.out W hW).1 (HIS.out W hW).2.1 (HIS.out W hW).2.2
   have HRD:Hid (∀ W,Below wa.heap.size wa W→Calls Try.prog 31 #[.agg #[.slice x1 live.length k1,.slice x2 safe.length k2,.slice x3 ops.length k3],.string ⟨nm.toArray⟩] W fun e w'=>e=.returned (.tuple #[.string ⟨(readR live safe ops nm).toArray⟩,.bool (readB live safe ops nm)])∧Below W.heap.size W w'):=fun W hW=>impl_readFile x1 x2 x3 k1 k2 k3 live safe ops nm W hG.2.2.2.1.ok HSZ.1 HSZ.2.1 HSZ.2.2.1 HSZ.2.2.2.1 HSZ.2.2.2.2.1 HSZ.2.2.2.2.2 (by omega) (HIS.out W hW).1 (HIS.out W hW).2.1 (HIS.out W hW).2.2
   unfold JPost at HDI
   unfold APost at HDM
   have HNS:Hid (nm.length≤100∧tt.length≤100∧dd.length≤100):=⟨by omega,by omega,by omega⟩
   have HDS:Hid (DSz live safe ops):=hS
   have HLL:Hid (live.length≤16777216∧safe.length≤16777216):=⟨by have:=HSZ.1;simp only at this;omega,by have:=HSZ.2.2.1;simp only at this;omega⟩
   have hol':ops.length≤300:=hol
   clear hG hGa hS HD B1 ba hol HSZ HC hnm htt hdd
   obtain⟨rr,hrr⟩:∃ x,x=doL live safe ops ⟨ok,nm,tt,dd⟩:=⟨_,rfl⟩
   rw[←hrr] at HDI HDM
   obtain⟨rl,rs,ro,cd⟩:=rr
   dsimp only at HDI HDM
   have HRR:Hid ((rl,rs,ro,cd)=doL live safe ops ⟨ok,nm,tt,dd⟩):=hrr
   have HDII:=(show Hid _ from HDI)
   have HDMM:=(show Hid _ from HDM)
   clear hrr HDI HDM
   obtain⟨dk,hdk⟩:∃ x,x=diskOk live safe ops:=⟨_,rfl⟩
   have HDK:Hid (dk=diskOk live safe ops):=hdk
   rw[←hdk] at HKS
   clear hdk
   have Bz:Below wa.heap.size wa wa:=Below.refl _ _
   have XDz:=bd0
   have XOz:=bo0
   clear bd0 bo0
   obtain⟨bd0,bd1,bd2,_⟩:=three_cells XDz.out
   obtain⟨bo0,bo1,bo2,bo3,_⟩:=four_cells XOz.out
   rw[hwa] at bd0 bd1 bd2 bo0 bo1 bo2 bo3
   go_wp2_with fail
   rw[←hwa]
   refine (HDII.out _ Bz).mono ?_
   rintro e w3 ⟨y1,y2,y3,q1,q2,q3,rfl,n1,n2,n3,_,b9⟩
   clear hwa HDII
   clear bd0 bd1 bd2
   clear bo0 bo1 bo2 bo3
   have bdt1:Hid (w3.heap[w1.heap.size]? = some (.cells #[.slice x1 live.length k1,.slice x2 safe.length k2,.slice x3 ops.length k3] 31 (0,0))):=(b9.block (w1.heap.size) (lt_of_block XDz.out)).trans XDz.out
   clear XDz
   have bot1:Hid (w3.heap[w1.heap.size+1]? = some (.cells #[.int .i64 ok,.string ⟨nm.toArray⟩,.string ⟨tt.toArray⟩,.string ⟨dd.toArray⟩] 40 (0,0))):=(b9.block (w1.heap.size+1) (lt_of_block XOz.out)).trans XOz.out
   clear XOz
   have Bt1:Below wa.heap.size wa w3:=Bz.trans (b9.mono Bz.size)
   clear Bz
   have yr1:Hid (w3.ownsRow wa.heap.size 84 2 (Value.slice y1 rl.length q1) rl.length (pcells rl)):=n1
   have yr2:Hid (w3.ownsRow wa.heap.size 84 2 (Value.slice y2 rs.length q2) rs.length (pcells rs)):=n2
   have yr3:Hid (w3.ownsRow wa.heap.size 40 4 (Value.slice y3 ro.length q3) ro.length (dcells ro)):=n3
   have YA:Hid (AddrK y1 q1):=own_addrK n1
   clear n1 n2 n3 b9
   have Xt2:Below w3.heap.size w3 (w3.alloc (.cells #[.slice y1 rl.length q1,.slice y2 rs.length q2,.slice y3 ro.length q3] 31)):=(Below.refl _ _).alloc (Nat.le_refl _) _
   have bdt3:Hid ((w3.alloc (.cells #[.slice y1 rl.length q1,.slice y2 rs.length q2,.slice y3 ro.length q3] 31)).heap[w1.heap.size]? = some (.cells #[.slice x1 live.length k1,.slice x2 safe.length k2,.slice x3 ops.length k3] 31 (0,0))):=(Xt2.block (w1.heap.size) (lt_of_block bdt1.out)).trans bdt1.out
   clear bdt1
   have bot3:Hid ((w3.alloc (.cells #[.slice y1 rl.length q1,.slice y2 rs.length q2,.slice y3 ro.length q3] 31)).heap[w1.heap.size+1]? = some (.cells #[.int .i64 ok,.string ⟨nm.toArray⟩,.string ⟨tt.toArray⟩,.string ⟨dd.toArray⟩] 40 (0,0))):=(Xt2.block (w1.heap.size+1) (lt_of_block bot1.out)).trans bot1.out
   clear bot1
   have Y1t3:Hid ((w3.alloc (.cells #[.slice y1 rl.length q1,.slice y2 rs.length q2,.slice y3 ro.length q3] 31)).ownsRow wa.heap.size 84 2 (Value.slice y1 rl.length q1) rl.length (pcells rl)):=kept2 yr1.out Xt2
   clear yr1
   have Y2t3:Hid ((w3.alloc (.cells #[.slice y1 rl.length q1,.slice y2 rs.length q2,.slice y3 ro.length q3] 31)).ownsRow wa.heap.size 84 2 (Value.slice y2 rs.length q2) rs.length (pcells rs)):=kept2 yr2.out Xt2
   clear yr2
   have Y3t3:Hid ((w3.alloc (.cells #[.slice y1 rl.length q1,.slice y2 rs.length q2,.slice y3 ro.length q3] 31)).ownsRow wa.heap.size 40 4 (Value.slice y3 ro.length q3) ro.length (dcells ro)):=kept4 yr3.out Xt2
   clear yr3
   have Bt3:Below wa.heap.size wa (w3.alloc (.cells #[.slice y1 rl.length q1,.slice y2 rs.length q2,.slice y3 ro.length q3] 31)):=Bt1.trans (Xt2.mono Bt1.size)
   clear Bt1
   clear Xt2
   have bat2:Hid ((w3.alloc (.cells #[.slice y1 rl.length q1,.slice y2 rs.length q2,.slice y3 ro.length q3] 31)).heap[w3.heap.size]? = some (.cells #[.slice y1 rl.length q1,.slice y2 rs.length q2,.slice y3 ro.length q3] 31 (0,0))):=heap_alloc_new w3 _
   obtain⟨bd0,bd1,bd2,_⟩:=three_cells bdt3.out
   obtain⟨bo0,bo1,bo2,bo3,_⟩:=four_cells bot3.out
   go_wp2_with fail
   refine (HDMM.out _ Bt3).mono ?_
   rintro e w4 ⟨t1,t2,t3,tk1,tk2,tk3,rfl,_,_,_,_,_,b9⟩
   clear HDMM
   clear bd0 bd1 bd2
   clear bo0 bo1 bo2 bo3
   have bdt4:Hid (w4.heap[w1.heap.size]? = some (.cells #[.slice x1 live.length k1,.slice x2 safe.length k2,.slice x3 ops.length k3] 31 (0,0))):=(b9.block (w1.heap.size) (lt_of_block bdt3.out)).trans bdt3.out
   clear bdt3
   have bot4:Hid (w4.heap[w1.heap.size+1]? = some (.cells #[.int .i64 ok,.string ⟨nm.toArray⟩,.string ⟨tt.toArray⟩,.string ⟨dd.toArray⟩] 40 (0,0))):=(b9.block (w1.heap.size+1) (lt_of_block bot3.out)).trans bot3.out
   clear bot3
   have Y1t4:Hid (w4.ownsRow wa.heap.size 84 2 (Value.slice y1 rl.length q1) rl.length (pcells rl)):=kept2 Y1t3.out b9
   clear Y1t3
   have Y2t4:Hid (w4.ownsRow wa.heap.size 84 2 (Value.slice y2 rs.length q2) rs.length (pcells rs)):=kept2 Y2t3.out b9
   clear Y2t3
   have Y3t4:Hid (w4.ownsRow wa.heap.size 40 4 (Value.slice y3 ro.length q3) ro.length (dcells ro)):=kept4 Y3t3.out b9
   clear Y3t3
   have bat4:Hid (w4.heap[w3.heap.size]? = some (.cells #[.slice y1 rl.length q1,.slice y2 rs.length q2,.slice y3 ro.length q3] 31 (0,0))):=(b9.block (w3.heap.size) (lt_of_block bat2.out)).trans bat2.out
   clear bat2
   have Bt4:Below wa.heap.size wa w4:=Bt3.trans (b9.mono Bt3.size)
   clear Bt3
   clear b9
   have Xt5:Below w4.heap.size w4 (w4.alloc (.cells #[.slice t1 rl.length tk1,.slice t2 rs.length tk2,.slice t3 ro.length tk3] 31)):=(Below.refl _ _).alloc (Nat.le_refl _) _
   have bdt6:Hid ((w4.alloc (.cells #[.slice t1 rl.length tk1,.slice t2 rs.length tk2,.slice t3 ro.length tk3] 31)).heap[w1.heap.size]? = some (.cells #[.slice x1 live.length k1,.slice x2 safe.length k2,.slice x3 ops.length k3] 31 (0,0))):=(Xt5.block (w1.heap.size) (lt_of_block bdt4.out)).trans bdt4.out
   clear bdt4
   have bot6:Hid ((w4.alloc (.cells #[.slice t1 rl.length tk1,.slice t2 rs.length tk2,.slice t3 ro.length tk3] 31)).heap[w1.heap.size+1]? = some (.cells #[.int .i64 ok,.string ⟨nm.toArray⟩,.string ⟨tt.toArray⟩,.string ⟨dd.toArray⟩] 40 (0,0))):=(Xt5.block (w1.heap.size+1) (lt_of_block bot4.out)).trans bot4.out
   clear bot4
   have Y1t6:Hid ((w4.alloc (.cells #[.slice t1 rl.length tk1,.slice t2 rs.length tk2,.slice t3 ro.length tk3] 31)).ownsRow wa.heap.size 84 2 (Value.slice y1 rl.length q1) rl.length (pcells rl)):=kept2 Y1t4.out Xt5
   clear Y1t4
   have Y2t6:Hid ((w4.alloc (.cells #[.slice t1 rl.length tk1,.slice t2 rs.length tk2,.slice t3 ro.length tk3] 31)).ownsRow wa.heap.size 84 2 (Value.slice y2 rs.length q2) rs.length (pcells rs)):=kept2 Y2t4.out Xt5
   clear Y2t4
   have Y3t6:Hid ((w4.alloc (.cells #[.slice t1 rl.length tk1,.slice t2 rs.length tk2,.slice t3 ro.length tk3] 31)).ownsRow wa.heap.size 40 4 (Value.slice y3 ro.length q3) ro.length (dcells ro)):=kept4 Y3t4.out Xt5
   clear Y3t4
   have bat6:Hid ((w4.alloc (.cells #[.slice t1 rl.length tk1,.slice t2 rs.length tk2,.slice t3 ro.length tk3] 31)).heap[w3.heap.size]? = some (.cells #[.slice y1 rl.length q1,.slice y2 rs.length q2,.slice y3 ro.length q3] 31 (0,0))):=(Xt5.block (w3.heap.size) (lt_of_block bat4.out)).trans bat4.out
   clear bat4
   have Bt6:Below wa.heap.size wa (w4.alloc (.cells #[.slice t1 rl.length tk1,.slice t2 rs.length tk2,.slice t3 ro.length tk3] 31)):=Bt4.trans (Xt5.mono Bt4.size)
   clear Bt4
   clear Xt5
   have btt5:Hid ((w4.alloc (.cells #[.slice t1 rl.length tk1,.slice t2 rs.length tk2,.slice t3 ro.length tk3] 31)).heap[w4.heap.size]? = some (.cells #[.slice t1 rl.length tk1,.slice t2 rs.length tk2,.slice t3 ro.length tk3] 31 (0,0))):=heap_alloc_new w4 _
   clear btt5
   obtain⟨bd0,bd1,bd2,_⟩:=three_cells bdt6.out
   go_wp2_with fail
   refine (HKS.out _ Bt6).mono ?_
   rintro e w5 ⟨rfl,b9⟩
   clear HKS
   clear bd0 bd1 bd2
   have bdt7:Hid (w5.heap[w1.heap.size]? = some (.cells #[.slice x1 live.length k1,.slice x2 safe.length k2,.slice x3 ops.length k3] 31 (0,0))):=(b9.block (w1.heap.size) (lt_of_block bdt6.out)).trans bdt6.out
   clear bdt6
   have bot7:Hid (w5.heap[w1.heap.size+1]? = some (.cells #[.int .i64 ok,.string ⟨nm.toArray⟩,.string ⟨tt.toArray⟩,.string ⟨dd.toArray⟩] 40 (0,0))):=(b9.block (w1.heap.size+1) (lt_of_block bot6.out)).trans bot6.out
   clear bot6
   have Y1t7:Hid (w5.ownsRow wa.heap.size 84 2 (Value.slice y1 rl.length q1) rl.length (pcells rl)):=kept2 Y1t6.out b9
   clear Y1t6
   have Y2t7:Hid (w5.ownsRow wa.heap.size 84 2 (Value.slice y2 rs.length q2) rs.length (pcells rs)):=kept2 Y2t6.out b9
   clear Y2t6
   have Y3t7:Hid (w5.ownsRow wa.heap.size 40 4 (Value.slice y3 ro.length q3) ro.length (dcells ro)):=kept4 Y3t6.out b9
   clear Y3t6
   have bat7:Hid (w5.heap[w3.heap.size]? = some (.cells #[.slice y1 rl.length q1,.slice y2 rs.length q2,.slice y3 ro.length q3] 31 (0,0))):=(b9.block (w3.heap.size) (lt_of_block bat6.out)).trans bat6.out
   clear bat6
   have Bt7:Below wa.heap.size wa w5:=Bt6.trans (b9.mono Bt6.size)
   clear Bt6
   clear b9
   cases dk with
   | false =>
     go_wp2
     go_ret
     exact⟨rfl,HBW.out.trans (Bt7.mono HBW.out.size)⟩
   | true =>
     by_cases hc0:cd=0
     · skip
       subst hc0
       have DF:=done_facts HDK.out.symm HRR.out rfl
       have DZ9:=dsz_do (o:=⟨ok,nm,tt,dd⟩) HDS.out HNS.out.1 HNS.out.2.1 HNS.out.2.2 HRR.out rfl
       have HZ9:Hid (SizeD (rl,rs,ro,0)):=DZ9.1.1
       have e3:Hid (ro.length=ops.length+1):=DZ9.2
       have e2:Hid (rs=safe):=DF.2.2.2.2.2.1
       have HOK:Hid (diskOk rl rs ro=true):=DF.2.2.2.2.1
       have F1:Hid (ok=1→readB rl rs ro nm=true∧readR rl rs ro nm=readR live safe ops nm ++ dd):=DF.1
       have F2:Hid (ok=2→readB rl rs ro tt=true∧readR rl rs ro tt=readR live safe ops nm∧readB rl rs ro nm=decide (tt=nm)):=DF.2.1
       have F3:Hid (ok=3→readB rl rs ro nm=false):=DF.2.2.1
       have HK3:Hid (1≤ok∧ok≤3):=DF.2.2.2.1
       clear DF DZ9
       obtain⟨ba0,ba1,ba2,_⟩:=three_cells bat7.out
       obtain⟨bo0,bo1,bo2,bo3,_⟩:=four_cells bot7.out
       go_wp2_with fail
       have KR:=impl_readFile y1 y2 y3 q1 q2 q3 rl rs ro nm w5 YA.out.ok HZ9.out.1 HZ9.out.2.1 HZ9.out.2.2.1 HZ9.out.2.2.2.1 HZ9.out.2.2.2.2.1 HZ9.out.2.2.2.2.2 (by have:=HNS.out;omega) (isPairs_own Y1t7.out).2.2 (isPairs_own Y2t7.out).2.2 (isDOps_own Y3t7.out).2.2
       obtain⟨s1,hs1⟩:∃ x,x=readR rl rs ro nm:=⟨_,rfl⟩
       obtain⟨g1,hg1⟩:∃ x,x=readB rl rs ro nm:=⟨_,rfl⟩
       rw[←hs1,←hg1] at KR
       have Hs1:Hid (s1=readR rl rs ro nm∧g1=readB rl rs ro nm):=⟨hs1,hg1⟩
       clear hs1 hg1
       refine KR.mono ?_
       rintro e w6 ⟨rfl,b9⟩
       clear KR
       clear ba0 ba1 ba2
       clear bo0 bo1 bo2 bo3
       have bdt8:Hid (w6.heap[w1.heap.size]? = some (.cells #[.slice x1 live.length k1,.slice x2 safe.length k2,.slice x3 ops.length k3] 31 (0,0))):=(b9.block (w1.heap.size) (lt_of_block bdt7.out)).trans bdt7.out
       clear bdt7
       have bot8:Hid (w6.heap[w1.heap.size+1]? = some (.cells #[.int .i64 ok,.string ⟨nm.toArray⟩,.string ⟨tt.toArray⟩,.string ⟨dd.toArray⟩] 40 (0,0))):=(b9.block (w1.heap.size+1) (lt_of_block bot7.out)).trans bot7.out
       clear bot7
       have Y1t8:Hid (w6.ownsRow wa.heap.size 84 2 (Value.slice y1 rl.length q1) rl.length (pcells rl)):=kept2 Y1t7.out b9
       clear Y1t7
       have Y2t8:Hid (w6.ownsRow wa.heap.size 84 2 (Value.slice y2 rs.length q2) rs.length (pcells rs)):=kept2 Y2t7.out b9
       clear Y2t7
       have Y3t8:Hid (w6.ownsRow wa.heap.size 40 4 (Value.slice y3 ro.length q3) ro.length (dcells ro)):=kept4 Y3t7.out b9
       clear Y3t7
       have bat8:Hid (w6.heap[w3.heap.size]? = some (.cells #[.slice y1 rl.length q1,.slice y2 rs.length q2,.slice y3 ro.length q3] 31 (0,0))):=(b9.block (w3.heap.size) (lt_of_block bat7.out)).trans bat7.out
       clear bat7
       have Bt8:Below wa.heap.size wa w6:=Bt7.trans (b9.mono Bt7.size)
       clear Bt7
       clear b9
       obtain⟨bd0,bd1,bd2,_⟩:=three_cells bdt8.out
       obtain⟨bo0,bo1,bo2,bo3,_⟩:=four_cells bot8.out
       go_wp2_with fail
       have KR:=HRD.out _ Bt8
       obtain⟨s2,hs2⟩:∃ x,x=readR live safe ops nm:=⟨_,rfl⟩
       obtain⟨g2,hg2⟩:∃ x,x=readB live safe ops nm:=⟨_,rfl⟩
       rw[←hs2] at KR F1 F2
       rw[←hg2] at KR
       have HSL:Hid (s2.length≤1048576):=by rw[hs2,Hid];exact read_le HDS.out
       clear hs2 hg2 HRD
       refine KR.mono ?_
       rintro e w7 ⟨rfl,b9⟩
       clear KR
       clear bd0 bd1 bd2
       clear bo0 bo1 bo2 bo3
       have bdt9:Hid (w7.heap[w1.heap.size]? = some (.cells #[.slice x1 live.length k1,.slice x2 safe.length k2,.slice x3 ops.length k3] 31 (0,0))):=(b9.block (w1.heap.size) (lt_of_block bdt8.out)).trans bdt8.out
       clear bdt8
       have bot9:Hid (w7.heap[w1.heap.size+1]? = some (.cells #[.int .i64 ok,.string ⟨nm.toArray⟩,.string ⟨tt.toArray⟩,.string ⟨dd.toArray⟩] 40 (0,0))):=(b9.block (w1.heap.size+1) (lt_of_block bot8.out)).trans bot8.out
       clear bot8
       have Y1t9:Hid (w7.ownsRow wa.heap.size 84 2 (Value.slice y1 rl.length q1) rl.length (pcells rl)):=kept2 Y1t8.out b9
       clear Y1t8
       have Y2t9:Hid (w7.ownsRow wa.heap.size 84 2 (Value.slice y2 rs.length q2) rs.length (pcells rs)):=kept2 Y2t8.out b9
       clear Y2t8
       have Y3t9:Hid (w7.ownsRow wa.heap.size 40 4 (Value.slice y3 ro.length q3) ro.length (dcells ro)):=kept4 Y3t8.out b9
       clear Y3t8
       have bat9:Hid (w7.heap[w3.heap.size]? = some (.cells #[.slice y1 rl.length q1,.slice y2 rs.length q2,.slice y3 ro.length q3] 31 (0,0))):=(b9.block (w3.heap.size) (lt_of_block bat8.out)).trans bat8.out
       clear bat8
       have Bt9:Below wa.heap.size wa w7:=Bt8.trans (b9.mono Bt8.size)
       clear Bt8
       clear b9
       by_cases hk1:ok=1
       · skip
         have hF:=F1.out hk1
         have hs:s1=s2 ++ dd:=by rw[Hs1.out.1];exact hF.2
         have hg:g1=true:=by rw[Hs1.out.2];exact hF.1
         subst hk1
         subst hs hg
         have happ:=ba_app2 s2 dd
         have hsl2:s2.length≤1048576:=HSL.out
         have hdl2:dd.length≤100:=HNS.out.2.2
         clear hF F1 F2 F3 HK3 Hs1
         obtain⟨bo0,bo1,bo2,bo3,_⟩:=four_cells bot9.out
         obtain⟨ba0,ba1,ba2,_⟩:=three_cells bat9.out
         go_wp2_with fail
         have KD:=impl_diskOk y1 y2 y3 q1 q2 q3 rl rs ro w7 HZ9.out.1 HZ9.out.2.1 HZ9.out.2.2.1 HZ9.out.2.2.2.1 HZ9.out.2.2.2.2.1 HZ9.out.2.2.2.2.2 (isPairs_own Y1t9.out).2.2 (isPairs_own Y2t9.out).2.2 (isDOps_own Y3t9.out).2.2
         rw[HOK.out] at KD
         refine KD.mono ?_
         rintro e w8 ⟨rfl,b9⟩
         clear KD
         clear ba0 ba1 ba2
         clear bo0 bo1 bo2 bo3
         clear bot9
         have bdt10:Hid (w8.heap[w1.heap.size]? = some (.cells #[.slice x1 live.length k1,.slice x2 safe.length k2,.slice x3 ops.length k3] 31 (0,0))):=(b9.block (w1.heap.size) (lt_of_block bdt9.out)).trans bdt9.out
         clear bdt9
         have Y1t10:Hid (w8.ownsRow wa.heap.size 84 2 (Value.slice y1 rl.length q1) rl.length (pcells rl)):=kept2 Y1t9.out b9
         clear Y1t9
         have Y2t10:Hid (w8.ownsRow wa.heap.size 84 2 (Value.slice y2 rs.length q2) rs.length (pcells rs)):=kept2 Y2t9.out b9
         clear Y2t9
         have Y3t10:Hid (w8.ownsRow wa.heap.size 40 4 (Value.slice y3 ro.length q3) ro.length (dcells ro)):=kept4 Y3t9.out b9
         clear Y3t9
         have bat10:Hid (w8.heap[w3.heap.size]? = some (.cells #[.slice y1 rl.length q1,.slice y2 rs.length q2,.slice y3 ro.length q3] 31 (0,0))):=(b9.block (w3.heap.size) (lt_of_block bat9.out)).trans bat9.out
         clear bat9
         have Bt10:Below wa.heap.size wa w8:=Bt9.trans (b9.mono Bt9.size)
         clear Bt9
         clear b9
         obtain⟨ba0,ba1,ba2,_⟩:=three_cells bat10.out
         obtain⟨bd0,bd1,bd2,_⟩:=three_cells bdt10.out
         go_wp2_with fail
         have KF:=same_files y2 x2 q2 k2 rs safe w8 (by rw[e2.out];exact HLL.out.2) HLL.out.2 (isPairs_own Y2t10.out).2.2 (HIS.out _ Bt10).2.1
         rw[decide_eq_true e2.out] at KF
         refine KF.mono ?_
         rintro e w9 ⟨rfl,b9⟩
         clear KF
         clear ba0 ba1 ba2
         clear bd0 bd1 bd2
         have bdt11:Hid (w9.heap[w1.heap.size]? = some (.cells #[.slice x1 live.length k1,.slice x2 safe.length k2,.slice x3 ops.length k3] 31 (0,0))):=(b9.block (w1.heap.size) (lt_of_block bdt10.out)).trans bdt10.out
         clear bdt10
         have Y1t11:Hid (w9.ownsRow wa.heap.size 84 2 (Value.slice y1 rl.length q1) rl.length (pcells rl)):=kept2 Y1t10.out b9
         clear Y1t10
         have Y2t11:Hid (w9.ownsRow wa.heap.size 84 2 (Value.slice y2 rs.length q2) rs.length (pcells rs)):=kept2 Y2t10.out b9
         clear Y2t10
         have Y3t11:Hid (w9.ownsRow wa.heap.size 40 4 (Value.slice y3 ro.length q3) ro.length (dcells ro)):=kept4 Y3t10.out b9
         clear Y3t10
         have bat11:Hid (w9.heap[w3.heap.size]? = some (.cells #[.slice y1 rl.length q1,.slice y2 rs.length q2,.slice y3 ro.length q3] 31 (0,0))):=(b9.block (w3.heap.size) (lt_of_block bat10.out)).trans bat10.out
         clear bat10
         have Bt11:Below wa.heap.size wa w9:=Bt10.trans (b9.mono Bt10.size)
         clear Bt10
         clear b9
         obtain⟨ba0,ba1,ba2,_⟩:=three_cells bat11.out
         obtain⟨bd0,bd1,bd2,_⟩:=three_cells bdt11.out
         rw[e3.out] at ba2
         go_wp2
         go_ret
         exact⟨rfl,HBW.out.trans (Bt11.mono HBW.out.size)⟩
       · by_cases hk2:ok=2
         · skip
           have hF:=F2.out hk2
           have hg:g1=decide (tt=nm):=by rw[Hs1.out.2];exact hF.2.2
           subst hk2
           subst hg
           have HF:Hid (readB rl rs ro tt=true∧readR rl rs ro tt=s2):=⟨hF.1,hF.2.1⟩
           clear hF F1 F2 F3 HK3 Hs1
           obtain⟨ba0,ba1,ba2,_⟩:=three_cells bat9.out
           obtain⟨bo0,bo1,bo2,bo3,_⟩:=four_cells bot9.out
           go_wp2_with fail
           have KR:=impl_readFile y1 y2 y3 q1 q2 q3 rl rs ro tt w7 YA.out.ok HZ9.out.1 HZ9.out.2.1 HZ9.out.2.2.1 HZ9.out.2.2.2.1 HZ9.out.2.2.2.2.1 HZ9.out.2.2.2.2.2 (by have:=HNS.out;omega) (isPairs_own Y1t9.out).2.2 (isPairs_own Y2t9.out).2.2 (isDOps_own Y3t9.out).2.2
           rw[HF.out.1,HF.out.2] at KR
           refine KR.mono ?_
           rintro e wk ⟨rfl,b9⟩
           clear KR HF
           clear ba0 ba1 ba2
           clear bo0 bo1 bo2 bo3
           have bdt10:Hid (wk.heap[w1.heap.size]? = some (.cells #[.slice x1 live.length k1,.slice x2 safe.length k2,.slice x3 ops.length k3] 31 (0,0))):=(b9.block (w1.heap.size) (lt_of_block bdt9.out)).trans bdt9.out
           clear bdt9
           have bot10:Hid (wk.heap[w1.heap.size+1]? = some (.cells #[.int .i64 2,.string ⟨nm.toArray⟩,.string ⟨tt.toArray⟩,.string ⟨dd.toArray⟩] 40 (0,0))):=(b9.block (w1.heap.size+1) (lt_of_block bot9.out)).trans bot9.out
           clear bot9
           have Y1t10:Hid (wk.ownsRow wa.heap.size 84 2 (Value.slice y1 rl.length q1) rl.length (pcells rl)):=kept2 Y1t9.out b9
           clear Y1t9
           have Y2t10:Hid (wk.ownsRow wa.heap.size 84 2 (Value.slice y2 rs.length q2) rs.length (pcells rs)):=kept2 Y2t9.out b9
           clear Y2t9
           have Y3t10:Hid (wk.ownsRow wa.heap.size 40 4 (Value.slice y3 ro.length q3) ro.length (dcells ro)):=kept4 Y3t9.out b9
           clear Y3t9
           have bat10:Hid (wk.heap[w3.heap.size]? = some (.cells #[.slice y1 rl.length q1,.slice y2 rs.length q2,.slice y3 ro.length q3] 31 (0,0))):=(b9.block (w3.heap.size) (lt_of_block bat9.out)).trans bat9.out
           clear bat9
           have Bt10:Below wa.heap.size wa wk:=Bt9.trans (b9.mono Bt9.size)
           clear Bt9
           clear b9
           by_cases htn:tt=nm
           · subst htn
             have hdt:decide (tt=tt)=true:=by simp
             have hbe:(tt == tt)=true:=by simp
             obtain⟨bo0,bo1,bo2,bo3,_⟩:=four_cells bot10.out
             obtain⟨ba0,ba1,ba2,_⟩:=three_cells bat10.out
             go_wp2_with fail
             have KD:=impl_diskOk y1 y2 y3 q1 q2 q3 rl rs ro wk HZ9.out.1 HZ9.out.2.1 HZ9.out.2.2.1 HZ9.out.2.2.2.1 HZ9.out.2.2.2.2.1 HZ9.out.2.2.2.2.2 (isPairs_own Y1t10.out).2.2 (isPairs_own Y2t10.out).2.2 (isDOps_own Y3t10.out).2.2
             rw[HOK.out] at KD
             refine KD.mono ?_
             rintro e w8 ⟨rfl,b9⟩
             clear KD
             clear ba0 ba1 ba2
             clear bo0 bo1 bo2 bo3
             clear bot10
             have bdt11:Hid (w8.heap[w1.heap.size]? = some (.cells #[.slice x1 live.length k1,.slice x2 safe.length k2,.slice x3 ops.length k3] 31 (0,0))):=(b9.block (w1.heap.size) (lt_of_block bdt10.out)).trans bdt10.out
             clear bdt10
             have Y1t11:Hid (w8.ownsRow wa.heap.size 84 2 (Value.slice y1 rl.length q1) rl.length (pcells rl)):=kept2 Y1t10.out b9
             clear Y1t10
             have Y2t11:Hid (w8.ownsRow wa.heap.size 84 2 (Value.slice y2 rs.length q2) rs.length (pcells rs)):=kept2 Y2t10.out b9
             clear Y2t10
             have Y3t11:Hid (w8.ownsRow wa.heap.size 40 4 (Value.slice y3 ro.length q3) ro.length (dcells ro)):=kept4 Y3t10.out b9
             clear Y3t10
             have bat11:Hid (w8.heap[w3.heap.size]? = some (.cells #[.slice y1 rl.length q1,.slice y2 rs.length q2,.slice y3 ro.length q3] 31 (0,0))):=(b9.block (w3.heap.size) (lt_of_block bat10.out)).trans bat10.out
             clear bat10
             have Bt11:Below wa.heap.size wa w8:=Bt10.trans (b9.mono Bt10.size)
             clear Bt10
             clear b9
             obtain⟨ba0,ba1,ba2,_⟩:=three_cells bat11.out
             obtain⟨bd0,bd1,bd2,_⟩:=three_cells bdt11.out
             go_wp2_with fail
             have KF:=same_files y2 x2 q2 k2 rs safe w8 (by rw[e2.out];exact HLL.out.2) HLL.out.2 (isPairs_own Y2t11.out).2.2 (HIS.out _ Bt11).2.1
             rw[decide_eq_true e2.out] at KF
             refine KF.mono ?_
             rintro e w9 ⟨rfl,b9⟩
             clear KF
             clear ba0 ba1 ba2
             clear bd0 bd1 bd2
             have bdt12:Hid (w9.heap[w1.heap.size]? = some (.cells #[.slice x1 live.length k1,.slice x2 safe.length k2,.slice x3 ops.length k3] 31 (0,0))):=(b9.block (w1.heap.size) (lt_of_block bdt11.out)).trans bdt11.out
             clear bdt11
             have Y1t12:Hid (w9.ownsRow wa.heap.size 84 2 (Value.slice y1 rl.length q1) rl.length (pcells rl)):=kept2 Y1t11.out b9
             clear Y1t11
             have Y2t12:Hid (w9.ownsRow wa.heap.size 84 2 (Value.slice y2 rs.length q2) rs.length (pcells rs)):=kept2 Y2t11.out b9
             clear Y2t11
             have Y3t12:Hid (w9.ownsRow wa.heap.size 40 4 (Value.slice y3 ro.length q3) ro.length (dcells ro)):=kept4 Y3t11.out b9
             clear Y3t11
             have bat12:Hid (w9.heap[w3.heap.size]? = some (.cells #[.slice y1 rl.length q1,.slice y2 rs.length q2,.slice y3 ro.length q3] 31 (0,0))):=(b9.block (w3.heap.size) (lt_of_block bat11.out)).trans bat11.out
             clear bat11
             have Bt12:Below wa.heap.size wa w9:=Bt11.trans (b9.mono Bt11.size)
             clear Bt11
             clear b9
             obtain⟨ba0,ba1,ba2,_⟩:=three_cells bat12.out
             obtain⟨bd0,bd1,bd2,_⟩:=three_cells bdt12.out
             rw[e3.out] at ba2
             go_wp2
             go_ret
             exact⟨rfl,HBW.out.trans (Bt12.mono HBW.out.size)⟩
           · have hdt:decide (tt=nm)=false:=decide_eq_false htn
             have hbe:(tt == nm)=false:=by simpa using htn
             obtain⟨bo0,bo1,bo2,bo3,_⟩:=four_cells bot10.out
             obtain⟨ba0,ba1,ba2,_⟩:=three_cells bat10.out
             go_wp2_with fail
             have KD:=impl_diskOk y1 y2 y3 q1 q2 q3 rl rs ro wk HZ9.out.1 HZ9.out.2.1 HZ9.out.2.2.1 HZ9.out.2.2.2.1 HZ9.out.2.2.2.2.1 HZ9.out.2.2.2.2.2 (isPairs_own Y1t10.out).2.2 (isPairs_own Y2t10.out).2.2 (isDOps_own Y3t10.out).2.2
             rw[HOK.out] at KD
             refine KD.mono ?_
             rintro e w8 ⟨rfl,b9⟩
             clear KD
             clear ba0 ba1 ba2
             clear bo0 bo1 bo2 bo3
             clear bot10
             have bdt11:Hid (w8.heap[w1.heap.size]? = some (.cells #[.slice x1 live.length k1,.slice x2 safe.length k2,.slice x3 ops.length k3] 31 (0,0))):=(b9.block (w1.heap.size) (lt_of_block bdt10.out)).trans bdt10.out
             clear bdt10
             have Y1t11:Hid (w8.ownsRow wa.heap.size 84 2 (Value.slice y1 rl.length q1) rl.length (pcells rl)):=kept2 Y1t10.out b9
             clear Y1t10
             have Y2t11:Hid (w8.ownsRow wa.heap.size 84 2 (Value.slice y2 rs.length q2) rs.length (pcells rs)):=kept2 Y2t10.out b9
             clear Y2t10
             have Y3t11:Hid (w8.ownsRow wa.heap.size 40 4 (Value.slice y3 ro.length q3) ro.length (dcells ro)):=kept4 Y3t10.out b9
             clear Y3t10
             have bat11:Hid (w8.heap[w3.heap.size]? = some (.cells #[.slice y1 rl.length q1,.slice y2 rs.length q2,.slice y3 ro.length q3] 31 (0,0))):=(b9.block (w3.heap.size) (lt_of_block bat10.out)).trans bat10.out
             clear bat10
             have Bt11:Below wa.heap.size wa w8:=Bt10.trans (b9.mono Bt10.size)
             clear Bt10
             clear b9
             obtain⟨ba0,ba1,ba2,_⟩:=three_cells bat11.out
             obtain⟨bd0,bd1,bd2,_⟩:=three_cells bdt11.out
             go_wp2_with fail
             have KF:=same_files y2 x2 q2 k2 rs safe w8 (by rw[e2.out];exact HLL.out.2) HLL.out.2 (isPairs_own Y2t11.out).2.2 (HIS.out _ Bt11).2.1
             rw[decide_eq_true e2.out] at KF
             refine KF.mono ?_
             rintro e w9 ⟨rfl,b9⟩
             clear KF
             clear ba0 ba1 ba2
             clear bd0 bd1 bd2
             have bdt12:Hid (w9.heap[w1.heap.size]? = some (.cells #[.slice x1 live.length k1,.slice x2 safe.length k2,.slice x3 ops.length k3] 31 (0,0))):=(b9.block (w1.heap.size) (lt_of_block bdt11.out)).trans bdt11.out
             clear bdt11
             have Y1t12:Hid (w9.ownsRow wa.heap.size 84 2 (Value.slice y1 rl.length q1) rl.length (pcells rl)):=kept2 Y1t11.out b9
             clear Y1t11
             have Y2t12:Hid (w9.ownsRow wa.heap.size 84 2 (Value.slice y2 rs.length q2) rs.length (pcells rs)):=kept2 Y2t11.out b9
             clear Y2t11
             have Y3t12:Hid (w9.ownsRow wa.heap.size 40 4 (Value.slice y3 ro.length q3) ro.length (dcells ro)):=kept4 Y3t11.out b9
             clear Y3t11
             have bat12:Hid (w9.heap[w3.heap.size]? = some (.cells #[.slice y1 rl.length q1,.slice y2 rs.length q2,.slice y3 ro.length q3] 31 (0,0))):=(b9.block (w3.heap.size) (lt_of_block bat11.out)).trans bat11.out
             clear bat11
             have Bt12:Below wa.heap.size wa w9:=Bt11.trans (b9.mono Bt11.size)
             clear Bt11
             clear b9
             obtain⟨ba0,ba1,ba2,_⟩:=three_cells bat12.out
             obtain⟨bd0,bd1,bd2,_⟩:=three_cells bdt12.out
             rw[e3.out] at ba2
             go_wp2
             go_ret
             exact⟨rfl,HBW.out.trans (Bt12.mono HBW.out.size)⟩
         · skip
           have hk3:ok=3:=by have:=HK3.out;omega
           have hF:=F3.out hk3
           have hg:g1=false:=by rw[Hs1.out.2];exact hF
           subst hk3
           subst hg
           clear hF F1 F2 F3 HK3 Hs1
           obtain⟨bo0,bo1,bo2,bo3,_⟩:=four_cells bot9.out
           obtain⟨ba0,ba1,ba2,_⟩:=three_cells bat9.out
           go_wp2_with fail
           have KD:=impl_diskOk y1 y2 y3 q1 q2 q3 rl rs ro w7 HZ9.out.1 HZ9.out.2.1 HZ9.out.2.2.1 HZ9.out.2.2.2.1 HZ9.out.2.2.2.2.1 HZ9.out.2.2.2.2.2 (isPairs_own Y1t9.out).2.2 (isPairs_own Y2t9.out).2.2 (isDOps_own Y3t9.out).2.2
           rw[HOK.out] at KD
           refine KD.mono ?_
           rintro e w8 ⟨rfl,b9⟩
           clear KD
           clear ba0 ba1 ba2
           clear bo0 bo1 bo2 bo3
           clear bot9
           have bdt10:Hid (w8.heap[w1.heap.size]? = some (.cells #[.slice x1 live.length k1,.slice x2 safe.length k2,.slice x3 ops.length k3] 31 (0,0))):=(b9.block (w1.heap.size) (lt_of_block bdt9.out)).trans bdt9.out
           clear bdt9
           have Y1t10:Hid (w8.ownsRow wa.heap.size 84 2 (Value.slice y1 rl.length q1) rl.length (pcells rl)):=kept2 Y1t9.out b9
           clear Y1t9
           have Y2t10:Hid (w8.ownsRow wa.heap.size 84 2 (Value.slice y2 rs.length q2) rs.length (pcells rs)):=kept2 Y2t9.out b9
           clear Y2t9
           have Y3t10:Hid (w8.ownsRow wa.heap.size 40 4 (Value.slice y3 ro.length q3) ro.length (dcells ro)):=kept4 Y3t9.out b9
           clear Y3t9
           have bat10:Hid (w8.heap[w3.heap.size]? = some (.cells #[.slice y1 rl.length q1,.slice y2 rs.length q2,.slice y3 ro.length q3] 31 (0,0))):=(b9.block (w3.heap.size) (lt_of_block bat9.out)).trans bat9.out
           clear bat9
           have Bt10:Below wa.heap.size wa w8:=Bt9.trans (b9.mono Bt9.size)
           clear Bt9
           clear b9
           obtain⟨ba0,ba1,ba2,_⟩:=three_cells bat10.out
           obtain⟨bd0,bd1,bd2,_⟩:=three_cells bdt10.out
           go_wp2_with fail
           have KF:=same_files y2 x2 q2 k2 rs safe w8 (by rw[e2.out];exact HLL.out.2) HLL.out.2 (isPairs_own Y2t10.out).2.2 (HIS.out _ Bt10).2.1
           rw[decide_eq_true e2.out] at KF
           refine KF.mono ?_
           rintro e w9 ⟨rfl,b9⟩
           clear KF
           clear ba0 ba1 ba2
           clear bd0 bd1 bd2
           have bdt11:Hid (w9.heap[w1.heap.size]? = some (.cells #[.slice x1 live.length k1,.slice x2 safe.length k2,.slice x3 ops.length k3] 31 (0,0))):=(b9.block (w1.heap.size) (lt_of_block bdt10.out)).trans bdt10.out
           clear bdt10
           have Y1t11:Hid (w9.ownsRow wa.heap.size 84 2 (Value.slice y1 rl.length q1) rl.length (pcells rl)):=kept2 Y1t10.out b9
           clear Y1t10
           have Y2t11:Hid (w9.ownsRow wa.heap.size 84 2 (Value.slice y2 rs.length q2) rs.length (pcells rs)):=kept2 Y2t10.out b9
           clear Y2t10
           have Y3t11:Hid (w9.ownsRow wa.heap.size 40 4 (Value.slice y3 ro.length q3) ro.length (dcells ro)):=kept4 Y3t10.out b9
           clear Y3t10
           have bat11:Hid (w9.heap[w3.heap.size]? = some (.cells #[.slice y1 rl.length q1,.slice y2 rs.length q2,.slice y3 ro.length q3] 31 (0,0))):=(b9.block (w3.heap.size) (lt_of_block bat10.out)).trans bat10.out
           clear bat10
           have Bt11:Below wa.heap.size wa w9:=Bt10.trans (b9.mono Bt10.size)
           clear Bt10
           clear b9
           obtain⟨ba0,ba1,ba2,_⟩:=three_cells bat11.out
           obtain⟨bd0,bd1,bd2,_⟩:=three_cells bdt11.out
           rw[e3.out] at ba2
           go_wp2
           go_ret
           exact⟨rfl,HBW.out.trans (Bt11.mono HBW.out.size)⟩
     · skip
       have hcb:(cd == 0)=false:=by simpa using hc0
       have hcn:(cd != 0)=true:=by simpa using hc0
       have ST:=done_stay HDK.out.symm HRR.out hc0
       have e1:Hid (rl=live):=ST.1
       have e2:Hid (rs=safe):=ST.2.1
       have e3:Hid (ro.length=ops.length):=by rw[ST.2.2];exact rfl
       clear ST
       obtain⟨ba0,ba1,ba2,_⟩:=three_cells bat7.out
       obtain⟨bd0,bd1,bd2,_⟩:=three_cells bdt7.out
       go_wp2_with fail
       have KF:=same_files y1 x1 q1 k1 rl live w5 (by rw[e1.out];exact HLL.out.1) HLL.out.1 (isPairs_own Y1t7.out).2.2 (HIS.out _ Bt7).1
       rw[decide_eq_true e1.out] at KF
       refine KF.mono ?_
       rintro e w6 ⟨rfl,b9⟩
       clear KF
       clear ba0 ba1 ba2
       clear bd0 bd1 bd2
       have bdt8:Hid (w6.heap[w1.heap.size]? = some (.cells #[.slice x1 live.length k1,.slice x2 safe.length k2,.slice x3 ops.length k3] 31 (0,0))):=(b9.block (w1.heap.size) (lt_of_block bdt7.out)).trans bdt7.out
       clear bdt7
       have bot8:Hid (w6.heap[w1.heap.size+1]? = some (.cells #[.int .i64 ok,.string ⟨nm.toArray⟩,.string ⟨tt.toArray⟩,.string ⟨dd.toArray⟩] 40 (0,0))):=(b9.block (w1.heap.size+1) (lt_of_block bot7.out)).trans bot7.out
       clear bot7
       have Y1t8:Hid (w6.ownsRow wa.heap.size 84 2 (Value.slice y1 rl.length q1) rl.length (pcells rl)):=kept2 Y1t7.out b9
       clear Y1t7
       have Y2t8:Hid (w6.ownsRow wa.heap.size 84 2 (Value.slice y2 rs.length q2) rs.length (pcells rs)):=kept2 Y2t7.out b9
       clear Y2t7
       have Y3t8:Hid (w6.ownsRow wa.heap.size 40 4 (Value.slice y3 ro.length q3) ro.length (dcells ro)):=kept4 Y3t7.out b9
       clear Y3t7
       have bat8:Hid (w6.heap[w3.heap.size]? = some (.cells #[.slice y1 rl.length q1,.slice y2 rs.length q2,.slice y3 ro.length q3] 31 (0,0))):=(b9.block (w3.heap.size) (lt_of_block bat7.out)).trans bat7.out
       clear bat7
       have Bt8:Below wa.heap.size wa w6:=Bt7.trans (b9.mono Bt7.size)
       clear Bt7
       clear b9
       obtain⟨ba0,ba1,ba2,_⟩:=three_cells bat8.out
       obtain⟨bd0,bd1,bd2,_⟩:=three_cells bdt8.out
       go_wp2_with fail
       have KF:=same_files y2 x2 q2 k2 rs safe w6 (by rw[e2.out];exact HLL.out.2) HLL.out.2 (isPairs_own Y2t8.out).2.2 (HIS.out _ Bt8).2.1
       rw[decide_eq_true e2.out] at KF
       refine KF.mono ?_
       rintro e w7 ⟨rfl,b9⟩
       clear KF
       clear ba0 ba1 ba2
       clear bd0 bd1 bd2
       have bdt9:Hid (w7.heap[w1.heap.size]? = some (.cells #[.slice x1 live.length k1,.slice x2 safe.length k2,.slice x3 ops.length k3] 31 (0,0))):=(b9.block (w1.heap.size) (lt_of_block bdt8.out)).trans bdt8.out
       clear bdt8
       have bot9:Hid (w7.heap[w1.heap.size+1]? = some (.cells #[.int .i64 ok,.string ⟨nm.toArray⟩,.string ⟨tt.toArray⟩,.string ⟨dd.toArray⟩] 40 (0,0))):=(b9.block (w1.heap.size+1) (lt_of_block bot8.out)).trans bot8.out
       clear bot8
       have Y1t9:Hid (w7.ownsRow wa.heap.size 84 2 (Value.slice y1 rl.length q1) rl.length (pcells rl)):=kept2 Y1t8.out b9
       clear Y1t8
       have Y2t9:Hid (w7.ownsRow wa.heap.size 84 2 (Value.slice y2 rs.length q2) rs.length (pcells rs)):=kept2 Y2t8.out b9
       clear Y2t8
       have Y3t9:Hid (w7.ownsRow wa.heap.size 40 4 (Value.slice y3 ro.length q3) ro.length (dcells ro)):=kept4 Y3t8.out b9
       clear Y3t8
       have bat9:Hid (w7.heap[w3.heap.size]? = some (.cells #[.slice y1 rl.length q1,.slice y2 rs.length q2,.slice y3 ro.length q3] 31 (0,0))):=(b9.block (w3.heap.size) (lt_of_block bat8.out)).trans bat8.out
       clear bat8
       have Bt9:Below wa.heap.size wa w7:=Bt8.trans (b9.mono Bt8.size)
       clear Bt8
       clear b9
       obtain⟨ba0,ba1,ba2,_⟩:=three_cells bat9.out
       obtain⟨bd0,bd1,bd2,_⟩:=three_cells bdt9.out
       rw[e3.out] at ba2
       go_wp2
       go_ret
       exact⟨rfl,HBW.out.trans (Bt9.mono HBW.out.size)⟩
 · have HB:=bigYes len0 cap0 a0 w hb
   clear w0
   go_enter Try.func10,Try.ntmps10
   go_wp2_with fail
   refine HB.mono ?_
   rintro e w ⟨rfl,rfl⟩
   clear HB
   go_wp2
   go_ret
   exact⟨rfl,Below.refl _ _⟩
set_option maxRecDepth 100000 in
theorem lifted (os:Os) (started:os.Started) (H:Type) (enc:TypeId × Value→H) :
 ReturnsInHanded {} Try.checked os 10 .any (Rows.fnDoneSpec.pre6 enc Try.prog Try.f10 Rows.fnDoneRow.domain false) (Rows.fnDoneSpec.post enc Try.prog Try.f10 false true false false):=by
 refine returnsInHanded_of_change (C:=Try.checked) own started (by kernel_rfl) Try.func10
  (ChangeSpec.witness6 (enc:=enc) (C:=Try.checked) false ⟨#[],#[.slice none 0 0],[]⟩ 8 (by kernel_rfl) (by kernel_rfl) (by kernel_rfl) (by kernel_rfl)) ?_
 intro W base args ds gs before hval0 hW hcnd _
 have hval:∀ (j:Nat) t v,Try.f10.params[j]? = some t→args[j]? = some v→Value.okWide Try.prog W .any base t v:=hval0
 have hW':=hW
 obtain⟨p,q,hA0,hV,rfl,hfz,hnd⟩:=hW
 have hA:DataW.TrodAll enc Try.prog W 0 (fun _=>true) true Try.f10.params.toList args.toList ds p:=hA0
 rw[Try.params10] at hA hval
 obtain⟨v0,vs0,d0,ds0,p0,q0,hargs,rfl,rfl,h0,r0⟩:=trodAll_cons hA
 obtain⟨rfl,rfl,rfl⟩:=trodAll_nil r0
 obtain rfl:args=#[v0]:=by cases args;simp_all
 obtain⟨rfl,rfl⟩:=trodVars_none hV
 obtain⟨a0,len0,cap0,rfl⟩:=okWide_slice Try.underlying57 (hval 0 57 v0 rfl rfl)
 have k0:=h0
 have lt0:∀ x∈p0,x.block<W.heap.size:=by obtain⟨m,hm⟩:=k0;exact DataW.trod_lt m _ _ _ hm
 have w0:Code W a0 len0:=by
  obtain⟨fuel,hf⟩:=h0
  rcases open_ints Try.underlying57 Try.underlying5 (by kernel_rfl) hf with ⟨hcs,_⟩ | ⟨x,l,c,zs,hcs,_,hl,hm,hz,_,hcell,hwz⟩
  · simp[Value.cells] at hcs
    obtain⟨rfl,rfl,rfl⟩:=hcs
    exact .inl rfl
  · simp[Value.cells] at hcs
    obtain⟨rfl,rfl,rfl⟩:=hcs
    exact codeOf W x _ _ zs hl (by simpa using hz) hcell hwz
 clear hA0 hval0
 refine (walk a0 len0 cap0 W w0).mono fun e W' ⟨he,bel⟩=>?_
 subst he
 exact⟨_,rfl,_,_,_,[],_,[],hW',trodAll_mk1 (shut_bool Try.underlying4 _),(trodAll_cons_mk (Below.trod laidOut (by kernel_rfl) (of_decide_eq_true (by kernel_rfl)) k0 bel lt0) trodAll_mk0),rfl,bel.frame _,fun h=>by cases h⟩
theorem over:Rows.fnDoneRow.holds Try.pinned (OpenSpec.ofChange Rows.fnDoneSpec) :=
 OpenClaim.holds_of_wide 10 Try.f10 rfl rfl rfl rfl rfl rfl rfl ⟨rfl,rfl,rfl,rfl,rfl⟩ rfl rfl rfl rfl rfl (by kernel_rfl) Try.func10 (by kernel_rfl)
  (of_decide_eq_true (by kernel_rfl)) (by unfold Func.isWrapper;first | (rw[if_pos (by decide +kernel)];kernel_rfl) | (rw[if_neg (by decide +kernel)];exact⟨rfl,rfl⟩))
  (fun os started H enc _=>lifted os started H enc)
end Go.Proofs.Ytlllkdioojjaeaa.fnDone
namespace Go.Proofs.Ytlllkdioojjaeaa
theorem fnDone_holds:Rows.FnDoneSaid:=fnDone.over
end Go.Proofs.Ytlllkdioojjaeaa
