/-
 At every replica, index and batch Applied answers as its model; it writes into no argument, and its answer owns its memory. No condition; the round words are laid as the program's text lays them.
-/
import Derived.Test.YtppljdnbhoeeoaaGreatDoorSApd
import Derived.Test.YtppljdnbhoeeoaaGreatDoorIApd
import Derived.Test.YtppljdnbhoeeoaaGreatDoorSeatAll
namespace Go.Proofs.YtppljdnbhoeeoaaGreatDoor.fnExactApplied
open Go.ChangeShapes Go.WideShapes Go.ChangeAt Go.RowKit
open Go.ChangeMaps (open_string shut_string)
set_option linter.unusedVariables false
set_option maxHeartbeats 8000000
set_option maxRecDepth 100000
theorem own:ownKnob Tryz.prog.godebug=none:=by kernel_rfl
theorem zh4:laidOutB Tryz.prog=true:=by kernel_rfl
theorem gTab : Tryz.prog.globalNamed "loop.example/g00226/impl.roundWords" = some 1 := by kernel_rfl
theorem tTab:(Tryz.prog.globals[1]?).map (·.type)=some 252:=by kernel_rfl
theorem door_met (os:Os) (args:Array Value):laidMetH Tryz.prog Rows.fnExactAppliedRow.laid ((World.doorLaid Tryz.prog 400 os).forCall (fun _ _=>0) ⟨#[],args,[]⟩).memory :=
 laidMetH_of_parts3 (fuel:=8) (laidMet_of_run' 8 (by kernel_rfl) (by kernel_rfl)) (by kernel_rfl) (by kernel_rfl)
theorem zug {W:World} (h:laidMetH Tryz.prog Rows.fnExactAppliedRow.laid W):Tab W:=by
 rw[MakeChecks.laidMetH_plain _ _ _ (by kernel_rfl)] at h
 have hT : Lib.TabIs Tryz.prog W "loop.example/g00226/impl.roundWords" .u32 (kL.map fun x => num x) := Lib.tabIs_of_head (rest := []) gTab tTab Tryz.underlying252 Tryz.underlying192 (by kernel_rfl) (by kernel_rfl) h
 have hc:∀ i,i<64→W.cell? ⟨1,i,none⟩=some (.int .u32 (num (kL.getD i 0))):=fun i hi=>by
  have hl:i<kL.length:=hi
  have:=hT.cell gTab i (by rw[List.length_map];exact hl)
  rw[this]
  simp[List.getD,hl]
 exact⟨block_lt_of_cell (hc 0 (by omega)),hc⟩
theorem zuh (ps:List za) (L:Nat) (hL:L≤1048576) (h:ps.length+zc3 ps≤L):∀ p∈ps,p.1.length≤1048576∧p.2.length≤1048576:=by
 intro p hp
 obtain⟨j,hj,rfl⟩:=List.getElem_of_mem hp
 have:=zzz ps j hj
 exact⟨by omega,by omega⟩
theorem zdz {v:Option Nat} {row:Option Nat} (h:∀ q,row=some q→v≠some q):v=none∨v≠row:=by
 cases row with
 | none=>cases v <;> simp
 | some q=>exact .inr (h q rfl)
theorem zce (w:World) (o:Obj):Below w.heap.size w (w.alloc o):=(Below.refl _ _).alloc (Nat.le_refl _) _
theorem putF {A0 A1 A2 A3 A4 A5 A6 A7 A8 A9 A10 A11 A12:Prop} (a0:A0) (a1:A1) (a2:A2) (a3:A3) (a4:A4) (a5:A5) (a6:A6) (a7:A7) (a8:A8) (a9:A9) (a10:A10) (a11:A11) (a12:A12):Hid (A0∧A1∧A2∧A3∧A4∧A5∧A6∧A7∧A8∧A9∧A10∧A11∧A12):=⟨a0,a1,a2,a3,a4,a5,a6,a7,a8,a9,a10,a11,a12⟩
theorem zby {W W':World} {p0 p1 p2 p3 p4 p5 b1 b2 b3 b4 b5 b6 b7 e1 e2 e3 e4 e5 e6 e7 s1 s2 s3 s4 s5 s6 s7 n1 n2 n3 n4 n5 n6 n7:Nat} {v1 v2 v3 v4 v5 v6 v7:Value} {l1 l2 l3 l4 l5 l6 l7:List Value} {x0 x1 x2 x3 x4 x5:Obj} (F:Hid (W.heap[p0]? = some x0∧W.heap[p1]? = some x1∧W.heap[p2]? = some x2∧W.heap[p3]? = some x3∧W.heap[p4]? = some x4∧W.heap[p5]? = some x5∧W.ownsRow b1 e1 s1 v1 n1 l1∧W.ownsRow b2 e2 s2 v2 n2 l2∧W.ownsRow b3 e3 s3 v3 n3 l3∧W.ownsRow b4 e4 s4 v4 n4 l4∧W.ownsRow b5 e5 s5 v5 n5 l5∧W.ownsRow b6 e6 s6 v6 n6 l6∧W.ownsRow b7 e7 s7 v7 n7 l7)) (g:Below W.heap.size W W') :
 Hid (W'.heap[p0]? = some x0∧W'.heap[p1]? = some x1∧W'.heap[p2]? = some x2∧W'.heap[p3]? = some x3∧W'.heap[p4]? = some x4∧W'.heap[p5]? = some x5∧W'.ownsRow b1 e1 s1 v1 n1 l1∧W'.ownsRow b2 e2 s2 v2 n2 l2∧W'.ownsRow b3 e3 s3 v3 n3 l3∧W'.ownsRow b4 e4 s4 v4 n4 l4∧W'.ownsRow b5 e5 s5 v5 n5 l5∧W'.ownsRow b6 e6 s6 v6 n6 l6∧W'.ownsRow b7 e7 s7 v7 n7 l7):=by
 have k {p x} (r:W.heap[p]? = some x):W'.heap[p]? = some x:=(g.block _ (lt_of_block r)).trans r
 have o {b e s n:Nat} {v:Value} {l:List Value} (h:W.ownsRow b e s v n l):W'.ownsRow b e s v n l:=h.kept (row:=none) ⟨g.os,g.tape,g.output,g.size,fun k hk _=>g.block k hk⟩ (zdz nofun)
 obtain⟨h0,h1,h2,h3,h4,h5,h6,h7,h8,h9,h10,h11,h12⟩:=F.out
 exact⟨k h0,k h1,k h2,k h3,k h4,k h5,o h6,o h7,o h8,o h9,o h10,o h11,o h12⟩
theorem zg1 {W W':World} {p0 p1 p2 p3 p4 p5 b1 b2 b3 b4 b5 b6 b7 e1 e2 e3 e4 e5 e6 e7 s1 s2 s3 s4 s5 s6 s7 n1 n2 n3 n4 n5 n6 n7:Nat} {v1 v2 v3 v4 v5 v6 v7:Value} {l1 l2 l3 l4 l5 l6 l7:List Value} {x0 x1 x2 x3 x4 x5:Obj} {row:Option Nat} (F:Hid (W.heap[p0]? = some x0∧W.heap[p1]? = some x1∧W.heap[p2]? = some x2∧W.heap[p3]? = some x3∧W.heap[p4]? = some x4∧W.heap[p5]? = some x5∧W.ownsRow b1 e1 s1 v1 n1 l1∧W.ownsRow b2 e2 s2 v2 n2 l2∧W.ownsRow b3 e3 s3 v3 n3 l3∧W.ownsRow b4 e4 s4 v4 n4 l4∧W.ownsRow b5 e5 s5 v5 n5 l5∧W.ownsRow b6 e6 s6 v6 n6 l6∧W.ownsRow b7 e7 s7 v7 n7 l7)) (g:W.grownBy W' row)
 (h:∀ q,row=some q→p0≠q∧p1≠q∧p2≠q∧p3≠q∧p4≠q∧p5≠q∧v1.ownBlock≠some q∧v2.ownBlock≠some q∧v3.ownBlock≠some q∧v4.ownBlock≠some q∧v5.ownBlock≠some q∧v6.ownBlock≠some q∧v7.ownBlock≠some q):Hid (W'.heap[p0]? = some x0∧W'.heap[p1]? = some x1∧W'.heap[p2]? = some x2∧W'.heap[p3]? = some x3∧W'.heap[p4]? = some x4∧W'.heap[p5]? = some x5∧W'.ownsRow b1 e1 s1 v1 n1 l1∧W'.ownsRow b2 e2 s2 v2 n2 l2∧W'.ownsRow b3 e3 s3 v3 n3 l3∧W'.ownsRow b4 e4 s4 v4 n4 l4∧W'.ownsRow b5 e5 s5 v5 n5 l5∧W'.ownsRow b6 e6 s6 v6 n6 l6∧W'.ownsRow b7 e7 s7 v7 n7 l7):=by
 have k {p x} (r:W.heap[p]? = some x) (hp:∀ q,row=some q→p≠q):W'.heap[p]? = some x:=(g.block _ (lt_of_block r) (fun e=>hp _ e.symm rfl)).trans r
 obtain⟨h0,h1,h2,h3,h4,h5,h6,h7,h8,h9,h10,h11,h12⟩:=F.out
 exact⟨k h0 fun q e=>(h q e).1,k h1 fun q e=>(h q e).2.1,k h2 fun q e=>(h q e).2.2.1,k h3 fun q e=>(h q e).2.2.2.1,k h4 fun q e=>(h q e).2.2.2.2.1,k h5 fun q e=>(h q e).2.2.2.2.2.1,h6.kept g (zdz fun q e=>(h q e).2.2.2.2.2.2.1),h7.kept g (zdz fun q e=>(h q e).2.2.2.2.2.2.2.1),h8.kept g (zdz fun q e=>(h q e).2.2.2.2.2.2.2.2.1),h9.kept g (zdz fun q e=>(h q e).2.2.2.2.2.2.2.2.2.1),h10.kept g (zdz fun q e=>(h q e).2.2.2.2.2.2.2.2.2.2.1),h11.kept g (zdz fun q e=>(h q e).2.2.2.2.2.2.2.2.2.2.2.1),h12.kept g (zdz fun q e=>(h q e).2.2.2.2.2.2.2.2.2.2.2.2)⟩
theorem zn3 (ix:Int) (r:List UInt8) (n1 n2:Nat) (a c:Option Addr) (m cap m2 cap2 b1 k:Nat) (w:World) (hl:n1≤1000000) (hl2:n2≤1000000) (hk:0<k) (hk2:k≤4000000) (hv:w.ownsRow b1 59 2 (.slice a m cap) n1 (zb (zbv k n1))) (hv2:w.ownsRow b1 62 2 (.slice c m2 cap2) n2 (zl (zbp (k+2*n1) n2))) :
 Calls Tryz.prog 14 #[.agg #[.int .i64 ix,.string ⟨r.toArray⟩,.slice a m cap,.slice c m2 cap2],.int .i64 k] w fun e w'=>e=.returned (.int .i64 ((k:Int)+2*(n1:Int)+2*(n2:Int)))∧Below w.heap.size w w':=by
 have B0:Below w.heap.size w (w.alloc (.cells #[.int .i64 ix,.string ⟨r.toArray⟩,.slice a m cap,.slice c m2 cap2] 34)):=(Below.refl _ _).alloc (Nat.le_refl _) _
 have H0:Hid (_=_):=heap_alloc_new w (.cells #[.int .i64 ix,.string ⟨r.toArray⟩,.slice a m cap,.slice c m2 cap2] 34)
 have K:=za07 n1 a m cap b1 k (w.alloc (.cells #[.int .i64 ix,.string ⟨r.toArray⟩,.slice a m cap,.slice c m2 cap2] 34)) (by omega) hk hk2 (zaj hv B0)
 have HO2:Hid (∀ W,Below w.heap.size w W→W.ownsRow b1 62 2 (.slice c m2 cap2) n2 (zl (zbp (k+2*n1) n2))):=fun W hW=>zaj hv2 hW
 obtain⟨p0,p1,p2,p3,_⟩:=zj H0.out
 have hq0:¬ (k:Int)+2*(n1:Int)<0:=by omega
 clear hv hv2
 go_enter Tryz.func14,Tryz.ntmps14
 go_wp2_with fail
 refine K.mono ?_
 rintro e w1 ⟨rfl,g1⟩
 have b1':=below_of_grown g1
 have B1:=B0.trans (b1'.mono B0.size)
 obtain⟨q0,q1,q2,q3,_⟩:=zj ((b1'.block w.heap.size (by simp)).trans H0.out)
 have K2:=za1a n2 c m2 cap2 b1 (k+2*n1) w1 (by omega) (by omega) (by omega) (HO2.out w1 B1)
 rw[show ((k+2*n1:Nat):Int)=(k:Int)+2*(n1:Int) by omega] at K2
 have hq1:¬ (k:Int)+2*(n1:Int)+2*(n2:Int)<0:=by omega
 clear K g1 b1' p0 p1 p2 p3 HO2 H0
 go_wp2_with fail
 refine K2.mono ?_
 rintro e w2 ⟨rfl,g2⟩
 have B2:=B1.trans ((below_of_grown g2).mono B1.size)
 clear K2 g2
 go_wp2
 go_ret
 exact⟨rfl,B2⟩
theorem zui (x:RepL) (ix c n:Int) (os:List OpL):(apR x ix c n os).1.2.2.1.length≤10000∧(apR x ix c n os).1.2.2.2.length≤10000:=by
 cases h:repR x.1 x.2.1 x.2.2.1 x.2.2.2 with
 | none=>rw[zja h];exact⟨Nat.zero_le _,Nat.zero_le _⟩
 | some l =>
   have hx:x.2.2.1.length≤10000∧x.2.2.2.length≤10000:=by
    obtain⟨⟨_,hso⟩,_,_,hno⟩:=zkx h
    exact⟨by rw[←hno];have:=zhj l;omega,by have:=(zms hso).1;omega⟩
   unfold apR
   rw[h]
   dsimp only
   split
   · exact hx
   · split
     · exact hx
     · split
       · exact hx
       · split
         · next h6=>exact⟨by show (zy (zat l c n os)).length≤_;have:=zhj (zat l c n os);omega,by have:=h6.2.2;show (insZ c n x.2.2.2).length≤_;omega⟩
         · exact hx
def AX (W:World) (rx:Int) (rt:List UInt8) (ns:List za) (ses:List zg) (rc:Int) (e:Ending) (w':World):Prop :=
 ∃ x1 xk1 x2 xk2,e=.returned (.tuple #[.agg #[.int .i64 rx,.string ⟨rt.toArray⟩,.slice x1 ns.length xk1,.slice x2 ses.length xk2],.int .i64 rc])∧w'.ownsRow W.heap.size 59 2 (Value.slice x1 ns.length xk1) ns.length (zb ns)∧w'.ownsRow W.heap.size 62 2 (Value.slice x2 ses.length xk2) ses.length (zl ses)∧(∀ q,(Value.slice x1 ns.length xk1).ownBlock=some q→(Value.slice x2 ses.length xk2).ownBlock≠some q)∧Below W.heap.size W w'
theorem zn4 {W w':World} {x:RepL × Int} {rx:Int} {rt:List UInt8} {ns:List za} {ses:List zg} {rc:Int} {e:Ending} (hx:x=((rx,rt,ns,ses),rc)) (h:zf4 W x e w'):AX W rx rt ns ses rc e w':=by
 subst hx
 obtain⟨v,rfl,⟨a1,m1,c1,a2,m2,c2,rfl,o1,o2,n⟩,b⟩:=h
 obtain⟨rfl,_,_⟩:=zac o1
 obtain⟨rfl,_,_⟩:=zcl o2
 exact⟨a1,c1,a2,c2,rfl,o1,o2,n,b⟩
theorem walk (ix:Int) (r:List UInt8) (a:Option Addr) (cap:Nat) (ps:List za) (c:Option Addr) (cap2:Nat) (ss:List zg) (jx cc nn:Int) (b:Option Addr) (cb:Nat) (os:List OpL) (w:World) (hr:r.length≤9223372036854775807) (hl:ps.length≤9223372036854775807) (hm:∀ p∈ps,p.1.length≤9223372036854775807∧p.2.length≤9223372036854775807) (hs:IsPairs w a ps) (hl2:ss.length≤9223372036854775807) (hs2:IsSess w c ss) (hlo:os.length≤9223372036854775807) (hmo:∀ p∈os,p.1.length≤9223372036854775807∧p.2.1.length≤9223372036854775807) (hso:IsOps w b os) (hT:Tab w) :
 Calls Tryz.prog 3 #[.agg #[.int .i64 ix,.string ⟨r.toArray⟩,.slice a ps.length cap,.slice c ss.length cap2],.int .i64 jx,.agg #[.int .i64 cc,.int .i64 nn,.slice b os.length cb]] w fun e w'=>e=.returned (.bool true)∧Below w.heap.size w w':=by
 have HT:Hid (Tab w):=hT
 have HS:Hid (∀ W,Below w.heap.size w W→IsPairs W a ps):=fun W hW=>hs.later hW
 have HS2:Hid (∀ W,Below w.heap.size w W→IsSess W c ss):=fun W hW=>hs2.later hW
 have HSO:Hid (∀ W,Below w.heap.size w W→IsOps W b os):=fun W hW=>hso.later hW
 have X:=zce (w.alloc (.cells #[.int .i64 ix,.string ⟨r.toArray⟩,.slice a ps.length cap,.slice c ss.length cap2] 25)) (.cells #[.int .i64 cc,.int .i64 nn,.slice b os.length cb] 28)
 have B:=(zce w (.cells #[.int .i64 ix,.string ⟨r.toArray⟩,.slice a ps.length cap,.slice c ss.length cap2] 25)).trans (X.mono (zce w (.cells #[.int .i64 ix,.string ⟨r.toArray⟩,.slice a ps.length cap,.slice c ss.length cap2] 25)).size)
 have R0:((w.alloc (.cells #[.int .i64 ix,.string ⟨r.toArray⟩,.slice a ps.length cap,.slice c ss.length cap2] 25)).alloc (.cells #[.int .i64 cc,.int .i64 nn,.slice b os.length cb] 28)).heap[w.heap.size]? = some (.cells #[.int .i64 ix,.string ⟨r.toArray⟩,.slice a ps.length cap,.slice c ss.length cap2] 25 (0,0)):=(X.block _ (by simp)).trans (heap_alloc_new w _)
 have R1:((w.alloc (.cells #[.int .i64 ix,.string ⟨r.toArray⟩,.slice a ps.length cap,.slice c ss.length cap2] 25)).alloc (.cells #[.int .i64 cc,.int .i64 nn,.slice b os.length cb] 28)).heap[w.heap.size+1]? = some (.cells #[.int .i64 cc,.int .i64 nn,.slice b os.length cb] 28 (0,0)):=by have:=heap_alloc_new (w.alloc (.cells #[.int .i64 ix,.string ⟨r.toArray⟩,.slice a ps.length cap,.slice c ss.length cap2] 25)) (.cells #[.int .i64 cc,.int .i64 nn,.slice b os.length cb] 28);simpa using this
 have F:=putF R0 R1 R0 R0 R0 R0 (World.ownsRow_nil ((w.alloc (.cells #[.int .i64 ix,.string ⟨r.toArray⟩,.slice a ps.length cap,.slice c ss.length cap2] 25)).alloc (.cells #[.int .i64 cc,.int .i64 nn,.slice b os.length cb] 28)) 0 0 0) (World.ownsRow_nil ((w.alloc (.cells #[.int .i64 ix,.string ⟨r.toArray⟩,.slice a ps.length cap,.slice c ss.length cap2] 25)).alloc (.cells #[.int .i64 cc,.int .i64 nn,.slice b os.length cb] 28)) 0 0 0) (World.ownsRow_nil ((w.alloc (.cells #[.int .i64 ix,.string ⟨r.toArray⟩,.slice a ps.length cap,.slice c ss.length cap2] 25)).alloc (.cells #[.int .i64 cc,.int .i64 nn,.slice b os.length cb] 28)) 0 0 0) (World.ownsRow_nil ((w.alloc (.cells #[.int .i64 ix,.string ⟨r.toArray⟩,.slice a ps.length cap,.slice c ss.length cap2] 25)).alloc (.cells #[.int .i64 cc,.int .i64 nn,.slice b os.length cb] 28)) 0 0 0) (World.ownsRow_nil ((w.alloc (.cells #[.int .i64 ix,.string ⟨r.toArray⟩,.slice a ps.length cap,.slice c ss.length cap2] 25)).alloc (.cells #[.int .i64 cc,.int .i64 nn,.slice b os.length cb] 28)) 0 0 0) (World.ownsRow_nil ((w.alloc (.cells #[.int .i64 ix,.string ⟨r.toArray⟩,.slice a ps.length cap,.slice c ss.length cap2] 25)).alloc (.cells #[.int .i64 cc,.int .i64 nn,.slice b os.length cb] 28)) 0 0 0) (World.ownsRow_nil ((w.alloc (.cells #[.int .i64 ix,.string ⟨r.toArray⟩,.slice a ps.length cap,.slice c ss.length cap2] 25)).alloc (.cells #[.int .i64 cc,.int .i64 nn,.slice b os.length cb] 28)) 0 0 0)
 have KZ:=za1c 1048576 (Nat.le_refl _) ix r a cap ps c cap2 ss ((w.alloc (.cells #[.int .i64 ix,.string ⟨r.toArray⟩,.slice a ps.length cap,.slice c ss.length cap2] 25)).alloc (.cells #[.int .i64 cc,.int .i64 nn,.slice b os.length cb] 28)) hr hl hm (HS.out _ B) hl2
 have HKZ2:Hid (∀ q W,q≤1048576→Below w.heap.size w W→_):=fun q W hq hW=>zue q hq cc nn b cb os W hlo hmo (HSO.out W hW)
 clear hs hs2 hso hm hmo hT hr R0 R1 X
 obtain⟨aR0,aR1,aR2,aR3,_⟩:=zj F.out.1
 go_enter Tryz.func3,Tryz.ntmps3
 go_wp2_with fail
 refine KZ.mono ?_
 rintro e w1 ⟨he,b1⟩
 clear aR0 aR1 aR2 aR3
 replace F:=zby F b1
 replace B:=B.trans (b1.mono B.size)
 clear KZ b1
 rcases he with rfl | ⟨hrl,hsz,hln2,n1,hn1,rfl⟩
 · go_wp2
   go_ret
   exact⟨rfl,B⟩
 have hn10:(0:Int)≤(n1:Int):=by omega
 have KZ2:=HKZ2.out n1 w1 hn1 B
 have HZ1:Hid (n1≤1048576):=hn1
 have hln:ps.length≤1048576:=by omega
 have HM:Hid (∀ p∈ps,p.1.length≤1048576∧p.2.length≤1048576):=zuh ps 1048576 (Nat.le_refl _) hsz
 clear HKZ2 hsz hn1
 obtain⟨aB0,aB1,aB2,_⟩:=zaf F.out.2.1
 go_wp2_with fail
 refine KZ2.mono ?_
 rintro e w2 ⟨he,b2⟩
 clear aB0 aB1 aB2
 replace F:=zby F b2
 replace B:=B.trans (b2.mono B.size)
 clear KZ2 b2
 rcases he with rfl | ⟨hsz2,n2,hn2,rfl⟩
 · go_wp2
   go_ret
   exact⟨rfl,B⟩
 have hn20:(0:Int)≤(n2:Int):=by omega
 have hln3:os.length≤1048576:=by have:=HZ1.out;omega
 have hmm2:=ztw os (by have:=HZ1.out;omega:os.length+zbd os≤1048576)
 obtain⟨⟨⟨rx,rt,ns,ses⟩,rc⟩,hrr⟩:∃ x,x=apR (ix,r,ps,ss) jx cc nn os:=⟨_,rfl⟩
 have hlen:=zui (ix,r,ps,ss) jx cc nn os
 rw[←hrr] at hlen
 have hns:ns.length≤10000:=hlen.1
 have hse:ses.length≤10000:=hlen.2
 have HK1:Hid (∀ (g h i:Nat) W,IsPairs W (some ⟨g,0,none⟩) ps→IsSess W (some ⟨h,0,none⟩) ss→IsOps W (some ⟨i,0,none⟩) os→Calls Tryz.prog 6 #[.agg #[.int .i64 ix,.string ⟨r.toArray⟩,.slice (some ⟨g,0,none⟩) ps.length ps.length,.slice (some ⟨h,0,none⟩) ss.length ss.length],.int .i64 jx,.agg #[.int .i64 cc,.int .i64 nn,.slice (some ⟨i,0,none⟩) os.length os.length]] W (AX W rx rt ns ses rc)):=fun g h i W h1 h2 h3=>(za1l ix r (some ⟨g,0,none⟩) ps.length ps (some ⟨h,0,none⟩) ss.length ss jx cc nn (some ⟨i,0,none⟩) os.length os W hln HM.out h1 (by simp) hln2 h2 (by simp) hln3 hmm2 h3).mono fun e w'=>zn4 hrr.symm
 have HK2:Hid (∀ (g h i:Nat) W,Tab W→IsPairs W (some ⟨g,0,none⟩) ps→IsSess W (some ⟨h,0,none⟩) ss→IsOps W (some ⟨i,0,none⟩) os→Calls Tryz.prog 9 #[.agg #[.int .i64 ix,.string ⟨r.toArray⟩,.slice (some ⟨g,0,none⟩) ps.length ps.length,.slice (some ⟨h,0,none⟩) ss.length ss.length],.int .i64 jx,.agg #[.int .i64 cc,.int .i64 nn,.slice (some ⟨i,0,none⟩) os.length os.length]] W (AX W rx rt ns ses rc)):=fun g h i W hT h1 h2 h3=>(zvt ix r g 0 ps.length ps h 0 ss.length ss jx cc nn (some ⟨i,0,none⟩) os.length os W hT hrl hln HM.out h1 hln2 h2 hln3 hmm2 h3).mono fun e w'=>zn4 hrr.symm
 have HTR:Hid (∀ W,Below w.heap.size w W→Calls Tryz.prog 7 #[.agg #[.int .i64 ix,.string ⟨r.toArray⟩,.slice a ps.length cap,.slice c ss.length cap2]] W _):=fun W hW=>za1d ix r a cap ps c cap2 ss W hln (HS.out W hW) hln2 (HS2.out W hW)
 have HTB:Hid (∀ W,Below w.heap.size w W→Calls Tryz.prog 8 #[.agg #[.int .i64 cc,.int .i64 nn,.slice b os.length cb]] W _):=fun W hW=>zu4 cc nn b cb os W hln3 (HSO.out W hW)
 clear hrr hlen hmm2 hsz2 hn2 HS HS2 HSO hl hl2 hlo HZ1 HM hrl
 have SB:Hid (∀ W,Below w2.heap.size w2 W→W.cell? ⟨w.heap.size,0,none⟩=some (.int .i64 ix)∧W.cell? ⟨w.heap.size,1,none⟩=some (.string ⟨r.toArray⟩)∧W.cell? ⟨w.heap.size,2,none⟩=some (.slice a ps.length cap)∧W.cell? ⟨w.heap.size,3,none⟩=some (.slice c ss.length cap2)∧W.cell? ⟨w.heap.size+1,0,none⟩=some (.int .i64 cc)∧W.cell? ⟨w.heap.size+1,1,none⟩=some (.int .i64 nn)∧W.cell? ⟨w.heap.size+1,2,none⟩=some (.slice b os.length cb)):=fun W hW=>by
  obtain⟨u0,u1,u2,u3,_⟩:=zj ((hW.block _ (lt_of_block F.out.1)).trans F.out.1)
  obtain⟨v0,v1,v2,_⟩:=zaf ((hW.block _ (lt_of_block F.out.2.1)).trans F.out.2.1)
  exact⟨u0,u1,u2,u3,v0,v1,v2⟩
 have BD:Below w2.heap.size w2 w2.drew:=⟨rfl,rfl,rfl,Nat.le_refl _,fun _ _=>rfl⟩
 have b0:=zce w2 (.cells #[.int .i64 0,.string ⟨#[]⟩,.slice none 0 0,.slice none 0 0] 34)
 have BDa:Below w2.heap.size w2 (w2.alloc (.cells #[.int .i64 0,.string ⟨#[]⟩,.slice none 0 0,.slice none 0 0] 34)).drew:=⟨b0.os,b0.tape,b0.output,b0.size,b0.block⟩
 have WD:=B.trans (BD.mono B.size)
 have WDa:=B.trans (BDa.mono B.size)
 have hza:(w2.alloc (.cells #[.int .i64 0,.string ⟨#[]⟩,.slice none 0 0,.slice none 0 0] 34)).drew.heap.size=w2.heap.size+1:=by show (w2.alloc _).heap.size=_;simp
 go_upto_region 8 with fail
 go_cut [8,9] from 29 (fun v u wx=>∃ (g:Nat) (y1:Option Addr) (yk1:Nat) (y2:Option Addr) (yk2:Nat),v=.pointer (some ⟨g,0,none⟩)∧u=.int .i64 rc∧Hid (SReg w2 wx rx rt ns ses g y1 yk1 y2 yk2))
 case first =>
  go_region_held3 (fun w'=>w'.cell? ⟨w.heap.size,0,none⟩=some (.int .i64 ix)∧w'.cell? ⟨w.heap.size,1,none⟩=some (.string ⟨r.toArray⟩)∧w'.cell? ⟨w.heap.size,2,none⟩=some (.slice a ps.length cap)∧w'.cell? ⟨w.heap.size,3,none⟩=some (.slice c ss.length cap2)∧w'.cell? ⟨w.heap.size+1,0,none⟩=some (.int .i64 cc)∧w'.cell? ⟨w.heap.size+1,1,none⟩=some (.int .i64 nn)∧w'.cell? ⟨w.heap.size+1,2,none⟩=some (.slice b os.length cb)) (first | exact SB.out _ (by repeat' first | with_reducible exact BC3.out | with_reducible exact BC2.out | with_reducible exact BC1.out | with_reducible exact BDa | with_reducible exact BD | (with_reducible refine Below.setCell ?_ ?_ _) | (with_reducible refine Below.alloc ?_ ?_ _) | omega | (dsimp only;omega)))
   (first
    | (go_at_call 7
       with_reducible refine (HTR.out _ (by first | exact WD | exact WDa)).mono ?_
       rintro e wsi ⟨g3,h3,rfl,_,o3,p3,b3⟩
       have BC1:Hid (Below w2.heap.size w2 wsi):=by first | exact BD.trans (b3.mono BD.size) | exact BDa.trans (b3.mono BDa.size)
       have WC1:=B.trans (BC1.out.mono B.size)
       have WC1a:=WC1.alloc WC1.size (.cells #[.int .i64 0,.string ⟨#[]⟩,.slice none 0 0,.slice none 0 0] 34)
       first | (have s1:w2.heap.size+1≤wsi.heap.size:=by rw[←hza];exact b3.size) | (have s1:w2.heap.size≤wsi.heap.size:=BC1.out.size)
       first | (have N1:Hid (wsi.heap[w2.heap.size]? = some (.cells #[.int .i64 0,.string ⟨#[]⟩,.slice none 0 0,.slice none 0 0] 34 (0,0))):=(b3.block w2.heap.size (by rw[hza];omega)).trans (heap_alloc_new w2 _)) | skip
       have O3:=zc o3
       have P3:=zc p3
       clear o3 p3 b3)
    | (go_at_call 8
       with_reducible refine (HTB.out _ (by first | exact WC1 | exact WC1a)).mono ?_
       rintro e wsj ⟨g4,rfl,o4,b4⟩
       have hzb:(wsi.alloc (.cells #[.int .i64 0,.string ⟨#[]⟩,.slice none 0 0,.slice none 0 0] 34)).heap.size=wsi.heap.size+1:=by simp
       have b4':Hid (Below wsi.heap.size wsi wsj):=by first | exact b4 | exact (zce _ (.cells #[.int .i64 0,.string ⟨#[]⟩,.slice none 0 0,.slice none 0 0] 34)).trans (b4.mono (by simp))
       have BC2:Hid (Below w2.heap.size w2 wsj):=BC1.out.trans (b4'.out.mono BC1.out.size)
       have WC2:=B.trans (BC2.out.mono B.size)
       have X2:=zce wsj (.cells #[.int .i64 0,.string ⟨#[]⟩,.slice none 0 0,.slice none 0 0] 34)
       have WC2a:=WC2.trans (X2.mono WC2.size)
       first | (have s2:wsi.heap.size+1≤wsj.heap.size:=by rw[←hzb];exact b4.size) | (have s2:wsi.heap.size≤wsj.heap.size:=b4'.out.size)
       first | (have N2:Hid (_=_):=(b4'.out.block _ (lt_of_block N1.out)).trans N1.out) | (have N2:Hid (wsj.heap[wsi.heap.size]? = some (.cells #[.int .i64 0,.string ⟨#[]⟩,.slice none 0 0,.slice none 0 0] 34 (0,0))):=(b4.block wsi.heap.size (by simp)).trans (heap_alloc_new wsi _)) | skip
       have J3:=zaj O3.out b4'.out
       have K3:=zaj P3.out b4'.out
       have I4:Hid (IsPairs wsj (some ⟨g3,0,none⟩) ps∧IsSess wsj (some ⟨h3,0,none⟩) ss∧IsOps wsj (some ⟨g4,0,none⟩) os):=⟨(zac J3).2.2,(zcl K3).2.2,(zfz o4).2.2⟩
       have I4a:Hid (_∧_∧_):=⟨I4.out.1.later X2,I4.out.2.1.later X2,I4.out.2.2.later X2⟩
       clear o4 b4 J3 K3 X2)
    | (go_at_call 6
       first | with_reducible refine (HK1.out g3 h3 g4 wsj I4.out.1 I4.out.2.1 I4.out.2.2).mono ?_ | with_reducible refine (HK1.out g3 h3 g4 _ I4a.out.1 I4a.out.2.1 I4a.out.2.2).mono ?_
       rintro e wsk ⟨y1,yk1,y2,yk2,rfl,o5,p5,n5,b5⟩
       have hzc:(wsj.alloc (.cells #[.int .i64 0,.string ⟨#[]⟩,.slice none 0 0,.slice none 0 0] 34)).heap.size=wsj.heap.size+1:=by simp
       have b5':Hid (Below wsj.heap.size wsj wsk):=by first | exact b5 | exact (zce _ (.cells #[.int .i64 0,.string ⟨#[]⟩,.slice none 0 0,.slice none 0 0] 34)).trans (b5.mono (by simp))
       have BC3:Hid (Below w2.heap.size w2 wsk):=BC2.out.trans (b5'.out.mono BC2.out.size)
       have s3:=b5'.out.size
       have O5:=zc (o5.mono (show w2.heap.size≤_ by first | omega | (simp;omega)))
       have P5:=zc (p5.mono (show w2.heap.size≤_ by first | omega | (simp;omega)))
       have N5:Hid (∀ q,_→_):=n5
       first | (have L1:Hid (∀ q,(Value.slice y1 ns.length yk1).ownBlock=some q→wsj.heap.size+1≤q∧q<wsk.heap.size):=fun q hq=>by have h:=o5.lt q hq;rw[hzc] at h;exact h) | (have L1:Hid (∀ q,(Value.slice y1 ns.length yk1).ownBlock=some q→wsj.heap.size≤q∧q<wsk.heap.size):=fun q hq=>o5.lt q hq)
       first | (have L2:Hid (∀ q,(Value.slice y2 ses.length yk2).ownBlock=some q→wsj.heap.size+1≤q∧q<wsk.heap.size):=fun q hq=>by have h:=p5.lt q hq;rw[hzc] at h;exact h) | (have L2:Hid (∀ q,(Value.slice y2 ses.length yk2).ownBlock=some q→wsj.heap.size≤q∧q<wsk.heap.size):=fun q hq=>p5.lt q hq)
       first | (have N3:Hid (_=_):=(b5'.out.block _ (lt_of_block N2.out)).trans N2.out) | (have N3:Hid (wsk.heap[wsj.heap.size]? = some (.cells #[.int .i64 0,.string ⟨#[]⟩,.slice none 0 0,.slice none 0 0] 34 (0,0))):=(b5.block wsj.heap.size (by simp)).trans (heap_alloc_new wsj _)) | skip
       first | (have N4:=zj N3.out;obtain⟨z0,z1,z2,z3,zf⟩:=N4;have zf0:=zf 0;have zf1:=zf 1;have zf2:=zf 2;have zf3:=zf 3;clear zf) | skip
       clear o5 p5 n5 b5))
  all_goals go_wp2_with fail
  all_goals go_meet
  all_goals refine⟨_,y1,yk1,y2,yk2,rfl,rfl,?_⟩
  all_goals first
   | (have X:=N3;exact zhc X.out (by omega) O5.out P5.out (fun e=>by have h:=L1.out _ e;omega) (fun e=>by have h:=L2.out _ e;omega) N5.out BC3.out)
   | exact zjr O5.out P5.out N5.out BC3.out
 case rest =>
 obtain⟨gy,y1,yk1,y2,yk2,rfl,rfl,HG⟩:=hcut
 obtain⟨ws,rfl⟩:∃ W,W=wc:=⟨_,rfl⟩
 obtain⟨ry,hy,Ry1,Ry2,⟨n1y,n2y⟩,Ny,b9⟩:=HG.out
 clear SB BD BDa b0 WD WDa hza HG
 have LN1:Hid (∀ q,(Value.slice y1 ns.length yk1).ownBlock=some q→q<ws.heap.size):=fun q hq=>(Ry1.lt q hq).2
 have LN2:Hid (∀ q,(Value.slice y2 ses.length yk2).ownBlock=some q→q<ws.heap.size):=fun q hq=>(Ry2.lt q hq).2
 replace F:=zby F b9
 replace B:=B.trans (b9.mono B.size)
 replace F:=putF F.out.1 F.out.2.1 F.out.2.2.1 F.out.2.2.2.1 ry F.out.2.2.2.2.2.1 Ry1 Ry2 F.out.2.2.2.2.2.2.2.2.1 F.out.2.2.2.2.2.2.2.2.2.1 F.out.2.2.2.2.2.2.2.2.2.2.1 F.out.2.2.2.2.2.2.2.2.2.2.2.1 F.out.2.2.2.2.2.2.2.2.2.2.2.2
 have ZN:Hid (w.heap.size+1<ws.heap.size∧gy<ws.heap.size):=⟨lt_of_block F.out.2.1,lt_of_block F.out.2.2.2.2.1⟩
 clear Ry1 Ry2 ry b9 n1y n2y Ny hy
 obtain⟨aR0,aR1,aR2,aR3,_⟩:=zj F.out.1
 go_wp2_with fail
 clear aR0 aR1 aR2 aR3
 refine (HTR.out _ B).mono ?_
 rintro e w4 ⟨gx,hx,rfl,lgh,o9,p9,b9⟩
 replace F:=zby F b9
 replace B:=B.trans (b9.mono B.size)
 have LX:Hid (ws.heap.size≤gx∧gx<hx∧hx<w4.heap.size):=⟨(o9.lt gx (by simp[Value.ownBlock])).1,lgh,(p9.lt hx (by simp[Value.ownBlock])).2⟩
 replace F:=putF F.out.1 F.out.2.1 F.out.2.2.1 F.out.2.2.2.1 F.out.2.2.2.2.1 F.out.2.2.2.2.2.1 F.out.2.2.2.2.2.2.1 F.out.2.2.2.2.2.2.2.1 o9 p9 F.out.2.2.2.2.2.2.2.2.2.2.1 F.out.2.2.2.2.2.2.2.2.2.2.2.1 F.out.2.2.2.2.2.2.2.2.2.2.2.2
 clear o9 p9 b9 lgh
 have X:=zce w4 (.cells #[.int .i64 ix,.string ⟨r.toArray⟩,.slice (some ⟨gx,0,none⟩) ps.length ps.length,.slice (some ⟨hx,0,none⟩) ss.length ss.length] 34)
 replace F:=zby F X
 replace B:=B.trans (X.mono B.size)
 replace F:=putF F.out.1 F.out.2.1 (heap_alloc_new w4 (.cells #[.int .i64 ix,.string ⟨r.toArray⟩,.slice (some ⟨gx,0,none⟩) ps.length ps.length,.slice (some ⟨hx,0,none⟩) ss.length ss.length] 34)) F.out.2.2.2.1 F.out.2.2.2.2.1 F.out.2.2.2.2.2.1 F.out.2.2.2.2.2.2.1 F.out.2.2.2.2.2.2.2.1 F.out.2.2.2.2.2.2.2.2.1 F.out.2.2.2.2.2.2.2.2.2.1 F.out.2.2.2.2.2.2.2.2.2.2.1 F.out.2.2.2.2.2.2.2.2.2.2.2.1 F.out.2.2.2.2.2.2.2.2.2.2.2.2
 clear X
 obtain⟨aB0,aB1,aB2,_⟩:=zaf F.out.2.1
 go_wp2_with fail
 clear aB0 aB1 aB2
 obtain⟨w5,hw5⟩:∃ W,W=(w4.alloc (.cells #[.int .i64 ix,.string ⟨r.toArray⟩,.slice (some ⟨gx,0,none⟩) ps.length ps.length,.slice (some ⟨hx,0,none⟩) ss.length ss.length] 34)):=⟨_,rfl⟩
 rw[←hw5] at ⊢ B F
 have Zw5:Hid (w5.heap.size=w4.heap.size+1):=by rw[hw5,Hid];simp
 clear hw5
 refine (HTB.out _ B).mono ?_
 rintro e w6 ⟨ib,rfl,o9,b9⟩
 replace F:=zby F b9
 replace B:=B.trans (b9.mono B.size)
 have LXB:Hid (w5.heap.size≤ib∧ib<w6.heap.size):=o9.lt ib (by simp[Value.ownBlock])
 replace F:=putF F.out.1 F.out.2.1 F.out.2.2.1 F.out.2.2.2.1 F.out.2.2.2.2.1 F.out.2.2.2.2.2.1 F.out.2.2.2.2.2.2.1 F.out.2.2.2.2.2.2.2.1 F.out.2.2.2.2.2.2.2.2.1 F.out.2.2.2.2.2.2.2.2.2.1 o9 F.out.2.2.2.2.2.2.2.2.2.2.2.1 F.out.2.2.2.2.2.2.2.2.2.2.2.2
 clear o9 b9
 have X:=zce w6 (.cells #[.int .i64 cc,.int .i64 nn,.slice (some ⟨ib,0,none⟩) os.length os.length] 40)
 replace F:=zby F X
 replace B:=B.trans (X.mono B.size)
 replace F:=putF F.out.1 F.out.2.1 F.out.2.2.1 (heap_alloc_new w6 (.cells #[.int .i64 cc,.int .i64 nn,.slice (some ⟨ib,0,none⟩) os.length os.length] 40)) F.out.2.2.2.2.1 F.out.2.2.2.2.2.1 F.out.2.2.2.2.2.2.1 F.out.2.2.2.2.2.2.2.1 F.out.2.2.2.2.2.2.2.2.1 F.out.2.2.2.2.2.2.2.2.2.1 F.out.2.2.2.2.2.2.2.2.2.2.1 F.out.2.2.2.2.2.2.2.2.2.2.2.1 F.out.2.2.2.2.2.2.2.2.2.2.2.2
 clear X
 obtain⟨bx0,bx1,bx2,bx3,_⟩:=zj F.out.2.2.1
 obtain⟨bb0,bb1,bb2,_⟩:=zaf F.out.2.2.2.1
 go_wp2_with fail
 clear bx0 bx1 bx2 bx3
 clear bb0 bb1 bb2
 obtain⟨w7,hw7⟩:∃ W,W=(w6.alloc (.cells #[.int .i64 cc,.int .i64 nn,.slice (some ⟨ib,0,none⟩) os.length os.length] 40)):=⟨_,rfl⟩
 rw[←hw7] at ⊢ B F
 have Zw7:Hid (w7.heap.size=w6.heap.size+1):=by rw[hw7,Hid];simp
 clear hw7
 refine (HK2.out gx hx ib w7 (HT.out.later B) (zac F.out.2.2.2.2.2.2.2.2.1).2.2 (zcl F.out.2.2.2.2.2.2.2.2.2.1).2.2 (zfz F.out.2.2.2.2.2.2.2.2.2.2.1).2.2).mono ?_
 rintro e w8 ⟨h1,hk1,h2,hk2,rfl,o9,p9,n9,b9⟩
 replace F:=zby F b9
 replace B:=B.trans (b9.mono B.size)
 have LG1:Hid (∀ q,(Value.slice h1 ns.length hk1).ownBlock=some q→w7.heap.size≤q∧q<w8.heap.size):=fun q hq=>o9.lt q hq
 have LG2:Hid (∀ q,(Value.slice h2 ses.length hk2).ownBlock=some q→w7.heap.size≤q∧q<w8.heap.size):=fun q hq=>p9.lt q hq
 have APG:Hid (∀ q,(Value.slice h1 ns.length hk1).ownBlock=some q→(Value.slice h2 ses.length hk2).ownBlock≠some q):=n9
 have ZG:Hid (w7.heap.size≤w8.heap.size):=b9.size
 replace F:=putF F.out.1 F.out.2.1 F.out.2.2.1 F.out.2.2.2.1 F.out.2.2.2.2.1 F.out.2.2.2.2.2.1 F.out.2.2.2.2.2.2.1 F.out.2.2.2.2.2.2.2.1 F.out.2.2.2.2.2.2.2.2.1 F.out.2.2.2.2.2.2.2.2.2.1 F.out.2.2.2.2.2.2.2.2.2.2.1 o9 p9
 clear o9 p9 n9 b9
 have X:=zce w8 (.cells #[.int .i64 rx,.string ⟨rt.toArray⟩,.slice h1 ns.length hk1,.slice h2 ses.length hk2] 34)
 replace F:=zby F X
 replace B:=B.trans (X.mono B.size)
 replace F:=putF F.out.1 F.out.2.1 F.out.2.2.1 F.out.2.2.2.1 F.out.2.2.2.2.1 (heap_alloc_new w8 (.cells #[.int .i64 rx,.string ⟨rt.toArray⟩,.slice h1 ns.length hk1,.slice h2 ses.length hk2] 34)) F.out.2.2.2.2.2.2.1 F.out.2.2.2.2.2.2.2.1 F.out.2.2.2.2.2.2.2.2.1 F.out.2.2.2.2.2.2.2.2.2.1 F.out.2.2.2.2.2.2.2.2.2.2.1 F.out.2.2.2.2.2.2.2.2.2.2.2.1 F.out.2.2.2.2.2.2.2.2.2.2.2.2
 clear X
 obtain⟨bg0,bg1,bg2,bg3,_⟩:=zj F.out.2.2.2.2.2.1
 obtain⟨bw0,bw1,bw2,bw3,_⟩:=zj F.out.2.2.2.2.1
 go_wp2_with fail
 clear bg0 bg1 bg2 bg3
 clear bw0 bw1 bw2 bw3
 obtain⟨w9,hw9⟩:∃ W,W=(w8.alloc (.cells #[.int .i64 rx,.string ⟨rt.toArray⟩,.slice h1 ns.length hk1,.slice h2 ses.length hk2] 34)):=⟨_,rfl⟩
 rw[←hw9] at ⊢ B F
 have Zw9:Hid (w9.heap.size=w8.heap.size+1):=by rw[hw9,Hid];simp
 clear hw9
 refine (zi9 rx rt ns ses _ _ _ _ _ _ _ _ _ (by omega) (zac F.out.2.2.2.2.2.2.2.2.2.2.2.1).2.2 (zac F.out.2.2.2.2.2.2.1).2.2 (by omega) (zcl F.out.2.2.2.2.2.2.2.2.2.2.2.2).2.2 (zcl F.out.2.2.2.2.2.2.2.1).2.2).mono ?_
 rintro e wa ⟨rfl,b9⟩
 replace F:=zby F b9
 replace B:=B.trans (b9.mono B.size)
 clear b9
 have SB:Hid (∀ W,Below wa.heap.size wa W→W.cell? ⟨w.heap.size,0,none⟩=some (.int .i64 ix)∧W.cell? ⟨w.heap.size,1,none⟩=some (.string ⟨r.toArray⟩)∧W.cell? ⟨w.heap.size,2,none⟩=some (.slice a ps.length cap)∧W.cell? ⟨w.heap.size,3,none⟩=some (.slice c ss.length cap2)∧W.cell? ⟨w4.heap.size,0,none⟩=some (.int .i64 ix)∧W.cell? ⟨w4.heap.size,1,none⟩=some (.string ⟨r.toArray⟩)∧W.cell? ⟨w4.heap.size,2,none⟩=some (.slice (some ⟨gx,0,none⟩) ps.length ps.length)∧W.cell? ⟨w4.heap.size,3,none⟩=some (.slice (some ⟨hx,0,none⟩) ss.length ss.length)):=fun W hW=>by
  obtain⟨u0,u1,u2,u3,_⟩:=zj ((hW.block _ (lt_of_block F.out.1)).trans F.out.1)
  obtain⟨v0,v1,v2,v3,_⟩:=zj ((hW.block _ (lt_of_block F.out.2.2.1)).trans F.out.2.2.1)
  exact⟨u0,u1,u2,u3,v0,v1,v2,v3⟩
 have BD:Below wa.heap.size wa wa.drew:=⟨rfl,rfl,rfl,Nat.le_refl _,fun _ _=>rfl⟩
 have WD:=B.trans (BD.mono B.size)
 go_wp2
 go_region_held3 (fun w'=>w'.cell? ⟨w.heap.size,0,none⟩=some (.int .i64 ix)∧w'.cell? ⟨w.heap.size,1,none⟩=some (.string ⟨r.toArray⟩)∧w'.cell? ⟨w.heap.size,2,none⟩=some (.slice a ps.length cap)∧w'.cell? ⟨w.heap.size,3,none⟩=some (.slice c ss.length cap2)∧w'.cell? ⟨w4.heap.size,0,none⟩=some (.int .i64 ix)∧w'.cell? ⟨w4.heap.size,1,none⟩=some (.string ⟨r.toArray⟩)∧w'.cell? ⟨w4.heap.size,2,none⟩=some (.slice (some ⟨gx,0,none⟩) ps.length ps.length)∧w'.cell? ⟨w4.heap.size,3,none⟩=some (.slice (some ⟨hx,0,none⟩) ss.length ss.length)) (first | with_reducible exact SB.out _ BC2.out | with_reducible exact SB.out _ BC1.out | with_reducible exact SB.out _ BD | go_keep)
  (first
   | (go_at_call 7
      with_reducible refine (HTR.out _ WD).mono ?_
      rintro e wci ⟨gz,hz,rfl,_,o3,p3,b7⟩
      have BC1:Hid (Below wa.heap.size wa wci):=BD.trans (b7.mono BD.size)
      have J1:Hid (IsPairs wci (some ⟨gx,0,none⟩) ps∧IsPairs wci (some ⟨gz,0,none⟩) ps∧IsSess wci (some ⟨hx,0,none⟩) ss∧IsSess wci (some ⟨hz,0,none⟩) ss):=⟨(zac (zaj F.out.2.2.2.2.2.2.2.2.1 BC1.out)).2.2,(zac o3).2.2,(zcl (zaj F.out.2.2.2.2.2.2.2.2.2.1 BC1.out)).2.2,(zcl p3).2.2⟩
      clear o3 p3 b7)
   | (go_at_call 10
      with_reducible refine (zi9 ix r ps ss (some ⟨gx,0,none⟩) (some ⟨gz,0,none⟩) (some ⟨hx,0,none⟩) (some ⟨hz,0,none⟩) ps.length ps.length ss.length ss.length wci (by omega) J1.out.1 J1.out.2.1 (by omega) J1.out.2.2.1 J1.out.2.2.2).mono ?_
      rintro e wcj ⟨rfl,b8⟩
      have BC2:Hid (Below wa.heap.size wa wcj):=BC1.out.trans (b8.mono BC1.out.size)
      clear b8))
 all_goals clear SB BD WD J1
 all_goals
  have b9:=BC2.out
  clear BC1 BC2
  replace F:=zby F b9
  replace B:=B.trans (b9.mono B.size)
  clear b9
  have SB:Hid (∀ W,Below wcj.heap.size wcj W→W.cell? ⟨w.heap.size+1,0,none⟩=some (.int .i64 cc)∧W.cell? ⟨w.heap.size+1,1,none⟩=some (.int .i64 nn)∧W.cell? ⟨w.heap.size+1,2,none⟩=some (.slice b os.length cb)∧W.cell? ⟨w6.heap.size,0,none⟩=some (.int .i64 cc)∧W.cell? ⟨w6.heap.size,1,none⟩=some (.int .i64 nn)∧W.cell? ⟨w6.heap.size,2,none⟩=some (.slice (some ⟨ib,0,none⟩) os.length os.length)):=fun W hW=>by
   obtain⟨u0,u1,u2,_⟩:=zaf ((hW.block _ (lt_of_block F.out.2.1)).trans F.out.2.1)
   obtain⟨v0,v1,v2,_⟩:=zaf ((hW.block _ (lt_of_block F.out.2.2.2.1)).trans F.out.2.2.2.1)
   exact⟨u0,u1,u2,v0,v1,v2⟩
  have BD:Below wcj.heap.size wcj wcj.drew:=⟨rfl,rfl,rfl,Nat.le_refl _,fun _ _=>rfl⟩
  have WD:=B.trans (BD.mono B.size)
  go_wp2
  go_region_held3 (fun w'=>w'.cell? ⟨w.heap.size+1,0,none⟩=some (.int .i64 cc)∧w'.cell? ⟨w.heap.size+1,1,none⟩=some (.int .i64 nn)∧w'.cell? ⟨w.heap.size+1,2,none⟩=some (.slice b os.length cb)∧w'.cell? ⟨w6.heap.size,0,none⟩=some (.int .i64 cc)∧w'.cell? ⟨w6.heap.size,1,none⟩=some (.int .i64 nn)∧w'.cell? ⟨w6.heap.size,2,none⟩=some (.slice (some ⟨ib,0,none⟩) os.length os.length)) (first | with_reducible exact SB.out _ BC2.out | with_reducible exact SB.out _ BC1.out | with_reducible exact SB.out _ BD | go_keep)
   (first
    | (go_at_call 8
       with_reducible refine (HTB.out _ WD).mono ?_
       rintro e wdi ⟨gz,rfl,o3,b7⟩
       have BC1:Hid (Below wcj.heap.size wcj wdi):=BD.trans (b7.mono BD.size)
       have J1:Hid (IsOps wdi (some ⟨ib,0,none⟩) os∧IsOps wdi (some ⟨gz,0,none⟩) os):=⟨(zfz (zh1 F.out.2.2.2.2.2.2.2.2.2.2.1 BC1.out)).2.2,(zfz o3).2.2⟩
       clear o3 b7)
    | (go_at_call 11
       with_reducible refine (zu5 cc nn (some ⟨ib,0,none⟩) (some ⟨gz,0,none⟩) os.length os.length os wdi (by omega) J1.out.1 J1.out.2).mono ?_
       rintro e wdj ⟨rfl,b8⟩
       have BC2:Hid (Below wcj.heap.size wcj wdj):=BC1.out.trans (b8.mono BC1.out.size)
       clear b8))
  all_goals clear SB BD WD J1
  all_goals
   have b9:=BC2.out
   clear BC1 BC2
   replace F:=zby F b9
   replace B:=B.trans (b9.mono B.size)
   clear b9
   obtain⟨bx0,bx1,bx2,bx3,_⟩:=zj F.out.2.2.1
   have KM:=zqk ix r ps ss (some ⟨gx,0,none⟩) (some ⟨hx,0,none⟩) ps.length ps.length ss.length ss.length _ 1 wdj (by omega) (by omega) (by omega) (by omega) (fun q hq e=>by have x1:=LX.out;simp only[Value.ownBlock,Option.some.injEq] at hq e;omega) (F.out.2.2.2.2.2.2.2.2.1.mono (Nat.zero_le _)) (F.out.2.2.2.2.2.2.2.2.2.1.mono (Nat.zero_le _))
   obtain⟨k1,hk1⟩:∃ k1:Nat,k1=1+2*ps.length+2*ss.length:=⟨_,rfl⟩
   have Ek1:Hid ((1:Int)+2*(ps.length:Int)+2*(ss.length:Int)=(k1:Int)):=by rw[Hid];omega
   have bk1:k1≤8000000:=by omega
   have pk1:0<k1:=by omega
   clear hk1
   go_wp2_with fail
   refine KM.mono ?_
   rintro e wn ⟨he,_,_,wm,G1,G2⟩
   rw[show ((1:Nat):Int)+2*(ps.length:Int)+2*(ss.length:Int)=(k1:Int) from Ek1.out] at he
   subst he
   clear bx0 bx1 bx2 bx3
   replace F:=putF F.out.1 F.out.2.1 F.out.2.2.1 F.out.2.2.2.1 F.out.2.2.2.2.1 F.out.2.2.2.2.2.1 F.out.2.2.2.2.2.2.1 F.out.2.2.2.2.2.2.2.1 (World.ownsRow_nil wdj 0 0 0) F.out.2.2.2.2.2.2.2.2.2.1 F.out.2.2.2.2.2.2.2.2.2.2.1 F.out.2.2.2.2.2.2.2.2.2.2.2.1 F.out.2.2.2.2.2.2.2.2.2.2.2.2
   replace F:=zg1 F G1 (fun q e=>by have z1:=ZG.out;have z2:=Zw5.out;have z3:=Zw7.out;have z4:=Zw9.out;have x1:=LX.out;have x2:=LXB.out;have n0:=ZN.out;have n1:=LN1.out;have n2:=LN2.out;have g1:=LG1.out;have g2:=LG2.out;simp only[Value.ownBlock,Option.some.injEq] at e;exact⟨by omega,by omega,by omega,by omega,by omega,by omega,fun hv=>by have h1:=n1 q hv;omega,fun hv=>by have h1:=n2 q hv;omega,nofun,fun hv=>by simp only[Value.ownBlock,Option.some.injEq] at hv;omega,fun hv=>by simp only[Value.ownBlock,Option.some.injEq] at hv;omega,fun hv=>by have h1:=g1 q hv;omega,fun hv=>by have h1:=g2 q hv;omega⟩)
   replace B:=B.grown G1 B.size (fun q e=>by have z1:=ZG.out;have z2:=Zw5.out;have z3:=Zw7.out;have z4:=Zw9.out;have x1:=LX.out;have x2:=LXB.out;have n0:=ZN.out;have n1:=LN1.out;have n2:=LN2.out;have g1:=LG1.out;have g2:=LG2.out;simp only[Value.ownBlock,Option.some.injEq] at e;omega)
   replace F:=putF F.out.1 F.out.2.1 F.out.2.2.1 F.out.2.2.2.1 F.out.2.2.2.2.1 F.out.2.2.2.2.2.1 F.out.2.2.2.2.2.2.1 F.out.2.2.2.2.2.2.2.1 F.out.2.2.2.2.2.2.2.2.1 (World.ownsRow_nil wm 0 0 0) F.out.2.2.2.2.2.2.2.2.2.2.1 F.out.2.2.2.2.2.2.2.2.2.2.2.1 F.out.2.2.2.2.2.2.2.2.2.2.2.2
   replace F:=zg1 F G2 (fun q e=>by have z1:=ZG.out;have z2:=Zw5.out;have z3:=Zw7.out;have z4:=Zw9.out;have x1:=LX.out;have x2:=LXB.out;have n0:=ZN.out;have n1:=LN1.out;have n2:=LN2.out;have g1:=LG1.out;have g2:=LG2.out;simp only[Value.ownBlock,Option.some.injEq] at e;exact⟨by omega,by omega,by omega,by omega,by omega,by omega,fun hv=>by have h1:=n1 q hv;omega,fun hv=>by have h1:=n2 q hv;omega,nofun,nofun,fun hv=>by simp only[Value.ownBlock,Option.some.injEq] at hv;omega,fun hv=>by have h1:=g1 q hv;omega,fun hv=>by have h1:=g2 q hv;omega⟩)
   replace B:=B.grown G2 B.size (fun q e=>by have z1:=ZG.out;have z2:=Zw5.out;have z3:=Zw7.out;have z4:=Zw9.out;have x1:=LX.out;have x2:=LXB.out;have n0:=ZN.out;have n1:=LN1.out;have n2:=LN2.out;have g1:=LG1.out;have g2:=LG2.out;simp only[Value.ownBlock,Option.some.injEq] at e;omega)
   clear KM G1 G2 Ek1
   obtain⟨bb0,bb1,bb2,_⟩:=zaf F.out.2.2.2.1
   have KM:=zuf cc nn os (some ⟨ib,0,none⟩) os.length os.length _ k1 wn (by omega) pk1 bk1 F.out.2.2.2.2.2.2.2.2.2.2.1
   have hk0:¬ (k1:Int)+3*(os.length:Int)<0:=by omega
   have hkb:decide ((k1:Int)+3*(os.length:Int)<0)=false:=decide_eq_false hk0
   go_wp2_with fail
   refine KM.mono ?_
   rintro e wo ⟨he,_,G2⟩
   subst he
   clear bb0 bb1 bb2
   replace F:=putF F.out.1 F.out.2.1 F.out.2.2.1 F.out.2.2.2.1 F.out.2.2.2.2.1 F.out.2.2.2.2.2.1 F.out.2.2.2.2.2.2.1 F.out.2.2.2.2.2.2.2.1 F.out.2.2.2.2.2.2.2.2.1 F.out.2.2.2.2.2.2.2.2.2.1 (World.ownsRow_nil wn 0 0 0) F.out.2.2.2.2.2.2.2.2.2.2.2.1 F.out.2.2.2.2.2.2.2.2.2.2.2.2
   replace F:=zg1 F G2 (fun q e=>by have z1:=ZG.out;have z2:=Zw5.out;have z3:=Zw7.out;have z4:=Zw9.out;have x1:=LX.out;have x2:=LXB.out;have n0:=ZN.out;have n1:=LN1.out;have n2:=LN2.out;have g1:=LG1.out;have g2:=LG2.out;simp only[Value.ownBlock,Option.some.injEq] at e;exact⟨by omega,by omega,by omega,by omega,by omega,by omega,fun hv=>by have h1:=n1 q hv;omega,fun hv=>by have h1:=n2 q hv;omega,nofun,nofun,nofun,fun hv=>by have h1:=g1 q hv;omega,fun hv=>by have h1:=g2 q hv;omega⟩)
   replace B:=B.grown G2 B.size (fun q e=>by have z1:=ZG.out;have z2:=Zw5.out;have z3:=Zw7.out;have z4:=Zw9.out;have x1:=LX.out;have x2:=LXB.out;have n0:=ZN.out;have n1:=LN1.out;have n2:=LN2.out;have g1:=LG1.out;have g2:=LG2.out;simp only[Value.ownBlock,Option.some.injEq] at e;omega)
   clear KM G2
   obtain⟨bg0,bg1,bg2,bg3,_⟩:=zj F.out.2.2.2.2.2.1
   obtain⟨bw0,bw1,bw2,bw3,_⟩:=zj F.out.2.2.2.2.1
   go_wp2_with fail
   clear bg0 bg1 bg2 bg3
   clear bw0 bw1 bw2 bw3
   refine (zi9 rx rt ns ses _ _ _ _ _ _ _ _ _ (by omega) (zac F.out.2.2.2.2.2.2.2.2.2.2.2.1).2.2 (zac F.out.2.2.2.2.2.2.1).2.2 (by omega) (zcl F.out.2.2.2.2.2.2.2.2.2.2.2.2).2.2 (zcl F.out.2.2.2.2.2.2.2.1).2.2).mono ?_
   rintro e wp ⟨rfl,b9⟩
   replace F:=zby F b9
   replace B:=B.trans (b9.mono B.size)
   clear b9
   clear hk0 hkb bk1 pk1 hn10 hn20
   obtain⟨k2,hk2⟩:∃ k2:Nat,k2=1+2*ns.length+2*ses.length:=⟨_,rfl⟩
   have Ek2:Hid ((1:Int)+2*(ns.length:Int)+2*(ses.length:Int)=(k2:Int)):=by rw[Hid];omega
   have bk2:k2≤8000000:=by omega
   have pk2:0<k2:=by omega
   clear hk2
   have hk0:¬ (k2:Int)<0:=by omega
   have hkb:decide ((k2:Int)<0)=false:=decide_eq_false hk0
   obtain⟨bg0,bg1,bg2,bg3,_⟩:=zj F.out.2.2.2.2.2.1
   have KM:=zqk rx rt ns ses h1 h2 ns.length hk1 ses.length hk2 _ 1 wp (by omega) (by omega) (by omega) (by omega) APG.out F.out.2.2.2.2.2.2.2.2.2.2.2.1 F.out.2.2.2.2.2.2.2.2.2.2.2.2
   go_wp2_with fail
   refine KM.mono ?_
   rintro e wr ⟨he,o9,p9,wq,G1,G2⟩
   rw[show ((1:Nat):Int)+2*(ns.length:Int)+2*(ses.length:Int)=(k2:Int) from Ek2.out] at he
   subst he
   clear bg0 bg1 bg2 bg3
   replace F:=putF F.out.1 F.out.2.1 F.out.2.2.1 F.out.2.2.2.1 F.out.2.2.2.2.1 F.out.2.2.2.2.2.1 F.out.2.2.2.2.2.2.1 F.out.2.2.2.2.2.2.2.1 F.out.2.2.2.2.2.2.2.2.1 F.out.2.2.2.2.2.2.2.2.2.1 F.out.2.2.2.2.2.2.2.2.2.2.1 (World.ownsRow_nil wp 0 0 0) F.out.2.2.2.2.2.2.2.2.2.2.2.2
   replace F:=zg1 F G1 (fun q e=>by have z1:=ZG.out;have z2:=Zw5.out;have z3:=Zw7.out;have z4:=Zw9.out;have x1:=LX.out;have x2:=LXB.out;have n0:=ZN.out;have n1:=LN1.out;have n2:=LN2.out;have g1:=LG1.out;have g2:=LG2.out;have h2:=g1 q e;exact⟨by omega,by omega,by omega,by omega,by omega,by omega,fun hv=>by have h1:=n1 q hv;omega,fun hv=>by have h1:=n2 q hv;omega,nofun,nofun,nofun,nofun,APG.out q e⟩)
   replace B:=B.grown G1 B.size (fun q e=>by have z1:=ZG.out;have z2:=Zw5.out;have z3:=Zw7.out;have z4:=Zw9.out;have x1:=LX.out;have x2:=LXB.out;have n0:=ZN.out;have n1:=LN1.out;have n2:=LN2.out;have g1:=LG1.out;have g2:=LG2.out;have h2:=g1 q e;omega)
   replace F:=putF F.out.1 F.out.2.1 F.out.2.2.1 F.out.2.2.2.1 F.out.2.2.2.2.1 F.out.2.2.2.2.2.1 F.out.2.2.2.2.2.2.1 F.out.2.2.2.2.2.2.2.1 F.out.2.2.2.2.2.2.2.2.1 F.out.2.2.2.2.2.2.2.2.2.1 F.out.2.2.2.2.2.2.2.2.2.2.1 F.out.2.2.2.2.2.2.2.2.2.2.2.1 (World.ownsRow_nil wq 0 0 0)
   replace F:=zg1 F G2 (fun q e=>by have z1:=ZG.out;have z2:=Zw5.out;have z3:=Zw7.out;have z4:=Zw9.out;have x1:=LX.out;have x2:=LXB.out;have n0:=ZN.out;have n1:=LN1.out;have n2:=LN2.out;have g1:=LG1.out;have g2:=LG2.out;have h2:=g2 q e;exact⟨by omega,by omega,by omega,by omega,by omega,by omega,fun hv=>by have h1:=n1 q hv;omega,fun hv=>by have h1:=n2 q hv;omega,nofun,nofun,nofun,nofun,nofun⟩)
   replace B:=B.grown G2 B.size (fun q e=>by have z1:=ZG.out;have z2:=Zw5.out;have z3:=Zw7.out;have z4:=Zw9.out;have x1:=LX.out;have x2:=LXB.out;have n0:=ZN.out;have n1:=LN1.out;have n2:=LN2.out;have g1:=LG1.out;have g2:=LG2.out;have h2:=g2 q e;omega)
   replace F:=putF F.out.1 F.out.2.1 F.out.2.2.1 F.out.2.2.2.1 F.out.2.2.2.2.1 F.out.2.2.2.2.2.1 F.out.2.2.2.2.2.2.1 F.out.2.2.2.2.2.2.2.1 F.out.2.2.2.2.2.2.2.2.1 F.out.2.2.2.2.2.2.2.2.2.1 F.out.2.2.2.2.2.2.2.2.2.2.1 o9 p9
   clear KM G1 G2 o9 p9
   obtain⟨bg0,bg1,bg2,bg3,_⟩:=zj F.out.2.2.2.2.2.1
   have KM:=zn3 rx rt ns.length ses.length h1 h2 ns.length hk1 ses.length hk2 _ 1 wr (by omega) (by omega) (by omega) (by omega) F.out.2.2.2.2.2.2.2.2.2.2.2.1 F.out.2.2.2.2.2.2.2.2.2.2.2.2
   go_wp2_with fail
   refine KM.mono ?_
   rintro e ws ⟨he,bh⟩
   rw[show ((1:Nat):Int)+2*(ns.length:Int)+2*(ses.length:Int)=(k2:Int) from Ek2.out] at he
   subst he
   clear bg0 bg1 bg2 bg3
   replace F:=zby F bh
   replace B:=B.trans (bh.mono B.size)
   clear KM bh
   have SB:Hid (∀ W,Below ws.heap.size ws W→W.cell? ⟨w.heap.size,0,none⟩=some (.int .i64 ix)∧W.cell? ⟨w.heap.size,1,none⟩=some (.string ⟨r.toArray⟩)∧W.cell? ⟨w.heap.size,2,none⟩=some (.slice a ps.length cap)∧W.cell? ⟨w.heap.size,3,none⟩=some (.slice c ss.length cap2)∧W.cell? ⟨w.heap.size+1,0,none⟩=some (.int .i64 cc)∧W.cell? ⟨w.heap.size+1,1,none⟩=some (.int .i64 nn)∧W.cell? ⟨w.heap.size+1,2,none⟩=some (.slice b os.length cb)):=fun W hW=>by
    obtain⟨u0,u1,u2,u3,_⟩:=zj ((hW.block _ (lt_of_block F.out.1)).trans F.out.1)
    obtain⟨v0,v1,v2,_⟩:=zaf ((hW.block _ (lt_of_block F.out.2.1)).trans F.out.2.1)
    exact⟨u0,u1,u2,u3,v0,v1,v2⟩
   have BD:Below ws.heap.size ws ws.drew:=⟨rfl,rfl,rfl,Nat.le_refl _,fun _ _=>rfl⟩
   have b0:=zce ws (.cells #[.int .i64 0,.string ⟨#[]⟩,.slice none 0 0,.slice none 0 0] 34)
   have BDa:Below ws.heap.size ws (ws.alloc (.cells #[.int .i64 0,.string ⟨#[]⟩,.slice none 0 0,.slice none 0 0] 34)).drew:=⟨b0.os,b0.tape,b0.output,b0.size,b0.block⟩
   have WD:=B.trans (BD.mono B.size)
   have WDa:=B.trans (BDa.mono B.size)
   have hza:(ws.alloc (.cells #[.int .i64 0,.string ⟨#[]⟩,.slice none 0 0,.slice none 0 0] 34)).drew.heap.size=ws.heap.size+1:=by show (ws.alloc _).heap.size=_;simp
   go_upto_region 31 with fail
   go_cut [17,18] from 98 (fun v u wx=>∃ (g:Nat) (f1:Option Addr) (fk1:Nat) (f2:Option Addr) (fk2:Nat),v=.pointer (some ⟨g,0,none⟩)∧u=.int .i64 rc∧Hid (SReg ws wx rx rt ns ses g f1 fk1 f2 fk2))
   case first =>
    go_region_held3 (fun w'=>w'.cell? ⟨w.heap.size,0,none⟩=some (.int .i64 ix)∧w'.cell? ⟨w.heap.size,1,none⟩=some (.string ⟨r.toArray⟩)∧w'.cell? ⟨w.heap.size,2,none⟩=some (.slice a ps.length cap)∧w'.cell? ⟨w.heap.size,3,none⟩=some (.slice c ss.length cap2)∧w'.cell? ⟨w.heap.size+1,0,none⟩=some (.int .i64 cc)∧w'.cell? ⟨w.heap.size+1,1,none⟩=some (.int .i64 nn)∧w'.cell? ⟨w.heap.size+1,2,none⟩=some (.slice b os.length cb)) (first | exact SB.out _ (by repeat' first | with_reducible exact BC3.out | with_reducible exact BC2.out | with_reducible exact BC1.out | with_reducible exact BDa | with_reducible exact BD | (with_reducible refine Below.setCell ?_ ?_ _) | (with_reducible refine Below.alloc ?_ ?_ _) | omega | (dsimp only;omega)))
     (first
      | (go_at_call 7
         with_reducible refine (HTR.out _ (by first | exact WD | exact WDa)).mono ?_
         rintro e wti ⟨g3,h3,rfl,_,o3,p3,b3⟩
         have BC1:Hid (Below ws.heap.size ws wti):=by first | exact BD.trans (b3.mono BD.size) | exact BDa.trans (b3.mono BDa.size)
         have WC1:=B.trans (BC1.out.mono B.size)
         have WC1a:=WC1.alloc WC1.size (.cells #[.int .i64 0,.string ⟨#[]⟩,.slice none 0 0,.slice none 0 0] 34)
         first | (have s1:ws.heap.size+1≤wti.heap.size:=by rw[←hza];exact b3.size) | (have s1:ws.heap.size≤wti.heap.size:=BC1.out.size)
         first | (have N1:Hid (wti.heap[ws.heap.size]? = some (.cells #[.int .i64 0,.string ⟨#[]⟩,.slice none 0 0,.slice none 0 0] 34 (0,0))):=(b3.block ws.heap.size (by rw[hza];omega)).trans (heap_alloc_new ws _)) | skip
         have O3:=zc o3
         have P3:=zc p3
         clear o3 p3 b3)
      | (go_at_call 8
         with_reducible refine (HTB.out _ (by first | exact WC1 | exact WC1a)).mono ?_
         rintro e wtj ⟨g4,rfl,o4,b4⟩
         have hzb:(wti.alloc (.cells #[.int .i64 0,.string ⟨#[]⟩,.slice none 0 0,.slice none 0 0] 34)).heap.size=wti.heap.size+1:=by simp
         have b4':Hid (Below wti.heap.size wti wtj):=by first | exact b4 | exact (zce _ (.cells #[.int .i64 0,.string ⟨#[]⟩,.slice none 0 0,.slice none 0 0] 34)).trans (b4.mono (by simp))
         have BC2:Hid (Below ws.heap.size ws wtj):=BC1.out.trans (b4'.out.mono BC1.out.size)
         have WC2:=B.trans (BC2.out.mono B.size)
         have X2:=zce wtj (.cells #[.int .i64 0,.string ⟨#[]⟩,.slice none 0 0,.slice none 0 0] 34)
         have WC2a:=WC2.trans (X2.mono WC2.size)
         first | (have s2:wti.heap.size+1≤wtj.heap.size:=by rw[←hzb];exact b4.size) | (have s2:wti.heap.size≤wtj.heap.size:=b4'.out.size)
         first | (have N2:Hid (_=_):=(b4'.out.block _ (lt_of_block N1.out)).trans N1.out) | (have N2:Hid (wtj.heap[wti.heap.size]? = some (.cells #[.int .i64 0,.string ⟨#[]⟩,.slice none 0 0,.slice none 0 0] 34 (0,0))):=(b4.block wti.heap.size (by simp)).trans (heap_alloc_new wti _)) | skip
         have J3:=zaj O3.out b4'.out
         have K3:=zaj P3.out b4'.out
         have I4:Hid (IsPairs wtj (some ⟨g3,0,none⟩) ps∧IsSess wtj (some ⟨h3,0,none⟩) ss∧IsOps wtj (some ⟨g4,0,none⟩) os):=⟨(zac J3).2.2,(zcl K3).2.2,(zfz o4).2.2⟩
         have I4a:Hid (_∧_∧_):=⟨I4.out.1.later X2,I4.out.2.1.later X2,I4.out.2.2.later X2⟩
         clear o4 b4 J3 K3 X2)
      | (go_at_call 9
         first | with_reducible refine (HK2.out g3 h3 g4 wtj (HT.out.later WC2) I4.out.1 I4.out.2.1 I4.out.2.2).mono ?_ | with_reducible refine (HK2.out g3 h3 g4 _ (HT.out.later WC2a) I4a.out.1 I4a.out.2.1 I4a.out.2.2).mono ?_
         rintro e wtk ⟨f1,fk1,f2,fk2,rfl,o5,p5,n5,b5⟩
         have hzc:(wtj.alloc (.cells #[.int .i64 0,.string ⟨#[]⟩,.slice none 0 0,.slice none 0 0] 34)).heap.size=wtj.heap.size+1:=by simp
         have b5':Hid (Below wtj.heap.size wtj wtk):=by first | exact b5 | exact (zce _ (.cells #[.int .i64 0,.string ⟨#[]⟩,.slice none 0 0,.slice none 0 0] 34)).trans (b5.mono (by simp))
         have BC3:Hid (Below ws.heap.size ws wtk):=BC2.out.trans (b5'.out.mono BC2.out.size)
         have s3:=b5'.out.size
         have O5:=zc (o5.mono (show ws.heap.size≤_ by first | omega | (simp;omega)))
         have P5:=zc (p5.mono (show ws.heap.size≤_ by first | omega | (simp;omega)))
         have N5:Hid (∀ q,_→_):=n5
         first | (have L1:Hid (∀ q,(Value.slice f1 ns.length fk1).ownBlock=some q→wtj.heap.size+1≤q∧q<wtk.heap.size):=fun q hq=>by have h:=o5.lt q hq;rw[hzc] at h;exact h) | (have L1:Hid (∀ q,(Value.slice f1 ns.length fk1).ownBlock=some q→wtj.heap.size≤q∧q<wtk.heap.size):=fun q hq=>o5.lt q hq)
         first | (have L2:Hid (∀ q,(Value.slice f2 ses.length fk2).ownBlock=some q→wtj.heap.size+1≤q∧q<wtk.heap.size):=fun q hq=>by have h:=p5.lt q hq;rw[hzc] at h;exact h) | (have L2:Hid (∀ q,(Value.slice f2 ses.length fk2).ownBlock=some q→wtj.heap.size≤q∧q<wtk.heap.size):=fun q hq=>p5.lt q hq)
         first | (have N3:Hid (_=_):=(b5'.out.block _ (lt_of_block N2.out)).trans N2.out) | (have N3:Hid (wtk.heap[wtj.heap.size]? = some (.cells #[.int .i64 0,.string ⟨#[]⟩,.slice none 0 0,.slice none 0 0] 34 (0,0))):=(b5.block wtj.heap.size (by simp)).trans (heap_alloc_new wtj _)) | skip
         first | (have N4:=zj N3.out;obtain⟨z0,z1,z2,z3,zf⟩:=N4;have zf0:=zf 0;have zf1:=zf 1;have zf2:=zf 2;have zf3:=zf 3;clear zf) | skip
         clear o5 p5 n5 b5))
    all_goals go_wp2_with fail
    all_goals go_meet
    all_goals refine⟨_,f1,fk1,f2,fk2,rfl,rfl,?_⟩
    all_goals first
     | (have X:=N3;exact zhc X.out (by omega) O5.out P5.out (fun e=>by have h:=L1.out _ e;omega) (fun e=>by have h:=L2.out _ e;omega) N5.out BC3.out)
     | exact zjr O5.out P5.out N5.out BC3.out
   case rest =>
   obtain⟨gf,f1,fk1,f2,fk2,rfl,rfl,HG⟩:=hcut
   obtain⟨wt,rfl⟩:∃ W,W=wc:=⟨_,rfl⟩
   obtain⟨rf,hf,Rf1,Rf2,⟨n1f,n2f⟩,Nf,b9⟩:=HG.out
   clear SB BD BDa b0 WD WDa hza HG
   replace F:=zby F b9
   replace B:=B.trans (b9.mono B.size)
   replace F:=putF F.out.1 F.out.2.1 rf F.out.2.2.2.1 F.out.2.2.2.2.1 F.out.2.2.2.2.2.1 F.out.2.2.2.2.2.2.1 F.out.2.2.2.2.2.2.2.1 Rf1 Rf2 F.out.2.2.2.2.2.2.2.2.2.2.1 F.out.2.2.2.2.2.2.2.2.2.2.2.1 F.out.2.2.2.2.2.2.2.2.2.2.2.2
   clear rf Rf1 Rf2 b9 n1f n2f Nf hf
   obtain⟨bx0,bx1,bx2,bx3,_⟩:=zj F.out.2.2.1
   obtain⟨bw0,bw1,bw2,bw3,_⟩:=zj F.out.2.2.2.2.1
   go_wp2_with fail
   clear bx0 bx1 bx2 bx3
   clear bw0 bw1 bw2 bw3
   refine (zi9 rx rt ns ses _ _ _ _ _ _ _ _ _ (by omega) (zac F.out.2.2.2.2.2.2.2.2.1).2.2 (zac F.out.2.2.2.2.2.2.1).2.2 (by omega) (zcl F.out.2.2.2.2.2.2.2.2.2.1).2.2 (zcl F.out.2.2.2.2.2.2.2.1).2.2).mono ?_
   rintro e wu ⟨rfl,b9⟩
   replace F:=zby F b9
   replace B:=B.trans (b9.mono B.size)
   clear b9
   obtain⟨bg0,bg1,bg2,bg3,_⟩:=zj F.out.2.2.2.2.2.1
   have KM:=zn3 rx rt ns.length ses.length h1 h2 ns.length hk1 ses.length hk2 _ 1 wu (by omega) (by omega) (by omega) (by omega) F.out.2.2.2.2.2.2.2.2.2.2.2.1 F.out.2.2.2.2.2.2.2.2.2.2.2.2
   go_wp2_with fail
   refine KM.mono ?_
   rintro e wv ⟨he,bh⟩
   rw[show ((1:Nat):Int)+2*(ns.length:Int)+2*(ses.length:Int)=(k2:Int) from Ek2.out] at he
   subst he
   clear bg0 bg1 bg2 bg3
   replace F:=zby F bh
   replace B:=B.trans (bh.mono B.size)
   clear KM bh
   go_wp2
   go_ret
   exact⟨rfl,B⟩
theorem lifted (os:Os) (started:os.Started) (H:Type) (enc:TypeId × Value→H) :
 ReturnsInHanded {} Tryz.checked os 3 .any (fun w args=>(Rows.fnExactAppliedSpec.pre enc Tryz.prog Tryz.f3 [] false w args∧laidMetH Tryz.prog Rows.fnExactAppliedRow.laid w)∧sizedMet enc Tryz.prog Tryz.f3 (OpenSpec.ofChange Rows.fnExactAppliedSpec) false w args)
  (Rows.fnExactAppliedSpec.post enc Tryz.prog Tryz.f3 false true false false):=by
 refine returnsInHanded_of_change_and (C:=Tryz.checked) (X:=fun w _=>laidMetH Tryz.prog Rows.fnExactAppliedRow.laid w) (fun _ _ _ hh h=>h.of_heap hh) own started (by kernel_rfl) Tryz.func3
  (ChangeSpec.witness_shaped (enc:=enc) (C:=Tryz.checked) (os:=os) (X:=fun w _=>laidMetH Tryz.prog Rows.fnExactAppliedRow.laid w) false (World.doorLaid Tryz.prog 400 os) #[.agg #[.int .i64 0,.string ByteArray.empty,.slice none 0 0,.slice none 0 0],.int .i64 0,.agg #[.int .i64 0,.int .i64 0,.slice none 0 0]] 8 rfl (World.shaped_of_RefB (by kernel_rfl) (by kernel_rfl)) (by kernel_rfl) (by kernel_rfl) (by kernel_rfl) (door_met os _)) ?_
 intro W base args ds gs before hval0 hW _ _ hL _
 have hval:∀ (j:Nat) t v,Tryz.f3.params[j]? = some t→args[j]? = some v→Value.okWide Tryz.prog W .any base t v:=hval0
 have hW':=hW
 obtain⟨p,q,hA0,hV0,rfl,hfz,hnd⟩:=hW
 have hA:DataW.TrodAll enc Tryz.prog W 0 (fun _=>true) true Tryz.f3.params.toList args.toList ds p:=hA0
 have hV : DataW.TrodVars enc Tryz.prog W (fun _ => true) ["loop.example/g00226/impl.roundWords"] gs q := hV0
 rw[Tryz.params3] at hA hval
 obtain⟨v0,vs0,d0,ds0,p0,q0,hargs,rfl,rfl,h0,r0⟩:=trodAll_cons hA
 obtain⟨v1,vs1,d1,ds1,p1,q1,hargs1,rfl,rfl,h1,r1⟩:=trodAll_cons r0
 obtain⟨v2,vs2,d2,ds2,p2,q2,hargs2,rfl,rfl,h2,r2⟩:=trodAll_cons r1
 obtain⟨rfl,rfl,rfl⟩:=trodAll_nil r2
 obtain rfl:args=#[v0,v1,v2]:=by cases args;simp_all
 have k0:=h0
 have k1:=h1
 have k2:=h2
 have lt0:∀ x∈p0,x.block<W.heap.size:=by obtain⟨m,hm⟩:=k0;exact DataW.trod_lt m _ _ _ hm
 have lt1:∀ x∈p1,x.block<W.heap.size:=by obtain⟨m,hm⟩:=k1;exact DataW.trod_lt m _ _ _ hm
 have lt2:∀ x∈p2,x.block<W.heap.size:=by obtain⟨m,hm⟩:=k2;exact DataW.trod_lt m _ _ _ hm
 obtain⟨ix,rr,a0,cap0,ps,c0,cap1,ss,hv0,hrl,hm,hs,hbig,hs2,hbig2⟩:=za1b (hval 0 25 v0 rfl rfl) h0
 obtain⟨jx,hv1⟩:∃ tn:Int,v1=.int .i64 tn:=by
  obtain⟨n9,rfl,_⟩:=okWide_int Tryz.underlying2 (hval 1 2 v1 rfl rfl)
  exact⟨n9,rfl⟩
 obtain⟨cc,nn,b0,cb0,oo,hv2,hs3,hl3,hm3⟩:=zu7 (hval 2 28 v2 rfl rfl) h2
 subst hv0 hv1 hv2
 obtain⟨g,t,cs,fuel,d,p',rfl,hg,ht,hvar,hd,rfl⟩:=trodVars_one hV
 obtain rfl:=Option.some.inj (gTab.symm.trans hg)
 obtain rfl:=Option.some.inj (tTab.symm.trans ht)
 have hT:=zug hL
 have hltv:∀ x∈p',x.block<W.heap.size:=fun x hx=>hW'.lt x (List.mem_append_right _ (List.mem_append_right _ hx))
 clear hA0 hV0 hval0 hA hV
 refine (walk ix rr a0 cap0 ps c0 cap1 ss jx cc nn b0 cb0 oo W hrl hbig hm hs hbig2 hs2 hl3 hm3 hs3 hT).mono fun e W' ⟨he,hB⟩=>?_
 subst he
 obtain⟨fuel',hd'⟩:=Below.trod zh4 (by kernel_rfl) (of_decide_eq_true (by kernel_rfl)) (v:=.agg cs) (⟨fuel,by simpa [Value.cells] using hd⟩:DataW.Trod enc Tryz.prog W 0 (fun _=>true) true 252 (.agg cs) d p') hB hltv
 have hv':=trodVars_mk1 (enc:=enc) (spare:=fun b=>decide (b<W.heap.size)) hg ht (var?_below hB hg hT.1 hvar) (by simpa [Value.cells] using hd')
 exact⟨_,rfl,_,_,_,[],_,_,hW',trodAll_mk1 (shut_bool Tryz.underlying4 _),(trodAll_cons_mk (Below.trod zh4 (by kernel_rfl) (of_decide_eq_true (by kernel_rfl)) k0 hB lt0) (trodAll_cons_mk (Below.trod zh4 (by kernel_rfl) (of_decide_eq_true (by kernel_rfl)) k1 hB lt1) (trodAll_cons_mk (Below.trod zh4 (by kernel_rfl) (of_decide_eq_true (by kernel_rfl)) k2 hB lt2) trodAll_mk0))),hv',hB.frame _,fun h=>by cases h⟩
theorem named0 : Tryz.prog.funcNamed "loop.example/g00226/laws.FnExactApplied" = some 3 := by kernel_rfl
theorem zuj:joinedFacts Tryz.prog 3 Tryz.f3 Rows.fnExactAppliedSpec Rows.fnExactAppliedRow=true:=by
 unfold joinedFacts
 rw[za2j,za2k,za2l]
 kernel_rfl
theorem zuk:Tryz.f3.isInstance Tryz.prog Rows.fnExactAppliedRow.origin Rows.fnExactAppliedRow.targs:=of_decide_eq_true (by kernel_rfl)
theorem zul:Tryz.f3.isWrapper Tryz.prog Rows.fnExactAppliedRow.wrapper Rows.fnExactAppliedRow.mainSum:=by unfold Func.isWrapper;first | (rw[if_pos (by decide +kernel)];kernel_rfl) | (rw[if_neg (by decide +kernel)];exact⟨rfl,rfl⟩)
theorem over:Rows.fnExactAppliedRow.holds Tryz.pinned (OpenSpec.ofChange Rows.fnExactAppliedSpec) :=
 OpenClaim.holds_of_wide 3 Tryz.f3 rfl rfl rfl rfl rfl rfl rfl ⟨rfl,rfl,rfl,rfl,rfl⟩ rfl rfl rfl rfl rfl named0 Tryz.func3 zuj zuk zul
  (fun os started H enc _=>lifted os started H enc)
theorem text0:Rows.fnExactAppliedRow.wfByText (OpenSpec.ofChange Rows.fnExactAppliedSpec)=true:=by kernel_rfl
theorem zum:true=Tryz.prog.looks []:=by kernel_rfl
theorem zun:false=Rows.fnExactAppliedRow.goesBy Tryz.prog:=by kernel_rfl
theorem zuo:([25,2,28].all fun u => !Tryz.prog.wantsStandIn u)=true:=by kernel_rfl
theorem card:Claim7.holds Tryz.pinned (.plain (OpenSpec.ofChange Rows.fnExactAppliedSpec)) Rows.fnExactAppliedCard :=
 Claim7.holds_tied_plain_at .later [] [.data] true (true,Rows.fnExactAppliedCard.stood.harness.2) true
  over (fun _ h=>by cases h) text0 (fun _ h=>by cases h) fnExactApplied_row_tie rfl ⟨rfl,rfl⟩ za2m rfl
  (fun f fn hf hfn => by
   obtain rfl:f=3:=Option.some.inj (named0.symm.trans hf) |>.symm
   obtain rfl:fn=Tryz.f3:=(Option.some.inj (Tryz.func3.symm.trans hfn)).symm
   exact⟨zum,fun j t ht=>by
    rw[Tryz.params3] at ht
    have hm:t∈[25,2,28]:=by simpa using Array.mem_of_getElem? ht
    exact (show Tryz.prog.wantsStandIn t=false by simpa using List.all_eq_true.1 zuo t hm)⟩)
  zun
end Go.Proofs.YtppljdnbhoeeoaaGreatDoor.fnExactApplied
namespace Go.Proofs.YtppljdnbhoeeoaaGreatDoor
theorem fnExactApplied_holds:Rows.FnExactAppliedCardSaid:=fnExactApplied.card
end Go.Proofs.YtppljdnbhoeeoaaGreatDoor
