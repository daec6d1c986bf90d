/-
 Contract: Applied, of the program.
-/
import Derived.Test.YtppljdnbhoeeoaaGreatDoorApdM
namespace Go.Proofs.YtppljdnbhoeeoaaGreatDoor
open Go.RowKit Go.Maps
set_option linter.unusedVariables false
set_option maxHeartbeats 8000000
set_option maxRecDepth 100000
def SReg (W0 wx:World) (ix0:Int) (root:List UInt8) (ps:List za) (ss:List zg) (sa:Nat) (a1:Option Addr) (c1:Nat) (a2:Option Addr) (c2:Nat):Prop :=
 wx.heap[sa]? = some (.cells #[.int .i64 ix0,.string ⟨root.toArray⟩,.slice a1 ps.length c1,.slice a2 ss.length c2] 34 (0,0))∧W0.heap.size≤sa∧wx.ownsRow W0.heap.size 59 2 (.slice a1 ps.length c1) ps.length (zb ps)∧wx.ownsRow W0.heap.size 62 2 (.slice a2 ss.length c2) ss.length (zl ss) ∧
  ((Value.slice a1 ps.length c1).ownBlock≠some sa∧(Value.slice a2 ss.length c2).ownBlock≠some sa)∧(∀ q,(Value.slice a1 ps.length c1).ownBlock=some q→(Value.slice a2 ss.length c2).ownBlock≠some q)∧Below W0.heap.size W0 wx
theorem zhc {W0 w:World} {ix0:Int} {root:List UInt8} {ps:List za} {ss:List zg} {sa:Nat} {a1 a2:Option Addr} {c1 c2:Nat} {u v x y:Value} (h:w.heap[sa]? = some (.cells #[u,v,x,y] 34 (0,0))) (hB:W0.heap.size≤sa) (o1:w.ownsRow W0.heap.size 59 2 (.slice a1 ps.length c1) ps.length (zb ps)) (o2:w.ownsRow W0.heap.size 62 2 (.slice a2 ss.length c2) ss.length (zl ss))
 (n1:(Value.slice a1 ps.length c1).ownBlock≠some sa) (n2:(Value.slice a2 ss.length c2).ownBlock≠some sa) (ne:∀ q,(Value.slice a1 ps.length c1).ownBlock=some q→(Value.slice a2 ss.length c2).ownBlock≠some q) (b:Below W0.heap.size W0 w) :
 SReg W0 ((((w.setCell ⟨sa,0,none⟩ (.int .i64 ix0)).setCell ⟨sa,1,none⟩ (.string ⟨root.toArray⟩)).setCell ⟨sa,2,none⟩ (.slice a1 ps.length c1)).setCell ⟨sa,3,none⟩ (.slice a2 ss.length c2)) ix0 root ps ss sa a1 c1 a2 c2 :=
 ⟨zef _ _ _ _ h,hB,zdy o1 n1 _ _ _ _,zdy o2 n2 _ _ _ _,⟨n1,n2⟩,ne,zeg b hB _ _ _ _⟩
theorem zjr {W0 w:World} {ix0:Int} {root:List UInt8} {ps:List za} {ss:List zg} {a1 a2:Option Addr} {c1 c2:Nat} (o1:w.ownsRow W0.heap.size 59 2 (.slice a1 ps.length c1) ps.length (zb ps)) (o2:w.ownsRow W0.heap.size 62 2 (.slice a2 ss.length c2) ss.length (zl ss)) (ne:∀ q,(Value.slice a1 ps.length c1).ownBlock=some q→(Value.slice a2 ss.length c2).ownBlock≠some q) (b:Below W0.heap.size W0 w) :
 SReg W0 (w.alloc (.cells #[.int .i64 ix0,.string ⟨root.toArray⟩,.slice a1 ps.length c1,.slice a2 ss.length c2] 34)) ix0 root ps ss w.heap.size a1 c1 a2 c2 :=
 ⟨heap_alloc_new w _,b.size,o1.alloc _,o2.alloc _,⟨fun e=>absurd (o1.lt _ e).2 (by omega),fun e=>absurd (o2.lt _ e).2 (by omega)⟩,ne,b.alloc b.size _⟩
theorem zvt (ix0 : Int) (root : List UInt8) (ga oa cap : Nat) (ps : List za) (gc oc cap2 : Nat) (ss : List zg) (ix c n : Int) (b : Option Addr) (cb : Nat) (os : List OpL) (w : World) (hT : Tab w) (hr : root.length ≤ 1048576)
 (hl:ps.length≤1048576) (hm:∀ p∈ps,p.1.length≤1048576∧p.2.length≤1048576) (hs:IsPairs w (some ⟨ga,oa,none⟩) ps) (hl2:ss.length≤1048576) (hs2:IsSess w (some ⟨gc,oc,none⟩) ss)
 (hlo:os.length≤1048576) (hmo:∀ p∈os,p.1.length≤1048576∧p.2.1.length≤1048576) (hso:IsOps w b os) :
 Calls Tryz.prog 9 #[.agg #[.int .i64 ix0,.string ⟨root.toArray⟩,.slice (some ⟨ga,oa,none⟩) ps.length cap,.slice (some ⟨gc,oc,none⟩) ss.length cap2],.int .i64 ix,.agg #[.int .i64 c,.int .i64 n,.slice b os.length cb]] w fun e w'=>zf4 w (apR (ix0,root,ps,ss) ix c n os) e w':=by
 obtain⟨wa,hwa⟩:∃ wa,wa=((w.alloc (.cells #[.int .i64 ix0,.string ⟨root.toArray⟩,.slice (some ⟨ga,oa,none⟩) ps.length cap,.slice (some ⟨gc,oc,none⟩) ss.length cap2] 34)).alloc (.cells #[.int .i64 c,.int .i64 n,.slice b os.length cb] 40)).alloc (.cells #[.int .i64 0,.string ⟨#[]⟩,.slice none 0 0,.slice none 0 0] 34):=⟨_,rfl⟩
 have hsz:wa.heap.size=w.heap.size+1+1+1:=by rw[hwa];simp
 have B1:Below w.heap.size w wa:=by rw[hwa];exact (((Below.refl _ _).alloc (Nat.le_refl _) _).alloc (by simp) _).alloc (by simp <;> omega) _
 have H1:Hid (wa.heap[w.heap.size]? = some (.cells #[.int .i64 ix0,.string ⟨root.toArray⟩,.slice (some ⟨ga,oa,none⟩) ps.length cap,.slice (some ⟨gc,oc,none⟩) ss.length cap2] 34 (0,0))):=by rw[hwa,Hid,Below.heap_alloc _ _ _ (by simp <;> omega),Below.heap_alloc _ _ _ (by simp)];exact heap_alloc_new w _
 have H2:Hid (wa.heap[w.heap.size+1]? = some (.cells #[.int .i64 c,.int .i64 n,.slice b os.length cb] 40 (0,0))):=by
  rw[hwa,Hid,Below.heap_alloc _ _ _ (by simp)]
  have:=heap_alloc_new (w.alloc (.cells #[.int .i64 ix0,.string ⟨root.toArray⟩,.slice (some ⟨ga,oa,none⟩) ps.length cap,.slice (some ⟨gc,oc,none⟩) ss.length cap2] 34)) (.cells #[.int .i64 c,.int .i64 n,.slice b os.length cb] 40)
  simpa using this
 have H3:Hid (wa.heap[w.heap.size+1+1]? = some (.cells #[.int .i64 0,.string ⟨#[]⟩,.slice none 0 0,.slice none 0 0] 34 (0,0))):=by
  rw[hwa,Hid]
  have:=heap_alloc_new ((w.alloc (.cells #[.int .i64 ix0,.string ⟨root.toArray⟩,.slice (some ⟨ga,oa,none⟩) ps.length cap,.slice (some ⟨gc,oc,none⟩) ss.length cap2] 34)).alloc (.cells #[.int .i64 c,.int .i64 n,.slice b os.length cb] 40)) (.cells #[.int .i64 0,.string ⟨#[]⟩,.slice none 0 0,.slice none 0 0] 34)
  simpa using this
 have K1:=za0i ix0 root (some ⟨ga,oa,none⟩) cap ps (some ⟨gc,oc,none⟩) cap2 ss wa (hT.later B1) hr hl hm (hs.later B1) hl2 (hs2.later B1)
 have HC1:Hid (∀ W,Below w.heap.size w W→_):=fun W hW=>zth ga oa cap ps W hl (hs.later hW)
 have HC2:Hid (∀ W,Below w.heap.size w W→_):=fun W hW=>ztg gc oc cap2 ss W hl2 (hs2.later hW)
 have HK2:Hid (∀ W,Below w.heap.size w W→_):=fun W hW=>zub c n b cb os W hlo hmo (hso.later hW)
 have HK6:Hid (∀ h6 hr hb W,Below w.heap.size w W→_):=fun h6 hr hb W hW=>za4y (some ⟨gc,oc,none⟩) cap2 ss W h6 hr hb (hs2.later hW)
 have HSO:Hid (∀ W,Below w.heap.size w W→IsOps W b os):=fun W hW=>hso.later hW
 have HTT:Hid (∀ W,Below w.heap.size w W→Tab W):=fun W hW=>hT.later hW
 have wab:Hid (Below w.heap.size w wa):=B1
 have HSZ:Hid (wa.heap.size=w.heap.size+1+1+1):=hsz
 clear hs hs2 hso B1 hT
 go_enter Tryz.func9,Tryz.ntmps9
 go_wp2_with fail
 rw[←hwa]
 clear hwa
 unfold zdw at K1
 cases hrep:repR ix0 root ps ss with
 | none =>
   rw[hrep] at K1
   simp only[Option.getD_none,Option.isSome_none] at K1
   have HA:=zja (r:=(ix0,root,ps,ss)) (ix:=ix) (c:=c) (n:=n) (os:=os) hrep
   refine K1.mono ?_
   rintro e w1 ⟨a5,m5,c5,rfl,o5,b5⟩
   have R3:Hid (_=_):=(b5.block _ (by omega)).trans H3.out
   have W1:=wab.out.trans (b5.mono wab.out.size)
   clear K1 o5 b5 hrep
   obtain⟨z0,z1,z2,z3,zf⟩:=zj R3.out
   have zf0:=zf 0
   have zf1:=zf 1
   have zf2:=zf 2
   have zf3:=zf 3
   clear zf
   go_wp2
   exact zbm (B:=w.heap.size+1+1+1) (root:=[]) (ps:=[]) (ss:=[]) HA rfl rfl rfl rfl R3.out (World.ownsRow_nil _ _ _ _) (World.ownsRow_nil _ _ _ _) ⟨by omega,by omega⟩ (fun q hq=>by simp[Value.ownBlock] at hq) W1
 | some l =>
   rw[hrep] at K1
   simp only[Option.getD_some,Option.isSome_some] at K1
   refine K1.mono ?_
   rintro e w1 ⟨a5,m5,c5,rfl,o5,b5⟩
   obtain⟨rfl,_,i5⟩:=zac o5
   have R1:Hid (_=_):=(b5.block _ (by omega)).trans H1.out
   have R2:Hid (_=_):=(b5.block _ (by omega)).trans H2.out
   have R3:Hid (_=_):=(b5.block _ (by omega)).trans H3.out
   have W1:Hid (Below w.heap.size w w1):=wab.out.trans (b5.mono wab.out.size)
   have I5:Hid (∀ W,Below w1.heap.size w1 W→IsPairs W a5 l):=fun W hW=>i5.later hW
   have h15:Hid (w.heap.size+1+1+1≤w1.heap.size):=by have:=b5.size;rw[Hid];omega
   clear K1 o5 b5 i5 H1 H2 H3 wab
   obtain⟨x00,x01,x02,x03,_⟩:=zj R1.out
   have SB:Hid (∀ w',Below w1.heap.size w1 w'→w'.cell? ⟨w.heap.size,0,none⟩=some (.int .i64 ix0)∧w'.cell? ⟨w.heap.size,1,none⟩=some (.string ⟨root.toArray⟩)∧w'.cell? ⟨w.heap.size,2,none⟩=some (.slice (some ⟨ga,oa,none⟩) ps.length cap)∧w'.cell? ⟨w.heap.size,3,none⟩=some (.slice (some ⟨gc,oc,none⟩) ss.length cap2)):=fun W hW=>by
    obtain⟨u0,u1,u2,u3,_⟩:=zj ((hW.block _ (lt_of_block R1.out)).trans R1.out)
    exact⟨u0,u1,u2,u3⟩
   have BD:Below w1.heap.size w1 w1.drew:=⟨rfl,rfl,rfl,Nat.le_refl _,fun _ _=>rfl⟩
   have b0:=(Below.refl w1.heap.size w1).alloc (Nat.le_refl _) (.cells #[.int .i64 0,.string ⟨#[]⟩,.slice none 0 0,.slice none 0 0] 34)
   have BDa:Below w1.heap.size w1 (w1.alloc (.cells #[.int .i64 0,.string ⟨#[]⟩,.slice none 0 0,.slice none 0 0] 34)).drew:=⟨b0.os,b0.tape,b0.output,b0.size,b0.block⟩
   have WD:=W1.out.trans (BD.mono W1.out.size)
   have WDa:=W1.out.trans (BDa.mono W1.out.size)
   have hza:(w1.alloc (.cells #[.int .i64 0,.string ⟨#[]⟩,.slice none 0 0,.slice none 0 0] 34)).drew.heap.size=w1.heap.size+1:=by show (w1.alloc _).heap.size=_;simp
   go_upto_region 4 with fail
   go_cut [10] from 21 (fun v wx=>∃ (sa:Nat) (a1:Option Addr) (c1:Nat) (a2:Option Addr) (c2:Nat),v=.pointer (some ⟨sa,0,none⟩)∧Hid (SReg w1 wx ix0 root ps ss sa a1 c1 a2 c2))
   case first =>
    go_region_held3 (fun w'=>w'.cell? ⟨w.heap.size,0,none⟩=some (.int .i64 ix0)∧w'.cell? ⟨w.heap.size,1,none⟩=some (.string ⟨root.toArray⟩)∧w'.cell? ⟨w.heap.size,2,none⟩=some (.slice (some ⟨ga,oa,none⟩) ps.length cap)∧w'.cell? ⟨w.heap.size,3,none⟩=some (.slice (some ⟨gc,oc,none⟩) ss.length cap2)) (first | exact SB.out _ (by repeat' first | with_reducible exact BC2.out | with_reducible exact BC1.out | with_reducible exact BDa | with_reducible exact BD | (with_reducible refine Below.setCell ?_ ?_ _) | (with_reducible refine Below.alloc ?_ ?_ _) | omega | (dsimp only;omega)))
     (first
      | (go_at_call 24
         with_reducible refine (HC1.out _ (by first | exact WD | exact WDa)).mono ?_
         rintro e w2 ⟨a1,c1,rfl,o1,b2⟩
         have BC1:Hid (Below w1.heap.size w1 w2):=by first | exact BD.trans (b2.mono BD.size) | exact BDa.trans (b2.mono BDa.size)
         have WC1:=W1.out.trans (BC1.out.mono W1.out.size)
         have WC1a:=WC1.alloc WC1.size (.cells #[.int .i64 0,.string ⟨#[]⟩,.slice none 0 0,.slice none 0 0] 34)
         first | (have s2:w1.heap.size+1≤w2.heap.size:=by rw[←hza];exact b2.size) | (have s2:w1.heap.size≤w2.heap.size:=BC1.out.size)
         first | (have N2:Hid (w2.heap[w1.heap.size]? = some (.cells #[.int .i64 0,.string ⟨#[]⟩,.slice none 0 0,.slice none 0 0] 34 (0,0))):=(b2.block w1.heap.size (by rw[hza];omega)).trans (heap_alloc_new w1 _)) | skip
         have O1:Hid (w2.ownsRow w1.heap.size 59 2 (.slice a1 ps.length c1) ps.length (zb ps)):=o1.mono (by first | exact Nat.le_refl _ | (rw[hza];omega))
         first | (have L1:Hid (∀ q,(Value.slice a1 ps.length c1).ownBlock=some q→w1.heap.size+1≤q∧q<w2.heap.size):=fun q hq=>by have h:=o1.lt q hq;rw[hza] at h;exact h) | (have L1:Hid (∀ q,(Value.slice a1 ps.length c1).ownBlock=some q→w1.heap.size≤q∧q<w2.heap.size):=fun q hq=>o1.lt q hq)
         clear o1 b2)
      | (go_at_call 25
         with_reducible refine (HC2.out _ (by first | exact WC1 | exact WC1a)).mono ?_
         rintro e w3 ⟨a2,c2,rfl,o2,b3⟩
         have b3':Hid (Below w2.heap.size w2 w3):=by first | exact b3 | exact ((Below.refl _ _).alloc (Nat.le_refl _) (.cells #[.int .i64 0,.string ⟨#[]⟩,.slice none 0 0,.slice none 0 0] 34)).trans (b3.mono (by simp))
         have BC2:Hid (Below w1.heap.size w1 w3):=BC1.out.trans (b3'.out.mono BC1.out.size)
         have s3:=BC2.out.size
         have O13:=zc (zaj O1.out b3'.out)
         have O2:Hid (w3.ownsRow w1.heap.size 62 2 (.slice a2 ss.length c2) ss.length (zl ss)):=o2.mono (by first | omega | (simp;omega))
         have hzb:(w2.alloc (.cells #[.int .i64 0,.string ⟨#[]⟩,.slice none 0 0,.slice none 0 0] 34)).heap.size=w2.heap.size+1:=by simp
         first | (have L2:Hid (∀ q,(Value.slice a2 ss.length c2).ownBlock=some q→w2.heap.size+1≤q∧q<w3.heap.size):=fun q hq=>by have h:=o2.lt q hq;rw[hzb] at h;exact h) | (have L2:Hid (∀ q,(Value.slice a2 ss.length c2).ownBlock=some q→w2.heap.size≤q∧q<w3.heap.size):=fun q hq=>o2.lt q hq)
         have NE:Hid (∀ q,(Value.slice a1 ps.length c1).ownBlock=some q→(Value.slice a2 ss.length c2).ownBlock≠some q):=fun q h1 h2=>by have:=(L1.out q h1).2;have:=(o2.lt q h2).1;first | omega | (simp at this;omega)
         first | (have N3:Hid (w3.heap[w1.heap.size]? = some (.cells #[.int .i64 0,.string ⟨#[]⟩,.slice none 0 0,.slice none 0 0] 34 (0,0))):=(b3'.out.block _ (lt_of_block N2.out)).trans N2.out) | (have N3:Hid (w3.heap[w2.heap.size]? = some (.cells #[.int .i64 0,.string ⟨#[]⟩,.slice none 0 0,.slice none 0 0] 34 (0,0))):=(b3.block w2.heap.size (by simp)).trans (heap_alloc_new w2 _)) | skip
         first | (have N4:=zj N3.out;obtain⟨z0,z1,z2,z3,zf⟩:=N4;have zf0:=zf 0;have zf1:=zf 1;have zf2:=zf 2;have zf3:=zf 3;clear zf) | skip
         clear o2 b3))
    all_goals go_wp2_with fail
    all_goals go_meet
    all_goals refine⟨_,a1,c1,a2,c2,rfl,?_⟩
    · exact zjr O13.out O2.out NE.out BC2.out
    · exact zhc N3.out (by omega) O13.out O2.out (fun e=>by have h:=L1.out _ e;omega) (fun e=>by have h:=L2.out _ e;omega) NE.out BC2.out
    · exact zhc N3.out (by omega) O13.out O2.out (fun e=>by have h:=L1.out _ e;omega) (fun e=>by have h:=L2.out _ e;omega) NE.out BC2.out
   case rest =>
    obtain⟨sa,a1,c1,a2,c2,rfl,HG⟩:=hcut
    obtain⟨w4,rfl⟩:∃ W,W=wc:=⟨_,rfl⟩
    obtain⟨g0,hsa,g1,g2,⟨n1,n2⟩,ne,q4⟩:=HG.out
    have w4r0:Hid (_=_):=(q4.block _ (lt_of_block R1.out)).trans R1.out
    have w4r1:Hid (_=_):=(q4.block _ (lt_of_block R2.out)).trans R2.out
    have w4r2:Hid (_=_):=(q4.block _ (lt_of_block R3.out)).trans R3.out
    have w4r3:Hid (w4.heap[sa]? = some (.cells #[.int .i64 ix0,.string ⟨root.toArray⟩,.slice a1 ps.length c1,.slice a2 ss.length c2] 34 (0,0))):=g0
    have w4o1:=zc g1
    have w4o2:=zc g2
    have w4b:Hid (Below w.heap.size w w4):=W1.out.trans (q4.mono W1.out.size)
    have Q4:Hid (Below w1.heap.size w1 w4):=q4
    have NX1:Hid ((Value.slice a1 ps.length c1).ownBlock≠some sa):=n1
    have NX2:Hid ((Value.slice a2 ss.length c2).ownBlock≠some sa):=n2
    have NE:Hid (∀ q,(Value.slice a1 ps.length c1).ownBlock=some q→(Value.slice a2 ss.length c2).ownBlock≠some q):=ne
    have HSA:Hid (w1.heap.size≤sa):=hsa
    clear HG g0 hsa g1 g2 n1 n2 ne q4 R1 R2 R3 SB BD BDa b0 WD WDa hza x00 x01 x02 x03 HC1 HC2
    have K2:=HK2.out w4 w4b.out
    clear HK2
    obtain⟨x10,x11,x12,_⟩:=zaf w4r1.out
    go_wp2_with fail
    refine K2.mono ?_
    rintro e w5 ⟨rfl,b5⟩
    obtain⟨w5r0,w5r1,w5r2,w5r3,w5o1,w5o2,w5b⟩:=zbl w4r0 w4r1 w4r2 w4r3 w4o1 w4o2 w4b b5
    clear w4r0 w4r1 w4r2 w4r3 w4o1 w4o2
    have Q5:Hid (Below w1.heap.size w1 w5):=Q4.out.trans (b5.mono Q4.out.size)
    clear K2 b5 Q4 x10 x11 x12
    obtain⟨x00,x01,x02,x03,x0f⟩:=zj w5r0.out
    clear x0f
    obtain⟨x20,x21,x22,x23,x2f⟩:=zj w5r2.out
    have x2f0:=x2f 0
    have x2f1:=x2f 1
    have x2f2:=x2f 2
    have x2f3:=x2f 3
    clear x2f
    obtain⟨x30,x31,x32,x33,x3f⟩:=zj w5r3.out
    have x3f0:=x3f 0
    have x3f1:=x3f 1
    have x3f2:=x3f 2
    have x3f3:=x3f 3
    clear x3f
    obtain⟨⟨⟨hi0,hi1⟩,hso⟩,hpa,hro,hno⟩:=zkx hrep
    cases hb:zab c n os with
    | false =>
      have HA:Hid (apR (ix0,root,ps,ss) ix c n os=((ix0,root,ps,ss),2)):=zmn (r:=(ix0,root,ps,ss)) hrep hb
      clear hb
      go_wp2
      have h15:=h15.out
      exact zbm HA.out rfl rfl rfl rfl w5r2.out w5o1.out w5o2.out ⟨by omega,by omega⟩ NE.out w5b.out
    | true =>
      have HG:Hid (¬ (ix=ix0+1∧ix≤1000000000000)→apR (ix0,root,ps,ss) ix c n os=((ix0,root,ps,ss),4)):=zmo (r:=(ix0,root,ps,ss)) hrep hb
      by_cases h1:ix=ix0+1
      · have hd1:decide (ix=ix0+1)=true:=decide_eq_true h1
        by_cases h2:ix≤1000000000000
        · have hd2:decide (1000000000000<ix)=false:=decide_eq_false (by omega)
          subst h1
          have HO:Hid (n≤zbr ss c→(apR (ix0,root,ps,ss) (ix0+1) c n os=((ix0+1,root,ps,ss),3))):=zmp (r:=(ix0,root,ps,ss)) hrep hb ⟨rfl,h2⟩
          have HR:Hid (¬ n≤zbr ss c→apR (ix0,root,ps,ss) (ix0+1) c n os=if zbk l c n os=true∧zr (zat l c n os)=true∧(insZ c n ss).length≤6 then ((ix0+1,zae (zat l c n os),zy (zat l c n os),insZ c n ss),0) else ((ix0+1,root,ps,ss),5)):=zmq (r:=(ix0,root,ps,ss)) hrep hb ⟨rfl,h2⟩
          obtain⟨hl6,hrise,hses⟩:=zms hso
          have HRI:Hid (zcd ss):=hrise
          have HCN:Hid ((1≤c∧c≤1000000000000)∧1≤n∧n≤1000000000000):=by
           simp only[zab,za4,Bool.and_eq_true,decide_eq_true_eq] at hb
           exact⟨hb.1.1.1.1,hb.1.1.1.2⟩
          have HMB:Hid (∀ p∈insZ c n ss,0≤p.1∧p.1≤1000000000000):=fun p hp=>by
           rcases (zm1 c n ss p).1 hp with ⟨h,_⟩ | rfl
           · have:=(hses p h).1;omega
           · have:=HCN.out.1;show 0≤c∧c≤_;omega
          have HIL:Hid ((insZ c n ss).length≤7):=by
           have h:=zsm c n ss hrise
           rw[Hid]
           by_cases hv:∃ v,(c,v)∈ss
           · have:=h.1 hv;omega
           · have:=h.2 hv;omega
          have HFI:Hid (l.length≤60∧∀ p∈l,p.1.length≤1048576∧p.2.length≤1048576):=zi3 hpa
          have HK6a:Hid (∀ W,Below w.heap.size w W→_):=HK6.out hl6 hrise (fun p hp=>by have:=(hses p hp).1;omega)
          have HL6:Hid (ss.length≤6):=hl6
          clear HG HK6 hrise hses hso hb hpa hro hno hd2 hrep
          go_wp2_with fail
          have hsa:=HSA.out
          have h15':=h15.out
          obtain⟨w6,hw6⟩:∃ W,W=w5.setCell ⟨sa,0,none⟩ (.int .i64 (ix0+1)):=⟨_,rfl⟩
          rw[←hw6]
          have w6b:Hid (Below w.heap.size w w6):=by rw[hw6];exact w5b.out.setCell (by dsimp only;omega) _
          have Q6:Hid (Below w1.heap.size w1 w6):=by rw[hw6];exact Q5.out.setCell (by dsimp only;omega) _
          have w6r0:Hid (_=_):=(congrArg (fun W=>W.heap[w.heap.size]?) hw6).trans ((Below.heap_setCell w5 ⟨sa,0,none⟩ (.int .i64 (ix0+1)) (w.heap.size) (by dsimp only;omega)).trans w5r0.out)
          have w6r1:Hid (_=_):=(congrArg (fun W=>W.heap[w.heap.size+1]?) hw6).trans ((Below.heap_setCell w5 ⟨sa,0,none⟩ (.int .i64 (ix0+1)) (w.heap.size+1) (by dsimp only;omega)).trans w5r1.out)
          have w6r2:Hid (_=_):=(congrArg (fun W=>W.heap[w.heap.size+1+1]?) hw6).trans ((Below.heap_setCell w5 ⟨sa,0,none⟩ (.int .i64 (ix0+1)) (w.heap.size+1+1) (by dsimp only;omega)).trans w5r2.out)
          have w6r3:Hid (w6.heap[sa]? = some (.cells #[.int .i64 (ix0+1),.string ⟨root.toArray⟩,.slice a1 ps.length c1,.slice a2 ss.length c2] 34 (0,0))):=by rw[hw6];exact zc4 (j:=0) w5r3.out
          have w6o1:Hid (w6.ownsRow w1.heap.size 59 2 (.slice a1 ps.length c1) ps.length (zb ps)):=by rw[hw6];exact ownsRow_setCell_other (a:=⟨sa,0,none⟩) w5o1.out NX1.out _
          have w6o2:Hid (w6.ownsRow w1.heap.size 62 2 (.slice a2 ss.length c2) ss.length (zl ss)):=by rw[hw6];exact ownsRow_setCell_other (a:=⟨sa,0,none⟩) w5o2.out NX2.out _
          have KS:=HK6a.out w6 w6b.out
          clear hw6 w5r0 w5r1 w5r2 w5r3 w5o1 w5o2 w5b Q5 NX1 NX2 HSA hsa h15' HK6a x00 x01 x02 x03 x20 x21 x22 x23 x2f0 x2f1 x2f2 x2f3 x30 x31 x32 x33 x3f0 x3f1 x3f2 x3f3
          refine KS.mono ?_
          rintro e w7 ⟨mb,D,rfl,hmb,om,hD,b7⟩
          have B7:Hid (Below w6.heap.size w6 w7):=b7
          have HMB7:Hid (w6.heap.size≤mb):=hmb
          have OM:Hid (w7.ownsMap Tryz.prog 2 svR mb ss.length D):=om
          have HD:Hid (MapZ D ss):=hD
          obtain⟨w7r0,w7r1,w7r2,w7r3,w7o1,w7o2,w7b⟩:=zbl w6r0 w6r1 w6r2 w6r3 w6o1 w6o2 w6b b7
          have hkey:=keyZ c (by have:=HCN.out.1;omega)
          have HKY:Hid (keyOf Tryz.prog 2 (.int .i64 c)=some (.int .i64 c)):=hkey
          obtain⟨v,qs,hrun,hR9⟩:=om.lookup (t:=65) (e:=62) lawZ Tryz.underlying65 (zsr w7) (zd:=.held (.agg #[.int .i64 0,.int .i64 0])) (zp:=[]) rfl hkey
          obtain⟨u9,hu9⟩:=hD.last HRI.out c (zd:=.held (.agg #[.int .i64 0,.int .i64 0])) rfl
          rw[hu9] at hR9
          obtain rfl:=zsq hR9
          unfold sv at hrun
          dsimp only at hrun
          obtain⟨la,hla⟩:∃ la,la=zbr ss c:=⟨_,rfl⟩
          rw[←hla] at HO HR hrun
          have hfd:∀ W:World,(Instr.field 62 (.agg #[.int .i64 u9,.int .i64 la]) 1).run Tryz.prog W=.ok (.int .i64 la) W:=fun _=>by kernel_rfl
          clear KS om hD b7 hmb hR9 hu9 hla hkey qs
          obtain⟨x10,x11,x12,_⟩:=zaf w7r1.out
          obtain⟨x20,x21,x22,x23,x2f⟩:=zj w7r2.out
          have x2f0:=x2f 0
          have x2f1:=x2f 1
          have x2f2:=x2f 2
          have x2f3:=x2f 3
          clear x2f
          obtain⟨x30,x31,x32,x33,x3f⟩:=zj w7r3.out
          clear x3f
          by_cases ho:n≤la
          · have hd3:decide (n≤la)=true:=decide_eq_true ho
            have HA:Hid (apR (ix0,root,ps,ss) (ix0+1) c n os=((ix0+1,root,ps,ss),3)):=HO.out ho
            go_wp2
            have h15:=h15.out
            exact zbm HA.out rfl rfl rfl rfl w7r2.out w7o1.out w7o2.out ⟨by omega,by omega⟩ NE.out w7b.out
          · have hd3:decide (n≤la)=false:=decide_eq_false ho
            have HR9:=HR.out (by omega)
            have HRR:Hid (_=_):=HR9
            clear HO HR HR9 x20 x21 x22 x23 x2f0 x2f1 x2f2 x2f3 x30 x31 x32 x33 w7r0 w7r1 w7r2 w7r3 w7o1 w7o2 w7b
            go_upto_region 14 with (at_mapUpdate;refine wpList_mapUpdate_own _ rfl _ _ _ 65 rfl 2 62 lawZ Tryz.underlying65 svR mb ss.length D rfl OM.out (by have:=HL6.out;unfold maxLen;omega) _ _ (.int .i64 c) rfl rfl HKY.out (.held (sv (c,n))) [] (zsp (c,n)) ?_;intro w8 hown8 hgrow8;have M8:Hid (w8.ownsMap Tryz.prog 2 svR mb (ss.length+1) (D.put (.int .i64 c) (.held (sv (c,n))))):=hown8;have b8:Hid (Below w6.heap.size w6 w8):=B7.out.grown hgrow8 B7.out.size (fun q hq=>by cases hq;exact HMB7.out);clear hown8 hgrow8 hrun hfd)
            obtain⟨w8r0,w8r1,w8r2,w8r3,w8o1,w8o2,w8b⟩:=zbl w6r0 w6r1 w6r2 w6r3 w6o1 w6o2 w6b b8.out
            clear w6r0 w6r1 w6r2 w6r3 w6o1 w6o2
            obtain⟨x10,x11,x12,_⟩:=zaf w8r1.out
            have HD8:Hid (MapZ (D.put (.int .i64 c) (.held (sv (c,n)))) (insZ c n ss)):=HD.out.ins HRI.out c n
            have HR8:Hid (zcd (insZ c n ss)):=za4u c n ss HRI.out
            have Q8:=Q6.out.trans (b8.out.mono Q6.out.size)
            have KA:=zw3 a5 c5 l c n b cb os w8 (by have:=HFI.out.1;omega) HFI.out.2 (I5.out w8 Q8) hlo hmo (HSO.out w8 w8b.out)
            obtain⟨ok,hok⟩:∃ ok,ok=zbk l c n os:=⟨_,rfl⟩
            obtain⟨res,hres⟩:∃ res,res=zat l c n os:=⟨_,rfl⟩
            have HPO:Hid (za3 res=true):=by rw[hres];exact zmr l c n os
            obtain⟨si,hsi⟩:∃ si,si=insZ c n ss:=⟨_,rfl⟩
            obtain⟨D8,hD8⟩:∃ D8,D8=D.put (.int .i64 c) (.held (sv (c,n))):=⟨_,rfl⟩
            rw[←hok,←hres] at KA HRR
            rw[←hsi] at HRR HD8 HR8 HMB HIL
            rw[←hD8] at HD8 M8
            clear hok hres hsi hD8 Q8 Q6 HD OM B7 HMB7 b8 hd3 ho HRI HKY
            go_wp2_with fail
            refine KA.mono ?_
            rintro e w9 ⟨a6,m6,c6,rfl,o6,b9⟩
            obtain⟨rfl,_,i6⟩:=zac o6
            have M9:Hid (w9.ownsMap Tryz.prog 2 svR mb (ss.length+1) D8):=M8.out.kept (row:=none) ⟨b9.os,b9.tape,b9.output,b9.size,fun q hq _=>b9.block q hq⟩ (by simp)
            have I6:Hid (∀ W,Below w9.heap.size w9 W→IsPairs W a6 res):=fun W hW=>i6.later hW
            obtain⟨w9r0,w9r1,w9r2,w9r3,w9o1,w9o2,w9b⟩:=zbl w8r0 w8r1 w8r2 w8r3 w8o1 w8o2 w8b b9
            clear w8r0 w8r1 w8r2 w8r3 w8o1 w8o2
            have hlen9:=M9.out.len (t:=65) Tryz.underlying65
            rw[HD8.out.size] at hlen9
            clear KA o6 b9 i6 M8 x10 x11 x12
            obtain⟨x20,x21,x22,x23,x2f⟩:=zj w9r2.out
            have x2f0:=x2f 0
            have x2f1:=x2f 1
            have x2f2:=x2f 2
            have x2f3:=x2f 3
            clear x2f
            obtain⟨x30,x31,x32,x33,x3f⟩:=zj w9r3.out
            clear x3f
            cases ok with
            | false =>
              have HA:Hid (apR (ix0,root,ps,ss) (ix0+1) c n os=((ix0+1,root,ps,ss),5)):=HRR.out.trans (if_neg (fun e=>by simp at e))
              go_wp2
              have h15:=h15.out
              exact zbm HA.out rfl rfl rfl rfl w9r2.out w9o1.out w9o2.out ⟨by omega,by omega⟩ NE.out w9b.out
            | true =>
              by_cases h6:si.length≤6
              · have hd6:decide (6<(si.length:Int))=false:=decide_eq_false (by omega)
                have KO:=za55 mb _ D8 si w9 (by omega) HMB.out HR8.out HD8.out M9.out
                go_wp2_with fail
                refine KO.mono ?_
                rintro e w10 ⟨a7,m7,c7,rfl,o7,b10⟩
                obtain⟨rfl,_,_⟩:=zcl o7
                have S7:=zc o7
                have s9:=lt_of_block w9r3.out
                have HB10:Hid (w.heap.size+1+1<w9.heap.size∧w9.heap.size≤w10.heap.size):=⟨lt_of_block w9r2.out,b10.size⟩
                obtain⟨w10r0,w10r1,w10r2,w10r3,w10o1,w10o2,w10b⟩:=zbl w9r0 w9r1 w9r2 w9r3 w9o1 w9o2 w9b b10
                clear w9r0 w9r1 w9r2 w9r3 w9o1 w9o2
                have KR:=zta (ix0+1) a7 si.length c7 a6 c6 res w10 (by have:=(zet res HPO.out).1;omega) (fun p hp=>by have:=(zet res HPO.out).2 p hp;omega) (I6.out w10 b10) (HTT.out w10 w10b.out)
                clear KO o7 b10 s9 M9 hlen9 hd6 x20 x21 x22 x23 x2f0 x2f1 x2f2 x2f3 x30 x31 x32 x33
                cases hro:zr res with
                | false =>
                  rw[hro] at KR HRR
                  dsimp only at KR
                  clear hro
                  go_wp2_with fail
                  refine KR.mono ?_
                  rintro e w11 ⟨rfl,b11⟩
                  obtain⟨w11r0,w11r1,w11r2,w11r3,w11o1,w11o2,w11b⟩:=zbl w10r0 w10r1 w10r2 w10r3 w10o1 w10o2 w10b b11
                  clear w10r0 w10r1 w10r2 w10r3 w10o1 w10o2
                  have b13:Below w11.heap.size w11 (w11.alloc (.cells #[.int .i64 0,.string ⟨#[]⟩,.slice none 0 0,.slice none 0 0] 34)):=(Below.refl _ _).alloc (Nat.le_refl _) _
                  obtain⟨w12r0,w12r1,w12r2,w12r3,w12o1,w12o2,w12b⟩:=zbl w11r0 w11r1 w11r2 w11r3 w11o1 w11o2 w11b b13
                  obtain⟨x20,x21,x22,x23,x2f⟩:=zj w12r2.out
                  have x2f0:=x2f 0
                  have x2f1:=x2f 1
                  have x2f2:=x2f 2
                  have x2f3:=x2f 3
                  clear x2f
                  obtain⟨x30,x31,x32,x33,x3f⟩:=zj w12r3.out
                  clear x3f
                  have HA:Hid (apR (ix0,root,ps,ss) (ix0+1) c n os=((ix0+1,root,ps,ss),5)):=HRR.out.trans (if_neg (fun e=>by simp at e))
                  clear KR b11 b13
                  go_wp2
                  all_goals have h15:=h15.out
                  all_goals exact zbm HA.out rfl rfl rfl rfl w12r2.out w12o1.out w12o2.out ⟨by omega,by omega⟩ NE.out w12b.out
                | true =>
                  rw[hro] at KR HRR
                  dsimp only at KR
                  clear hro
                  obtain⟨rt,hrt⟩:∃ rt,rt=zae res:=⟨_,rfl⟩
                  obtain⟨ns,hns⟩:∃ ns,ns=zy res:=⟨_,rfl⟩
                  rw[←hrt,←hns] at KR HRR
                  clear hrt hns
                  go_wp2_with fail
                  refine KR.mono ?_
                  rintro e w11 ⟨a8,c8,rfl,o8,b11⟩
                  obtain⟨w11r0,w11r1,w11r2,w11r3,w11o1,w11o2,w11b⟩:=zbl w10r0 w10r1 w10r2 w10r3 w10o1 w10o2 w10b b11
                  clear w10r0 w10r1 w10r2 w10r3 w10o1 w10o2
                  have S8:=zc (zaj S7.out b11)
                  have O8:=zc o8
                  have E8:Hid (∀ q,(Value.slice a8 ns.length c8).ownBlock=some q→(Value.slice a7 si.length c7).ownBlock≠some q):=fun q h1 h2=>absurd (O8.out.lt q h1).1 (by have:=(S7.out.lt q h2).2;omega)
                  have HA:Hid (apR (ix0,root,ps,ss) (ix0+1) c n os=((ix0+1,rt,ns,si),0)):=HRR.out.trans (if_pos (by simpa using h6))
                  clear KR o8 b11
                  have b13:Below w11.heap.size w11 (w11.alloc (.cells #[.int .i64 (ix0+1),.string ⟨rt.toArray⟩,.slice a8 ns.length c8,.slice a7 si.length c7] 34)):=(Below.refl _ _).alloc (Nat.le_refl _) _
                  obtain⟨w12r0,w12r1,w12r2,w12r3,w12o1,w12o2,w12b⟩:=zbl w11r0 w11r1 w11r2 w11r3 w11o1 w11o2 w11b b13
                  have RD:=heap_alloc_new w11 (.cells #[.int .i64 (ix0+1),.string ⟨rt.toArray⟩,.slice a8 ns.length c8,.slice a7 si.length c7] 34)
                  obtain⟨y0,y1,y2,y3,_⟩:=zj RD
                  obtain⟨x20,x21,x22,x23,x2f⟩:=zj w12r2.out
                  have x2f0:=x2f 0
                  have x2f1:=x2f 1
                  have x2f2:=x2f 2
                  have x2f3:=x2f 3
                  clear x2f
                  clear b13
                  go_wp2
                  have hb:=HB10.out
                  exact zbm (B:=w.heap.size+1+1+1) HA.out rfl rfl rfl rfl w12r2.out ((O8.out.alloc _).mono (by omega)) ((S8.out.alloc _).mono (by omega)) ⟨by omega,by omega⟩ E8.out w12b.out
              · have hd6:decide (6<(si.length:Int))=true:=decide_eq_true (by omega)
                have HA:Hid (apR (ix0,root,ps,ss) (ix0+1) c n os=((ix0+1,root,ps,ss),5)):=HRR.out.trans (if_neg (fun e=>h6 e.2.2))
                go_wp2
                have h15:=h15.out
                exact zbm HA.out rfl rfl rfl rfl w9r2.out w9o1.out w9o2.out ⟨by omega,by omega⟩ NE.out w9b.out
        · have hd2:decide (1000000000000<ix)=true:=decide_eq_true (by omega)
          have HA:Hid (apR (ix0,root,ps,ss) ix c n os=((ix0,root,ps,ss),4)):=HG.out (fun e=>h2 e.2)
          clear hb HG
          go_wp2
          have h15:=h15.out
          exact zbm HA.out rfl rfl rfl rfl w5r2.out w5o1.out w5o2.out ⟨by omega,by omega⟩ NE.out w5b.out
      · have hd1:decide (ix=ix0+1)=false:=decide_eq_false h1
        have HA:Hid (apR (ix0,root,ps,ss) ix c n os=((ix0,root,ps,ss),4)):=HG.out (fun e=>h1 e.1)
        clear hb HG
        go_wp2
        have h15:=h15.out
        exact zbm HA.out rfl rfl rfl rfl w5r2.out w5o1.out w5o2.out ⟨by omega,by omega⟩ NE.out w5b.out
end Go.Proofs.YtppljdnbhoeeoaaGreatDoor
