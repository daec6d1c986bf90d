/-
 Contracts: Applied, of the model.
-/
import Derived.Test.YtppljdnbhoeeoaaGreatDoorApdM
namespace Go.Proofs.YtppljdnbhoeeoaaGreatDoor
open Go.RowKit
set_option linter.unusedVariables false
set_option maxHeartbeats 8000000
set_option maxRecDepth 100000
theorem za1k (ix0 : Int) (root : List UInt8) (a : Option Addr) (cap : Nat) (ps : List za) (ac : Option Addr) (cap2 : Nat) (ss : List zg) (ix c n : Int) (b : Option Addr) (cb : Nat) (os : List OpL) (l : List za) (w : World)
 (hl:ps.length≤1048576) (hm:∀ p∈ps,p.1.length≤1048576∧p.2.length≤1048576) (hs:IsPairs w a ps) (hca:a=none→cap=0) (hl2:ss.length≤1048576) (hs2:IsSess w ac ss) (hcc:ac=none→cap2=0)
 (hlo:os.length≤1048576) (hmo:∀ p∈os,p.1.length≤1048576∧p.2.1.length≤1048576) (hso:IsOps w b os) (hrep:repR ix0 root ps ss=some l) :
 Calls Tryz.prog 19 #[.agg #[.int .i64 ix0,.string ⟨root.toArray⟩,.slice a ps.length cap,.slice ac ss.length cap2],.int .i64 ix,.agg #[.int .i64 c,.int .i64 n,.slice b os.length cb]] w fun e w'=>zf4 w (apR (ix0,root,ps,ss) ix c n os) e w':=by
 obtain⟨wa,hwa⟩:∃ wa,wa=((w.alloc (.cells #[.int .i64 ix0,.string ⟨root.toArray⟩,.slice a ps.length cap,.slice ac ss.length cap2] 34)).alloc (.cells #[.int .i64 c,.int .i64 n,.slice b os.length cb] 40)).alloc (.cells #[.int .i64 0,.string ⟨#[]⟩,.slice none 0 0,.slice none 0 0] 34):=⟨_,rfl⟩
 have hsz:wa.heap.size=w.heap.size+1+1+1:=by rw[hwa];simp
 have B1:Below w.heap.size w wa:=by rw[hwa];exact (((Below.refl _ _).alloc (Nat.le_refl _) _).alloc (by simp) _).alloc (by simp <;> omega) _
 have H1:Hid (wa.heap[w.heap.size]? = some (.cells #[.int .i64 ix0,.string ⟨root.toArray⟩,.slice a ps.length cap,.slice ac ss.length cap2] 34 (0,0))):=by rw[hwa,Hid,Below.heap_alloc _ _ _ (by simp <;> omega),Below.heap_alloc _ _ _ (by simp)];exact heap_alloc_new w _
 have H2:Hid (wa.heap[w.heap.size+1]? = some (.cells #[.int .i64 c,.int .i64 n,.slice b os.length cb] 40 (0,0))):=by
  rw[hwa,Hid,Below.heap_alloc _ _ _ (by simp)]
  have:=heap_alloc_new (w.alloc (.cells #[.int .i64 ix0,.string ⟨root.toArray⟩,.slice a ps.length cap,.slice ac ss.length cap2] 34)) (.cells #[.int .i64 c,.int .i64 n,.slice b os.length cb] 40)
  simpa using this
 have H3:Hid (wa.heap[w.heap.size+1+1]? = some (.cells #[.int .i64 0,.string ⟨#[]⟩,.slice none 0 0,.slice none 0 0] 34 (0,0))):=by
  rw[hwa,Hid]
  have:=heap_alloc_new ((w.alloc (.cells #[.int .i64 ix0,.string ⟨root.toArray⟩,.slice a ps.length cap,.slice ac ss.length cap2] 34)).alloc (.cells #[.int .i64 c,.int .i64 n,.slice b os.length cb] 40)) (.cells #[.int .i64 0,.string ⟨#[]⟩,.slice none 0 0,.slice none 0 0] 34)
  simpa using this
 have K1:=ztf ix0 root a cap ps ac cap2 ss wa hl (hs.later B1) hca hl2 (hs2.later B1) hcc
 have HK2:Hid (∀ W,Below w.heap.size w W→_):=fun W hW=>zn2 c n b cb os W hlo hmo (hso.later hW)
 have HK6:Hid (∀ W,Below w.heap.size w W→_):=fun W hW=>zt7 ac cap2 ss c W hl2 (hs2.later hW)
 have HKP:Hid (∀ W,Below w.heap.size w W→_):=fun W hW=>zqc a cap ps root W hl hm (hs.later hW)
 have HSO:Hid (∀ W,Below w.heap.size w W→IsOps W b os):=fun W hW=>hso.later hW
 have HS2:Hid (∀ W,Below w.heap.size w W→IsSess W ac ss):=fun W hW=>hs2.later hW
 have HB1:Hid _:=B1
 have HSZ:Hid _:=hsz
 clear hs hs2 hso B1
 go_enter Tryz.func19,Tryz.ntmps19
 go_wp2_with fail
 rw[←hwa]
 clear hwa
 refine K1.mono ?_
 rintro e w1 ⟨v,rfl,⟨a1,m1,c1,a2,m2,c2,rfl,o1,o2,ne⟩,b1⟩
 have W1:Hid _:=HB1.out.trans (b1.mono HB1.out.size)
 have R1:Hid _:=(b1.block w.heap.size (by omega)).trans H1.out
 have R2:Hid _:=(b1.block (w.heap.size+1) (by omega)).trans H2.out
 have R3:Hid _:=(b1.block (w.heap.size+1+1) (by omega)).trans H3.out
 have s1:w.heap.size+1+1+1≤w1.heap.size:=by have:=b1.size;omega
 have O1:=zc o1
 have O2:=zc o2
 have NE:Hid _:=ne
 clear K1 o1 o2 ne b1 hsz
 obtain⟨w2,hw2⟩:∃ w2,w2=w1.alloc (.cells #[.int .i64 ix0,.string ⟨root.toArray⟩,.slice a1 m1 c1,.slice a2 m2 c2] 34):=⟨_,rfl⟩
 have hz2:w2.heap.size=w1.heap.size+1:=by rw[hw2];simp
 have w2r0:Hid (w2.heap[w.heap.size]? = some (.cells #[.int .i64 ix0,.string ⟨root.toArray⟩,.slice a ps.length cap,.slice ac ss.length cap2] 34 (0,0))):=by rw[hw2,Hid,Below.heap_alloc _ _ _ (by omega)];exact R1.out
 have w2r1:Hid (w2.heap[w.heap.size+1]? = some (.cells #[.int .i64 c,.int .i64 n,.slice b os.length cb] 40 (0,0))):=by rw[hw2,Hid,Below.heap_alloc _ _ _ (by omega)];exact R2.out
 have w2r2:Hid (w2.heap[w.heap.size+1+1]? = some (.cells #[.int .i64 0,.string ⟨#[]⟩,.slice none 0 0,.slice none 0 0] 34 (0,0))):=by rw[hw2,Hid,Below.heap_alloc _ _ _ (by omega)];exact R3.out
 have w2r3:Hid (w2.heap[w1.heap.size]? = some (.cells #[.int .i64 ix0,.string ⟨root.toArray⟩,.slice a1 m1 c1,.slice a2 m2 c2] 34 (0,0))):=by rw[hw2];exact heap_alloc_new _ _
 have w2o1:Hid (w2.ownsRow wa.heap.size 59 2 (.slice a1 m1 c1) ps.length (zb ps)):=by rw[hw2];exact O1.out.alloc _
 have w2o2:Hid (w2.ownsRow wa.heap.size 62 2 (.slice a2 m2 c2) ss.length (zl ss)):=by rw[hw2];exact O2.out.alloc _
 have w2b:Hid (Below w.heap.size w w2):=by rw[hw2];exact W1.out.alloc (by omega) _
 have NX1:Hid ((Value.slice a1 m1 c1).ownBlock≠some w1.heap.size):=fun e=>absurd (O1.out.lt _ e).2 (by omega)
 have NX2:Hid ((Value.slice a2 m2 c2).ownBlock≠some w1.heap.size):=fun e=>absurd (O2.out.lt _ e).2 (by omega)
 have K2:=HK2.out w2 w2b.out
 obtain⟨x10,x11,x12,_⟩:=zaf w2r1.out
 have h3:=s1
 clear R1 R2 R3 O1 O2 W1 H1 H2 H3 HB1 hz2 s1
 have HW2:Hid _:=hw2
 rw[hw2] at x10 x11 x12 K2
 clear hw2
 go_wp2_with fail
 rw[←HW2.out] at K2 ⊢
 refine K2.mono ?_
 rintro e w3 ⟨rfl,b3⟩
 obtain⟨w3r0,w3r1,w3r2,w3r3,w3o1,w3o2,w3b⟩:=zbl w2r0 w2r1 w2r2 w2r3 w2o1 w2o2 w2b b3
 clear w2r0 w2r1 w2r2 w2r3 w2o1 w2o2
 clear K2 b3 x10 x11 x12 HW2 HK2
 obtain⟨x00,x01,x02,x03,x0f⟩:=zj w3r0.out
 clear x0f
 obtain⟨x20,x21,x22,x23,x2f⟩:=zj w3r2.out
 have x2f0:=x2f 0
 have x2f1:=x2f 1
 have x2f2:=x2f 2
 have x2f3:=x2f 3
 clear x2f
 obtain⟨x30,x31,x32,x33,x3f⟩:=zj w3r3.out
 clear x3f
 obtain⟨⟨⟨hi0,hi1⟩,hso⟩,hpa,hro,hno⟩:=zkx hrep
 cases hb:zab c n os with
 | false =>
   have HA:Hid (apR (ix0,root,ps,ss) ix c n os=((ix0,root,ps,ss),2)):=zmn (r:=(ix0,root,ps,ss)) hrep hb
   clear hb
   go_wp2
   have hw0:=HSZ.out
   exact zbm HA.out rfl rfl rfl rfl w3r2.out w3o1.out w3o2.out ⟨by omega,by omega⟩ NE.out w3b.out
 | true =>
   have HG:Hid (¬ (ix=ix0+1∧ix≤1000000000000)→apR (ix0,root,ps,ss) ix c n os=((ix0,root,ps,ss),4)):=zmo (r:=(ix0,root,ps,ss)) hrep hb
   by_cases h1:ix=ix0+1
   · have hd1 := decide_eq_true h1
     by_cases h2:ix≤1000000000000
     · subst h1
       have HO:Hid _:=zmp (r:=(ix0,root,ps,ss)) hrep hb ⟨rfl,h2⟩
       have HR:Hid _:=zmq (r:=(ix0,root,ps,ss)) hrep hb ⟨rfl,h2⟩
       have SB:Hid (∀ W,Below w3.heap.size w3 W→W.cell? ⟨w.heap.size+1,1,none⟩=some (.int .i64 n)∧W.cell? ⟨w.heap.size,3,none⟩=some (.slice ac ss.length cap2)∧W.cell? ⟨w.heap.size+1,0,none⟩=some (.int .i64 c)):=fun W hW=>by
        obtain⟨u0,u1,u2,_⟩:=zaf ((hW.block _ (lt_of_block w3r1.out)).trans w3r1.out)
        obtain⟨v0,v1,v2,v3,_⟩:=zj ((hW.block _ (lt_of_block w3r0.out)).trans w3r0.out)
        exact⟨u1,v3,u0⟩
       have BD:Below w3.heap.size w3 w3.drew:=⟨rfl,rfl,rfl,Nat.le_refl _,fun _ _=>rfl⟩
       have WD:=w3b.out.trans (BD.mono w3b.out.size)
       obtain⟨la,hla⟩:∃ la,la=zbr ss c:=⟨_,rfl⟩
       have K6:=HK6.out w3.drew WD
       rw[←hla] at HO HR K6
       have HPA:Hid _:=hpa
       have HFI:Hid _:=zi3 hpa
       clear hla HK6 HG x00 x01 x02 x03 x30 x31 x32 x33 x20 x21 x22 x23 x2f0 x2f1 x2f2 x2f3 hb hpa hro hno hso
       obtain⟨x00,x01,x02,x03,x0f⟩:=zj w3r0.out
       clear x0f
       go_wp2
       go_region_held3 (fun w'=>w'.cell? ⟨w.heap.size+1,1,none⟩=some (.int .i64 n)∧w'.cell? ⟨w.heap.size,3,none⟩=some (.slice ac ss.length cap2)∧w'.cell? ⟨w.heap.size+1,0,none⟩=some (.int .i64 c)) (first | with_reducible exact SB.out _ BC1 | with_reducible exact SB.out _ BD | go_keep)
        (first
         | (go_at_call 48
            with_reducible refine K6.mono ?_
            rintro e w4 ⟨rfl,b4⟩
            have BC1:=BD.trans (b4.mono BD.size)
            clear b4))
       clear x00 x01 x02 x03 SB BD WD K6
       obtain⟨w4r0,w4r1,w4r2,w4r3,w4o1,w4o2,w4b⟩:=zbl w3r0 w3r1 w3r2 w3r3 w3o1 w3o2 w3b BC1
       clear w3r0 w3r1 w3r2 w3r3 w3o1 w3o2
       clear BC1
       have RX:Hid ((w4.setCell ⟨w1.heap.size,0,none⟩ (.int .i64 (ix0+1))).heap[w.heap.size+1+1]? = some (.cells #[.int .i64 0,.string ⟨#[]⟩,.slice none 0 0,.slice none 0 0] 34 (0,0))):=(Below.heap_setCell w4 ⟨w1.heap.size,0,none⟩ (.int .i64 (ix0+1)) (w.heap.size+1+1) (by dsimp only;omega)).trans w4r2.out
       have RO:Hid ((w4.setCell ⟨w1.heap.size,0,none⟩ (.int .i64 (ix0+1))).heap[w1.heap.size]? = some (.cells #[.int .i64 (ix0+1),.string ⟨root.toArray⟩,.slice a1 m1 c1,.slice a2 m2 c2] 34 (0,0))):=zc4 (j:=0) w4r3.out
       by_cases ho:n≤la
       · have hd3:=decide_eq_true ho
         have HA:Hid _:=HO.out ho
         clear HO HR
         obtain⟨x30,x31,x32,x33,x3f⟩:=zj w4r3.out
         have x3f0:=x3f 0
         have x3f1:=x3f 1
         have x3f2:=x3f 2
         have x3f3:=x3f 3
         clear x3f
         obtain⟨y0,y1,y2,y3,_⟩:=zj RO.out
         obtain⟨z0,z1,z2,z3,zf⟩:=zj RX.out
         have zf0:=zf 0
         have zf1:=zf 1
         have zf2:=zf 2
         have zf3:=zf 3
         clear zf
         go_wp2
         have hw0:=HSZ.out
         exact zbm HA.out rfl rfl rfl rfl RX.out (ownsRow_setCell_other w4o1.out NX1.out _) (ownsRow_setCell_other w4o2.out NX2.out _) ⟨by omega,by omega⟩ NE.out (w4b.out.setCell (by dsimp only;omega) _)
       · have hd3 := decide_eq_false ho
         clear HO hd3
         obtain⟨x00,x01,x02,x03,x0f⟩:=zj w4r0.out
         clear x0f
         have KP:=HKP.out w4 w4b.out
         unfold zdw at KP
         rw[HPA.out] at KP
         simp only[Option.getD_some,Option.isSome_some] at KP
         go_wp2_with fail
         refine KP.mono ?_
         rintro e w5 ⟨a5,m5,c5,rfl,o5,b5⟩
         obtain⟨rfl,_,i5⟩:=zac o5
         obtain⟨w5r0,w5r1,w5r2,w5r3,w5o1,w5o2,w5b⟩:=zbl w4r0 w4r1 w4r2 w4r3 w4o1 w4o2 w4b b5
         clear w4r0 w4r1 w4r2 w4r3 w4o1 w4o2
         have hc5:a5=none→c5=0:=fun e=>by
          rcases o5.2 with ⟨h1,_⟩ | ⟨g,cap7,cur,h1,_⟩
          · simp only[Value.slice.injEq] at h1;exact h1.2.2
          · simp only[Value.slice.injEq] at h1;rw[e] at h1;cases h1.1
         have KA:=zt6 a5 c5 l c n b cb os w5 (by have:=HFI.out.1;omega) HFI.out.2 i5 hc5 hlo hmo (HSO.out w5 w5b.out)
         clear KP o5 b5 i5 hc5 x00 x01 x02 x03 RX RO
         obtain⟨ok,hok⟩:∃ ok,ok=zbk l c n os:=⟨_,rfl⟩
         obtain⟨res,hres⟩:∃ res,res=zat l c n os:=⟨_,rfl⟩
         have HPO:Hid (za3 res=true):=by rw[hres];exact zmr l c n os
         rw[←hok,←hres] at KA HR
         clear hok hres
         obtain⟨x10,x11,x12,_⟩:=zaf w5r1.out
         go_wp2_with fail
         refine KA.mono ?_
         rintro e w6 ⟨a6,m6,c6,rfl,o6,b6⟩
         obtain⟨rfl,_,i6⟩:=zac o6
         obtain⟨w6r0,w6r1,w6r2,w6r3,w6o1,w6o2,w6b⟩:=zbl w5r0 w5r1 w5r2 w5r3 w5o1 w5o2 w5b b6
         clear w5r0 w5r1 w5r2 w5r3 w5o1 w5o2
         have I6:Hid (∀ W,Below w6.heap.size w6 W→IsPairs W a6 res):=fun W hW=>i6.later hW
         have KS:=zt9 ac cap2 ss c n w6 hl2 (HS2.out w6 w6b.out)
         clear KA o6 b6 i6 x10 x11 x12
         obtain⟨x00,x01,x02,x03,x0f⟩:=zj w6r0.out
         clear x0f
         obtain⟨x10,x11,x12,_⟩:=zaf w6r1.out
         go_wp2_with fail
         refine KS.mono ?_
         rintro e w7 ⟨g7,c7,rfl,o7,b7⟩
         have h16:Hid _:=lt_of_block w6r3.out
         obtain⟨w7r0,w7r1,w7r2,w7r3,w7o1,w7o2,w7b⟩:=zbl w6r0 w6r1 w6r2 w6r3 w6o1 w6o2 w6b b7
         clear w6r0 w6r1 w6r2 w6r3 w6o1 w6o2
         have h37:Hid (w1.heap.size<w6.heap.size∧w6.heap.size≤w7.heap.size):=⟨h16.out,b7.size⟩
         have S7:=zc o7
         have KO:=ztc (ix0+1) (some ⟨g7,0,none⟩) (insZ c n ss).length c7 a6 c6 res w7 HPO.out (I6.out w7 b7)
         clear KS o7 b7 x00 x01 x02 x03 x10 x11 x12
         obtain⟨si,hsi⟩:∃ si,si=insZ c n ss:=⟨_,rfl⟩
         rw[←hsi] at HR KO S7 ⊢
         clear hsi
         cases hro:zr res with
         | false =>
           rw[hro] at KO HR
           dsimp only at KO
           clear hro S7
           go_wp2_with fail
           refine KO.mono ?_
           rintro e w8 ⟨rfl,b8⟩
           obtain⟨w8r0,w8r1,w8r2,w8r3,w8o1,w8o2,w8b⟩:=zbl w7r0 w7r1 w7r2 w7r3 w7o1 w7o2 w7b b8
           clear w7r0 w7r1 w7r2 w7r3 w7o1 w7o2
           clear KO b8
           have HA:Hid _:=(HR.out ho).trans (if_neg (fun e=>by simp at e))
           obtain⟨w9,hw9⟩:∃ w9,w9=(w8.alloc (.cells #[.int .i64 0,.string ⟨#[]⟩,.slice none 0 0,.slice none 0 0] 34)):=⟨_,rfl⟩
           have b9:Below w8.heap.size w8 w9:=by rw[hw9];exact (Below.refl _ _).alloc (Nat.le_refl _) _
           obtain⟨w9r0,w9r1,w9r2,w9r3,w9o1,w9o2,w9b⟩:=zbl w8r0 w8r1 w8r2 w8r3 w8o1 w8o2 w8b b9
           clear w8r0 w8r1 w8r2 w8r3 w8o1 w8o2
           clear b9 HR
           subst hw9
           have RX:Hid (_=_):=(Below.heap_setCell (w8.alloc (.cells #[.int .i64 0,.string ⟨#[]⟩,.slice none 0 0,.slice none 0 0] 34)) ⟨w1.heap.size,0,none⟩ (.int .i64 (ix0+1)) (w.heap.size+1+1) (by dsimp only;omega)).trans w9r2.out
           have RO:=zc4 (j:=0) (z:=.int .i64 (ix0+1)) w9r3.out
           obtain⟨x30,x31,x32,x33,x3f⟩:=zj w9r3.out
           have x3f0:=x3f 0
           have x3f1:=x3f 1
           have x3f2:=x3f 2
           have x3f3:=x3f 3
           clear x3f
           obtain⟨y0,y1,y2,y3,_⟩:=zj RO
           obtain⟨z0,z1,z2,z3,zf⟩:=zj RX.out
           have zf0:=zf 0
           have zf1:=zf 1
           have zf2:=zf 2
           have zf3:=zf 3
           clear zf
           go_wp2
           all_goals
            have hw0:=HSZ.out
            exact zbm HA.out rfl rfl rfl rfl RX.out (ownsRow_setCell_other w9o1.out NX1.out _) (ownsRow_setCell_other w9o2.out NX2.out _) ⟨by omega,by omega⟩ NE.out (w9b.out.setCell (by dsimp only;omega) _)
         | true =>
           rw[hro] at KO HR
           dsimp only at KO
           clear hro
           obtain⟨rt,hrt⟩:∃ rt,rt=zae res:=⟨_,rfl⟩
           obtain⟨ns,hns⟩:∃ ns,ns=zy res:=⟨_,rfl⟩
           rw[←hrt,←hns] at KO HR
           clear hrt hns
           go_wp2_with fail
           refine KO.mono ?_
           rintro e w8 ⟨a8,c8,rfl,o8,b8⟩
           obtain⟨w8r0,w8r1,w8r2,w8r3,w8o1,w8o2,w8b⟩:=zbl w7r0 w7r1 w7r2 w7r3 w7o1 w7o2 w7b b8
           clear w7r0 w7r1 w7r2 w7r3 w7o1 w7o2
           have O8:=zc o8
           have S8:=zc (zaj S7.out b8)
           have E8:Hid (∀ q,(Value.slice a8 ns.length c8).ownBlock=some q→(Value.slice (some ⟨g7,0,none⟩) si.length c7).ownBlock≠some q):=fun q h1 h2=>absurd (O8.out.lt q h1).1 (by have:=(S7.out.lt q h2).2;omega)
           have b78:=b8.size
           clear KO b8 o8 S7
           cases ok with
           | false =>
             clear O8 S8 E8
             have HA:Hid _:=(HR.out ho).trans (if_neg (fun e=>by simp at e))
             obtain⟨w9,hw9⟩:∃ w9,w9=(w8.alloc (.cells #[.int .i64 (ix0+1),.string ⟨rt.toArray⟩,.slice a8 ns.length c8,.slice (some ⟨g7,0,none⟩) si.length c7] 34)):=⟨_,rfl⟩
             have b9:Below w8.heap.size w8 w9:=by rw[hw9];exact (Below.refl _ _).alloc (Nat.le_refl _) _
             obtain⟨w9r0,w9r1,w9r2,w9r3,w9o1,w9o2,w9b⟩:=zbl w8r0 w8r1 w8r2 w8r3 w8o1 w8o2 w8b b9
             clear w8r0 w8r1 w8r2 w8r3 w8o1 w8o2
             clear b9 HR
             subst hw9
             have RX:Hid (_=_):=(Below.heap_setCell (w8.alloc (.cells #[.int .i64 (ix0+1),.string ⟨rt.toArray⟩,.slice a8 ns.length c8,.slice (some ⟨g7,0,none⟩) si.length c7] 34)) ⟨w1.heap.size,0,none⟩ (.int .i64 (ix0+1)) (w.heap.size+1+1) (by dsimp only;omega)).trans w9r2.out
             have RO:=zc4 (j:=0) (z:=.int .i64 (ix0+1)) w9r3.out
             obtain⟨x30,x31,x32,x33,x3f⟩:=zj w9r3.out
             have x3f0:=x3f 0
             have x3f1:=x3f 1
             have x3f2:=x3f 2
             have x3f3:=x3f 3
             clear x3f
             obtain⟨y0,y1,y2,y3,_⟩:=zj RO
             obtain⟨z0,z1,z2,z3,zf⟩:=zj RX.out
             have zf0:=zf 0
             have zf1:=zf 1
             have zf2:=zf 2
             have zf3:=zf 3
             clear zf
             go_wp2
             all_goals
              have hw0:=HSZ.out
              exact zbm HA.out rfl rfl rfl rfl RX.out (ownsRow_setCell_other w9o1.out NX1.out _) (ownsRow_setCell_other w9o2.out NX2.out _) ⟨by omega,by omega⟩ NE.out (w9b.out.setCell (by dsimp only;omega) _)
           | true =>
             by_cases h6:si.length≤6
             · have hd6:decide (6<(si.length:Int))=false:=decide_eq_false (by omega)
               have HA:Hid _:=(HR.out ho).trans (if_pos (by simpa using h6))
               have RD:Hid ((w8.alloc (.cells #[.int .i64 (ix0+1),.string ⟨rt.toArray⟩,.slice a8 ns.length c8,.slice (some ⟨g7,0,none⟩) si.length c7] 34)).heap[w8.heap.size]? = some (.cells #[.int .i64 (ix0+1),.string ⟨rt.toArray⟩,.slice a8 ns.length c8,.slice (some ⟨g7,0,none⟩) si.length c7] 34 (0,0))):=heap_alloc_new _ _
               have RZ:Hid ((w8.alloc (.cells #[.int .i64 (ix0+1),.string ⟨rt.toArray⟩,.slice a8 ns.length c8,.slice (some ⟨g7,0,none⟩) si.length c7] 34)).heap[w.heap.size+1+1]? = some (.cells #[.int .i64 0,.string ⟨#[]⟩,.slice none 0 0,.slice none 0 0] 34 (0,0))):=(Below.heap_alloc _ _ _ (lt_of_block w8r2.out)).trans w8r2.out
               obtain⟨y0,y1,y2,y3,_⟩:=zj RD.out
               obtain⟨z0,z1,z2,z3,zf⟩:=zj RZ.out
               have zf0:=zf 0
               have zf1:=zf 1
               have zf2:=zf 2
               have zf3:=zf 3
               clear zf HR
               go_wp2
               have hw0:=HSZ.out
               have b37:=h37.out
               exact zbm (B:=w.heap.size+1+1+1) HA.out rfl rfl rfl rfl RZ.out ((O8.out.alloc _).mono (by omega)) ((S8.out.alloc _).mono (by omega)) ⟨by omega,by omega⟩ E8.out (w8b.out.alloc (by omega) _)
             · have hd6:=decide_eq_true (by omega)
               clear O8 S8 E8
               have HA:Hid _:=(HR.out ho).trans (if_neg (fun e=>h6 e.2.2))
               obtain⟨w9,hw9⟩:∃ w9,w9=(w8.alloc (.cells #[.int .i64 (ix0+1),.string ⟨rt.toArray⟩,.slice a8 ns.length c8,.slice (some ⟨g7,0,none⟩) si.length c7] 34)):=⟨_,rfl⟩
               have b9:Below w8.heap.size w8 w9:=by rw[hw9];exact (Below.refl _ _).alloc (Nat.le_refl _) _
               obtain⟨w9r0,w9r1,w9r2,w9r3,w9o1,w9o2,w9b⟩:=zbl w8r0 w8r1 w8r2 w8r3 w8o1 w8o2 w8b b9
               clear w8r0 w8r1 w8r2 w8r3 w8o1 w8o2
               clear b9 HR
               subst hw9
               have RX:Hid (_=_):=(Below.heap_setCell (w8.alloc (.cells #[.int .i64 (ix0+1),.string ⟨rt.toArray⟩,.slice a8 ns.length c8,.slice (some ⟨g7,0,none⟩) si.length c7] 34)) ⟨w1.heap.size,0,none⟩ (.int .i64 (ix0+1)) (w.heap.size+1+1) (by dsimp only;omega)).trans w9r2.out
               have RO:=zc4 (j:=0) (z:=.int .i64 (ix0+1)) w9r3.out
               obtain⟨x30,x31,x32,x33,x3f⟩:=zj w9r3.out
               have x3f0:=x3f 0
               have x3f1:=x3f 1
               have x3f2:=x3f 2
               have x3f3:=x3f 3
               clear x3f
               obtain⟨y0,y1,y2,y3,_⟩:=zj RO
               obtain⟨z0,z1,z2,z3,zf⟩:=zj RX.out
               have zf0:=zf 0
               have zf1:=zf 1
               have zf2:=zf 2
               have zf3:=zf 3
               clear zf
               go_wp2
               all_goals
                have hw0:=HSZ.out
                exact zbm HA.out rfl rfl rfl rfl RX.out (ownsRow_setCell_other w9o1.out NX1.out _) (ownsRow_setCell_other w9o2.out NX2.out _) ⟨by omega,by omega⟩ NE.out (w9b.out.setCell (by dsimp only;omega) _)
     · have hd2:=decide_eq_true (by omega)
       have HA:Hid _:=HG.out (fun e=>h2 e.2)
       clear hb HG
       go_wp2
       have hw0:=HSZ.out
       exact zbm HA.out rfl rfl rfl rfl w3r2.out w3o1.out w3o2.out ⟨by omega,by omega⟩ NE.out w3b.out
   · have hd1:=decide_eq_false h1
     have HA:Hid _:=HG.out (fun e=>h1 e.1)
     clear hb HG
     go_wp2
     have hw0:=HSZ.out
     exact zbm HA.out rfl rfl rfl rfl w3r2.out w3o1.out w3o2.out ⟨by omega,by omega⟩ NE.out w3b.out
theorem za1l (ix0:Int) (root:List UInt8) (a:Option Addr) (cap:Nat) (ps:List za) (ac:Option Addr) (cap2:Nat) (ss:List zg) (ix c n:Int) (b:Option Addr) (cb:Nat) (os:List OpL) (w:World) (hl:ps.length≤1048576) (hm:∀ p∈ps,p.1.length≤1048576∧p.2.length≤1048576) (hs:IsPairs w a ps) (hca:a=none→cap=0) (hl2:ss.length≤1048576) (hs2:IsSess w ac ss) (hcc:ac=none→cap2=0) (hlo:os.length≤1048576) (hmo:∀ p∈os,p.1.length≤1048576∧p.2.1.length≤1048576) (hso:IsOps w b os) :
 Calls Tryz.prog 6 #[.agg #[.int .i64 ix0,.string ⟨root.toArray⟩,.slice a ps.length cap,.slice ac ss.length cap2],.int .i64 ix,.agg #[.int .i64 c,.int .i64 n,.slice b os.length cb]] w fun e w'=>zf4 w (apR (ix0,root,ps,ss) ix c n os) e w':=by
 have HK1:Hid (∀ W,Below w.heap.size w W→_):=fun W hW=>za0j ix0 root a cap ps ac cap2 ss W hl hm (hs.later hW) hl2 (hs2.later hW)
 have HK2:Hid (∀ W l,Below w.heap.size w W→repR ix0 root ps ss=some l→_):=fun W l hW h=>za1k ix0 root a cap ps ac cap2 ss ix c n b cb os l W hl hm (hs.later hW) hca hl2 (hs2.later hW) hcc hlo hmo (hso.later hW) h
 obtain⟨wa,hwa⟩:∃ wa,wa=((w.alloc (.cells #[.int .i64 ix0,.string ⟨root.toArray⟩,.slice a ps.length cap,.slice ac ss.length cap2] 34)).alloc (.cells #[.int .i64 c,.int .i64 n,.slice b os.length cb] 40)).alloc (.cells #[.int .i64 0,.string ⟨#[]⟩,.slice none 0 0,.slice none 0 0] 34):=⟨_,rfl⟩
 have hsz:wa.heap.size=w.heap.size+1+1+1:=by rw[hwa];simp
 have B1:Below w.heap.size w wa:=by rw[hwa];exact (((Below.refl _ _).alloc (Nat.le_refl _) _).alloc (by simp) _).alloc (by simp <;> omega) _
 have H1:Hid (wa.heap[w.heap.size]? = some (.cells #[.int .i64 ix0,.string ⟨root.toArray⟩,.slice a ps.length cap,.slice ac ss.length cap2] 34 (0,0))):=by rw[hwa,Hid,Below.heap_alloc _ _ _ (by simp <;> omega),Below.heap_alloc _ _ _ (by simp)];exact heap_alloc_new w _
 have H2:Hid (wa.heap[w.heap.size+1]? = some (.cells #[.int .i64 c,.int .i64 n,.slice b os.length cb] 40 (0,0))):=by
  rw[hwa,Hid,Below.heap_alloc _ _ _ (by simp)]
  have:=heap_alloc_new (w.alloc (.cells #[.int .i64 ix0,.string ⟨root.toArray⟩,.slice a ps.length cap,.slice ac ss.length cap2] 34)) (.cells #[.int .i64 c,.int .i64 n,.slice b os.length cb] 40)
  simpa using this
 have H3:Hid (wa.heap[w.heap.size+1+1]? = some (.cells #[.int .i64 0,.string ⟨#[]⟩,.slice none 0 0,.slice none 0 0] 34 (0,0))):=by
  rw[hwa,Hid]
  have:=heap_alloc_new ((w.alloc (.cells #[.int .i64 ix0,.string ⟨root.toArray⟩,.slice a ps.length cap,.slice ac ss.length cap2] 34)).alloc (.cells #[.int .i64 c,.int .i64 n,.slice b os.length cb] 40)) (.cells #[.int .i64 0,.string ⟨#[]⟩,.slice none 0 0,.slice none 0 0] 34)
  simpa using this
 have HB1:Hid _:=B1
 have HSZ:Hid _:=hsz
 have K1:=HK1.out wa B1
 obtain⟨rr,hrr⟩:∃ rr,rr=apR (ix0,root,ps,ss) ix c n os:=⟨_,rfl⟩
 have HN:Hid (repR ix0 root ps ss=none→rr=(zj9,1)):=fun h=>by rw[hrr];exact zja (r:=(ix0,root,ps,ss)) h
 rw[←hrr] at HK2 ⊢
 clear hs hs2 hso hca hcc hrr HK1
 go_enter Tryz.func6,Tryz.ntmps6
 go_wp2_with fail
 rw[←hwa]
 clear hwa
 cases hr:repR ix0 root ps ss with
 | none =>
   rw[hr] at K1
   refine K1.mono ?_
   rintro e w1 ⟨rfl,b1⟩
   have R3:Hid _:=(b1.block (w.heap.size+1+1) (by omega)).trans H3.out
   have W1:Hid _:=HB1.out.trans (b1.mono HB1.out.size)
   have HA:Hid _:=HN.out hr
   clear K1 b1 HN HK2 hr hsz B1
   obtain⟨z0,z1,z2,z3,zf⟩:=zj R3.out
   have zf0:=zf 0
   have zf1:=zf 1
   have zf2:=zf 2
   have zf3:=zf 3
   clear zf
   go_wp2
   exact zbm (B:=w.heap.size+1+1+1) (root:=[]) (ps:=[]) (ss:=[]) HA.out rfl rfl rfl rfl R3.out (World.ownsRow_nil _ _ _ _) (World.ownsRow_nil _ _ _ _) ⟨by omega,by omega⟩ (fun q hq=>by simp[Value.ownBlock] at hq) W1.out
 | some l =>
   rw[hr] at K1
   refine K1.mono ?_
   rintro e w1 ⟨rfl,b1⟩
   have R1:Hid _:=(b1.block w.heap.size (by omega)).trans H1.out
   have R2:Hid _:=(b1.block (w.heap.size+1) (by omega)).trans H2.out
   have R3:Hid _:=(b1.block (w.heap.size+1+1) (by omega)).trans H3.out
   have W1:Hid _:=HB1.out.trans (b1.mono HB1.out.size)
   have K2:=HK2.out w1 l W1.out hr
   unfold zf4 at K2
   clear K1 b1 HN HK2 hr hsz B1
   obtain⟨x0,x1,x2,x3,_⟩:=zj R1.out
   obtain⟨y0,y1,y2,_⟩:=zaf R2.out
   go_wp2_with fail
   refine K2.mono ?_
   rintro e w2 ⟨v,rfl,⟨a1,m1,c1,a2,m2,c2,rfl,o1,o2,ne⟩,b2⟩
   have Q3:Hid _:=(b2.block _ (lt_of_block R3.out)).trans R3.out
   have W2:Hid _:=W1.out.trans (b2.mono W1.out.size)
   have hw1:=lt_of_block R3.out
   have O1:=zc o1
   have O2:=zc o2
   have NE:Hid _:=ne
   clear K2 b2 x0 x1 x2 x3 y0 y1 y2 o1 o2 ne
   obtain⟨z0,z1,z2,z3,zf⟩:=zj Q3.out
   have zf0:=zf 0
   have zf1:=zf 1
   have zf2:=zf 2
   have zf3:=zf 3
   clear zf
   go_wp2
   exact zbm (B:=w1.heap.size) rfl rfl rfl rfl rfl Q3.out O1.out O2.out ⟨by omega,by omega⟩ NE.out W2.out
end Go.Proofs.YtppljdnbhoeeoaaGreatDoor
