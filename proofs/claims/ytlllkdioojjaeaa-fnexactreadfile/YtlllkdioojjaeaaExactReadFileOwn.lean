/-
 At every disk and name ReadFile answers as its model; it writes into no argument. No condition.
-/
import Derived.Test.YtlllkdioojjaeaaIReadF
import Derived.Test.YtlllkdioojjaeaaDiskL
import Derived.Deep.RegionHeld3
import Derived.ProofKit
import Derived.OpenShut
import Derived.ShutString
import Derived.ChangeOld
import Derived.Below
import Derived.Lib.SmallJoins
namespace Go.Proofs.Ytlllkdioojjaeaa.fnExactReadFile
open Go.ChangeShapes Go.WideShapes Go.ChangeAt Go.RowKit
open Go.ChangeMaps (open_string shut_string)
set_option linter.unusedVariables false
theorem own:ownKnob Try.prog.godebug=none:=by kernel_rfl
theorem laidOut:laidOutB Try.prog=true:=by kernel_rfl
theorem sizes_le (ps:List PairL) (h:ps.length+sizeP ps≤1048576):∀ p∈ps,p.1.length≤1048576∧p.2.length≤1048576:=by
 intro p hp
 obtain⟨j,hj,rfl⟩:=List.getElem_of_mem hp
 have:=sizeP_le ps j hj
 exact⟨by omega,by omega⟩
theorem sizesD_le (ps:List DOpL) (h:ps.length+sizeD ps≤1048576):∀ p∈ps,p.n.length≤1048576∧p.t.length≤1048576∧p.d.length≤1048576:=by
 intro p hp
 obtain⟨j,hj,rfl⟩:=List.getElem_of_mem hp
 have:=sizeD_le ps j hj
 unfold opN at this
 exact⟨by omega,by omega,by omega⟩
set_option maxRecDepth 100000 in
set_option maxHeartbeats 2000000 in
theorem walk (a1 a2 a3:Option Addr) (c1 c2 c3:Nat) (live safe:List PairL) (ops:List DOpL) (nm:List UInt8) (w:World) (hl1:live.length≤9223372036854775807) (hl2:safe.length≤9223372036854775807) (hl3:ops.length≤9223372036854775807) (hm1:∀ p∈live,p.1.length≤9223372036854775807∧p.2.length≤9223372036854775807) (hm2:∀ p∈safe,p.1.length≤9223372036854775807∧p.2.length≤9223372036854775807) (hm3:∀ p∈ops,p.n.length≤9223372036854775807∧p.t.length≤9223372036854775807∧p.d.length≤9223372036854775807) (hs1:IsPairs w a1 live) (hs2:IsPairs w a2 safe) (hs3:IsDOps w a3 ops) (hn0:nm.length≤9223372036854775807) :
 Calls Try.prog 7 #[.agg #[.slice a1 live.length c1,.slice a2 safe.length c2,.slice a3 ops.length c3],.string ⟨nm.toArray⟩] w fun e w'=>e=.returned (.bool true)∧Below w.heap.size w w':=by
 have Bb:Below w.heap.size w (w.alloc (.cells #[.slice a1 live.length c1,.slice a2 safe.length c2,.slice a3 ops.length c3] 25)):=(Below.refl _ _).alloc (Nat.le_refl _) _
 have hblk:=heap_alloc_new w (.cells #[.slice a1 live.length c1,.slice a2 safe.length c2,.slice a3 ops.length c3] 25)
 have KZ:=szDisk_any 1048576 (Nat.le_refl _) a1 a2 a3 c1 c2 c3 live safe ops (w.alloc (.cells #[.slice a1 live.length c1,.slice a2 safe.length c2,.slice a3 ops.length c3] 25)) hl1 hl2 hl3 hm1 hm2 hm3 (hs1.later Bb) (hs2.later Bb) (hs3.later Bb)
 have HS:Hid (∀ W,Below w.heap.size w W→IsPairs W a1 live∧IsPairs W a2 safe∧IsDOps W a3 ops):=fun W hW=>⟨hs1.later hW,hs2.later hW,hs3.later hW⟩
 clear hs1 hs2 hs3 hm1 hm2 hm3
 have hzz:(ByteArray.mk nm.toArray).size=nm.length:=by simp[ByteArray.size]
 by_cases hnm:nm.length≤1048576
 · have hnm':(nm.length:Int)≤1048576:=by omega
   clear hn0
   go_enter Try.func7,Try.ntmps7
   go_wp2_with fail
   refine KZ.mono ?_
   rintro e w1 ⟨he,b1⟩
   have B1:=Bb.trans (b1.mono (by simp))
   have k1:=(b1.block w.heap.size (by simp)).trans hblk
   have n1:w.heap.size<w1.heap.size:=by have:=b1.size;simp at this;omega
   clear KZ b1 hblk
   rcases he with rfl | ⟨hz1,hz2,hz3,q,hq,rfl⟩
   · go_wp2
     go_ret
     exact⟨rfl,B1⟩
   · have hn1 : live.length ≤ 1048576 := by omega
     have hn2:safe.length≤1048576:=by omega
     have hn3:ops.length≤1048576:=by omega
     have q0:(0:Int)≤(q:Int):=by omega
     have m1:=sizes_le live hz1
     have m2:=sizes_le safe hz2
     have m3:=sizesD_le ops hz3
     have H1:=fun (g1 g2 g3:Nat) W (h:(IsPairs W (some ⟨g1,0,none⟩) live∧IsPairs W (some ⟨g2,0,none⟩) safe∧IsDOps W (some ⟨g3,0,none⟩) ops))=>spec_readFile (some ⟨g1,0,none⟩) (some ⟨g2,0,none⟩) (some ⟨g3,0,none⟩) live.length safe.length ops.length live safe ops nm W (.inr ⟨g2,0,rfl⟩) hn1 m1 hn2 m2 hn3 m3 hnm h.1 h.2.1 h.2.2
     have H2:=fun (g1 g2 g3:Nat) W (h:(IsPairs W (some ⟨g1,0,none⟩) live∧IsPairs W (some ⟨g2,0,none⟩) safe∧IsDOps W (some ⟨g3,0,none⟩) ops))=>impl_readFile (some ⟨g1,0,none⟩) (some ⟨g2,0,none⟩) (some ⟨g3,0,none⟩) live.length safe.length ops.length live safe ops nm W (.inr ⟨g1,0,rfl⟩) hn1 m1 hn2 m2 hn3 m3 hnm h.1 h.2.1 h.2.2
     obtain⟨r,hr⟩:∃ r,r=readR live safe ops nm:=⟨_,rfl⟩
     obtain⟨b,hb⟩:∃ r,r=readB live safe ops nm:=⟨_,rfl⟩
     rw[←hr,←hb] at H1 H2
     have HH1:Hid (∀ (g1 g2 g3:Nat) W,(IsPairs W (some ⟨g1,0,none⟩) live∧IsPairs W (some ⟨g2,0,none⟩) safe∧IsDOps W (some ⟨g3,0,none⟩) ops)→Calls Try.prog 30 #[.agg #[.slice (some ⟨g1,0,none⟩) live.length live.length,.slice (some ⟨g2,0,none⟩) safe.length safe.length,.slice (some ⟨g3,0,none⟩) ops.length ops.length],.string ⟨nm.toArray⟩] W fun e w'=>e=.returned (.tuple #[.string ⟨r.toArray⟩,.bool b])∧Below W.heap.size W w'):=H1
     have HH2:Hid (∀ (g1 g2 g3:Nat) W,(IsPairs W (some ⟨g1,0,none⟩) live∧IsPairs W (some ⟨g2,0,none⟩) safe∧IsDOps W (some ⟨g3,0,none⟩) ops)→Calls Try.prog 31 #[.agg #[.slice (some ⟨g1,0,none⟩) live.length live.length,.slice (some ⟨g2,0,none⟩) safe.length safe.length,.slice (some ⟨g3,0,none⟩) ops.length ops.length],.string ⟨nm.toArray⟩] W fun e w'=>e=.returned (.tuple #[.string ⟨r.toArray⟩,.bool b])∧Below W.heap.size W w'):=H2
     have HTN:Hid (∀ W,Below w.heap.size w W→Calls Try.prog 14 #[.agg #[.slice a1 live.length c1,.slice a2 safe.length c2,.slice a3 ops.length c3]] W fun e w'=>∃ g1 g2 g3:Nat,e=.returned (.agg #[.slice (some ⟨g1,0,none⟩) live.length live.length,.slice (some ⟨g2,0,none⟩) safe.length safe.length,.slice (some ⟨g3,0,none⟩) ops.length ops.length])∧(IsPairs w' (some ⟨g1,0,none⟩) live∧IsPairs w' (some ⟨g2,0,none⟩) safe∧IsDOps w' (some ⟨g3,0,none⟩) ops)∧Below W.heap.size W w'):=fun W hW=>(toDisk_any a1 a2 a3 c1 c2 c3 live safe ops W hn1 hn2 hn3 (HS.out W hW).1 (HS.out W hW).2.1 (HS.out W hW).2.2).mono fun e w' ⟨g1,g2,g3,h1,_,_,r1,r2,r3,h4⟩=>⟨g1,g2,g3,h1,⟨(isPairs_own r1).2.2,(isPairs_own r2).2.2,(isDOps_own r3).2.2⟩,h4⟩
     obtain⟨p0,p1,p2,_⟩:=three_cells k1
     clear H1 H2 hr hb m1 m2 m3 hz1 hz2 hz3 HS hl1 hl2 hl3 hq
     go_wp2_with fail
     refine (HTN.out _ B1).mono ?_
     rintro e w2 ⟨u1,u2,u3,rfl,i1,b2⟩
     have B2:=B1.trans (b2.mono B1.size)
     have k2:=(b2.block w.heap.size n1).trans k1
     have n2:w.heap.size<w2.heap.size:=Nat.lt_of_lt_of_le n1 b2.size
     have I1:Hid (IsPairs w2 (some ⟨u1,0,none⟩) live∧IsPairs w2 (some ⟨u2,0,none⟩) safe∧IsDOps w2 (some ⟨u3,0,none⟩) ops):=i1
     clear i1 b2 B1 k1 p0 p1 p2
     go_wp2_with fail
     refine (HH1.out _ _ _ _ I1.out).mono ?_
     rintro e w3 ⟨rfl,b3⟩
     have B3:=B2.trans (b3.mono B2.size)
     have k3:=(b3.block w.heap.size n2).trans k2
     have n3:w.heap.size<w3.heap.size:=Nat.lt_of_lt_of_le n2 b3.size
     obtain⟨p0,p1,p2,_⟩:=three_cells k3
     clear b3 B2 k2 I1
     go_wp2_with fail
     refine (HTN.out _ B3).mono ?_
     rintro e w4 ⟨g1,g2,g3,rfl,i3,b4⟩
     have B4:=B3.trans (b4.mono B3.size)
     have k4:=(b4.block w.heap.size n3).trans k3
     have n4:w.heap.size<w4.heap.size:=Nat.lt_of_lt_of_le n3 b4.size
     have I3:Hid (∀ W,Below w4.heap.size w4 W→(IsPairs W (some ⟨g1,0,none⟩) live∧IsPairs W (some ⟨g2,0,none⟩) safe∧IsDOps W (some ⟨g3,0,none⟩) ops)):=fun W hW=>⟨i3.1.later hW,i3.2.1.later hW,i3.2.2.later hW⟩
     clear i3 b4 B3 k3 p0 p1 p2
     have Bl:Below w4.heap.size w4 (w4.alloc (.cells #[.slice (some ⟨g1,0,none⟩) live.length live.length,.slice (some ⟨g2,0,none⟩) safe.length safe.length,.slice (some ⟨g3,0,none⟩) ops.length ops.length] 31)):=(Below.refl _ _).alloc (Nat.le_refl _) _
     have I4:Hid (IsPairs (w4.alloc (.cells #[.slice (some ⟨g1,0,none⟩) live.length live.length,.slice (some ⟨g2,0,none⟩) safe.length safe.length,.slice (some ⟨g3,0,none⟩) ops.length ops.length] 31)) (some ⟨g1,0,none⟩) live∧IsPairs (w4.alloc (.cells #[.slice (some ⟨g1,0,none⟩) live.length live.length,.slice (some ⟨g2,0,none⟩) safe.length safe.length,.slice (some ⟨g3,0,none⟩) ops.length ops.length] 31)) (some ⟨g2,0,none⟩) safe∧IsDOps (w4.alloc (.cells #[.slice (some ⟨g1,0,none⟩) live.length live.length,.slice (some ⟨g2,0,none⟩) safe.length safe.length,.slice (some ⟨g3,0,none⟩) ops.length ops.length] 31)) (some ⟨g3,0,none⟩) ops):=I3.out _ Bl
     have B5:=B4.trans (Bl.mono B4.size)
     have x5:=heap_alloc_new w4 (.cells #[.slice (some ⟨g1,0,none⟩) live.length live.length,.slice (some ⟨g2,0,none⟩) safe.length safe.length,.slice (some ⟨g3,0,none⟩) ops.length ops.length] 31)
     have k5:=(Bl.block w.heap.size n4).trans k4
     clear B4 k4
     go_wp2_with fail
     refine (HH2.out _ _ _ _ I4.out).mono ?_
     rintro e w6 ⟨rfl,b6⟩
     have B6:=B5.trans (b6.mono B5.size)
     have x6:=(b6.block w4.heap.size (by simp)).trans x5
     have k6:=(b6.block w.heap.size (by simp;omega)).trans k5
     have n6:w4.heap.size<w6.heap.size:=by have:=b6.size;simp at this;omega
     have X6:Hid (Below w4.heap.size w4 w6):=Bl.trans (b6.mono Bl.size)
     obtain⟨p0,p1,p2,_⟩:=three_cells k6
     obtain⟨z0,z1,z2,_⟩:=three_cells x6
     clear b6 B5 x5 k5 I4 Bl
     have B6d:Below w.heap.size w w6.drew:=⟨B6.os,B6.tape,B6.output,B6.size,B6.block⟩
     have n6w:w.heap.size<w6.heap.size:=by omega
     have SX:Hid (w6.cell? ⟨w.heap.size,0,none⟩=some (.slice a1 live.length c1)∧w6.cell? ⟨w.heap.size,1,none⟩=some (.slice a2 safe.length c2)∧w6.cell? ⟨w.heap.size,2,none⟩=some (.slice a3 ops.length c3)∧w6.cell? ⟨w4.heap.size,0,none⟩=some (.slice (some ⟨g1,0,none⟩) live.length live.length)∧w6.cell? ⟨w4.heap.size,1,none⟩=some (.slice (some ⟨g2,0,none⟩) safe.length safe.length)∧w6.cell? ⟨w4.heap.size,2,none⟩=some (.slice (some ⟨g3,0,none⟩) ops.length ops.length)):=⟨p0,p1,p2,z0,z1,z2⟩
     clear x6 k6
     go_wp2_with fail
     go_region_held3 (fun w'=>w'.cell? ⟨w.heap.size,0,none⟩=some (.slice a1 live.length c1)∧w'.cell? ⟨w.heap.size,1,none⟩=some (.slice a2 safe.length c2)∧w'.cell? ⟨w.heap.size,2,none⟩=some (.slice a3 ops.length c3)∧w'.cell? ⟨w4.heap.size,0,none⟩=some (.slice (some ⟨g1,0,none⟩) live.length live.length)∧w'.cell? ⟨w4.heap.size,1,none⟩=some (.slice (some ⟨g2,0,none⟩) safe.length safe.length)∧w'.cell? ⟨w4.heap.size,2,none⟩=some (.slice (some ⟨g3,0,none⟩) ops.length ops.length))
      (first | exact S8.out | exact S7.out | exact SX.out)
      (first
       | (go_at_call 16
          refine (eqDisk_same live safe ops (some ⟨g1,0,none⟩) (some ⟨g2,0,none⟩) (some ⟨g3,0,none⟩) (some ⟨v1,0,none⟩) (some ⟨v2,0,none⟩) (some ⟨v3,0,none⟩) live.length safe.length ops.length live.length safe.length ops.length w7 (by omega) (by omega) (by omega) ⟨J3.out.1,I5.out.1⟩ ⟨J3.out.2.1,I5.out.2.1⟩ ⟨J3.out.2.2,I5.out.2.2⟩).mono ?_
          rintro e w8 ⟨rfl,b8⟩
          have B8:=B7.trans (b8.mono B7.size)
          have S8:Hid (w8.cell? ⟨w.heap.size,0,none⟩=some (.slice a1 live.length c1)∧w8.cell? ⟨w.heap.size,1,none⟩=some (.slice a2 safe.length c2)∧w8.cell? ⟨w.heap.size,2,none⟩=some (.slice a3 ops.length c3)∧w8.cell? ⟨w4.heap.size,0,none⟩=some (.slice (some ⟨g1,0,none⟩) live.length live.length)∧w8.cell? ⟨w4.heap.size,1,none⟩=some (.slice (some ⟨g2,0,none⟩) safe.length safe.length)∧w8.cell? ⟨w4.heap.size,2,none⟩=some (.slice (some ⟨g3,0,none⟩) ops.length ops.length)):=⟨(b8.cell (p:=⟨w.heap.size,0,none⟩) n7).trans S7.out.1,(b8.cell (p:=⟨w.heap.size,1,none⟩) n7).trans S7.out.2.1,(b8.cell (p:=⟨w.heap.size,2,none⟩) n7).trans S7.out.2.2.1,(b8.cell (p:=⟨w4.heap.size,0,none⟩) n7x).trans S7.out.2.2.2.1,(b8.cell (p:=⟨w4.heap.size,1,none⟩) n7x).trans S7.out.2.2.2.2.1,(b8.cell (p:=⟨w4.heap.size,2,none⟩) n7x).trans S7.out.2.2.2.2.2⟩
          clear b8)
       | (go_at_call 14
          refine (HTN.out w6.drew B6d).mono ?_
          rintro e w7 ⟨v1,v2,v3,rfl,i5,b7⟩
          have b7':Below w6.heap.size w6 w7:=⟨b7.os,b7.tape,b7.output,b7.size,b7.block⟩
          have B7:=B6.trans (b7'.mono B6.size)
          have S7:Hid (w7.cell? ⟨w.heap.size,0,none⟩=some (.slice a1 live.length c1)∧w7.cell? ⟨w.heap.size,1,none⟩=some (.slice a2 safe.length c2)∧w7.cell? ⟨w.heap.size,2,none⟩=some (.slice a3 ops.length c3)∧w7.cell? ⟨w4.heap.size,0,none⟩=some (.slice (some ⟨g1,0,none⟩) live.length live.length)∧w7.cell? ⟨w4.heap.size,1,none⟩=some (.slice (some ⟨g2,0,none⟩) safe.length safe.length)∧w7.cell? ⟨w4.heap.size,2,none⟩=some (.slice (some ⟨g3,0,none⟩) ops.length ops.length)):=⟨(b7'.cell (p:=⟨w.heap.size,0,none⟩) n6w).trans SX.out.1,(b7'.cell (p:=⟨w.heap.size,1,none⟩) n6w).trans SX.out.2.1,(b7'.cell (p:=⟨w.heap.size,2,none⟩) n6w).trans SX.out.2.2.1,(b7'.cell (p:=⟨w4.heap.size,0,none⟩) n6).trans SX.out.2.2.2.1,(b7'.cell (p:=⟨w4.heap.size,1,none⟩) n6).trans SX.out.2.2.2.2.1,(b7'.cell (p:=⟨w4.heap.size,2,none⟩) n6).trans SX.out.2.2.2.2.2⟩
          have n7:w.heap.size<w7.heap.size:=Nat.lt_of_lt_of_le n6w b7'.size
          have n7x:w4.heap.size<w7.heap.size:=Nat.lt_of_lt_of_le n6 b7'.size
          have I5:Hid (IsPairs w7 (some ⟨v1,0,none⟩) live∧IsPairs w7 (some ⟨v2,0,none⟩) safe∧IsDOps w7 (some ⟨v3,0,none⟩) ops):=i5
          have J3:Hid (IsPairs w7 (some ⟨g1,0,none⟩) live∧IsPairs w7 (some ⟨g2,0,none⟩) safe∧IsDOps w7 (some ⟨g3,0,none⟩) ops):=I3.out _ (X6.out.trans (b7'.mono X6.out.size))
          clear b7 b7' i5))
     all_goals
      go_wp2
      go_ret
      exact⟨rfl,B8⟩
 · have hnm':¬ (nm.length:Int)≤1048576:=by omega
   clear KZ
   go_enter Try.func7,Try.ntmps7
   go_wp2
   go_ret
   exact⟨rfl,Bb⟩
set_option maxRecDepth 100000 in
theorem lifted (os:Os) (started:os.Started) (H:Type) (enc:TypeId × Value→H) :
 ReturnsInHanded {} Try.checked os 7 .any (Rows.fnExactReadFileSpec.pre6 enc Try.prog Try.f7 Rows.fnExactReadFileRow.domain false) (Rows.fnExactReadFileSpec.post enc Try.prog Try.f7 false true false false):=by
 refine returnsInHanded_of_change (C:=Try.checked) own started (by kernel_rfl) Try.func7
  (ChangeSpec.witness6 (enc:=enc) (C:=Try.checked) false ⟨#[],#[.agg #[.slice none 0 0,.slice none 0 0,.slice none 0 0],.string ByteArray.empty],[]⟩ 8 (by kernel_rfl) (by kernel_rfl) (by kernel_rfl) (by kernel_rfl)) ?_
 intro W base args ds gs before hval0 hW hcnd _
 have hval:∀ (j:Nat) t v,Try.f7.params[j]? = some t→args[j]? = some v→Value.okWide Try.prog W .any base t v:=hval0
 have hW':=hW
 obtain⟨p,q,hA0,hV,rfl,hfz,hnd⟩:=hW
 have hA:DataW.TrodAll enc Try.prog W 0 (fun _=>true) true Try.f7.params.toList args.toList ds p:=hA0
 rw[Try.params7] at hA hval
 obtain⟨v0,vs0,d0,ds0,p0,q0,hargs,rfl,rfl,h0,r0⟩:=trodAll_cons hA
 obtain⟨v1,vs1,d1,ds1,p1,q1,hargs1,rfl,rfl,h1,r1⟩:=trodAll_cons r0
 obtain⟨rfl,rfl,rfl⟩:=trodAll_nil r1
 obtain rfl:args=#[v0,v1]:=by cases args;simp_all
 obtain⟨rfl,rfl⟩:=trodVars_none hV
 have k0:=h0
 have k1:=h1
 have lt0:∀ x∈p0,x.block<W.heap.size:=by obtain⟨m,hm⟩:=k0;exact DataW.trod_lt m _ _ _ hm
 have lt1:∀ x∈p1,x.block<W.heap.size:=by obtain⟨m,hm⟩:=k1;exact DataW.trod_lt m _ _ _ hm
 obtain⟨a1,a2,a3,c1,c2,c3,live,safe,ops,hv0,⟨i1,l1,m1⟩,⟨i2,l2,m2⟩,⟨i3,l3,m3⟩⟩:=disk_of (hval 0 25 v0 rfl rfl) h0
 obtain⟨nm,hv1,hnl⟩:∃ nm:List UInt8,v1=.string ⟨nm.toArray⟩∧nm.length≤9223372036854775807:=by
  obtain⟨s0,rfl⟩:=okWide_string Try.underlying9 (hval 1 9 v1 rfl rfl)
  obtain⟨fuel,hf⟩:=h1
  obtain⟨s1,hs1,_,hw⟩:=DataW.trod_string Try.underlying9 (by simpa [Value.cells] using hf)
  simp at hs1
  subst hs1
  unfold maxLen at hw
  exact⟨s0.data.toList,by simp,by simp only[Array.length_toList];exact hw⟩
 clear hA0 hval0
 subst hv0 hv1
 simp only[List.append_nil] at hW'
 refine (walk a1 a2 a3 c1 c2 c3 live safe ops nm W l1 l2 l3 m1 m2 m3 i1 i2 i3 hnl).mono fun e W' ⟨he,bel⟩=>?_
 subst he
 exact⟨_,rfl,_,_,_,[],_,[],hW',trodAll_mk1 (shut_bool Try.underlying4 _),(trodAll_cons_mk (Below.trod laidOut (by kernel_rfl) (of_decide_eq_true (by kernel_rfl)) k0 bel lt0) (trodAll_cons_mk (Below.trod laidOut (by kernel_rfl) (of_decide_eq_true (by kernel_rfl)) k1 bel lt1) trodAll_mk0)),rfl,bel.frame _,fun h=>by cases h⟩
theorem over:Rows.fnExactReadFileRow.holds Try.pinned (OpenSpec.ofChange Rows.fnExactReadFileSpec) :=
 OpenClaim.holds_of_wide 7 Try.f7 rfl rfl rfl rfl rfl rfl rfl ⟨rfl,rfl,rfl,rfl,rfl⟩ rfl rfl rfl rfl rfl (by kernel_rfl) Try.func7 (by kernel_rfl)
  (of_decide_eq_true (by kernel_rfl)) (by unfold Func.isWrapper;first | (rw[if_pos (by decide +kernel)];kernel_rfl) | (rw[if_neg (by decide +kernel)];exact⟨rfl,rfl⟩))
  (fun os started H enc _=>lifted os started H enc)
end Go.Proofs.Ytlllkdioojjaeaa.fnExactReadFile
namespace Go.Proofs.Ytlllkdioojjaeaa
theorem fnExactReadFile_holds:Rows.FnExactReadFileSaid:=fnExactReadFile.over
end Go.Proofs.Ytlllkdioojjaeaa
