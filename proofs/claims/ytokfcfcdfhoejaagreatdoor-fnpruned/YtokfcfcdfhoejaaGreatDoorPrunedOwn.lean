/-
 At every code a drawn store that is pruned has all that its roots lead to, and nothing else, and pruned again it is the same: FnPruned answers true. No condition; the round words are laid as the program's text lays them.
-/
import Derived.Test.YtokfcfcdfhoejaaGreatDoorDrawPds
import Derived.Test.YtokfcfcdfhoejaaGreatDoorMathPrs
import Derived.Test.YtokfcfcdfhoejaaGreatDoorPrunes
import Derived.Test.YtokfcfcdfhoejaaGreatDoorReaches
import Derived.Test.YtokfcfcdfhoejaaGreatDoorPairsAt
import Derived.Test.YtokfcfcdfhoejaaGreatDoorDrawPs
import Derived.Test.YtokfcfcdfhoejaaGreatDoorSeatAll
import Derived.Test.YtokfcfcdfhoejaaGreatDoorTie
import Derived.Test.YtokfcfcdfhoejaaGreatDoorCards
import Derived.ProofKit
import Derived.LaidMore
import Derived.OpenShut
import Derived.ShutString
import Derived.ChangeOld
import Derived.Below
import Derived.Stop.Joined
import Derived.Lib.LaidTab
import Derived.SevenTiedAt
import Derived.SliceStrings
namespace Go.Proofs.YtokfcfcdfhoejaaGreatDoor.fnPruned
open Go.ChangeShapes Go.WideShapes Go.ChangeAt Go.RowKit
open Go.ChangeMaps (open_string shut_string)
set_option linter.unusedVariables false
theorem own:ownKnob Tryz.prog.godebug=none:=by kernel_rfl
theorem laidOut0:laidOutB Tryz.prog=true:=by kernel_rfl
theorem gTab : Tryz.prog.globalNamed "loop.example/g00226/impl.roundWords" = some 0 := by kernel_rfl
theorem tTab:(Tryz.prog.globals[0]?).map (·.type)=some 160:=by kernel_rfl
theorem door_met (os:Os) (args:Array Value):laidMetH Tryz.prog Rows.fnPrunedRow.laid ((World.doorLaid Tryz.prog 400 os).forCall (fun _ _=>0) ⟨#[],args,[]⟩).memory :=
 laidMetH_of_parts3 (fuel:=8) (laidMet_of_run' 8 (by kernel_rfl) (by kernel_rfl)) (by kernel_rfl) (by kernel_rfl)
theorem tab_of {W:World} (h:laidMetH Tryz.prog Rows.fnPrunedRow.laid W):Tab W:=by
 rw[MakeChecks.laidMetH_plain _ _ _ (by kernel_rfl)] at h
 have hT : Lib.TabIs Tryz.prog W "loop.example/g00226/impl.roundWords" .u32 (kL.map fun x => num x) := Lib.tabIs_of_head (rest := []) gTab tTab Tryz.underlying160 Tryz.underlying98 (by kernel_rfl) (by kernel_rfl) h
 have hc:∀ i,i<64→W.cell? ⟨0,i,none⟩=some (.int .u32 (num (kL.getD i 0))):=fun i hi=>by
  have hl:i<kL.length:=hi
  have:=hT.cell gTab i (by rw[List.length_map];exact hl)
  rw[this]
  simp[List.getD,hl]
 exact⟨block_lt_of_cell (hc 0 (by omega)),hc⟩
theorem pr_refl (w:World) (q:Nat):Below w.heap.size w (w.drewN q):=⟨rfl,rfl,rfl,Nat.le_refl _,fun _ _=>rfl⟩
set_option maxRecDepth 100000 in
set_option maxHeartbeats 4000000 in
theorem walk (a0 : Option Addr) (len0 cap0 : Nat) (w : World) (w0 : Code w a0 len0) (hT : Tab w) :
 Calls Tryz.prog 3 #[.slice a0 len0 cap0] w fun e w'=>e=.returned (.bool true)∧Below w.heap.size w w':=by
 by_cases hb:len0≤1048576
 · have HB := bigNo len0 cap0 a0 w hb
   have HC:Hid (Code w a0 len0):=w0
   have HT:Hid (Tab w):=hT
   clear w0 hT
   go_enter Tryz.func3,Tryz.ntmps3
   go_wp2_with fail
   refine HB.mono ?_
   rintro e w ⟨rfl,rfl⟩
   clear HB
   have HD:=drawPruned len0 cap0 a0 w hb HC.out
   go_wp2_with fail
   refine HD.mono ?_
   rintro e w1 ⟨ps,a1,c1,v1,rfl,hpl,hps,rts,ar,cr,rfl,hr2,hrl,is1,o1,B1⟩
   have I1:=(isPairs_own o1).2.2
   have K2:=impl_pruned a1 c1 ps ar cr rts w1 (HT.out.later B1) (by omega) hps I1 (by omega) hrl is1
   have HK3:Hid (∀ W,Below w1.heap.size w1 W→_):=fun W hW=>spec_pruned a1 c1 ps ar cr rts W (by omega) hps (I1.later hW) (by omega) (strs_later is1 hW)
   have HPS:Hid (∀ p∈ps,p.1.length≤1048576∧p.2.length≤1048576):=hps
   have HRL:Hid (∀ r∈rts,r.length≤1048576):=hrl
   have HI1:Hid (∀ W,Below w1.heap.size w1 W→IsPairs W a1 ps∧IsStrs W ar rts):=fun W hW=>⟨I1.later hW,strs_later is1 hW⟩
   have HF:Hid (∀ q,prunedR ps rts=some q→PrF ps rts q):=fun q h=>pruned_facts h
   obtain⟨R,hR⟩:∃ R,R=prunedR ps rts:=⟨_,rfl⟩
   rw[←hR] at K2 HK3 HF
   unfold PPost at K2 HK3
   clear HD o1 I1 hR hps hrl is1
   cases R with
   | none =>
     simp only[Option.getD_none,Option.isSome_none] at K2 HK3
     clear HF
     go_wp2_with fail
     refine K2.mono ?_
     rintro e w2 ⟨a2,m2,c2,rfl,o2,b2⟩
     obtain⟨rfl,_,i2⟩:=isPairs_own o2
     have B2:=B1.trans (b2.mono B1.size)
     have HI2:Hid (∀ W,Below w2.heap.size w2 W→IsPairs W a2 []):=fun W hW=>i2.later hW
     have K3:=HK3.out w2 b2
     clear K2 HK3 b2 o2 i2
     go_wp2_with fail
     refine K3.mono ?_
     rintro e w3 ⟨a3,m3,c3,rfl,o3,b3⟩
     obtain⟨rfl,_,i3⟩:=isPairs_own o3
     have B3:=B2.trans (b3.mono B2.size)
     have HI3:Hid (∀ W,Below w3.heap.size w3 W→IsPairs W a3 []):=fun W hW=>i3.later hW
     have Hb3:Hid (Below w2.heap.size w2 w3):=b3
     have K4:=sameStores_same [] a2 a3 c2 c3 w3 (by simp) (HI2.out w3 b3) i3
     clear K3 o3 b3 i3
     go_wp2_with fail
     refine K4.mono ?_
     rintro e w4 ⟨rfl,b4⟩
     have B4:=B3.trans (b4.mono B3.size)
     have K5:=sameStores_same [] a2 a3 c2 c3 w4 (by simp) (HI2.out w4 (Hb3.out.trans (b4.mono Hb3.out.size))) (HI3.out w4 b4)
     clear K4 b4
     go_wp2_with fail
     refine K5.mono ?_
     rintro e w5 ⟨rfl,b5⟩
     have B5:=B4.trans (b5.mono B4.size)
     clear K5 b5
     go_wp2
     go_ret
     exact⟨rfl,B5⟩
   | some q =>
     have F:=HF.out q rfl
     have hfew:=F.few
     have HSQ:Hid (∀ p∈q,p.1.length≤1048576∧p.2.length≤1048576):=fun p hp=>HPS.out p (F.sub p hp)
     have HFF:Hid (PrF ps rts q):=F
     simp only[Option.getD_some,Option.isSome_some] at K2 HK3
     clear HF F
     go_wp2_with fail
     refine K2.mono ?_
     rintro e w2 ⟨a2,m2,c2,rfl,o2,b2⟩
     obtain⟨rfl,_,i2⟩:=isPairs_own o2
     have B2:=B1.trans (b2.mono B1.size)
     have HI2:Hid (∀ W,Below w2.heap.size w2 W→IsPairs W a2 q):=fun W hW=>i2.later hW
     have Hb2:Hid (Below w1.heap.size w1 w2):=b2
     have K3:=HK3.out w2 b2
     clear K2 HK3 b2 o2 i2
     go_wp2_with fail
     refine K3.mono ?_
     rintro e w3 ⟨a3,m3,c3,rfl,o3,b3⟩
     obtain⟨rfl,_,i3⟩:=isPairs_own o3
     have B3:=B2.trans (b3.mono B2.size)
     have Hb3:Hid (Below w2.heap.size w2 w3):=b3
     have K4:=sameStores_same q a2 a3 c2 c3 w3 (by omega) (HI2.out w3 b3) i3
     clear K3 o3 b3 i3
     go_wp2_with fail
     refine K4.mono ?_
     rintro e w4 ⟨rfl,b4⟩
     have B4:=B3.trans (b4.mono B3.size)
     have HX4:Hid (Below w2.heap.size w2 w4):=Hb3.out.trans (b4.mono Hb3.out.size)
     have HY4:Hid (Below w1.heap.size w1 w4):=Hb2.out.trans (HX4.out.mono Hb2.out.size)
     clear K4 b4 Hb2 Hb3
     go_wp2
     go_loopw [9,10,11,12,13,14,15,16,17,18] (fun v i _ _ _ _ _ _ _ _ wr=>∃ (j nn:Nat),j≤rts.length∧nn≤100000∧v=.int .i64 (nn:Int)∧i=.int .i64 (j:Int)∧Hid (nn=(keepR ps (rts.take j)).length)∧Below w4.heap.size w4 wr) (fun _ i _ _ _ _ _ _ _ _ _=>rts.length - (intOf i).toNat)
     case atStart=>exact⟨0,0,Nat.zero_le _,Nat.zero_le _,rfl,rfl,by simp[Hid,keepR],Below.refl _ _⟩
     case round =>
      obtain⟨j,nn,hj,hn9,rfl,rfl,HNN,hbel⟩:=hrel
      have BR:=B4.trans (hbel.mono B4.size)
      have HXR:Hid (Below w2.heap.size w2 wr):=HX4.out.trans (hbel.mono HX4.out.size)
      have HYR:Hid (Below w1.heap.size w1 wr):=HY4.out.trans (hbel.mono HY4.out.size)
      by_cases hlt:j<rts.length
      · obtain⟨b,off,hva,hc⟩:∃ b off,ar=some ⟨b,off,none⟩∧∀ q (hq:q<rts.length),wr.cell? ⟨b,off+q,none⟩=some (.string ⟨rts[q].toArray⟩):=by
         rcases (HI1.out wr HYR.out).2 with h | ⟨b,off,h,hc⟩
         · rw[h] at hlt;simp at hlt
         · exact⟨b,off,h,hc⟩
        have hj0:(0:Int)≤(j:Int):=by omega
        have hj1:(j:Int)<(rts.length:Int):=by omega
        have hidx:∀ W:World,(Instr.indexAt 25 (.slice ar rts.length cr) (.int .i64 (j:Int))).run Tryz.prog W=.ok (.pointer (some ⟨b,off+j,none⟩)) W:=by
         intro W;rw[hva];go_simp
        have cj:=hc j hlt
        have hmem:rts[j]∈rts:=List.getElem_mem _
        have hrl:=HRL.out _ hmem
        obtain⟨A,hA1,hA2⟩:=HFF.out.led _ hmem
        have hP2:=HFF.out.pairs _ hmem
        have HN1:Hid (nn+A.length=(keepR ps (rts.take (j+1))).length):=by
         have hAR:(reachR ps rts[j]).getD []=A:=by
          rw[reached_yes HFF.out.okP] at hA1
          rw[hA1];rfl
         rw[Hid,keep_step hlt,List.length_append,hAR,←HNN.out]
        have hN9:(keepR ps (rts.take (j+1))).length≤7202:=by
         have h1:=keep_len (ps:=ps) (rts.take (j+1))
         have h2:(rts.take (j+1)).length≤2:=by simp;omega
         have h3:=Nat.mul_le_mul h2 hpl
         omega
        have hA9:A.length≤7202:=by have:=HN1.out;omega
        have hnA:nn+A.length≤7202:=by have:=HN1.out;omega
        have K5:=impl_reached a1 c1 ps rts[j] wr (HT.out.later BR) (by omega) HPS.out (HI1.out wr HYR.out).1 hrl
        have HK6:Hid (∀ W,Below wr.heap.size wr W→Tab W→_):=fun W hW hT=>impl_reached a2 c2 q rts[j] W hT (by omega) HSQ.out (HI2.out W (HXR.out.trans (hW.mono HXR.out.size))) hrl
        have HK7:Hid (∀ W,Below wr.heap.size wr W→Tab W→_):=fun W hW hT=>impl_pairsAt a1 c1 ps rts[j] W hT (by omega) HPS.out (HI1.out W (HYR.out.trans (hW.mono HYR.out.size))).1 hrl
        have HK8:Hid (∀ W,Below wr.heap.size wr W→Tab W→_):=fun W hW hT=>impl_pairsAt a2 c2 q rts[j] W hT (by omega) HSQ.out (HI2.out W (HXR.out.trans (hW.mono HXR.out.size))) hrl
        have hal:=pairsAt_len (ps:=ps) (root:=rts[j])
        rw[hA1] at K5
        rw[hA2] at HK6
        rw[hP2] at HK8
        obtain⟨P,hP⟩:∃ P,P=pairsAtR ps rts[j]:=⟨_,rfl⟩
        rw[←hP] at HK7 HK8 hal
        unfold RPost at K5 HK6
        unfold PAPost at HK7 HK8
        simp only[Option.getD_some,Option.isSome_some] at K5 HK6
        obtain⟨l,hl⟩:∃ l,l=P.getD []:=⟨_,rfl⟩
        obtain⟨pb,hpb⟩:∃ pb,pb=P.isSome:=⟨_,rfl⟩
        rw[←hl,←hpb] at HK7 HK8
        rw[←hl] at hal
        obtain⟨r,hr⟩:∃ r,r=rts[j]:=⟨_,rfl⟩
        rw[←hr] at cj K5 HK6 HK7 HK8
        have hbl:=World.block_lt_of_cell? wr _ cj
        have HCJ:Hid (wr.cell? ⟨b,off+j,none⟩=some (.string ⟨r.toArray⟩)):=cj
        have HBE:Hid (Below w4.heap.size w4 wr):=hbel
        clear hva hc hmem hrl hA1 hA2 hP2 hP hl hpb hr hbel hN9
        go_wp2_with fail
        refine K5.mono ?_
        rintro e w5 ⟨a5,m5,c5,rfl,o5,b5⟩
        have B5:=BR.trans (b5.mono BR.size)
        have c5':=(b5.cell (p:=⟨b,off+j,none⟩) hbl).trans HCJ.out
        have K6:=HK6.out w5 b5 (HT.out.later B5)
        have HO5:=hidOwn o5
        obtain⟨rfl,_,_⟩:=strs_own o5
        have Hb5:Hid (Below wr.heap.size wr w5):=b5
        clear K5 HK6 o5 b5 cj
        go_wp2_with fail
        refine K6.mono ?_
        rintro e w6 ⟨a6,m6,c6,rfl,o6,b6⟩
        have B6:=B5.trans (b6.mono B5.size)
        have x6:Below wr.heap.size wr w6:=Hb5.out.trans (b6.mono Hb5.out.size)
        have c6':=(x6.cell (p:=⟨b,off+j,none⟩) hbl).trans HCJ.out
        have K7:=HK7.out w6 x6 (HT.out.later B6)
        have HO6:=hidOwn o6
        obtain⟨rfl,_,_⟩:=strs_own o6
        have HP5:=hidOwn (kept1 HO5.out b6)
        have Hb6:Hid (Below wr.heap.size wr w6):=x6
        clear K6 HK7 o6 b6 c5' Hb5 x6 HO5
        go_wp2_with fail
        refine K7.mono ?_
        rintro e w7 ⟨a7,m7,c7,rfl,o7,b7⟩
        have B7:=B6.trans (b7.mono B6.size)
        have x7:Below wr.heap.size wr w7:=Hb6.out.trans (b7.mono Hb6.out.size)
        have c7':=(x7.cell (p:=⟨b,off+j,none⟩) hbl).trans HCJ.out
        have K8:=HK8.out w7 x7 (HT.out.later B7)
        have HO7:=hidOwn o7
        obtain⟨rfl,_,_⟩:=isPairs_own o7
        have HQ5:=hidOwn (kept1 HP5.out b7)
        have HQ6:=hidOwn (kept1 HO6.out b7)
        have Hb7:Hid (Below wr.heap.size wr w7):=x7
        clear K7 HK8 o7 b7 c6' Hb6 x7 HP5 HO6
        go_wp2_with fail
        refine K8.mono ?_
        rintro e w8 ⟨a8,m8,c8,rfl,o8,b8⟩
        have B8:=B7.trans (b8.mono B7.size)
        have Hb8:Hid (Below wr.heap.size wr w8):=Hb7.out.trans (b8.mono Hb7.out.size)
        have K9:=sameT_same A _ _ _ _ w8 (by omega) (kept1 HQ5.out b8) (kept1 HQ6.out b8)
        obtain⟨rfl,_,i8⟩:=isPairs_own o8
        have i7:=(isPairs_own (kept2 HO7.out b8)).2.2
        have HI78:Hid (∀ W,Below w8.heap.size w8 W→IsPairs W a7 l∧IsPairs W a8 l):=fun W hW=>⟨i7.later hW,i8.later hW⟩
        clear K8 o8 b8 i7 i8 c7' Hb7 HO7 HQ5 HQ6
        go_wp2_with fail
        refine K9.mono ?_
        rintro e w9 ⟨rfl,q9,hq9⟩
        have b9:Below w8.heap.size w8 w9:=by rw[hq9];exact pr_refl w8 q9
        have B9:=B8.trans (b9.mono B8.size)
        have K10:=samePairs_any l l a7 a8 c7 c8 w9 (by omega) (by omega) (HI78.out w9 b9).1 (HI78.out w9 b9).2
        rw[decide_eq_true rfl] at K10
        have Hb9:Hid (Below wr.heap.size wr w9):=Hb8.out.trans (b9.mono Hb8.out.size)
        clear K9 b9 hq9 Hb8
        go_wp2_with fail
        refine K10.mono ?_
        rintro e w10 ⟨rfl,b10⟩
        have x10:=Hb9.out.trans (b10.mono Hb9.out.size)
        have bel:=HBE.out.trans (x10.mono HBE.out.size)
        have HBL:Hid (Below w4.heap.size w4 w10):=bel
        clear K10 b10 x10 bel
        go_wp2
        go_roundw
        case rel=>exact⟨j+1,nn+A.length,by omega,by omega,by go_num,by go_num,HN1,HBL.out⟩
        case measure=>simp[intOf];omega
      · have hjl:j=rts.length:=by omega
        have hle:q.length≤nn:=by
         have:=HFF.out.most
         rw[HNN.out,hjl,List.take_length];exact this
        have K5:=impl_pruned a2 c2 q ar cr rts wr (HT.out.later BR) (by omega) HSQ.out (HI2.out wr HXR.out) (by omega) HRL.out (HI1.out wr HYR.out).2
        rw[HFF.out.again] at K5
        unfold PPost at K5
        simp only[Option.getD_some,Option.isSome_some] at K5
        have hnl:¬ (j:Int)<(rts.length:Int):=by omega
        have hle':(q.length:Int)≤(nn:Int):=by omega
        have hled:decide ((q.length:Int)≤(nn:Int))=true:=by simp;omega
        clear hbel hlt hj hjl HNN
        go_wp2_with fail
        refine K5.mono ?_
        rintro e w5 ⟨a5,m5,c5,rfl,o5,b5⟩
        have B5:=BR.trans (b5.mono BR.size)
        obtain⟨rfl,_,i5⟩:=isPairs_own o5
        have K6:=sameStores_same q a5 a2 c5 c2 w5 (by omega) i5 (HI2.out w5 (HXR.out.trans (b5.mono HXR.out.size)))
        clear K5 o5 b5 i5
        go_wp2_with fail
        refine K6.mono ?_
        rintro e w6 ⟨rfl,b6⟩
        have B6:=B5.trans (b6.mono B5.size)
        clear K6 b6
        go_wp2
        go_ret
        exact⟨rfl,B6⟩
 · have HB:=bigYes len0 cap0 a0 w hb
   clear w0
   go_enter Tryz.func3,Tryz.ntmps3
   go_wp2_with fail
   refine HB.mono ?_
   rintro e w1 ⟨rfl,rfl⟩
   go_wp2
   go_ret
   exact⟨rfl,Below.refl _ _⟩
set_option maxRecDepth 100000 in
theorem lifted (os:Os) (started:os.Started) (H:Type) (enc:TypeId × Value→H) :
 ReturnsInHanded {} Tryz.checked os 3 .any (fun w args=>(Rows.fnPrunedSpec.pre enc Tryz.prog Tryz.f3 [] false w args∧laidMetH Tryz.prog Rows.fnPrunedRow.laid w)∧sizedMet enc Tryz.prog Tryz.f3 (OpenSpec.ofChange Rows.fnPrunedSpec) false w args)
  (Rows.fnPrunedSpec.post enc Tryz.prog Tryz.f3 false true false false):=by
 refine returnsInHanded_of_change_and (C:=Tryz.checked) (X:=fun w _=>laidMetH Tryz.prog Rows.fnPrunedRow.laid w) (fun _ _ _ hh h=>h.of_heap hh) own started (by kernel_rfl) Tryz.func3
  (ChangeSpec.witness_shaped (enc:=enc) (C:=Tryz.checked) (os:=os) (X:=fun w _=>laidMetH Tryz.prog Rows.fnPrunedRow.laid w) false (World.doorLaid Tryz.prog 400 os) #[.slice none 0 0] 8 rfl (World.shaped_of_RefB (by kernel_rfl) (by kernel_rfl)) (by kernel_rfl) (by kernel_rfl) (by kernel_rfl) (door_met os _)) ?_
 intro W base args ds gs before hval0 hW _ _ hL _
 have hval:∀ (j:Nat) t v,Tryz.f3.params[j]? = some t→args[j]? = some v→Value.okWide Tryz.prog W .any base t v:=hval0
 have hW':=hW
 obtain⟨p,q,hA0,hV0,rfl,hfz,hnd⟩:=hW
 have hA:DataW.TrodAll enc Tryz.prog W 0 (fun _=>true) true Tryz.f3.params.toList args.toList ds p:=hA0
 have hV : DataW.TrodVars enc Tryz.prog W (fun _ => true) ["loop.example/g00226/impl.roundWords"] gs q := hV0
 rw[Tryz.params3] at hA hval
 obtain⟨v0,vs0,d0,ds0,p0,q0,hargs,rfl,rfl,h0,r0⟩:=trodAll_cons hA
 obtain⟨rfl,rfl,rfl⟩:=trodAll_nil r0
 obtain rfl:args=#[v0]:=by cases args;simp_all
 obtain⟨a0,len0,cap0,rfl⟩:=okWide_slice Tryz.underlying22 (hval 0 22 v0 rfl rfl)
 have k0:=h0
 have lt0:∀ x∈p0,x.block<W.heap.size:=by obtain⟨m,hm⟩:=k0;exact DataW.trod_lt m _ _ _ hm
 have w0:Code W a0 len0:=by
  obtain⟨fuel,hf⟩:=h0
  rcases open_ints Tryz.underlying22 Tryz.underlying5 (by kernel_rfl) hf with ⟨hcs,_⟩ | ⟨x,l,c,zs,hcs,_,hl,hm,hz,_,hcell,hwz⟩
  · simp[Value.cells] at hcs
    obtain⟨rfl,rfl,rfl⟩:=hcs
    exact .inl rfl
  · simp[Value.cells] at hcs
    obtain⟨rfl,rfl,rfl⟩:=hcs
    exact codeOf W x _ _ zs hl (by simpa using hz) hcell hwz
 obtain⟨g,t,cs,fuel,d,p',rfl,hg,ht,hvar,hd,rfl⟩:=trodVars_one hV
 obtain rfl:=Option.some.inj (gTab.symm.trans hg)
 obtain rfl:=Option.some.inj (tTab.symm.trans ht)
 have hT:=tab_of hL
 have hltv:∀ x∈p',x.block<W.heap.size:=fun x hx=>hW'.lt x (List.mem_append_right _ (List.mem_append_right _ hx))
 clear hA0 hV0 hval0 hA hV
 refine (walk a0 len0 cap0 W w0 hT).mono fun e W' ⟨he,hB⟩=>?_
 subst he
 obtain⟨fuel',hd'⟩:=Below.trod laidOut0 (by kernel_rfl) (of_decide_eq_true (by kernel_rfl)) (v:=.agg cs) (⟨fuel,by simpa [Value.cells] using hd⟩:DataW.Trod enc Tryz.prog W 0 (fun _=>true) true 160 (.agg cs) d p') hB hltv
 have hv':=trodVars_mk1 (enc:=enc) (spare:=fun b=>decide (b<W.heap.size)) hg ht (var?_below hB hg hT.1 hvar) (by simpa [Value.cells] using hd')
 exact⟨_,rfl,_,_,_,[],_,_,hW',trodAll_mk1 (shut_bool Tryz.underlying4 _),(trodAll_cons_mk (Below.trod laidOut0 (by kernel_rfl) (of_decide_eq_true (by kernel_rfl)) k0 hB lt0) trodAll_mk0),hv',hB.frame _,fun h=>by cases h⟩
theorem named0 : Tryz.prog.funcNamed "loop.example/g00226/laws.FnPruned" = some 3 := by kernel_rfl
theorem closed0:joinedFacts Tryz.prog 3 Tryz.f3 Rows.fnPrunedSpec Rows.fnPrunedRow=true:=by
 unfold joinedFacts
 rw[seat_may,seat_lifts,seat_make]
 kernel_rfl
theorem inst0:Tryz.f3.isInstance Tryz.prog Rows.fnPrunedRow.origin Rows.fnPrunedRow.targs:=of_decide_eq_true (by kernel_rfl)
theorem wrap0:Tryz.f3.isWrapper Tryz.prog Rows.fnPrunedRow.wrapper Rows.fnPrunedRow.mainSum:=by unfold Func.isWrapper;first | (rw[if_pos (by decide +kernel)];kernel_rfl) | (rw[if_neg (by decide +kernel)];exact⟨rfl,rfl⟩)
theorem over:Rows.fnPrunedRow.holds Tryz.pinned (OpenSpec.ofChange Rows.fnPrunedSpec) :=
 OpenClaim.holds_of_wide 3 Tryz.f3 rfl rfl rfl rfl rfl rfl rfl ⟨rfl,rfl,rfl,rfl,rfl⟩ rfl rfl rfl rfl rfl named0 Tryz.func3 closed0 inst0 wrap0
  (fun os started H enc _=>lifted os started H enc)
theorem text0:Rows.fnPrunedRow.wfByText (OpenSpec.ofChange Rows.fnPrunedSpec)=true:=by kernel_rfl
theorem looks0:false=Tryz.prog.looks []:=by kernel_rfl
theorem goes0:false=Rows.fnPrunedRow.goesBy Tryz.prog:=by kernel_rfl
theorem wants0:([22].all fun u => !Tryz.prog.wantsStandIn u)=true:=by kernel_rfl
theorem card:Claim7.holds Tryz.pinned (.plain (OpenSpec.ofChange Rows.fnPrunedSpec)) Rows.fnPrunedCard :=
 Claim7.holds_tied_plain_at .later [] [.data] true (true,Rows.fnPrunedCard.stood.harness.2) false
  over (fun _ h=>by cases h) text0 (fun _ h=>by cases h) fnPruned_row_tie rfl ⟨rfl,rfl⟩ seat_main rfl
  (fun f fn hf hfn => by
   obtain rfl:f=3:=Option.some.inj (named0.symm.trans hf) |>.symm
   obtain rfl:fn=Tryz.f3:=(Option.some.inj (Tryz.func3.symm.trans hfn)).symm
   exact⟨looks0,fun j t ht=>by
    rw[Tryz.params3] at ht
    have hm:t∈[22]:=by simpa using Array.mem_of_getElem? ht
    exact (show Tryz.prog.wantsStandIn t=false by simpa using List.all_eq_true.1 wants0 t hm)⟩)
  goes0
end Go.Proofs.YtokfcfcdfhoejaaGreatDoor.fnPruned
namespace Go.Proofs.YtokfcfcdfhoejaaGreatDoor
theorem fnPruned_holds:Rows.FnPrunedCardSaid:=fnPruned.card
end Go.Proofs.YtokfcfcdfhoejaaGreatDoor
