/-
 At every code two puts of unlike keys into a drawn store come to one root in either order, and of one key the last one counts: FnPutOrder answers true. No condition; the round words are laid as the program's text lays them.
-/
import Derived.Test.YtbdboicobkcggaaGreatDoorDrawSs
import Derived.Test.YtbdboicobkcggaaGreatDoorMathPs
import Derived.Test.YtbdboicobkcggaaGreatDoorUpdAll
import Derived.Test.YtbdboicobkcggaaGreatDoorDrawPs
import Derived.Test.YtbdboicobkcggaaGreatDoorSeatAll
import Derived.Test.YtbdboicobkcggaaGreatDoorTie
import Derived.Test.YtbdboicobkcggaaGreatDoorCards
import Derived.ProofKit
import Derived.LaidMore
import Derived.OpenShut
import Derived.ShutString
import Derived.ChangeOld
import Derived.Below
import Derived.Stop.Joined
import Derived.Lib.LaidTab
import Derived.SevenTiedAt
import Derived.SliceStrings
namespace Go.Proofs.YtbdboicobkcggaaGreatDoor.fnPutOrder
open Go.ChangeShapes Go.WideShapes Go.ChangeAt Go.RowKit
open Go.ChangeMaps (open_string shut_string)
set_option linter.unusedVariables false
theorem own:ownKnob Tryz.prog.godebug=none:=by kernel_rfl
theorem laidOut0:laidOutB Tryz.prog=true:=by kernel_rfl
theorem gTab : Tryz.prog.globalNamed "loop.example/g00226/impl.roundWords" = some 1 := by kernel_rfl
theorem tTab:(Tryz.prog.globals[1]?).map (·.type)=some 159:=by kernel_rfl
theorem door_met (os:Os) (args:Array Value):laidMetH Tryz.prog Rows.fnPutOrderRow.laid ((World.doorLaid Tryz.prog 400 os).forCall (fun _ _=>0) ⟨#[],args,[]⟩).memory :=
 laidMetH_of_parts3 (fuel:=8) (laidMet_of_run' 8 (by kernel_rfl) (by kernel_rfl)) (by kernel_rfl) (by kernel_rfl)
theorem tab_of {W:World} (h:laidMetH Tryz.prog Rows.fnPutOrderRow.laid W):Tab W:=by
 rw[MakeChecks.laidMetH_plain _ _ _ (by kernel_rfl)] at h
 have hT : Lib.TabIs Tryz.prog W "loop.example/g00226/impl.roundWords" .u32 (kL.map fun x => num x) := Lib.tabIs_of_head (rest := []) gTab tTab Tryz.underlying159 Tryz.underlying110 (by kernel_rfl) (by kernel_rfl) h
 have hc:∀ i,i<64→W.cell? ⟨1,i,none⟩=some (.int .u32 (num (kL.getD i 0))):=fun i hi=>by
  have hl:i<kL.length:=hi
  have:=hT.cell gTab i (by rw[List.length_map];exact hl)
  rw[this]
  simp[List.getD,hl]
 exact⟨block_lt_of_cell (hc 0 (by omega)),hc⟩
set_option maxRecDepth 100000 in
set_option maxHeartbeats 4000000 in
theorem walk (a0 : Option Addr) (len0 cap0 : Nat) (w : World) (w0 : Code w a0 len0) (hT : Tab w) :
 Calls Tryz.prog 5 #[.slice a0 len0 cap0] w fun e w'=>e=.returned (.bool true)∧Below w.heap.size w w':=by
 by_cases hb:len0≤1048576
 · have HB := bigNo len0 cap0 a0 w hb
   have HC:Hid (Code w a0 len0):=w0
   have HT:Hid (Tab w):=hT
   clear w0 hT
   go_enter Tryz.func5,Tryz.ntmps5
   go_wp2_with fail
   refine HB.mono ?_
   rintro e w ⟨rfl,rfl⟩
   clear HB
   have HD:=drawPut len0 cap0 a0 w hb HC.out
   go_wp2_with fail
   refine HD.mono ?_
   rintro e w1 ⟨ps,a1,c1,rt,key,val,rfl,hpl,hrt,hkl,hvl,hps,o1,B1⟩
   have HD2:=drawSetPair len0 cap0 a0 w1 hb (HC.out.later B1)
   have HO1:=hidOwn o1
   have HPS:Hid (smL ps):=hps
   clear HD o1 hps
   go_wp2_with fail
   refine HD2.mono ?_
   rintro e w2 ⟨_,g9,c9,other,more,hl9,_,hol,hml,rfl,_,b2⟩
   have B2:=B1.trans (b2.mono B1.size)
   have o2:=kept2 HO1.out b2
   have hca:=own_none o2
   have I1:=(isPairs_own o2).2.2
   have K3:=impl_put a1 c1 ps rt key val w2 (HT.out.later B2) (by omega) HPS.out I1 hrt (by omega) (by omega)
   have HK4:Hid (∀ W,Below w2.heap.size w2 W→_):=fun W hW=>spec_put a1 c1 ps rt key val W (by omega) HPS.out (I1.later hW) (by omega) (by omega) hca
   have HK5:Hid (∀ W,Below w2.heap.size w2 W→Tab W→_):=fun W hW hT=>impl_put a1 c1 ps rt other more W hT (by omega) HPS.out (I1.later hW) hrt (by omega) (by omega)
   have HS1:Hid (∀ T nx,putR ps rt key val=some (T,nx)→_):=fun T nx h=>put_small (T:=T) (nx:=nx) HPS.out h
   have HS2:Hid (∀ T nx,putR ps rt other more=some (T,nx)→_):=fun T nx h=>put_small (T:=T) (nx:=nx) HPS.out h
   have HTW:Hid (∀ A x B y A' p B' q,putR ps rt key val=some (A,x)→putR ps rt other more=some (B,y)→putR A x other more=some (A',p)→putR B y key val=some (B',q)→(key≠other→p=q)∧(key=other→p=y∧q=x)):=fun A x B y A' p B' q h1 h2 h3 h4=>put_two h1 h2 h3 h4
   obtain⟨R1,hR1⟩:∃ R,R=putR ps rt key val:=⟨_,rfl⟩
   obtain⟨R2,hR2⟩:∃ R,R=putR ps rt other more:=⟨_,rfl⟩
   rw[←hR1] at K3 HK4 HS1
   rw[←hR2] at HK5 HS2
   rw[←hR1,←hR2] at HTW
   unfold UPost at K3 HK4 HK5
   clear HD2 I1 hR1 hR2 hca o2 b2 HO1
   cases R1 with
   | none =>
     simp only[Option.map_none,Option.getD_none,Option.isSome_none] at K3 HK4
     clear HTW HK5 HS1 HS2
     go_wp2_with fail
     refine K3.mono ?_
     rintro e w3 ⟨a3,m3,c3,rfl,o3,b3⟩
     have B3:=B2.trans (b3.mono B2.size)
     have K4:=HK4.out w3 b3
     clear K3 HK4 b3 o3
     go_wp2_with fail
     refine K4.mono ?_
     rintro e w4 ⟨a4,m4,c4,rfl,o4,b4⟩
     have B4:=B3.trans (b4.mono B3.size)
     clear K4 o4 b4
     go_wp2
     go_ret
     exact⟨rfl,B4⟩
   | some r =>
     obtain⟨A,x⟩:=r
     obtain⟨hsA,hA4,hx4⟩:=HS1.out A x rfl
     simp only[Option.map_some,Option.getD_some,Option.isSome_some] at K3 HK4
     have HSA:Hid (smL A):=hsA
     clear HS1 hsA
     go_wp2_with fail
     refine K3.mono ?_
     rintro e w3 ⟨a3,m3,c3,rfl,o3,b3⟩
     have B3:=B2.trans (b3.mono B2.size)
     have K4:=HK4.out w3 b3
     obtain⟨rfl,_,i3⟩:=isPairs_own o3
     have HI3:Hid (∀ W,Below w3.heap.size w3 W→IsPairs W a3 A):=fun W hW=>i3.later hW
     have Hb3:Hid (Below w2.heap.size w2 w3):=b3
     clear K3 HK4 b3 o3 i3
     go_wp2_with fail
     refine K4.mono ?_
     rintro e w4 ⟨a4,m4,c4,rfl,_,b4⟩
     have B4:=B3.trans (b4.mono B3.size)
     have y4:Below w3.heap.size w3 w4:=b4
     have x4:Below w2.heap.size w2 w4:=Hb3.out.trans (b4.mono Hb3.out.size)
     have K5:=HK5.out w4 x4 (HT.out.later B4)
     clear K4 b4 HK5 Hb3 x4
     by_cases hme:more=[]
     · subst hme
       clear HTW HS2 K5
       go_wp2
       go_ret
       exact⟨rfl,B4⟩
     · have hvb:more.isEmpty=false:=by cases more with | nil=>exact absurd rfl hme | cons _ _=>rfl
       have hv2:(more == [])=false:=by rw[beq_eq_false_iff_ne];exact hme
       clear hme
       cases R2 with
       | none =>
         simp only[Option.map_none,Option.getD_none,Option.isSome_none] at K5
         clear HTW HS2
         go_wp2_with fail
         refine K5.mono ?_
         rintro e w5 ⟨a5,m5,c5,rfl,_,b5⟩
         have B5:=B4.trans (b5.mono B4.size)
         clear K5 b5
         go_wp2
         go_ret
         exact⟨rfl,B5⟩
       | some r =>
         obtain⟨B,y⟩:=r
         obtain⟨hsB,hB4,hy4⟩:=HS2.out B y rfl
         simp only[Option.map_some,Option.getD_some,Option.isSome_some] at K5
         have HSB:Hid (smL B):=hsB
         have HTX:Hid (∀ A' p B' q,putR A x other more=some (A',p)→putR B y key val=some (B',q)→(key≠other→p=q)∧(key=other→p=y∧q=x)):=fun A' p B' q h3 h4=>HTW.out A x B y A' p B' q rfl rfl h3 h4
         clear HS2 hsB HTW
         go_wp2_with fail
         refine K5.mono ?_
         rintro e w5 ⟨a5,m5,c5,rfl,o5,b5⟩
         have B5:=B4.trans (b5.mono B4.size)
         have y5:Below w3.heap.size w3 w5:=y4.trans (b5.mono y4.size)
         obtain⟨rfl,_,i5⟩:=isPairs_own o5
         have HI5:Hid (∀ W,Below w5.heap.size w5 W→IsPairs W a5 B):=fun W hW=>i5.later hW
         have K6:=impl_put a3 c3 A x other more w5 (HT.out.later B5) (by omega) HSA.out (HI3.out w5 y5) (by omega) (by omega) (by omega)
         have HK7:Hid (∀ W,Below w5.heap.size w5 W→Tab W→_):=fun W hW hT=>impl_put a5 c5 B y key val W hT (by omega) HSB.out (HI5.out W hW) (by omega) (by omega) (by omega)
         obtain⟨R3,hR3⟩:∃ R,R=putR A x other more:=⟨_,rfl⟩
         obtain⟨R4,hR4⟩:∃ R,R=putR B y key val:=⟨_,rfl⟩
         rw[←hR3] at K6
         rw[←hR4] at HK7
         rw[←hR3,←hR4] at HTX
         unfold UPost at K6 HK7
         clear K5 o5 b5 i5 y4 y5 HI3 HI5 hR3 hR4
         cases R3 with
         | none =>
           simp only[Option.map_none,Option.getD_none,Option.isSome_none] at K6
           clear HTX
           go_wp2_with fail
           refine K6.mono ?_
           rintro e w6 ⟨a6,m6,c6,rfl,_,b6⟩
           have B6:=B5.trans (b6.mono B5.size)
           have K7:=HK7.out w6 b6 (HT.out.later B6)
           obtain⟨bb,hbb⟩:∃ bb,bb=R4.isSome:=⟨_,rfl⟩
           obtain⟨qq,hqq⟩:∃ qq,qq=(R4.map (·.2)).getD []:=⟨_,rfl⟩
           rw[←hbb,←hqq] at K7
           clear K6 b6 HK7 hbb hqq
           go_wp2_with fail
           refine K7.mono ?_
           rintro e w7 ⟨a7,m7,c7,rfl,_,b7⟩
           have B7:=B6.trans (b7.mono B6.size)
           clear K7 b7
           go_wp2
           go_ret
           exact⟨rfl,B7⟩
         | some r3 =>
           obtain⟨A',p⟩:=r3
           simp only[Option.map_some,Option.getD_some,Option.isSome_some] at K6
           go_wp2_with fail
           refine K6.mono ?_
           rintro e w6 ⟨a6,m6,c6,rfl,_,b6⟩
           have B6:=B5.trans (b6.mono B5.size)
           have K7:=HK7.out w6 b6 (HT.out.later B6)
           clear K6 b6 HK7
           cases R4 with
           | none =>
             simp only[Option.map_none,Option.getD_none,Option.isSome_none] at K7
             clear HTX
             go_wp2_with fail
             refine K7.mono ?_
             rintro e w7 ⟨a7,m7,c7,rfl,_,b7⟩
             have B7:=B6.trans (b7.mono B6.size)
             clear K7 b7
             go_wp2
             go_ret
             exact⟨rfl,B7⟩
           | some r4 =>
             obtain⟨B',q⟩:=r4
             obtain⟨t1,t2⟩:=HTX.out A' p B' q rfl rfl
             simp only[Option.map_some,Option.getD_some,Option.isSome_some] at K7
             clear HTX
             by_cases hko:key=other
             · obtain⟨rfl,rfl⟩:=t2 hko
               subst hko
               clear t1 t2
               go_wp2_with fail
               refine K7.mono ?_
               rintro e w7 ⟨a7,m7,c7,rfl,_,b7⟩
               have B7:=B6.trans (b7.mono B6.size)
               clear K7 b7
               go_wp2
               go_ret
               exact⟨rfl,B7⟩
             · obtain rfl:=t1 hko
               have hkb:(key == other)=false:=by rw[beq_eq_false_iff_ne];exact hko
               clear t1 t2 hko
               go_wp2_with fail
               refine K7.mono ?_
               rintro e w7 ⟨a7,m7,c7,rfl,_,b7⟩
               have B7:=B6.trans (b7.mono B6.size)
               clear K7 b7
               go_wp2
               go_ret
               exact⟨rfl,B7⟩
 · have HB:=bigYes len0 cap0 a0 w hb
   clear w0
   go_enter Tryz.func5,Tryz.ntmps5
   go_wp2_with fail
   refine HB.mono ?_
   rintro e w1 ⟨rfl,rfl⟩
   go_wp2
   go_ret
   exact⟨rfl,Below.refl _ _⟩
set_option maxRecDepth 100000 in
theorem lifted (os:Os) (started:os.Started) (H:Type) (enc:TypeId × Value→H) :
 ReturnsInHanded {} Tryz.checked os 5 .any (fun w args=>(Rows.fnPutOrderSpec.pre enc Tryz.prog Tryz.f5 [] false w args∧laidMetH Tryz.prog Rows.fnPutOrderRow.laid w)∧sizedMet enc Tryz.prog Tryz.f5 (OpenSpec.ofChange Rows.fnPutOrderSpec) false w args)
  (Rows.fnPutOrderSpec.post enc Tryz.prog Tryz.f5 false true false false):=by
 refine returnsInHanded_of_change_and (C:=Tryz.checked) (X:=fun w _=>laidMetH Tryz.prog Rows.fnPutOrderRow.laid w) (fun _ _ _ hh h=>h.of_heap hh) own started (by kernel_rfl) Tryz.func5
  (ChangeSpec.witness_shaped (enc:=enc) (C:=Tryz.checked) (os:=os) (X:=fun w _=>laidMetH Tryz.prog Rows.fnPutOrderRow.laid w) false (World.doorLaid Tryz.prog 400 os) #[.slice none 0 0] 8 rfl (World.shaped_of_RefB (by kernel_rfl) (by kernel_rfl)) (by kernel_rfl) (by kernel_rfl) (by kernel_rfl) (door_met os _)) ?_
 intro W base args ds gs before hval0 hW _ _ hL _
 have hval:∀ (j:Nat) t v,Tryz.f5.params[j]? = some t→args[j]? = some v→Value.okWide Tryz.prog W .any base t v:=hval0
 have hW':=hW
 obtain⟨p,q,hA0,hV0,rfl,hfz,hnd⟩:=hW
 have hA:DataW.TrodAll enc Tryz.prog W 0 (fun _=>true) true Tryz.f5.params.toList args.toList ds p:=hA0
 have hV : DataW.TrodVars enc Tryz.prog W (fun _ => true) ["loop.example/g00226/impl.roundWords"] gs q := hV0
 rw[Tryz.params5] at hA hval
 obtain⟨v0,vs0,d0,ds0,p0,q0,hargs,rfl,rfl,h0,r0⟩:=trodAll_cons hA
 obtain⟨rfl,rfl,rfl⟩:=trodAll_nil r0
 obtain rfl:args=#[v0]:=by cases args;simp_all
 obtain⟨a0,len0,cap0,rfl⟩:=okWide_slice Tryz.underlying22 (hval 0 22 v0 rfl rfl)
 have k0:=h0
 have lt0:∀ x∈p0,x.block<W.heap.size:=by obtain⟨m,hm⟩:=k0;exact DataW.trod_lt m _ _ _ hm
 have w0:Code W a0 len0:=by
  obtain⟨fuel,hf⟩:=h0
  rcases open_ints Tryz.underlying22 Tryz.underlying5 (by kernel_rfl) hf with ⟨hcs,_⟩ | ⟨x,l,c,zs,hcs,_,hl,hm,hz,_,hcell,hwz⟩
  · simp[Value.cells] at hcs
    obtain⟨rfl,rfl,rfl⟩:=hcs
    exact .inl rfl
  · simp[Value.cells] at hcs
    obtain⟨rfl,rfl,rfl⟩:=hcs
    exact codeOf W x _ _ zs hl (by simpa using hz) hcell hwz
 obtain⟨g,t,cs,fuel,d,p',rfl,hg,ht,hvar,hd,rfl⟩:=trodVars_one hV
 obtain rfl:=Option.some.inj (gTab.symm.trans hg)
 obtain rfl:=Option.some.inj (tTab.symm.trans ht)
 have hT:=tab_of hL
 have hltv:∀ x∈p',x.block<W.heap.size:=fun x hx=>hW'.lt x (List.mem_append_right _ (List.mem_append_right _ hx))
 clear hA0 hV0 hval0 hA hV
 refine (walk a0 len0 cap0 W w0 hT).mono fun e W' ⟨he,hB⟩=>?_
 subst he
 obtain⟨fuel',hd'⟩:=Below.trod laidOut0 (by kernel_rfl) (of_decide_eq_true (by kernel_rfl)) (v:=.agg cs) (⟨fuel,by simpa [Value.cells] using hd⟩:DataW.Trod enc Tryz.prog W 0 (fun _=>true) true 159 (.agg cs) d p') hB hltv
 have hv':=trodVars_mk1 (enc:=enc) (spare:=fun b=>decide (b<W.heap.size)) hg ht (var?_below hB hg hT.1 hvar) (by simpa [Value.cells] using hd')
 exact⟨_,rfl,_,_,_,[],_,_,hW',trodAll_mk1 (shut_bool Tryz.underlying4 _),(trodAll_cons_mk (Below.trod laidOut0 (by kernel_rfl) (of_decide_eq_true (by kernel_rfl)) k0 hB lt0) trodAll_mk0),hv',hB.frame _,fun h=>by cases h⟩
theorem named0 : Tryz.prog.funcNamed "loop.example/g00226/laws.FnPutOrder" = some 5 := by kernel_rfl
theorem closed0:joinedFacts Tryz.prog 5 Tryz.f5 Rows.fnPutOrderSpec Rows.fnPutOrderRow=true:=by
 unfold joinedFacts
 rw[seat_may,seat_lifts,seat_make]
 kernel_rfl
theorem inst0:Tryz.f5.isInstance Tryz.prog Rows.fnPutOrderRow.origin Rows.fnPutOrderRow.targs:=of_decide_eq_true (by kernel_rfl)
theorem wrap0:Tryz.f5.isWrapper Tryz.prog Rows.fnPutOrderRow.wrapper Rows.fnPutOrderRow.mainSum:=by unfold Func.isWrapper;first | (rw[if_pos (by decide +kernel)];kernel_rfl) | (rw[if_neg (by decide +kernel)];exact⟨rfl,rfl⟩)
theorem over:Rows.fnPutOrderRow.holds Tryz.pinned (OpenSpec.ofChange Rows.fnPutOrderSpec) :=
 OpenClaim.holds_of_wide 5 Tryz.f5 rfl rfl rfl rfl rfl rfl rfl ⟨rfl,rfl,rfl,rfl,rfl⟩ rfl rfl rfl rfl rfl named0 Tryz.func5 closed0 inst0 wrap0
  (fun os started H enc _=>lifted os started H enc)
theorem text0:Rows.fnPutOrderRow.wfByText (OpenSpec.ofChange Rows.fnPutOrderSpec)=true:=by kernel_rfl
theorem looks0:false=Tryz.prog.looks []:=by kernel_rfl
theorem goes0:false=Rows.fnPutOrderRow.goesBy Tryz.prog:=by kernel_rfl
theorem wants0:([22].all fun u => !Tryz.prog.wantsStandIn u)=true:=by kernel_rfl
theorem card:Claim7.holds Tryz.pinned (.plain (OpenSpec.ofChange Rows.fnPutOrderSpec)) Rows.fnPutOrderCard :=
 Claim7.holds_tied_plain_at .later [] [.data] true (true,Rows.fnPutOrderCard.stood.harness.2) false
  over (fun _ h=>by cases h) text0 (fun _ h=>by cases h) fnPutOrder_row_tie rfl ⟨rfl,rfl⟩ seat_main rfl
  (fun f fn hf hfn => by
   obtain rfl:f=5:=Option.some.inj (named0.symm.trans hf) |>.symm
   obtain rfl:fn=Tryz.f5:=(Option.some.inj (Tryz.func5.symm.trans hfn)).symm
   exact⟨looks0,fun j t ht=>by
    rw[Tryz.params5] at ht
    have hm:t∈[22]:=by simpa using Array.mem_of_getElem? ht
    exact (show Tryz.prog.wantsStandIn t=false by simpa using List.all_eq_true.1 wants0 t hm)⟩)
  goes0
end Go.Proofs.YtbdboicobkcggaaGreatDoor.fnPutOrder
namespace Go.Proofs.YtbdboicobkcggaaGreatDoor
theorem fnPutOrder_holds:Rows.FnPutOrderCardSaid:=fnPutOrder.card
end Go.Proofs.YtbdboicobkcggaaGreatDoor
