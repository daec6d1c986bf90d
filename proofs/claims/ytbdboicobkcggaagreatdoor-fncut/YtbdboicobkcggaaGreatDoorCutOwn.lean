/-
 At every code behind a cut in a drawn store the root is that of the pairs without this key, and a key that is put and cut again leaves the root as it was: FnCut answers true. No condition; the round words are laid as the program's text lays them.
-/
import Derived.Test.YtbdboicobkcggaaGreatDoorDrawSs
import Derived.Test.YtbdboicobkcggaaGreatDoorMathPs
import Derived.Test.YtbdboicobkcggaaGreatDoorUpdAll
import Derived.Test.YtbdboicobkcggaaGreatDoorDrawPs
import Derived.Test.YtbdboicobkcggaaGreatDoorSeatAll
import Derived.Test.YtbdboicobkcggaaGreatDoorTie
import Derived.Test.YtbdboicobkcggaaGreatDoorCards
import Derived.ProofKit
import Derived.LaidMore
import Derived.OpenShut
import Derived.ShutString
import Derived.ChangeOld
import Derived.Below
import Derived.Stop.Joined
import Derived.Lib.LaidTab
import Derived.SevenTiedAt
import Derived.SliceStrings
namespace Go.Proofs.YtbdboicobkcggaaGreatDoor.fnCut
open Go.ChangeShapes Go.WideShapes Go.ChangeAt Go.RowKit
open Go.ChangeMaps (open_string shut_string)
set_option linter.unusedVariables false
theorem own:ownKnob Tryz.prog.godebug=none:=by kernel_rfl
theorem laidOut0:laidOutB Tryz.prog=true:=by kernel_rfl
theorem gTab : Tryz.prog.globalNamed "loop.example/g00226/impl.roundWords" = some 1 := by kernel_rfl
theorem tTab:(Tryz.prog.globals[1]?).map (·.type)=some 159:=by kernel_rfl
theorem door_met (os:Os) (args:Array Value):laidMetH Tryz.prog Rows.fnCutRow.laid ((World.doorLaid Tryz.prog 400 os).forCall (fun _ _=>0) ⟨#[],args,[]⟩).memory :=
 laidMetH_of_parts3 (fuel:=8) (laidMet_of_run' 8 (by kernel_rfl) (by kernel_rfl)) (by kernel_rfl) (by kernel_rfl)
theorem tab_of {W:World} (h:laidMetH Tryz.prog Rows.fnCutRow.laid W):Tab W:=by
 rw[MakeChecks.laidMetH_plain _ _ _ (by kernel_rfl)] at h
 have hT : Lib.TabIs Tryz.prog W "loop.example/g00226/impl.roundWords" .u32 (kL.map fun x => num x) := Lib.tabIs_of_head (rest := []) gTab tTab Tryz.underlying159 Tryz.underlying110 (by kernel_rfl) (by kernel_rfl) h
 have hc:∀ i,i<64→W.cell? ⟨1,i,none⟩=some (.int .u32 (num (kL.getD i 0))):=fun i hi=>by
  have hl:i<kL.length:=hi
  have:=hT.cell gTab i (by rw[List.length_map];exact hl)
  rw[this]
  simp[List.getD,hl]
 exact⟨block_lt_of_cell (hc 0 (by omega)),hc⟩
set_option maxRecDepth 100000 in
set_option maxHeartbeats 4000000 in
theorem walk (a0:Option Addr) (len0 cap0:Nat) (w:World) (w0:Code w a0 len0) (hT:Tab w) :
 Calls Tryz.prog 4 #[.slice a0 len0 cap0] w fun e w'=>e=.returned (.bool true)∧Below w.heap.size w w':=by
 by_cases hb:len0≤1048576
 · have HB:=bigNo len0 cap0 a0 w hb
   have HC:Hid (Code w a0 len0):=w0
   have HT:Hid (Tab w):=hT
   clear w0 hT
   go_enter Tryz.func4,Tryz.ntmps4
   go_wp2_with fail
   refine HB.mono ?_
   rintro e w ⟨rfl,rfl⟩
   clear HB
   have HD:=drawCut len0 cap0 a0 w hb HC.out
   go_wp2_with fail
   refine HD.mono ?_
   rintro e w1 ⟨ps,a1,c1,rt,key,rfl,hpl,hrt,hkl,hps,o1,B1⟩
   have hca:=own_none o1
   have I1:=(isPairs_own o1).2.2
   have K2:=impl_cut a1 c1 ps rt key w1 (HT.out.later B1) (by omega) hps I1 hrt (by omega)
   have HK3:Hid (∀ W,Below w1.heap.size w1 W→_):=fun W hW=>spec_cut a1 c1 ps rt key W (by omega) hps (I1.later hW) (by omega) hca
   have HK4:Hid (∀ W,Below w1.heap.size w1 W→Tab W→_):=fun W hW hT=>impl_pairsAt a1 c1 ps rt W hT (by omega) hps (I1.later hW) hrt
   have HF:Hid (∀ T nx,cutR ps rt key=some (T,nx)→_):=fun T nx h=>cut_law (T:=T) (nx:=nx) hps h
   have HG:Hid (∀ T nx T2 up,cutR ps rt key=some (T,nx)→putR T nx key [111,110,99,101,32,109,111,114,101]=some (T2,up)→∃ T3,cutR T2 up key=some (T3,nx)):=fun T nx T2 up h1 h2=>cut_two h1 h2
   obtain⟨R,hR⟩:∃ R,R=cutR ps rt key:=⟨_,rfl⟩
   rw[←hR] at K2 HK3 HF HG
   unfold UPost at K2 HK3
   clear HD o1 I1 hR hps hca
   cases R with
   | none =>
     simp only[Option.map_none,Option.getD_none,Option.isSome_none] at K2 HK3
     clear HF HK4 HG
     go_wp2_with fail
     refine K2.mono ?_
     rintro e w2 ⟨a2,m2,c2,rfl,o2,b2⟩
     have B2:=B1.trans (b2.mono B1.size)
     have K3:=HK3.out w2 b2
     obtain⟨rfl,_,_⟩:=isPairs_own o2
     clear K2 HK3 b2 o2
     go_wp2_with fail
     refine K3.mono ?_
     rintro e w3 ⟨a3,m3,c3,rfl,o3,b3⟩
     have B3:=B2.trans (b3.mono B2.size)
     clear K3 o3 b3
     go_wp2
     go_ret
     exact⟨rfl,B3⟩
   | some r =>
     obtain⟨T,nx⟩:=r
     obtain⟨hsT,hT4,hnx,l,m,hl,hl60,hsl,hso,hsr,hm60,hsm,hro,hrr⟩:=HF.out T nx rfl
     simp only[Option.map_some,Option.getD_some,Option.isSome_some] at K2 HK3
     rw[hl] at HK4
     unfold PAPost at HK4
     simp only[Option.getD_some,Option.isSome_some] at HK4
     have HHL:Hid (smL T∧smL l∧smL m):=⟨hsT,hsl,hsm⟩
     have HSO:Hid (setOk l key []=true∧setR l key []=m):=⟨hso,hsr⟩
     have HRO:Hid (rootOk m=true∧rootR m=nx):=⟨hro,hrr⟩
     have HGG:Hid (∀ T2 up,putR T nx key [111,110,99,101,32,109,111,114,101]=some (T2,up)→(∃ T3,cutR T2 up key=some (T3,nx))∧smL T2∧T2.length≤400∧up.length≤1048576):=fun T2 up h=>⟨HG.out T nx T2 up rfl h,put_small hsT h⟩
     clear HF hl hsT hsl hsm hso hsr hro hrr HG
     go_wp2_with fail
     refine K2.mono ?_
     rintro e w2 ⟨a2,m2,c2,rfl,o2,b2⟩
     have B2:=B1.trans (b2.mono B1.size)
     have K3:=HK3.out w2 b2
     have hca2:=own_none o2
     obtain⟨rfl,_,i2⟩:=isPairs_own o2
     have HI2:Hid (∀ W,Below w2.heap.size w2 W→IsPairs W a2 T):=fun W hW=>i2.later hW
     have HCA:Hid (a2=none→c2=0):=hca2
     have Hb2:Hid (Below w1.heap.size w1 w2):=b2
     clear K2 HK3 b2 o2 i2 hca2
     go_wp2_with fail
     refine K3.mono ?_
     rintro e w3 ⟨a3,m3,c3,rfl,o3,b3⟩
     have B3:=B2.trans (b3.mono B2.size)
     have K4:=HK4.out w3 (Hb2.out.trans (b3.mono Hb2.out.size)) (HT.out.later B3)
     have Hb3:Hid (Below w2.heap.size w2 w3):=b3
     clear K3 o3 b3 HK4 Hb2
     go_wp2_with fail
     refine K4.mono ?_
     rintro e w4 ⟨a4,m4,c4,rfl,o4,b4⟩
     have B4:=B3.trans (b4.mono B3.size)
     have Hb4:Hid (Below w2.heap.size w2 w4):=Hb3.out.trans (b4.mono Hb3.out.size)
     have K5:=impl_setPairA a4 m4 c4 _ _ l key [] w4 HHL.out.2.1 (by omega) (by omega) (by simp) o4
     rw[HSO.out.1,HSO.out.2] at K5
     clear K4 o4 b4 HSO Hb3
     go_wp2_with fail
     refine K5.mono ?_
     rintro e w5 ⟨a5,m5,c5,rfl,o5,b5⟩
     have B5:=B4.trans (b5.mono B4.size)
     have Hb5:Hid (Below w2.heap.size w2 w5):=Hb4.out.trans (b5.mono Hb4.out.size)
     obtain⟨rfl,_,i5⟩:=isPairs_own o5
     have K6:=impl_rootOf a5 c5 m w5 (by omega) HHL.out.2.2 i5 (HT.out.later B5)
     rw[HRO.out.1,HRO.out.2] at K6
     clear K5 o5 i5 b5 HRO Hb4
     go_wp2_with fail
     refine K6.mono ?_
     rintro e w6 ⟨rfl,b6⟩
     have B6:=B5.trans (b6.mono B5.size)
     have x6:Below w2.heap.size w2 w6:=Hb5.out.trans (b6.mono Hb5.out.size)
     have K7:=impl_put a2 c2 T nx key [111,110,99,101,32,109,111,114,101] w6 (HT.out.later B6) (by omega) HHL.out.1 (HI2.out w6 x6) hnx (by omega) (by decide)
     have HK8:Hid (∀ W,Below w2.heap.size w2 W→_):=fun W hW=>spec_put a2 c2 T nx key [111,110,99,101,32,109,111,114,101] W (by omega) HHL.out.1 (HI2.out W hW) (by omega) (by decide) HCA.out
     obtain⟨R2,hR2⟩:∃ R,R=putR T nx key [111,110,99,101,32,109,111,114,101]:=⟨_,rfl⟩
     rw[←hR2] at K7 HK8 HGG
     unfold UPost at K7 HK8
     clear K6 b6 Hb5 hR2
     cases R2 with
     | none =>
       simp only[Option.map_none,Option.getD_none,Option.isSome_none] at K7 HK8
       go_wp2_with fail
       refine K7.mono ?_
       rintro e w7 ⟨a7,m7,c7,rfl,_,b7⟩
       have B7:=B6.trans (b7.mono B6.size)
       have K8:=HK8.out w7 (x6.trans (b7.mono x6.size))
       clear K7 b7 HK8 x6
       go_wp2_with fail
       refine K8.mono ?_
       rintro e w8 ⟨a8,m8,c8,rfl,_,b8⟩
       have B8:=B7.trans (b8.mono B7.size)
       clear K8 b8
       go_wp2
       go_ret
       exact⟨rfl,B8⟩
     | some r2 =>
       obtain⟨T2,up⟩:=r2
       obtain⟨⟨T3,hT3⟩,hs2,h24,hup⟩:=HGG.out T2 up rfl
       simp only[Option.map_some,Option.getD_some,Option.isSome_some] at K7 HK8
       have HS2:Hid (smL T2):=hs2
       have HT3:Hid (cutR T2 up key=some (T3,nx)):=hT3
       clear HGG hT3 hs2
       go_wp2_with fail
       refine K7.mono ?_
       rintro e w7 ⟨a7,m7,c7,rfl,o7,b7⟩
       have B7:=B6.trans (b7.mono B6.size)
       have K8:=HK8.out w7 (x6.trans (b7.mono x6.size))
       obtain⟨rfl,_,i7⟩:=isPairs_own o7
       have HI7:Hid (∀ W,Below w7.heap.size w7 W→IsPairs W a7 T2):=fun W hW=>i7.later hW
       clear K7 b7 HK8 x6 o7 i7
       go_wp2_with fail
       refine K8.mono ?_
       rintro e w8 ⟨a8,m8,c8,rfl,_,b8⟩
       have B8:=B7.trans (b8.mono B7.size)
       have K9:=impl_cut a7 c7 T2 up key w8 (HT.out.later B8) (by omega) HS2.out (HI7.out w8 b8) (by omega) (by omega)
       rw[HT3.out] at K9
       unfold UPost at K9
       simp only[Option.map_some,Option.getD_some,Option.isSome_some] at K9
       clear K8 b8
       go_wp2_with fail
       refine K9.mono ?_
       rintro e w9 ⟨a9,m9,c9,rfl,_,b9⟩
       have B9:=B8.trans (b9.mono B8.size)
       clear K9 b9
       go_wp2
       go_ret
       exact⟨rfl,B9⟩
 · have HB:=bigYes len0 cap0 a0 w hb
   clear w0
   go_enter Tryz.func4,Tryz.ntmps4
   go_wp2_with fail
   refine HB.mono ?_
   rintro e w1 ⟨rfl,rfl⟩
   go_wp2
   go_ret
   exact⟨rfl,Below.refl _ _⟩
set_option maxRecDepth 100000 in
theorem lifted (os:Os) (started:os.Started) (H:Type) (enc:TypeId × Value→H) :
 ReturnsInHanded {} Tryz.checked os 4 .any (fun w args=>(Rows.fnCutSpec.pre enc Tryz.prog Tryz.f4 [] false w args∧laidMetH Tryz.prog Rows.fnCutRow.laid w)∧sizedMet enc Tryz.prog Tryz.f4 (OpenSpec.ofChange Rows.fnCutSpec) false w args)
  (Rows.fnCutSpec.post enc Tryz.prog Tryz.f4 false true false false):=by
 refine returnsInHanded_of_change_and (C:=Tryz.checked) (X:=fun w _=>laidMetH Tryz.prog Rows.fnCutRow.laid w) (fun _ _ _ hh h=>h.of_heap hh) own started (by kernel_rfl) Tryz.func4
  (ChangeSpec.witness_shaped (enc:=enc) (C:=Tryz.checked) (os:=os) (X:=fun w _=>laidMetH Tryz.prog Rows.fnCutRow.laid w) false (World.doorLaid Tryz.prog 400 os) #[.slice none 0 0] 8 rfl (World.shaped_of_RefB (by kernel_rfl) (by kernel_rfl)) (by kernel_rfl) (by kernel_rfl) (by kernel_rfl) (door_met os _)) ?_
 intro W base args ds gs before hval0 hW _ _ hL _
 have hval:∀ (j:Nat) t v,Tryz.f4.params[j]? = some t→args[j]? = some v→Value.okWide Tryz.prog W .any base t v:=hval0
 have hW':=hW
 obtain⟨p,q,hA0,hV0,rfl,hfz,hnd⟩:=hW
 have hA:DataW.TrodAll enc Tryz.prog W 0 (fun _=>true) true Tryz.f4.params.toList args.toList ds p:=hA0
 have hV : DataW.TrodVars enc Tryz.prog W (fun _ => true) ["loop.example/g00226/impl.roundWords"] gs q := hV0
 rw[Tryz.params4] at hA hval
 obtain⟨v0,vs0,d0,ds0,p0,q0,hargs,rfl,rfl,h0,r0⟩:=trodAll_cons hA
 obtain⟨rfl,rfl,rfl⟩:=trodAll_nil r0
 obtain rfl:args=#[v0]:=by cases args;simp_all
 obtain⟨a0,len0,cap0,rfl⟩:=okWide_slice Tryz.underlying22 (hval 0 22 v0 rfl rfl)
 have k0:=h0
 have lt0:∀ x∈p0,x.block<W.heap.size:=by obtain⟨m,hm⟩:=k0;exact DataW.trod_lt m _ _ _ hm
 have w0:Code W a0 len0:=by
  obtain⟨fuel,hf⟩:=h0
  rcases open_ints Tryz.underlying22 Tryz.underlying5 (by kernel_rfl) hf with ⟨hcs,_⟩ | ⟨x,l,c,zs,hcs,_,hl,hm,hz,_,hcell,hwz⟩
  · simp[Value.cells] at hcs
    obtain⟨rfl,rfl,rfl⟩:=hcs
    exact .inl rfl
  · simp[Value.cells] at hcs
    obtain⟨rfl,rfl,rfl⟩:=hcs
    exact codeOf W x _ _ zs hl (by simpa using hz) hcell hwz
 obtain⟨g,t,cs,fuel,d,p',rfl,hg,ht,hvar,hd,rfl⟩:=trodVars_one hV
 obtain rfl:=Option.some.inj (gTab.symm.trans hg)
 obtain rfl:=Option.some.inj (tTab.symm.trans ht)
 have hT:=tab_of hL
 have hltv:∀ x∈p',x.block<W.heap.size:=fun x hx=>hW'.lt x (List.mem_append_right _ (List.mem_append_right _ hx))
 clear hA0 hV0 hval0 hA hV
 refine (walk a0 len0 cap0 W w0 hT).mono fun e W' ⟨he,hB⟩=>?_
 subst he
 obtain⟨fuel',hd'⟩:=Below.trod laidOut0 (by kernel_rfl) (of_decide_eq_true (by kernel_rfl)) (v:=.agg cs) (⟨fuel,by simpa [Value.cells] using hd⟩:DataW.Trod enc Tryz.prog W 0 (fun _=>true) true 159 (.agg cs) d p') hB hltv
 have hv':=trodVars_mk1 (enc:=enc) (spare:=fun b=>decide (b<W.heap.size)) hg ht (var?_below hB hg hT.1 hvar) (by simpa [Value.cells] using hd')
 exact⟨_,rfl,_,_,_,[],_,_,hW',trodAll_mk1 (shut_bool Tryz.underlying4 _),(trodAll_cons_mk (Below.trod laidOut0 (by kernel_rfl) (of_decide_eq_true (by kernel_rfl)) k0 hB lt0) trodAll_mk0),hv',hB.frame _,fun h=>by cases h⟩
theorem named0 : Tryz.prog.funcNamed "loop.example/g00226/laws.FnCut" = some 4 := by kernel_rfl
theorem closed0:joinedFacts Tryz.prog 4 Tryz.f4 Rows.fnCutSpec Rows.fnCutRow=true:=by
 unfold joinedFacts
 rw[seat_may,seat_lifts,seat_make]
 kernel_rfl
theorem inst0:Tryz.f4.isInstance Tryz.prog Rows.fnCutRow.origin Rows.fnCutRow.targs:=of_decide_eq_true (by kernel_rfl)
theorem wrap0:Tryz.f4.isWrapper Tryz.prog Rows.fnCutRow.wrapper Rows.fnCutRow.mainSum:=by unfold Func.isWrapper;first | (rw[if_pos (by decide +kernel)];kernel_rfl) | (rw[if_neg (by decide +kernel)];exact⟨rfl,rfl⟩)
theorem over:Rows.fnCutRow.holds Tryz.pinned (OpenSpec.ofChange Rows.fnCutSpec) :=
 OpenClaim.holds_of_wide 4 Tryz.f4 rfl rfl rfl rfl rfl rfl rfl ⟨rfl,rfl,rfl,rfl,rfl⟩ rfl rfl rfl rfl rfl named0 Tryz.func4 closed0 inst0 wrap0
  (fun os started H enc _=>lifted os started H enc)
theorem text0:Rows.fnCutRow.wfByText (OpenSpec.ofChange Rows.fnCutSpec)=true:=by kernel_rfl
theorem looks0:false=Tryz.prog.looks []:=by kernel_rfl
theorem goes0:false=Rows.fnCutRow.goesBy Tryz.prog:=by kernel_rfl
theorem wants0:([22].all fun u => !Tryz.prog.wantsStandIn u)=true:=by kernel_rfl
theorem card:Claim7.holds Tryz.pinned (.plain (OpenSpec.ofChange Rows.fnCutSpec)) Rows.fnCutCard :=
 Claim7.holds_tied_plain_at .later [] [.data] true (true,Rows.fnCutCard.stood.harness.2) false
  over (fun _ h=>by cases h) text0 (fun _ h=>by cases h) fnCut_row_tie rfl ⟨rfl,rfl⟩ seat_main rfl
  (fun f fn hf hfn => by
   obtain rfl:f=4:=Option.some.inj (named0.symm.trans hf) |>.symm
   obtain rfl:fn=Tryz.f4:=(Option.some.inj (Tryz.func4.symm.trans hfn)).symm
   exact⟨looks0,fun j t ht=>by
    rw[Tryz.params4] at ht
    have hm:t∈[22]:=by simpa using Array.mem_of_getElem? ht
    exact (show Tryz.prog.wantsStandIn t=false by simpa using List.all_eq_true.1 wants0 t hm)⟩)
  goes0
end Go.Proofs.YtbdboicobkcggaaGreatDoor.fnCut
namespace Go.Proofs.YtbdboicobkcggaaGreatDoor
theorem fnCut_holds:Rows.FnCutCardSaid:=fnCut.card
end Go.Proofs.YtbdboicobkcggaaGreatDoor
