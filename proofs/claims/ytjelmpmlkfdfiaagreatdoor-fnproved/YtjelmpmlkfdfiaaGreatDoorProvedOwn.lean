/-
 At every code a proof of a key in a drawn store says what is got of the key, and agrees with the store: FnProved answers true. No condition; the round words are laid as the program's text lays them.
-/
import Derived.Test.YtjelmpmlkfdfiaaGreatDoorDrawGs
import Derived.Test.YtjelmpmlkfdfiaaGreatDoorMathPf
import Derived.Test.YtjelmpmlkfdfiaaGreatDoorIPrf2
import Derived.Test.YtjelmpmlkfdfiaaGreatDoorIChk3
import Derived.Test.YtjelmpmlkfdfiaaGreatDoorAgr
import Derived.Test.YtjelmpmlkfdfiaaGreatDoorWayGet
import Derived.Test.YtjelmpmlkfdfiaaGreatDoorDrawPs
import Derived.Test.YtjelmpmlkfdfiaaGreatDoorSeatAll
import Derived.Test.YtjelmpmlkfdfiaaGreatDoorTie
import Derived.Test.YtjelmpmlkfdfiaaGreatDoorCards
import Derived.ProofKit
import Derived.LaidMore
import Derived.OpenShut
import Derived.ShutString
import Derived.ChangeOld
import Derived.Below
import Derived.Stop.Joined
import Derived.Lib.LaidTab
import Derived.SevenTiedAt
import Derived.SliceStrings
namespace Go.Proofs.YtjelmpmlkfdfiaaGreatDoor.fnProved
open Go.ChangeShapes Go.WideShapes Go.ChangeAt Go.RowKit
open Go.ChangeMaps (open_string shut_string)
set_option linter.unusedVariables false
theorem own:ownKnob Tryz.prog.godebug=none:=by kernel_rfl
theorem laidOut0:laidOutB Tryz.prog=true:=by kernel_rfl
theorem gTab : Tryz.prog.globalNamed "loop.example/g00226/impl.roundWords" = some 0 := by kernel_rfl
theorem tTab:(Tryz.prog.globals[0]?).map (·.type)=some 107:=by kernel_rfl
theorem door_met (os:Os) (args:Array Value):laidMetH Tryz.prog Rows.fnProvedRow.laid ((World.doorLaid Tryz.prog 400 os).forCall (fun _ _=>0) ⟨#[],args,[]⟩).memory :=
 laidMetH_of_parts3 (fuel:=8) (laidMet_of_run' 8 (by kernel_rfl) (by kernel_rfl)) (by kernel_rfl) (by kernel_rfl)
theorem tab_of {W:World} (h:laidMetH Tryz.prog Rows.fnProvedRow.laid W):Tab W:=by
 rw[MakeChecks.laidMetH_plain _ _ _ (by kernel_rfl)] at h
 have hT : Lib.TabIs Tryz.prog W "loop.example/g00226/impl.roundWords" .u32 (kL.map fun x => num x) := Lib.tabIs_of_head (rest := []) gTab tTab Tryz.underlying107 Tryz.underlying57 (by kernel_rfl) (by kernel_rfl) h
 have hc:∀ i,i<64→W.cell? ⟨0,i,none⟩=some (.int .u32 (num (kL.getD i 0))):=fun i hi=>by
  have hl:i<kL.length:=hi
  have:=hT.cell gTab i (by rw[List.length_map];exact hl)
  rw[this]
  simp[List.getD,hl]
 exact⟨block_lt_of_cell (hc 0 (by omega)),hc⟩
theorem pz_refl (w:World) (q:Nat):Below w.heap.size w (w.drewN q):=⟨rfl,rfl,rfl,Nat.le_refl _,fun _ _=>rfl⟩
theorem cap_of {w:World} {B e n m c:Nat} {a:Option Addr} {xs:List Value} (h:w.ownsRow B e 1 (.slice a m c) n xs):n≤c:=by
 rcases h.2 with ⟨hv,h0⟩ | ⟨g,cap,cur,hv,hb,hgb,rest⟩
 · omega
 · cases hv
   exact rest.1
theorem find_val {ps:List PairL} {h t:List UInt8} (hf:findL ps h=some t):∃ p∈ps,p.2=t:=by
 unfold findL at hf
 rw[Option.map_eq_some_iff] at hf
 obtain⟨p,hp,rfl⟩:=hf
 exact⟨p,List.mem_of_find?_eq_some hp,rfl⟩
set_option maxRecDepth 100000 in
set_option maxHeartbeats 4000000 in
theorem walk (a0:Option Addr) (len0 cap0:Nat) (w:World) (w0:Code w a0 len0) (hT:Tab w) :
 Calls Tryz.prog 4 #[.slice a0 len0 cap0] w fun e w'=>e=.returned (.bool true)∧Below w.heap.size w w':=by
 by_cases hb:len0≤1048576
 · have HB:=bigNo len0 cap0 a0 w hb
   have HC:Hid (Code w a0 len0):=w0
   have HT:Hid (Tab w):=hT
   clear w0 hT
   go_enter Tryz.func4,Tryz.ntmps4
   go_wp2_with fail
   refine HB.mono ?_
   rintro e w ⟨rfl,rfl⟩
   clear HB
   have HD:=drawProofOf len0 cap0 a0 w hb HC.out
   go_wp2_with fail
   refine HD.mono ?_
   rintro e w1 ⟨ps,a1,c1,rt,key,rfl,hpl,hrt,hkl,hps,o1,B1⟩
   have I1:=(isPairs_own o1).2.2
   have HI1:Hid (∀ W,Below w1.heap.size w1 W→IsPairs W a1 ps):=fun W hW=>I1.later hW
   have HPS:Hid (∀ p∈ps,p.1.length≤1048576∧p.2.length≤1048576):=hps
   have K2:=impl_proofOf a1 c1 ps rt key w1 (HT.out.later B1) (by omega) hps I1 hrt (by omega)
   have HK3:Hid (∀ W,Below w1.heap.size w1 W→_):=fun W hW=>spec_proofOf a1 c1 ps rt key W (by omega) hps (I1.later hW) hrt (by omega)
   have HF:Hid (∀ T,proofR ps rt key=some T→_):=fun T h=>proof_facts (T:=T) h
   have HK4:Hid (∀ W,Below w1.heap.size w1 W→Tab W→_):=fun W hW hT=>impl_get a1 c1 ps rt key W hT (by omega) hps (I1.later hW) hrt (by omega)
   have HNO:Hid (proofR ps rt key=none→getC ps rt key=3∨getC ps rt key=2):=fun h=>by
    unfold proofR at h
    split at h
    · assumption
    · cases h
   obtain⟨R,hR⟩:∃ R,R=proofR ps rt key:=⟨_,rfl⟩
   obtain⟨gc,hgc⟩:∃ gc,gc=getC ps rt key:=⟨_,rfl⟩
   obtain⟨gv,hgv⟩:∃ gv,gv=getV ps rt key:=⟨_,rfl⟩
   rw[←hR] at K2 HK3 HF HNO
   rw[←hgc] at HK4 HF HNO
   rw[←hgv] at HK4 HF
   unfold FPost at K2 HK3
   clear HD o1 I1 hR hps hgc hgv
   cases R with
   | none =>
     have hcc:=HNO.out rfl
     have hb1:(gc == 1)=false:=by rw[beq_eq_false_iff_ne];omega
     have hb0:(gc == 0)=false:=by rw[beq_eq_false_iff_ne];omega
     simp only[Option.getD_none,Option.isSome_none] at K2 HK3
     clear HF HNO hcc
     go_wp2_with fail
     refine K2.mono ?_
     rintro e w2 ⟨a2,m2,c2,rfl,o2,b2⟩
     have B2:=B1.trans (b2.mono B1.size)
     have K3:=HK3.out w2 b2
     have HO2:=hidOwn o2
     obtain⟨rfl,_,_⟩:=strs_own o2
     have Hb2:Hid (Below w1.heap.size w1 w2):=b2
     clear K2 HK3 b2 o2
     go_wp2_with fail
     refine K3.mono ?_
     rintro e w3 ⟨a3,m3,c3,rfl,o3,b3⟩
     have B3:=B2.trans (b3.mono B2.size)
     have K4:=HK4.out w3 (Hb2.out.trans (b3.mono Hb2.out.size)) (HT.out.later B3)
     have HO3:=hidOwn o3
     have HP2:=hidOwn (kept1 HO2.out b3)
     clear K3 o3 b3 HK4 HO2 Hb2
     go_wp2_with fail
     refine K4.mono ?_
     rintro e w4 ⟨rfl,b4⟩
     have B4:=B3.trans (b4.mono B3.size)
     have K5:=sameT_same [] _ _ _ _ w4 (by simp) (kept1 HP2.out b4) (kept1 HO3.out b4)
     clear K4 b4 HP2 HO3
     go_wp2_with fail
     refine K5.mono ?_
     rintro e w5 ⟨rfl,q5,hq5⟩
     have b5:Below w4.heap.size w4 w5:=by rw[hq5];exact pz_refl w4 q5
     have B5:=B4.trans (b5.mono B4.size)
     clear K5 b5 hq5
     go_wp2
     go_ret
     exact⟨rfl,B5⟩
   | some T =>
     obtain⟨hst,h32,hk12,hT30,hfd,hT2,hhd,hem,hgg,hck,hagb,hagn⟩:=HF.out T rfl
     have HTM:Hid (∀ t∈T,t.length≤1048576):=fun t ht=>by
      obtain⟨p,hp,he⟩:=find_val (hfd t ht)
      rw[←he];exact (HPS.out p hp).2
     have HCK:Hid (chkR rt key T=(if gc=1 then (2,gv) else (1,[]))):=hck
     have HAG:Hid (agB ps T=true∧agN ps T=T.length):=⟨hagb,hagn⟩
     have HGG:Hid (gc=0∧gv=[]∨gc=1):=hgg
     simp only[Option.getD_some,Option.isSome_some] at K2 HK3
     clear HF HNO hst hfd hhd hem h32 hck hagb hagn hgg hT2
     go_wp2_with fail
     refine K2.mono ?_
     rintro e w2 ⟨a2,m2,c2,rfl,o2,b2⟩
     have B2:=B1.trans (b2.mono B1.size)
     have K3:=HK3.out w2 b2
     have HO2:=hidOwn o2
     have hcp:=cap_of o2
     obtain⟨rfl,_,i2⟩:=strs_own o2
     have HI2:Hid (∀ W,Below w2.heap.size w2 W→IsStrs W a2 T):=fun W hW=>strs_later i2 hW
     have Hb2:Hid (Below w1.heap.size w1 w2):=b2
     clear K2 HK3 b2 o2 i2
     go_wp2_with fail
     refine K3.mono ?_
     rintro e w3 ⟨a3,m3,c3,rfl,o3,b3⟩
     have B3:=B2.trans (b3.mono B2.size)
     have HY3:Hid (Below w1.heap.size w1 w3):=Hb2.out.trans (b3.mono Hb2.out.size)
     have HX3:Hid (Below w2.heap.size w2 w3):=b3
     have K4:=HK4.out w3 HY3.out (HT.out.later B3)
     have HO3:=hidOwn o3
     obtain⟨rfl,_,_⟩:=strs_own o3
     have HP2:=hidOwn (kept1 HO2.out b3)
     clear K3 o3 b3 HK4 HO2 Hb2
     go_wp2_with fail
     refine K4.mono ?_
     rintro e w4 ⟨rfl,b4⟩
     have B4:=B3.trans (b4.mono B3.size)
     have HX4:Hid (Below w2.heap.size w2 w4):=HX3.out.trans (b4.mono HX3.out.size)
     have HY4:Hid (Below w1.heap.size w1 w4):=HY3.out.trans (b4.mono HY3.out.size)
     have K5:=sameT_same T _ _ _ _ w4 (by omega) (kept1 HP2.out b4) (kept1 HO3.out b4)
     clear K4 b4 HP2 HO3 HX3 HY3
     have TAILK:Hid (∀ w5,(∃ q,w5=w4.drewN q)→Below w4.heap.size w4 w5):=fun w5 h=>by obtain⟨q,rfl⟩:=h;exact pz_refl w4 q
     rcases HGG.out with ⟨hg0,hv0⟩ | hg1
     · subst hg0
       subst hv0
       have HCR:Hid (chkR rt key T=(1,[])):=by rw[Hid,HCK.out];rfl
       clear HCK HGG
       go_wp2_with fail
       refine K5.mono ?_
       rintro e w5 ⟨rfl,q5⟩
       have b5:=TAILK.out w5 q5
       have B5:=B4.trans (b5.mono B4.size)
       have HX5:Hid (Below w2.heap.size w2 w5):=HX4.out.trans (b5.mono HX4.out.size)
       have HY5:Hid (Below w1.heap.size w1 w5):=HY4.out.trans (b5.mono HY4.out.size)
       have K6:=impl_checkProof rt key a2 c2 T w5 (HT.out.later B5) hcp hrt (by omega) (by omega) HTM.out (HI2.out w5 HX5.out)
       rw[HCR.out] at K6
       dsimp only at K6
       clear K5 b5 q5 TAILK HX4 HY4
       go_wp2_with fail
       refine K6.mono ?_
       rintro e w6 ⟨rfl,b6⟩
       have B6:=B5.trans (b6.mono B5.size)
       have K7:=impl_agrees a1 c1 ps a2 c2 T w6 (HT.out.later B6) (by omega) HPS.out (HI1.out w6 (HY5.out.trans (b6.mono HY5.out.size))) (by omega) HTM.out (HI2.out w6 (HX5.out.trans (b6.mono HX5.out.size)))
       rw[HAG.out.1,HAG.out.2] at K7
       clear K6 b6 HX5 HY5
       go_wp2_with fail
       refine K7.mono ?_
       rintro e w7 ⟨rfl,b7⟩
       have B7:=B6.trans (b7.mono B6.size)
       clear K7 b7
       go_wp2
       go_ret
       exact⟨rfl,B7⟩
     · subst hg1
       have HCR:Hid (chkR rt key T=(2,gv)):=by rw[Hid,HCK.out];rfl
       clear HCK HGG
       go_wp2_with fail
       refine K5.mono ?_
       rintro e w5 ⟨rfl,q5⟩
       have b5:=TAILK.out w5 q5
       have B5:=B4.trans (b5.mono B4.size)
       have HX5:Hid (Below w2.heap.size w2 w5):=HX4.out.trans (b5.mono HX4.out.size)
       have HY5:Hid (Below w1.heap.size w1 w5):=HY4.out.trans (b5.mono HY4.out.size)
       have K6:=impl_checkProof rt key a2 c2 T w5 (HT.out.later B5) hcp hrt (by omega) (by omega) HTM.out (HI2.out w5 HX5.out)
       rw[HCR.out] at K6
       dsimp only at K6
       clear K5 b5 q5 TAILK HX4 HY4
       go_wp2_with fail
       refine K6.mono ?_
       rintro e w6 ⟨rfl,b6⟩
       have B6:=B5.trans (b6.mono B5.size)
       have K7:=impl_agrees a1 c1 ps a2 c2 T w6 (HT.out.later B6) (by omega) HPS.out (HI1.out w6 (HY5.out.trans (b6.mono HY5.out.size))) (by omega) HTM.out (HI2.out w6 (HX5.out.trans (b6.mono HX5.out.size)))
       rw[HAG.out.1,HAG.out.2] at K7
       clear K6 b6 HX5 HY5
       go_wp2_with fail
       refine K7.mono ?_
       rintro e w7 ⟨rfl,b7⟩
       have B7:=B6.trans (b7.mono B6.size)
       clear K7 b7
       go_wp2
       go_ret
       exact⟨rfl,B7⟩
 · have HB:=bigYes len0 cap0 a0 w hb
   clear w0
   go_enter Tryz.func4,Tryz.ntmps4
   go_wp2_with fail
   refine HB.mono ?_
   rintro e w1 ⟨rfl,rfl⟩
   go_wp2
   go_ret
   exact⟨rfl,Below.refl _ _⟩
set_option maxRecDepth 100000 in
theorem lifted (os:Os) (started:os.Started) (H:Type) (enc:TypeId × Value→H) :
 ReturnsInHanded {} Tryz.checked os 4 .any (fun w args=>(Rows.fnProvedSpec.pre enc Tryz.prog Tryz.f4 [] false w args∧laidMetH Tryz.prog Rows.fnProvedRow.laid w)∧sizedMet enc Tryz.prog Tryz.f4 (OpenSpec.ofChange Rows.fnProvedSpec) false w args)
  (Rows.fnProvedSpec.post enc Tryz.prog Tryz.f4 false true false false):=by
 refine returnsInHanded_of_change_and (C:=Tryz.checked) (X:=fun w _=>laidMetH Tryz.prog Rows.fnProvedRow.laid w) (fun _ _ _ hh h=>h.of_heap hh) own started (by kernel_rfl) Tryz.func4
  (ChangeSpec.witness_shaped (enc:=enc) (C:=Tryz.checked) (os:=os) (X:=fun w _=>laidMetH Tryz.prog Rows.fnProvedRow.laid w) false (World.doorLaid Tryz.prog 400 os) #[.slice none 0 0] 8 rfl (World.shaped_of_RefB (by kernel_rfl) (by kernel_rfl)) (by kernel_rfl) (by kernel_rfl) (by kernel_rfl) (door_met os _)) ?_
 intro W base args ds gs before hval0 hW _ _ hL _
 have hval:∀ (j:Nat) t v,Tryz.f4.params[j]? = some t→args[j]? = some v→Value.okWide Tryz.prog W .any base t v:=hval0
 have hW':=hW
 obtain⟨p,q,hA0,hV0,rfl,hfz,hnd⟩:=hW
 have hA:DataW.TrodAll enc Tryz.prog W 0 (fun _=>true) true Tryz.f4.params.toList args.toList ds p:=hA0
 have hV : DataW.TrodVars enc Tryz.prog W (fun _ => true) ["loop.example/g00226/impl.roundWords"] gs q := hV0
 rw[Tryz.params4] at hA hval
 obtain⟨v0,vs0,d0,ds0,p0,q0,hargs,rfl,rfl,h0,r0⟩:=trodAll_cons hA
 obtain⟨rfl,rfl,rfl⟩:=trodAll_nil r0
 obtain rfl:args=#[v0]:=by cases args;simp_all
 obtain⟨a0,len0,cap0,rfl⟩:=okWide_slice Tryz.underlying22 (hval 0 22 v0 rfl rfl)
 have k0:=h0
 have lt0:∀ x∈p0,x.block<W.heap.size:=by obtain⟨m,hm⟩:=k0;exact DataW.trod_lt m _ _ _ hm
 have w0:Code W a0 len0:=by
  obtain⟨fuel,hf⟩:=h0
  rcases open_ints Tryz.underlying22 Tryz.underlying5 (by kernel_rfl) hf with ⟨hcs,_⟩ | ⟨x,l,c,zs,hcs,_,hl,hm,hz,_,hcell,hwz⟩
  · simp[Value.cells] at hcs
    obtain⟨rfl,rfl,rfl⟩:=hcs
    exact .inl rfl
  · simp[Value.cells] at hcs
    obtain⟨rfl,rfl,rfl⟩:=hcs
    exact codeOf W x _ _ zs hl (by simpa using hz) hcell hwz
 obtain⟨g,t,cs,fuel,d,p',rfl,hg,ht,hvar,hd,rfl⟩:=trodVars_one hV
 obtain rfl:=Option.some.inj (gTab.symm.trans hg)
 obtain rfl:=Option.some.inj (tTab.symm.trans ht)
 have hT:=tab_of hL
 have hltv:∀ x∈p',x.block<W.heap.size:=fun x hx=>hW'.lt x (List.mem_append_right _ (List.mem_append_right _ hx))
 clear hA0 hV0 hval0 hA hV
 refine (walk a0 len0 cap0 W w0 hT).mono fun e W' ⟨he,hB⟩=>?_
 subst he
 obtain⟨fuel',hd'⟩:=Below.trod laidOut0 (by kernel_rfl) (of_decide_eq_true (by kernel_rfl)) (v:=.agg cs) (⟨fuel,by simpa [Value.cells] using hd⟩:DataW.Trod enc Tryz.prog W 0 (fun _=>true) true 107 (.agg cs) d p') hB hltv
 have hv':=trodVars_mk1 (enc:=enc) (spare:=fun b=>decide (b<W.heap.size)) hg ht (var?_below hB hg hT.1 hvar) (by simpa [Value.cells] using hd')
 exact⟨_,rfl,_,_,_,[],_,_,hW',trodAll_mk1 (shut_bool Tryz.underlying4 _),(trodAll_cons_mk (Below.trod laidOut0 (by kernel_rfl) (of_decide_eq_true (by kernel_rfl)) k0 hB lt0) trodAll_mk0),hv',hB.frame _,fun h=>by cases h⟩
theorem named0 : Tryz.prog.funcNamed "loop.example/g00226/laws.FnProved" = some 4 := by kernel_rfl
theorem closed0:joinedFacts Tryz.prog 4 Tryz.f4 Rows.fnProvedSpec Rows.fnProvedRow=true:=by
 unfold joinedFacts
 rw[seat_may,seat_lifts,seat_make]
 kernel_rfl
theorem inst0:Tryz.f4.isInstance Tryz.prog Rows.fnProvedRow.origin Rows.fnProvedRow.targs:=of_decide_eq_true (by kernel_rfl)
theorem wrap0:Tryz.f4.isWrapper Tryz.prog Rows.fnProvedRow.wrapper Rows.fnProvedRow.mainSum:=by unfold Func.isWrapper;first | (rw[if_pos (by decide +kernel)];kernel_rfl) | (rw[if_neg (by decide +kernel)];exact⟨rfl,rfl⟩)
theorem over:Rows.fnProvedRow.holds Tryz.pinned (OpenSpec.ofChange Rows.fnProvedSpec) :=
 OpenClaim.holds_of_wide 4 Tryz.f4 rfl rfl rfl rfl rfl rfl rfl ⟨rfl,rfl,rfl,rfl,rfl⟩ rfl rfl rfl rfl rfl named0 Tryz.func4 closed0 inst0 wrap0
  (fun os started H enc _=>lifted os started H enc)
theorem text0:Rows.fnProvedRow.wfByText (OpenSpec.ofChange Rows.fnProvedSpec)=true:=by kernel_rfl
theorem looks0:false=Tryz.prog.looks []:=by kernel_rfl
theorem goes0:false=Rows.fnProvedRow.goesBy Tryz.prog:=by kernel_rfl
theorem wants0:([22].all fun u => !Tryz.prog.wantsStandIn u)=true:=by kernel_rfl
theorem card:Claim7.holds Tryz.pinned (.plain (OpenSpec.ofChange Rows.fnProvedSpec)) Rows.fnProvedCard :=
 Claim7.holds_tied_plain_at .later [] [.data] true (true,Rows.fnProvedCard.stood.harness.2) false
  over (fun _ h=>by cases h) text0 (fun _ h=>by cases h) fnProved_row_tie rfl ⟨rfl,rfl⟩ seat_main rfl
  (fun f fn hf hfn => by
   obtain rfl:f=4:=Option.some.inj (named0.symm.trans hf) |>.symm
   obtain rfl:fn=Tryz.f4:=(Option.some.inj (Tryz.func4.symm.trans hfn)).symm
   exact⟨looks0,fun j t ht=>by
    rw[Tryz.params4] at ht
    have hm:t∈[22]:=by simpa using Array.mem_of_getElem? ht
    exact (show Tryz.prog.wantsStandIn t=false by simpa using List.all_eq_true.1 wants0 t hm)⟩)
  goes0
end Go.Proofs.YtjelmpmlkfdfiaaGreatDoor.fnProved
namespace Go.Proofs.YtjelmpmlkfdfiaaGreatDoor
theorem fnProved_holds:Rows.FnProvedCardSaid:=fnProved.card
end Go.Proofs.YtjelmpmlkfdfiaaGreatDoor
