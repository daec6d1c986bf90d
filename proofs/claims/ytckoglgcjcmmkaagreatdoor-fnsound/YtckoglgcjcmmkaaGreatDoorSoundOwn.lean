/-
 At every code what a drawn proof shows of a key is what is got of it in a drawn store, as far as the store has its nodes, unless a text in it has the hash of an unlike node: FnSound answers true. No condition; the round words are laid as the program's text lays them.
-/
import Derived.Test.YtckoglgcjcmmkaaGreatDoorDrawPf
import Derived.Test.YtckoglgcjcmmkaaGreatDoorMathPfs
import Derived.Test.YtckoglgcjcmmkaaGreatDoorIChk3
import Derived.Test.YtckoglgcjcmmkaaGreatDoorSChk
import Derived.Test.YtckoglgcjcmmkaaGreatDoorAgr
import Derived.Test.YtckoglgcjcmmkaaGreatDoorWayGet
import Derived.Test.YtckoglgcjcmmkaaGreatDoorDrawPs
import Derived.Test.YtckoglgcjcmmkaaGreatDoorSeatAll
import Derived.Test.YtckoglgcjcmmkaaGreatDoorTie
import Derived.Test.YtckoglgcjcmmkaaGreatDoorCards
import Derived.ProofKit
import Derived.LaidMore
import Derived.OpenShut
import Derived.ShutString
import Derived.ChangeOld
import Derived.Below
import Derived.Stop.Joined
import Derived.Lib.LaidTab
import Derived.SevenTiedAt
import Derived.SliceStrings
namespace Go.Proofs.YtckoglgcjcmmkaaGreatDoor.fnSound
open Go.ChangeShapes Go.WideShapes Go.ChangeAt Go.RowKit
open Go.ChangeMaps (open_string shut_string)
set_option linter.unusedVariables false
theorem own:ownKnob Tryz.prog.godebug=none:=by kernel_rfl
theorem laidOut0:laidOutB Tryz.prog=true:=by kernel_rfl
theorem gTab : Tryz.prog.globalNamed "loop.example/g00226/impl.roundWords" = some 0 := by kernel_rfl
theorem tTab:(Tryz.prog.globals[0]?).map (·.type)=some 141:=by kernel_rfl
theorem door_met (os:Os) (args:Array Value):laidMetH Tryz.prog Rows.fnSoundRow.laid ((World.doorLaid Tryz.prog 400 os).forCall (fun _ _=>0) ⟨#[],args,[]⟩).memory :=
 laidMetH_of_parts3 (fuel:=8) (laidMet_of_run' 8 (by kernel_rfl) (by kernel_rfl)) (by kernel_rfl) (by kernel_rfl)
theorem tab_of {W:World} (h:laidMetH Tryz.prog Rows.fnSoundRow.laid W):Tab W:=by
 rw[MakeChecks.laidMetH_plain _ _ _ (by kernel_rfl)] at h
 have hT : Lib.TabIs Tryz.prog W "loop.example/g00226/impl.roundWords" .u32 (kL.map fun x => num x) := Lib.tabIs_of_head (rest := []) gTab tTab Tryz.underlying141 Tryz.underlying96 (by kernel_rfl) (by kernel_rfl) h
 have hc:∀ i,i<64→W.cell? ⟨0,i,none⟩=some (.int .u32 (num (kL.getD i 0))):=fun i hi=>by
  have hl:i<kL.length:=hi
  have:=hT.cell gTab i (by rw[List.length_map];exact hl)
  rw[this]
  simp[List.getD,hl]
 exact⟨block_lt_of_cell (hc 0 (by omega)),hc⟩
theorem way_code (find:List UInt8→Option (List UInt8)):∀ (f:Nat) (h p:List UInt8),(wayL find f h p).2.1=0∨(wayL find f h p).2.1=1∨(wayL find f h p).2.1=2
 | 0,_,_=>.inr (.inr rfl)
 | f + 1, h, p => by
   cases hf:find h with
   | none=>rw[wayL_none _ _ _ _ hf];exact .inr (.inr rfl)
   | some t =>
     cases hs:stepL (nodeAt t) p with
     | ends c v =>
       rw[wayL_ends _ _ _ _ t c v hf hs]
       rcases stepL_code _ _ _ _ hs with h | h
       · exact .inl h
       · exact .inr (.inl h)
     | on h' p' =>
       rw[wayL_on _ _ _ _ t h' p' hf hs]
       exact way_code find f h' p'
theorem getC_code (ps:List PairL) (root key:List UInt8):getC ps root key=0∨getC ps root key=1∨getC ps root key=2∨getC ps root key=3:=by
 unfold getC
 split
 · unfold walkL
   split
   · exact .inl rfl
   · rcases way_code (findL ps) 30 root (nibs key) with h | h | h
     · exact .inl h
     · exact .inr (.inl h)
     · exact .inr (.inr (.inl h))
 · exact .inr (.inr (.inr rfl))
set_option maxRecDepth 100000 in
set_option maxHeartbeats 4000000 in
theorem walk (a0:Option Addr) (len0 cap0:Nat) (w:World) (w0:Code w a0 len0) (hT:Tab w) :
 Calls Tryz.prog 5 #[.slice a0 len0 cap0] w fun e w'=>e=.returned (.bool true)∧Below w.heap.size w w':=by
 by_cases hb:len0≤1048576
 · have HB:=bigNo len0 cap0 a0 w hb
   have HC:Hid (Code w a0 len0):=w0
   have HT:Hid (Tab w):=hT
   clear w0 hT
   go_enter Tryz.func5,Tryz.ntmps5
   go_wp2_with fail
   refine HB.mono ?_
   rintro e w ⟨rfl,rfl⟩
   clear HB
   have HD:=drawCheckProof len0 cap0 a0 w hb HC.out
   go_wp2_with fail
   refine HD.mono ?_
   rintro e w1 ⟨rt,key,a2,T,c2,rfl,hrt,hkl,hTl,hc2,hts,i2,B1⟩
   have HI2:Hid (∀ W,Below w1.heap.size w1 W→IsStrs W a2 T):=fun W hW=>strs_later i2 hW
   have HTM:Hid (∀ t∈T,t.length≤1048576):=hts
   have K2:=impl_checkProof rt key a2 c2 T w1 (HT.out.later B1) hc2 hrt (by omega) (by omega) hts i2
   have HK3:Hid (∀ W,Below w1.heap.size w1 W→_):=fun W hW=>spec_checkProof rt key a2 c2 T W hrt (by omega) (by omega) hts (strs_later i2 hW)
   have HSN:Hid (∀ (ps:List PairL) r v,chkR rt key T=(r,v)→r≠0→agB ps T=true→(getC ps rt key≠2∧getC ps rt key≠3)→(r=2∧getC ps rt key=1∧getV ps rt key=v)∨(r=1∧v=[]∧getC ps rt key=0∧getV ps rt key=[])):=fun ps r v hc hr ha hg=>chk_sound ha (.inl hg) hc hr
   obtain⟨r,hr⟩:∃ r,r=(chkR rt key T).1:=⟨_,rfl⟩
   obtain⟨v,hv⟩:∃ v,v=(chkR rt key T).2:=⟨_,rfl⟩
   have HRV:Hid (chkR rt key T=(r,v)):=by rw[Hid,hr,hv]
   rw[←hr,←hv] at K2 HK3
   clear HD i2 hts hr hv
   go_wp2_with fail
   refine K2.mono ?_
   rintro e w2 ⟨rfl,b2⟩
   have B2:=B1.trans (b2.mono B1.size)
   have K3:=HK3.out w2 b2
   have HY2:Hid (Below w1.heap.size w1 w2):=b2
   clear K2 HK3 b2
   go_wp2_with fail
   refine K3.mono ?_
   rintro e w3 ⟨rfl,b3⟩
   have B3:=B2.trans (b3.mono B2.size)
   have HY3:Hid (Below w1.heap.size w1 w3):=HY2.out.trans (b3.mono HY2.out.size)
   clear K3 b3 HY2
   by_cases hr0:r=0
   · subst hr0
     clear HSN HRV HI2 HTM
     go_wp2
     go_ret
     exact⟨by simp,B3⟩
   · have hb0:(r == 0)=false:=by rw[beq_eq_false_iff_ne];exact hr0
     have HD4:=drawAgrees len0 cap0 a0 w3 hb (HC.out.later B3)
     have HR0:Hid (r≠0):=hr0
     clear hr0
     go_wp2_with fail
     refine HD4.mono ?_
     rintro e w4 ⟨ps,a1,c1,v4,rfl,hpl,hps,o4,b4⟩
     have B4:=B3.trans (b4.mono B3.size)
     have I4:=(isPairs_own o4).2.2
     have HI4:Hid (∀ W,Below w4.heap.size w4 W→IsPairs W a1 ps):=fun W hW=>I4.later hW
     have HPS:Hid (∀ p∈ps,p.1.length≤1048576∧p.2.length≤1048576):=hps
     have HY4:Hid (Below w1.heap.size w1 w4):=HY3.out.trans (b4.mono HY3.out.size)
     have K5:=impl_get a1 c1 ps rt key w4 (HT.out.later B4) (by omega) hps I4 hrt (by omega)
     have HS:=HSN.out ps r v HRV.out HR0.out
     have HSS:Hid _:=HS
     obtain⟨gc,hgc⟩:∃ gc,gc=getC ps rt key:=⟨_,rfl⟩
     obtain⟨gv,hgv⟩:∃ gv,gv=getV ps rt key:=⟨_,rfl⟩
     rw[←hgc] at K5 HSS
     rw[←hgv] at K5 HSS
     have hcode:gc=0∨gc=1∨gc=2∨gc=3:=by rw[hgc];exact getC_code ps rt key
     clear HD4 o4 b4 I4 hps hgc hgv HS HSN HRV HY3
     go_wp2_with fail
     refine K5.mono ?_
     rintro e w5 ⟨rfl,b5⟩
     have B5:=B4.trans (b5.mono B4.size)
     have HZ5:Hid (Below w4.heap.size w4 w5):=b5
     have HY5:Hid (Below w1.heap.size w1 w5):=HY4.out.trans (b5.mono HY4.out.size)
     have K6:=impl_agrees a1 c1 ps a2 c2 T w5 (HT.out.later B5) (by omega) HPS.out (HI4.out w5 b5) (by omega) HTM.out (HI2.out w5 HY5.out)
     have HK7:Hid (∀ W,Below w5.heap.size w5 W→_):=fun W hW=>spec_agrees a1 c1 ps a2 c2 T W (by omega) HPS.out (HI4.out W (HZ5.out.trans (hW.mono HZ5.out.size))) (by omega) HTM.out (HI2.out W (HY5.out.trans (hW.mono HY5.out.size)))
     obtain⟨ab,hab⟩:∃ ab,ab=agB ps T:=⟨_,rfl⟩
     obtain⟨an,han⟩:∃ an,an=agN ps T:=⟨_,rfl⟩
     rw[←hab,←han] at K6 HK7
     rw[←hab] at HSS
     clear K5 b5 hab han HY4 HZ5 HY5 HI4 HI2 HPS HTM
     have FIN:Hid (gc≠2∧gc≠3→ab=true→(r=2∧gc=1∧gv=v)∨(r=1∧v=[]∧gc=0∧gv=[])):=fun h1 h2=>HSS.out h2 h1
     clear HSS
     rcases hcode with rfl | rfl | rfl | rfl
     · go_wp2_with fail
       refine K6.mono ?_
       rintro e w6 ⟨rfl,b6⟩
       have B6:=B5.trans (b6.mono B5.size)
       have K7:=HK7.out w6 b6
       clear K6 HK7 b6
       go_wp2_with fail
       refine K7.mono ?_
       rintro e w7 ⟨rfl,b7⟩
       have B7:=B6.trans (b7.mono B6.size)
       clear K7 b7
       cases ab with
       | false =>
         clear FIN
         go_wp2
         go_ret
         exact⟨rfl,B7⟩
       | true =>
         rcases FIN.out (by decide) rfl with ⟨rfl,he,rfl⟩ | ⟨rfl,rfl,he,rfl⟩
         · first
            | exact absurd he (by decide)
            | (clear FIN he
               go_wp2
               go_ret
               exact⟨by simp,B7⟩)
         · first
            | exact absurd he (by decide)
            | (clear FIN he
               go_wp2
               go_ret
               exact⟨by simp,B7⟩)
     · go_wp2_with fail
       refine K6.mono ?_
       rintro e w6 ⟨rfl,b6⟩
       have B6:=B5.trans (b6.mono B5.size)
       have K7:=HK7.out w6 b6
       clear K6 HK7 b6
       go_wp2_with fail
       refine K7.mono ?_
       rintro e w7 ⟨rfl,b7⟩
       have B7:=B6.trans (b7.mono B6.size)
       clear K7 b7
       cases ab with
       | false =>
         clear FIN
         go_wp2
         go_ret
         exact⟨rfl,B7⟩
       | true =>
         rcases FIN.out (by decide) rfl with ⟨rfl,he,rfl⟩ | ⟨rfl,rfl,he,rfl⟩
         · first
            | exact absurd he (by decide)
            | (clear FIN he
               go_wp2
               go_ret
               exact⟨by simp,B7⟩)
         · first
            | exact absurd he (by decide)
            | (clear FIN he
               go_wp2
               go_ret
               exact⟨by simp,B7⟩)
     · clear K6 HK7 FIN
       go_wp2
       go_ret
       exact⟨rfl,B5⟩
     · clear K6 HK7 FIN
       go_wp2
       go_ret
       exact⟨rfl,B5⟩
 · have HB:=bigYes len0 cap0 a0 w hb
   clear w0
   go_enter Tryz.func5,Tryz.ntmps5
   go_wp2_with fail
   refine HB.mono ?_
   rintro e w1 ⟨rfl,rfl⟩
   go_wp2
   go_ret
   exact⟨rfl,Below.refl _ _⟩
set_option maxRecDepth 100000 in
theorem lifted (os:Os) (started:os.Started) (H:Type) (enc:TypeId × Value→H) :
 ReturnsInHanded {} Tryz.checked os 5 .any (fun w args=>(Rows.fnSoundSpec.pre enc Tryz.prog Tryz.f5 [] false w args∧laidMetH Tryz.prog Rows.fnSoundRow.laid w)∧sizedMet enc Tryz.prog Tryz.f5 (OpenSpec.ofChange Rows.fnSoundSpec) false w args)
  (Rows.fnSoundSpec.post enc Tryz.prog Tryz.f5 false true false false):=by
 refine returnsInHanded_of_change_and (C:=Tryz.checked) (X:=fun w _=>laidMetH Tryz.prog Rows.fnSoundRow.laid w) (fun _ _ _ hh h=>h.of_heap hh) own started (by kernel_rfl) Tryz.func5
  (ChangeSpec.witness_shaped (enc:=enc) (C:=Tryz.checked) (os:=os) (X:=fun w _=>laidMetH Tryz.prog Rows.fnSoundRow.laid w) false (World.doorLaid Tryz.prog 400 os) #[.slice none 0 0] 8 rfl (World.shaped_of_RefB (by kernel_rfl) (by kernel_rfl)) (by kernel_rfl) (by kernel_rfl) (by kernel_rfl) (door_met os _)) ?_
 intro W base args ds gs before hval0 hW _ _ hL _
 have hval:∀ (j:Nat) t v,Tryz.f5.params[j]? = some t→args[j]? = some v→Value.okWide Tryz.prog W .any base t v:=hval0
 have hW':=hW
 obtain⟨p,q,hA0,hV0,rfl,hfz,hnd⟩:=hW
 have hA:DataW.TrodAll enc Tryz.prog W 0 (fun _=>true) true Tryz.f5.params.toList args.toList ds p:=hA0
 have hV : DataW.TrodVars enc Tryz.prog W (fun _ => true) ["loop.example/g00226/impl.roundWords"] gs q := hV0
 rw[Tryz.params5] at hA hval
 obtain⟨v0,vs0,d0,ds0,p0,q0,hargs,rfl,rfl,h0,r0⟩:=trodAll_cons hA
 obtain⟨rfl,rfl,rfl⟩:=trodAll_nil r0
 obtain rfl:args=#[v0]:=by cases args;simp_all
 obtain⟨a0,len0,cap0,rfl⟩:=okWide_slice Tryz.underlying22 (hval 0 22 v0 rfl rfl)
 have k0:=h0
 have lt0:∀ x∈p0,x.block<W.heap.size:=by obtain⟨m,hm⟩:=k0;exact DataW.trod_lt m _ _ _ hm
 have w0:Code W a0 len0:=by
  obtain⟨fuel,hf⟩:=h0
  rcases open_ints Tryz.underlying22 Tryz.underlying5 (by kernel_rfl) hf with ⟨hcs,_⟩ | ⟨x,l,c,zs,hcs,_,hl,hm,hz,_,hcell,hwz⟩
  · simp[Value.cells] at hcs
    obtain⟨rfl,rfl,rfl⟩:=hcs
    exact .inl rfl
  · simp[Value.cells] at hcs
    obtain⟨rfl,rfl,rfl⟩:=hcs
    exact codeOf W x _ _ zs hl (by simpa using hz) hcell hwz
 obtain⟨g,t,cs,fuel,d,p',rfl,hg,ht,hvar,hd,rfl⟩:=trodVars_one hV
 obtain rfl:=Option.some.inj (gTab.symm.trans hg)
 obtain rfl:=Option.some.inj (tTab.symm.trans ht)
 have hT:=tab_of hL
 have hltv:∀ x∈p',x.block<W.heap.size:=fun x hx=>hW'.lt x (List.mem_append_right _ (List.mem_append_right _ hx))
 clear hA0 hV0 hval0 hA hV
 refine (walk a0 len0 cap0 W w0 hT).mono fun e W' ⟨he,hB⟩=>?_
 subst he
 obtain⟨fuel',hd'⟩:=Below.trod laidOut0 (by kernel_rfl) (of_decide_eq_true (by kernel_rfl)) (v:=.agg cs) (⟨fuel,by simpa [Value.cells] using hd⟩:DataW.Trod enc Tryz.prog W 0 (fun _=>true) true 141 (.agg cs) d p') hB hltv
 have hv':=trodVars_mk1 (enc:=enc) (spare:=fun b=>decide (b<W.heap.size)) hg ht (var?_below hB hg hT.1 hvar) (by simpa [Value.cells] using hd')
 exact⟨_,rfl,_,_,_,[],_,_,hW',trodAll_mk1 (shut_bool Tryz.underlying4 _),(trodAll_cons_mk (Below.trod laidOut0 (by kernel_rfl) (of_decide_eq_true (by kernel_rfl)) k0 hB lt0) trodAll_mk0),hv',hB.frame _,fun h=>by cases h⟩
theorem named0 : Tryz.prog.funcNamed "loop.example/g00226/laws.FnSound" = some 5 := by kernel_rfl
theorem closed0:joinedFacts Tryz.prog 5 Tryz.f5 Rows.fnSoundSpec Rows.fnSoundRow=true:=by
 unfold joinedFacts
 rw[seat_may,seat_lifts,seat_make]
 kernel_rfl
theorem inst0:Tryz.f5.isInstance Tryz.prog Rows.fnSoundRow.origin Rows.fnSoundRow.targs:=of_decide_eq_true (by kernel_rfl)
theorem wrap0:Tryz.f5.isWrapper Tryz.prog Rows.fnSoundRow.wrapper Rows.fnSoundRow.mainSum:=by unfold Func.isWrapper;first | (rw[if_pos (by decide +kernel)];kernel_rfl) | (rw[if_neg (by decide +kernel)];exact⟨rfl,rfl⟩)
theorem over:Rows.fnSoundRow.holds Tryz.pinned (OpenSpec.ofChange Rows.fnSoundSpec) :=
 OpenClaim.holds_of_wide 5 Tryz.f5 rfl rfl rfl rfl rfl rfl rfl ⟨rfl,rfl,rfl,rfl,rfl⟩ rfl rfl rfl rfl rfl named0 Tryz.func5 closed0 inst0 wrap0
  (fun os started H enc _=>lifted os started H enc)
theorem text0:Rows.fnSoundRow.wfByText (OpenSpec.ofChange Rows.fnSoundSpec)=true:=by kernel_rfl
theorem looks0:false=Tryz.prog.looks []:=by kernel_rfl
theorem goes0:false=Rows.fnSoundRow.goesBy Tryz.prog:=by kernel_rfl
theorem wants0:([22].all fun u => !Tryz.prog.wantsStandIn u)=true:=by kernel_rfl
theorem card:Claim7.holds Tryz.pinned (.plain (OpenSpec.ofChange Rows.fnSoundSpec)) Rows.fnSoundCard :=
 Claim7.holds_tied_plain_at .later [] [.data] true (true,Rows.fnSoundCard.stood.harness.2) false
  over (fun _ h=>by cases h) text0 (fun _ h=>by cases h) fnSound_row_tie rfl ⟨rfl,rfl⟩ seat_main rfl
  (fun f fn hf hfn => by
   obtain rfl:f=5:=Option.some.inj (named0.symm.trans hf) |>.symm
   obtain rfl:fn=Tryz.f5:=(Option.some.inj (Tryz.func5.symm.trans hfn)).symm
   exact⟨looks0,fun j t ht=>by
    rw[Tryz.params5] at ht
    have hm:t∈[22]:=by simpa using Array.mem_of_getElem? ht
    exact (show Tryz.prog.wantsStandIn t=false by simpa using List.all_eq_true.1 wants0 t hm)⟩)
  goes0
end Go.Proofs.YtckoglgcjcmmkaaGreatDoor.fnSound
namespace Go.Proofs.YtckoglgcjcmmkaaGreatDoor
theorem fnSound_holds:Rows.FnSoundCardSaid:=fnSound.card
end Go.Proofs.YtckoglgcjcmmkaaGreatDoor
