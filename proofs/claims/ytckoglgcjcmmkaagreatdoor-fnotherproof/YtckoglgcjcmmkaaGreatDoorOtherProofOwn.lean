/-
 At every code a proof of one key in a drawn store shows nothing false of another key: FnOtherProof answers true. No condition; the round words are laid as the program's text lays them.
-/
import Derived.Test.YtckoglgcjcmmkaaGreatDoorDrawGs
import Derived.Test.YtckoglgcjcmmkaaGreatDoorMathPfs
import Derived.Test.YtckoglgcjcmmkaaGreatDoorIPrf2
import Derived.Test.YtckoglgcjcmmkaaGreatDoorIChk3
import Derived.Test.YtckoglgcjcmmkaaGreatDoorAgr
import Derived.Test.YtckoglgcjcmmkaaGreatDoorWayGet
import Derived.Test.YtckoglgcjcmmkaaGreatDoorDrawPs
import Derived.Test.YtckoglgcjcmmkaaGreatDoorSeatAll
import Derived.Test.YtckoglgcjcmmkaaGreatDoorTie
import Derived.Test.YtckoglgcjcmmkaaGreatDoorCards
import Derived.ProofKit
import Derived.LaidMore
import Derived.OpenShut
import Derived.ShutString
import Derived.ChangeOld
import Derived.Below
import Derived.Stop.Joined
import Derived.Lib.LaidTab
import Derived.SevenTiedAt
import Derived.SliceStrings
namespace Go.Proofs.YtckoglgcjcmmkaaGreatDoor.fnOtherProof
open Go.ChangeShapes Go.WideShapes Go.ChangeAt Go.RowKit
open Go.ChangeMaps (open_string shut_string)
set_option linter.unusedVariables false
theorem own:ownKnob Tryz.prog.godebug=none:=by kernel_rfl
theorem laidOut0:laidOutB Tryz.prog=true:=by kernel_rfl
theorem gTab : Tryz.prog.globalNamed "loop.example/g00226/impl.roundWords" = some 0 := by kernel_rfl
theorem tTab:(Tryz.prog.globals[0]?).map (·.type)=some 141:=by kernel_rfl
theorem door_met (os:Os) (args:Array Value):laidMetH Tryz.prog Rows.fnOtherProofRow.laid ((World.doorLaid Tryz.prog 400 os).forCall (fun _ _=>0) ⟨#[],args,[]⟩).memory :=
 laidMetH_of_parts3 (fuel:=8) (laidMet_of_run' 8 (by kernel_rfl) (by kernel_rfl)) (by kernel_rfl) (by kernel_rfl)
theorem tab_of {W:World} (h:laidMetH Tryz.prog Rows.fnOtherProofRow.laid W):Tab W:=by
 rw[MakeChecks.laidMetH_plain _ _ _ (by kernel_rfl)] at h
 have hT : Lib.TabIs Tryz.prog W "loop.example/g00226/impl.roundWords" .u32 (kL.map fun x => num x) := Lib.tabIs_of_head (rest := []) gTab tTab Tryz.underlying141 Tryz.underlying96 (by kernel_rfl) (by kernel_rfl) h
 have hc:∀ i,i<64→W.cell? ⟨0,i,none⟩=some (.int .u32 (num (kL.getD i 0))):=fun i hi=>by
  have hl:i<kL.length:=hi
  have:=hT.cell gTab i (by rw[List.length_map];exact hl)
  rw[this]
  simp[List.getD,hl]
 exact⟨block_lt_of_cell (hc 0 (by omega)),hc⟩
theorem chkP_zero:∀ (T:List (List UInt8)) (h p:List UInt8),(chkP T h p).1=0→(chkP T h p).2=[]
 | [],h,p,_=>rfl
 | t :: ts, h, p, e => by
   by_cases hh:(readNode t).isSome=true∧sumL t=h
   · cases hs:stepL (nodeAt t) p with
     | ends c v =>
       rw[chkP_ends t ts h p hh.1 hh.2 c v hs] at e ⊢
       split at e <;> rename_i h1
       · split at e <;> simp at e
       · rw[if_neg h1]
     | on h' p' =>
       rw[chkP_on t ts h p hh.1 hh.2 h' p' hs] at e ⊢
       exact chkP_zero ts h' p' e
   · rw[chkP_bad t ts h p hh]
theorem chk_bad (root key:List UInt8) (T:List (List UInt8)) (h:(chkR root key T).1=0):(chkR root key T).2=[]:=by
 unfold chkR at h ⊢
 split at h <;> rename_i h1
 · rw[if_pos h1]
   split at h <;> rename_i h2
   · rw[if_pos h2]
     split at h <;> rename_i h3
     · simp at h
     · rw[if_neg h3]
   · rw[if_neg h2];exact chkP_zero T root (nibs key) h
 · rw[if_neg h1]
theorem pz_refl (w:World) (q:Nat):Below w.heap.size w (w.drewN q):=⟨rfl,rfl,rfl,Nat.le_refl _,fun _ _=>rfl⟩
theorem cap_of {w:World} {B e n m c:Nat} {a:Option Addr} {xs:List Value} (h:w.ownsRow B e 1 (.slice a m c) n xs):n≤c:=by
 rcases h.2 with ⟨hv,h0⟩ | ⟨g,cap,cur,hv,hb,hgb,rest⟩
 · omega
 · cases hv
   exact rest.1
theorem find_val {ps:List PairL} {h t:List UInt8} (hf:findL ps h=some t):∃ p∈ps,p.2=t:=by
 unfold findL at hf
 rw[Option.map_eq_some_iff] at hf
 obtain⟨p,hp,rfl⟩:=hf
 exact⟨p,List.mem_of_find?_eq_some hp,rfl⟩
set_option maxRecDepth 100000 in
set_option maxHeartbeats 4000000 in
theorem walk (a0:Option Addr) (len0 cap0:Nat) (w:World) (w0:Code w a0 len0) (hT:Tab w) :
 Calls Tryz.prog 3 #[.slice a0 len0 cap0] w fun e w'=>e=.returned (.bool true)∧Below w.heap.size w w':=by
 by_cases hb:len0≤1048576
 · have HB:=bigNo len0 cap0 a0 w hb
   have HC:Hid (Code w a0 len0):=w0
   have HT:Hid (Tab w):=hT
   clear w0 hT
   go_enter Tryz.func3,Tryz.ntmps3
   go_wp2_with fail
   refine HB.mono ?_
   rintro e w ⟨rfl,rfl⟩
   clear HB
   have HD:=drawProofOf len0 cap0 a0 w hb HC.out
   go_wp2_with fail
   refine HD.mono ?_
   rintro e w1 ⟨ps,a1,c1,rt,key,rfl,hpl,hrt,hkl,hps,o1,B1⟩
   have HD2:=drawSetPair len0 cap0 a0 w1 hb (HC.out.later B1)
   have HO1:=hidOwn o1
   have HPS:Hid (∀ p∈ps,p.1.length≤1048576∧p.2.length≤1048576):=hps
   clear HD o1 hps
   go_wp2_with fail
   refine HD2.mono ?_
   rintro e wd ⟨_,g9,c9,other,mo,hl9,_,hol,hml,rfl,_,bd⟩
   have Bd:=B1.trans (bd.mono B1.size)
   have I1:=(isPairs_own (kept2 HO1.out bd)).2.2
   have K2:=impl_proofOf a1 c1 ps rt key wd (HT.out.later Bd) (by omega) HPS.out I1 hrt (by omega)
   have HK3:Hid (∀ W,Below wd.heap.size wd W→_):=fun W hW=>spec_proofOf a1 c1 ps rt key W (by omega) HPS.out (I1.later hW) hrt (by omega)
   have HK4:Hid (∀ W,Below wd.heap.size wd W→Tab W→_):=fun W hW hT=>impl_get a1 c1 ps rt other W hT (by omega) HPS.out (I1.later hW) hrt (by omega)
   have HF:Hid (∀ T,proofR ps rt key=some T→_):=fun T h=>proof_facts (T:=T) h
   obtain⟨R,hR⟩:∃ R,R=proofR ps rt key:=⟨_,rfl⟩
   rw[←hR] at K2 HK3 HF
   unfold FPost at K2 HK3
   clear HD2 I1 hR bd HO1
   cases R with
   | none =>
     simp only[Option.getD_none,Option.isSome_none] at K2 HK3
     clear HF HK4
     go_wp2_with fail
     refine K2.mono ?_
     rintro e w2 ⟨a2,m2,c2,rfl,_,b2⟩
     have B2:=Bd.trans (b2.mono Bd.size)
     have K3:=HK3.out w2 b2
     clear K2 HK3 b2
     go_wp2_with fail
     refine K3.mono ?_
     rintro e w3 ⟨a3,m3,c3,rfl,_,b3⟩
     have B3:=B2.trans (b3.mono B2.size)
     clear K3 b3
     go_wp2
     go_ret
     exact⟨rfl,B3⟩
   | some T =>
     obtain⟨hst,h32,hk12,hT30,hfd,hT2,hhd,hem,hgg,hck,hagb,hagn⟩:=HF.out T rfl
     have HTM:Hid (∀ t∈T,t.length≤1048576):=fun t ht=>by
      obtain⟨p,hp,he⟩:=find_val (hfd t ht)
      rw[←he];exact (HPS.out p hp).2
     have HSN:Hid (∀ r v,chkR rt other T=(r,v)→r≠0→(r=2∧getC ps rt other=1∧getV ps rt other=v)∨(r=1∧v=[]∧getC ps rt other=0∧getV ps rt other=[])):=fun r v hc hr=>chk_sound hagb (.inr hfd) hc hr
     have HBD:Hid ((chkR rt other T).1=0→(chkR rt other T).2=[]):=chk_bad rt other T
     simp only[Option.getD_some,Option.isSome_some] at K2 HK3
     obtain⟨gc,hgc⟩:∃ gc,gc=getC ps rt other:=⟨_,rfl⟩
     obtain⟨gv,hgv⟩:∃ gv,gv=getV ps rt other:=⟨_,rfl⟩
     rw[←hgc,←hgv] at HK4 HSN
     clear HF hst hfd hhd hem h32 hck hagb hagn hgg hT2 hgc hgv
     go_wp2_with fail
     refine K2.mono ?_
     rintro e w2 ⟨a2,m2,c2,rfl,o2,b2⟩
     have B2:=Bd.trans (b2.mono Bd.size)
     have K3:=HK3.out w2 b2
     have hcp:=cap_of o2
     obtain⟨rfl,_,i2⟩:=strs_own o2
     have HI2:Hid (∀ W,Below w2.heap.size w2 W→IsStrs W a2 T):=fun W hW=>strs_later i2 hW
     have Hb2:Hid (Below wd.heap.size wd w2):=b2
     clear K2 HK3 b2 o2 i2
     go_wp2_with fail
     refine K3.mono ?_
     rintro e w3 ⟨a3,m3,c3,rfl,_,b3⟩
     have B3:=B2.trans (b3.mono B2.size)
     have HY3:Hid (Below wd.heap.size wd w3):=Hb2.out.trans (b3.mono Hb2.out.size)
     have K6:=impl_checkProof rt other a2 c2 T w3 (HT.out.later B3) hcp hrt (by omega) (by omega) HTM.out (HI2.out w3 b3)
     obtain⟨r,hr⟩:∃ r,r=(chkR rt other T).1:=⟨_,rfl⟩
     obtain⟨v,hv⟩:∃ v,v=(chkR rt other T).2:=⟨_,rfl⟩
     rw[←hr,←hv] at K6 HBD
     have hS:=fun hn=>HSN.out r v (by rw[hr,hv]) hn
     clear K3 b3 Hb2 hr hv HSN
     go_wp2_with fail
     refine K6.mono ?_
     rintro e w4 ⟨rfl,b4⟩
     have B4:=B3.trans (b4.mono B3.size)
     have K7:=HK4.out w4 (HY3.out.trans (b4.mono HY3.out.size)) (HT.out.later B4)
     clear K6 b4 HK4 HY3
     by_cases hr0:r=0
     · have hv0:=HBD.out hr0
       subst hr0
       subst hv0
       clear hS HBD
       go_wp2_with fail
       refine K7.mono ?_
       rintro e w5 ⟨rfl,b5⟩
       have B5:=B4.trans (b5.mono B4.size)
       clear K7 b5
       go_wp2
       go_ret
       exact⟨rfl,B5⟩
     · rcases hS hr0 with ⟨rfl,rfl,rfl⟩ | ⟨rfl,rfl,rfl,rfl⟩
       · clear HBD hr0
         go_wp2_with fail
         refine K7.mono ?_
         rintro e w5 ⟨rfl,b5⟩
         have B5:=B4.trans (b5.mono B4.size)
         clear K7 b5
         go_wp2
         go_ret
         exact⟨rfl,B5⟩
       · clear HBD hr0
         go_wp2_with fail
         refine K7.mono ?_
         rintro e w5 ⟨rfl,b5⟩
         have B5:=B4.trans (b5.mono B4.size)
         clear K7 b5
         go_wp2
         go_ret
         exact⟨rfl,B5⟩
 · have HB:=bigYes len0 cap0 a0 w hb
   clear w0
   go_enter Tryz.func3,Tryz.ntmps3
   go_wp2_with fail
   refine HB.mono ?_
   rintro e w1 ⟨rfl,rfl⟩
   go_wp2
   go_ret
   exact⟨rfl,Below.refl _ _⟩
set_option maxRecDepth 100000 in
theorem lifted (os:Os) (started:os.Started) (H:Type) (enc:TypeId × Value→H) :
 ReturnsInHanded {} Tryz.checked os 3 .any (fun w args=>(Rows.fnOtherProofSpec.pre enc Tryz.prog Tryz.f3 [] false w args∧laidMetH Tryz.prog Rows.fnOtherProofRow.laid w)∧sizedMet enc Tryz.prog Tryz.f3 (OpenSpec.ofChange Rows.fnOtherProofSpec) false w args)
  (Rows.fnOtherProofSpec.post enc Tryz.prog Tryz.f3 false true false false):=by
 refine returnsInHanded_of_change_and (C:=Tryz.checked) (X:=fun w _=>laidMetH Tryz.prog Rows.fnOtherProofRow.laid w) (fun _ _ _ hh h=>h.of_heap hh) own started (by kernel_rfl) Tryz.func3
  (ChangeSpec.witness_shaped (enc:=enc) (C:=Tryz.checked) (os:=os) (X:=fun w _=>laidMetH Tryz.prog Rows.fnOtherProofRow.laid w) false (World.doorLaid Tryz.prog 400 os) #[.slice none 0 0] 8 rfl (World.shaped_of_RefB (by kernel_rfl) (by kernel_rfl)) (by kernel_rfl) (by kernel_rfl) (by kernel_rfl) (door_met os _)) ?_
 intro W base args ds gs before hval0 hW _ _ hL _
 have hval:∀ (j:Nat) t v,Tryz.f3.params[j]? = some t→args[j]? = some v→Value.okWide Tryz.prog W .any base t v:=hval0
 have hW':=hW
 obtain⟨p,q,hA0,hV0,rfl,hfz,hnd⟩:=hW
 have hA:DataW.TrodAll enc Tryz.prog W 0 (fun _=>true) true Tryz.f3.params.toList args.toList ds p:=hA0
 have hV : DataW.TrodVars enc Tryz.prog W (fun _ => true) ["loop.example/g00226/impl.roundWords"] gs q := hV0
 rw[Tryz.params3] at hA hval
 obtain⟨v0,vs0,d0,ds0,p0,q0,hargs,rfl,rfl,h0,r0⟩:=trodAll_cons hA
 obtain⟨rfl,rfl,rfl⟩:=trodAll_nil r0
 obtain rfl:args=#[v0]:=by cases args;simp_all
 obtain⟨a0,len0,cap0,rfl⟩:=okWide_slice Tryz.underlying22 (hval 0 22 v0 rfl rfl)
 have k0:=h0
 have lt0:∀ x∈p0,x.block<W.heap.size:=by obtain⟨m,hm⟩:=k0;exact DataW.trod_lt m _ _ _ hm
 have w0:Code W a0 len0:=by
  obtain⟨fuel,hf⟩:=h0
  rcases open_ints Tryz.underlying22 Tryz.underlying5 (by kernel_rfl) hf with ⟨hcs,_⟩ | ⟨x,l,c,zs,hcs,_,hl,hm,hz,_,hcell,hwz⟩
  · simp[Value.cells] at hcs
    obtain⟨rfl,rfl,rfl⟩:=hcs
    exact .inl rfl
  · simp[Value.cells] at hcs
    obtain⟨rfl,rfl,rfl⟩:=hcs
    exact codeOf W x _ _ zs hl (by simpa using hz) hcell hwz
 obtain⟨g,t,cs,fuel,d,p',rfl,hg,ht,hvar,hd,rfl⟩:=trodVars_one hV
 obtain rfl:=Option.some.inj (gTab.symm.trans hg)
 obtain rfl:=Option.some.inj (tTab.symm.trans ht)
 have hT:=tab_of hL
 have hltv:∀ x∈p',x.block<W.heap.size:=fun x hx=>hW'.lt x (List.mem_append_right _ (List.mem_append_right _ hx))
 clear hA0 hV0 hval0 hA hV
 refine (walk a0 len0 cap0 W w0 hT).mono fun e W' ⟨he,hB⟩=>?_
 subst he
 obtain⟨fuel',hd'⟩:=Below.trod laidOut0 (by kernel_rfl) (of_decide_eq_true (by kernel_rfl)) (v:=.agg cs) (⟨fuel,by simpa [Value.cells] using hd⟩:DataW.Trod enc Tryz.prog W 0 (fun _=>true) true 141 (.agg cs) d p') hB hltv
 have hv':=trodVars_mk1 (enc:=enc) (spare:=fun b=>decide (b<W.heap.size)) hg ht (var?_below hB hg hT.1 hvar) (by simpa [Value.cells] using hd')
 exact⟨_,rfl,_,_,_,[],_,_,hW',trodAll_mk1 (shut_bool Tryz.underlying4 _),(trodAll_cons_mk (Below.trod laidOut0 (by kernel_rfl) (of_decide_eq_true (by kernel_rfl)) k0 hB lt0) trodAll_mk0),hv',hB.frame _,fun h=>by cases h⟩
theorem named0 : Tryz.prog.funcNamed "loop.example/g00226/laws.FnOtherProof" = some 3 := by kernel_rfl
theorem closed0:joinedFacts Tryz.prog 3 Tryz.f3 Rows.fnOtherProofSpec Rows.fnOtherProofRow=true:=by
 unfold joinedFacts
 rw[seat_may,seat_lifts,seat_make]
 kernel_rfl
theorem inst0:Tryz.f3.isInstance Tryz.prog Rows.fnOtherProofRow.origin Rows.fnOtherProofRow.targs:=of_decide_eq_true (by kernel_rfl)
theorem wrap0:Tryz.f3.isWrapper Tryz.prog Rows.fnOtherProofRow.wrapper Rows.fnOtherProofRow.mainSum:=by unfold Func.isWrapper;first | (rw[if_pos (by decide +kernel)];kernel_rfl) | (rw[if_neg (by decide +kernel)];exact⟨rfl,rfl⟩)
theorem over:Rows.fnOtherProofRow.holds Tryz.pinned (OpenSpec.ofChange Rows.fnOtherProofSpec) :=
 OpenClaim.holds_of_wide 3 Tryz.f3 rfl rfl rfl rfl rfl rfl rfl ⟨rfl,rfl,rfl,rfl,rfl⟩ rfl rfl rfl rfl rfl named0 Tryz.func3 closed0 inst0 wrap0
  (fun os started H enc _=>lifted os started H enc)
theorem text0:Rows.fnOtherProofRow.wfByText (OpenSpec.ofChange Rows.fnOtherProofSpec)=true:=by kernel_rfl
theorem looks0:false=Tryz.prog.looks []:=by kernel_rfl
theorem goes0:false=Rows.fnOtherProofRow.goesBy Tryz.prog:=by kernel_rfl
theorem wants0:([22].all fun u => !Tryz.prog.wantsStandIn u)=true:=by kernel_rfl
theorem card:Claim7.holds Tryz.pinned (.plain (OpenSpec.ofChange Rows.fnOtherProofSpec)) Rows.fnOtherProofCard :=
 Claim7.holds_tied_plain_at .later [] [.data] true (true,Rows.fnOtherProofCard.stood.harness.2) false
  over (fun _ h=>by cases h) text0 (fun _ h=>by cases h) fnOtherProof_row_tie rfl ⟨rfl,rfl⟩ seat_main rfl
  (fun f fn hf hfn => by
   obtain rfl:f=3:=Option.some.inj (named0.symm.trans hf) |>.symm
   obtain rfl:fn=Tryz.f3:=(Option.some.inj (Tryz.func3.symm.trans hfn)).symm
   exact⟨looks0,fun j t ht=>by
    rw[Tryz.params3] at ht
    have hm:t∈[22]:=by simpa using Array.mem_of_getElem? ht
    exact (show Tryz.prog.wantsStandIn t=false by simpa using List.all_eq_true.1 wants0 t hm)⟩)
  goes0
end Go.Proofs.YtckoglgcjcmmkaaGreatDoor.fnOtherProof
namespace Go.Proofs.YtckoglgcjcmmkaaGreatDoor
theorem fnOtherProof_holds:Rows.FnOtherProofCardSaid:=fnOtherProof.card
end Go.Proofs.YtckoglgcjcmmkaaGreatDoor
