/-
 At every code a proof of a key in a drawn store has no more texts than the key has nibbles and one, all of them the store's, the first of them the root's: FnProofSize answers true. No condition; the round words are laid as the program's text lays them.
-/
import Derived.Test.YtjelmpmlkfdfiaaGreatDoorDrawGs
import Derived.Test.YtjelmpmlkfdfiaaGreatDoorMathPf
import Derived.Test.YtjelmpmlkfdfiaaGreatDoorIPrf2
import Derived.Test.YtjelmpmlkfdfiaaGreatDoorGetAll
import Derived.Test.YtjelmpmlkfdfiaaGreatDoorDrawPs
import Derived.Test.YtjelmpmlkfdfiaaGreatDoorSeatAll
import Derived.Test.YtjelmpmlkfdfiaaGreatDoorTie
import Derived.Test.YtjelmpmlkfdfiaaGreatDoorCards
import Derived.ProofKit
import Derived.LaidMore
import Derived.OpenShut
import Derived.ShutString
import Derived.ChangeOld
import Derived.Below
import Derived.Stop.Joined
import Derived.Lib.LaidTab
import Derived.SevenTiedAt
import Derived.SliceStrings
namespace Go.Proofs.YtjelmpmlkfdfiaaGreatDoor.fnProofSize
open Go.ChangeShapes Go.WideShapes Go.ChangeAt Go.RowKit
open Go.ChangeMaps (open_string shut_string)
set_option linter.unusedVariables false
theorem own:ownKnob Tryz.prog.godebug=none:=by kernel_rfl
theorem laidOut0:laidOutB Tryz.prog=true:=by kernel_rfl
theorem gTab : Tryz.prog.globalNamed "loop.example/g00226/impl.roundWords" = some 0 := by kernel_rfl
theorem tTab:(Tryz.prog.globals[0]?).map (·.type)=some 107:=by kernel_rfl
theorem door_met (os:Os) (args:Array Value):laidMetH Tryz.prog Rows.fnProofSizeRow.laid ((World.doorLaid Tryz.prog 400 os).forCall (fun _ _=>0) ⟨#[],args,[]⟩).memory :=
 laidMetH_of_parts3 (fuel:=8) (laidMet_of_run' 8 (by kernel_rfl) (by kernel_rfl)) (by kernel_rfl) (by kernel_rfl)
theorem tab_of {W:World} (h:laidMetH Tryz.prog Rows.fnProofSizeRow.laid W):Tab W:=by
 rw[MakeChecks.laidMetH_plain _ _ _ (by kernel_rfl)] at h
 have hT : Lib.TabIs Tryz.prog W "loop.example/g00226/impl.roundWords" .u32 (kL.map fun x => num x) := Lib.tabIs_of_head (rest := []) gTab tTab Tryz.underlying107 Tryz.underlying57 (by kernel_rfl) (by kernel_rfl) h
 have hc:∀ i,i<64→W.cell? ⟨0,i,none⟩=some (.int .u32 (num (kL.getD i 0))):=fun i hi=>by
  have hl:i<kL.length:=hi
  have:=hT.cell gTab i (by rw[List.length_map];exact hl)
  rw[this]
  simp[List.getD,hl]
 exact⟨block_lt_of_cell (hc 0 (by omega)),hc⟩
theorem pz_refl (w:World) (q:Nat):Below w.heap.size w (w.drewN q):=⟨rfl,rfl,rfl,Nat.le_refl _,fun _ _=>rfl⟩
theorem find_val {ps:List PairL} {h t:List UInt8} (hf:findL ps h=some t):∃ p∈ps,p.2=t:=by
 unfold findL at hf
 rw[Option.map_eq_some_iff] at hf
 obtain⟨p,hp,rfl⟩:=hf
 exact⟨p,List.mem_of_find?_eq_some hp,rfl⟩
set_option maxRecDepth 100000 in
set_option maxHeartbeats 4000000 in
theorem walk (a0 : Option Addr) (len0 cap0 : Nat) (w : World) (w0 : Code w a0 len0) (hT : Tab w) :
 Calls Tryz.prog 3 #[.slice a0 len0 cap0] w fun e w'=>e=.returned (.bool true)∧Below w.heap.size w w':=by
 by_cases hb:len0≤1048576
 · have HB := bigNo len0 cap0 a0 w hb
   have HC:Hid (Code w a0 len0):=w0
   have HT:Hid (Tab w):=hT
   clear w0 hT
   go_enter Tryz.func3,Tryz.ntmps3
   go_wp2_with fail
   refine HB.mono ?_
   rintro e w ⟨rfl,rfl⟩
   clear HB
   have HD:=drawProofOf len0 cap0 a0 w hb HC.out
   go_wp2_with fail
   refine HD.mono ?_
   rintro e w1 ⟨ps,a1,c1,rt,key,rfl,hpl,hrt,hkl,hps,o1,B1⟩
   have I1:=(isPairs_own o1).2.2
   have HI1:Hid (∀ W,Below w1.heap.size w1 W→IsPairs W a1 ps):=fun W hW=>I1.later hW
   have HPS:Hid (∀ p∈ps,p.1.length≤1048576∧p.2.length≤1048576):=hps
   have K2:=impl_proofOf a1 c1 ps rt key w1 (HT.out.later B1) (by omega) hps I1 hrt (by omega)
   have HK3:Hid (∀ W,Below w1.heap.size w1 W→_):=fun W hW=>spec_proofOf a1 c1 ps rt key W (by omega) hps (I1.later hW) hrt (by omega)
   have HF:Hid (∀ T,proofR ps rt key=some T→_):=fun T h=>proof_facts (T:=T) h
   obtain⟨R,hR⟩:∃ R,R=proofR ps rt key:=⟨_,rfl⟩
   rw[←hR] at K2 HK3 HF
   unfold FPost at K2 HK3
   clear HD o1 I1 hR hps
   cases R with
   | none =>
     simp only[Option.getD_none,Option.isSome_none] at K2 HK3
     clear HF
     go_wp2_with fail
     refine K2.mono ?_
     rintro e w2 ⟨a2,m2,c2,rfl,_,b2⟩
     have B2:=B1.trans (b2.mono B1.size)
     have K3:=HK3.out w2 b2
     clear K2 HK3 b2
     go_wp2_with fail
     refine K3.mono ?_
     rintro e w3 ⟨a3,m3,c3,rfl,_,b3⟩
     have B3:=B2.trans (b3.mono B2.size)
     clear K3 b3
     go_wp2
     go_ret
     exact⟨rfl,B3⟩
   | some T =>
     obtain⟨hst,h32,hk12,hT30,hfd,hT2,hhd,hem,_,_,_,_⟩:=HF.out T rfl
     simp only[Option.getD_some,Option.isSome_some] at K2 HK3
     have HFD:Hid (storeOkL ps=true∧∀ t∈T,findL ps (sumL t)=some t):=⟨hst,hfd⟩
     have HHD:Hid (∀ t r,T=t :: r→sumL t=rt):=hhd
     clear HF hst hfd hhd hem h32
     go_wp2_with fail
     refine K2.mono ?_
     rintro e w2 ⟨a2,m2,c2,rfl,o2,b2⟩
     have B2:=B1.trans (b2.mono B1.size)
     have K3:=HK3.out w2 b2
     obtain⟨rfl,_,i2⟩:=strs_own o2
     have HI2:Hid (∀ W,Below w2.heap.size w2 W→IsStrs W a2 T):=fun W hW=>strs_later i2 hW
     have Hb2:Hid (Below w1.heap.size w1 w2):=b2
     clear K2 HK3 b2 o2 i2
     go_wp2_with fail
     refine K3.mono ?_
     rintro e w3 ⟨a3,m3,c3,rfl,_,b3⟩
     have B3:=B2.trans (b3.mono B2.size)
     have HX3:Hid (Below w2.heap.size w2 w3):=b3
     have HY3:Hid (Below w1.heap.size w1 w3):=Hb2.out.trans (b3.mono Hb2.out.size)
     clear K3 b3 Hb2
     go_wp2
     go_loopw [10,11,12] (fun i _ _ wr=>∃ j:Nat,j≤T.length∧i=.int .i64 (j:Int)∧Below w3.heap.size w3 wr) (fun i _ _ _=>T.length - (intOf i).toNat)
     case atStart=>exact⟨0,Nat.zero_le _,rfl,Below.refl _ _⟩
     case round =>
      obtain⟨j,hj,rfl,hbel⟩:=hrel
      have BR:=B3.trans (hbel.mono B3.size)
      have HXR:Hid (Below w2.heap.size w2 wr):=HX3.out.trans (hbel.mono HX3.out.size)
      have HYR:Hid (Below w1.heap.size w1 wr):=HY3.out.trans (hbel.mono HY3.out.size)
      have cells:0<T.length→∃ b off,a2=some ⟨b,off,none⟩∧∀ q (hq:q<T.length),wr.cell? ⟨b,off+q,none⟩=some (.string ⟨T[q].toArray⟩):=fun hlt=>by
       rcases HI2.out wr HXR.out with h | ⟨b,off,h,hc⟩
       · rw[h] at hlt;simp at hlt
       · exact⟨b,off,h,hc⟩
      by_cases hlt:j<T.length
      · obtain⟨b,off,hva,hc⟩:=cells (by omega)
        have hj0:(0:Int)≤(j:Int):=by omega
        have hj1:(j:Int)<(T.length:Int):=by omega
        have hidx:∀ W:World,(Instr.indexAt 27 (.slice a2 T.length c2) (.int .i64 (j:Int))).run Tryz.prog W=.ok (.pointer (some ⟨b,off+j,none⟩)) W:=by
         intro W;rw[hva];go_simp
        have cj:=hc j hlt
        have hff:=HFD.out.2 T[j] (List.getElem_mem _)
        have htl:T[j].length≤1048576:=by
         obtain⟨p,hp,he⟩:=find_val hff
         rw[←he];exact (HPS.out p hp).2
        have K5:=impl_sum T[j] wr htl (HT.out.later BR)
        have HK6:Hid (∀ W,Below wr.heap.size wr W→Calls Tryz.prog 10 #[.slice a1 ps.length c1,.string ⟨(sumL T[j]).toArray⟩] W fun e w'=>e=.returned (.tuple #[.string ⟨T[j].toArray⟩,.bool true])∧Below W.heap.size W w'):=fun W hW=>impl_storeGet a1 c1 ps (sumL T[j]) W (HT.out.later (BR.trans (hW.mono BR.size))) (by omega) (by rw[sumL_len];omega) HPS.out (HI1.out W (HYR.out.trans (hW.mono HYR.out.size))) T[j] true (by rw[HFD.out.1,if_pos rfl,hff];rfl) (by rw[HFD.out.1,hff];rfl)
        obtain⟨t,ht⟩:∃ t,t=T[j]:=⟨_,rfl⟩
        rw[←ht] at cj K5 HK6
        obtain⟨sm,hsm⟩:∃ sm,sm=sumL t:=⟨_,rfl⟩
        rw[←hsm] at K5 HK6
        have hbl:=World.block_lt_of_cell? wr _ cj
        have HCJ:Hid (wr.cell? ⟨b,off+j,none⟩=some (.string ⟨t.toArray⟩)):=cj
        have HBE:Hid (Below w3.heap.size w3 wr):=hbel
        clear hva hc hff htl ht hsm hbel cells
        go_wp2_with fail
        refine K5.mono ?_
        rintro e w5 ⟨rfl,b5⟩
        have K6:=HK6.out w5 b5
        have Hb5:Hid (Below wr.heap.size wr w5):=b5
        clear K5 HK6 cj b5
        go_wp2_with fail
        refine K6.mono ?_
        rintro e w6 ⟨rfl,b6⟩
        have x6:Below wr.heap.size wr w6:=Hb5.out.trans (b6.mono Hb5.out.size)
        have c6:=(x6.cell (p:=⟨b,off+j,none⟩) hbl).trans HCJ.out
        have HB6:Hid (Below w3.heap.size w3 w6):=HBE.out.trans (x6.mono HBE.out.size)
        clear K6 b6 x6 Hb5
        go_wp2
        go_roundw
        case rel=>exact⟨j+1,by omega,by go_num,HB6.out⟩
        case measure=>simp[intOf];omega
      · have hjl:j=T.length:=by omega
        have hnl:¬ (j:Int)<(T.length:Int):=by omega
        have hle:(T.length:Int)≤2*(key.length:Int)+1:=by omega
        have hled:decide ((T.length:Int)≤2*(key.length:Int)+1)=true:=decide_eq_true hle
        have hzk:(ByteArray.mk key.toArray).size=key.length:=by simp[ByteArray.size]
        clear hbel hlt hj hjl
        by_cases hT0:T=[]
        · subst hT0
          clear cells
          go_wp2
          go_ret
          exact⟨rfl,BR⟩
        · have hpos:0<T.length:=List.length_pos_iff.2 hT0
          obtain⟨b,off,hva,hc⟩:=cells hpos
          have c0:=hc 0 hpos
          rw[Nat.add_zero] at c0
          have hz0:(0:Int)<(T.length:Int):=by omega
          have hidx:∀ W:World,(Instr.indexAt 27 (.slice a2 T.length c2) (.int .i64 0)).run Tryz.prog W=.ok (.pointer (some ⟨b,off,none⟩)) W:=by
           intro W;rw[hva];go_simp
          have hzb:((T.length:Int) == 0)=false:=by rw[beq_eq_false_iff_ne];omega
          have hff:=HFD.out.2 T[0] (List.getElem_mem _)
          have htl:T[0].length≤1048576:=by
           obtain⟨p,hp,he⟩:=find_val hff
           rw[←he];exact (HPS.out p hp).2
          have K5:=impl_sum T[0] wr htl (HT.out.later BR)
          have hsm:sumL T[0]=rt:=HHD.out T[0] (T.drop 1) (by
           cases T with
           | nil=>exact absurd rfl hT0
           | cons t r=>rfl)
          rw[hsm] at K5
          obtain⟨t,ht⟩:∃ t,t=T[0]:=⟨_,rfl⟩
          rw[←ht] at c0 K5
          clear hva hc hff htl ht hsm cells hT0
          go_wp2_with fail
          refine K5.mono ?_
          rintro e w5 ⟨rfl,b5⟩
          have B5:=BR.trans (b5.mono BR.size)
          clear K5 b5
          go_wp2
          go_ret
          exact⟨rfl,B5⟩
 · have HB:=bigYes len0 cap0 a0 w hb
   clear w0
   go_enter Tryz.func3,Tryz.ntmps3
   go_wp2_with fail
   refine HB.mono ?_
   rintro e w1 ⟨rfl,rfl⟩
   go_wp2
   go_ret
   exact⟨rfl,Below.refl _ _⟩
set_option maxRecDepth 100000 in
theorem lifted (os:Os) (started:os.Started) (H:Type) (enc:TypeId × Value→H) :
 ReturnsInHanded {} Tryz.checked os 3 .any (fun w args=>(Rows.fnProofSizeSpec.pre enc Tryz.prog Tryz.f3 [] false w args∧laidMetH Tryz.prog Rows.fnProofSizeRow.laid w)∧sizedMet enc Tryz.prog Tryz.f3 (OpenSpec.ofChange Rows.fnProofSizeSpec) false w args)
  (Rows.fnProofSizeSpec.post enc Tryz.prog Tryz.f3 false true false false):=by
 refine returnsInHanded_of_change_and (C:=Tryz.checked) (X:=fun w _=>laidMetH Tryz.prog Rows.fnProofSizeRow.laid w) (fun _ _ _ hh h=>h.of_heap hh) own started (by kernel_rfl) Tryz.func3
  (ChangeSpec.witness_shaped (enc:=enc) (C:=Tryz.checked) (os:=os) (X:=fun w _=>laidMetH Tryz.prog Rows.fnProofSizeRow.laid w) false (World.doorLaid Tryz.prog 400 os) #[.slice none 0 0] 8 rfl (World.shaped_of_RefB (by kernel_rfl) (by kernel_rfl)) (by kernel_rfl) (by kernel_rfl) (by kernel_rfl) (door_met os _)) ?_
 intro W base args ds gs before hval0 hW _ _ hL _
 have hval:∀ (j:Nat) t v,Tryz.f3.params[j]? = some t→args[j]? = some v→Value.okWide Tryz.prog W .any base t v:=hval0
 have hW':=hW
 obtain⟨p,q,hA0,hV0,rfl,hfz,hnd⟩:=hW
 have hA:DataW.TrodAll enc Tryz.prog W 0 (fun _=>true) true Tryz.f3.params.toList args.toList ds p:=hA0
 have hV : DataW.TrodVars enc Tryz.prog W (fun _ => true) ["loop.example/g00226/impl.roundWords"] gs q := hV0
 rw[Tryz.params3] at hA hval
 obtain⟨v0,vs0,d0,ds0,p0,q0,hargs,rfl,rfl,h0,r0⟩:=trodAll_cons hA
 obtain⟨rfl,rfl,rfl⟩:=trodAll_nil r0
 obtain rfl:args=#[v0]:=by cases args;simp_all
 obtain⟨a0,len0,cap0,rfl⟩:=okWide_slice Tryz.underlying22 (hval 0 22 v0 rfl rfl)
 have k0:=h0
 have lt0:∀ x∈p0,x.block<W.heap.size:=by obtain⟨m,hm⟩:=k0;exact DataW.trod_lt m _ _ _ hm
 have w0:Code W a0 len0:=by
  obtain⟨fuel,hf⟩:=h0
  rcases open_ints Tryz.underlying22 Tryz.underlying5 (by kernel_rfl) hf with ⟨hcs,_⟩ | ⟨x,l,c,zs,hcs,_,hl,hm,hz,_,hcell,hwz⟩
  · simp[Value.cells] at hcs
    obtain⟨rfl,rfl,rfl⟩:=hcs
    exact .inl rfl
  · simp[Value.cells] at hcs
    obtain⟨rfl,rfl,rfl⟩:=hcs
    exact codeOf W x _ _ zs hl (by simpa using hz) hcell hwz
 obtain⟨g,t,cs,fuel,d,p',rfl,hg,ht,hvar,hd,rfl⟩:=trodVars_one hV
 obtain rfl:=Option.some.inj (gTab.symm.trans hg)
 obtain rfl:=Option.some.inj (tTab.symm.trans ht)
 have hT:=tab_of hL
 have hltv:∀ x∈p',x.block<W.heap.size:=fun x hx=>hW'.lt x (List.mem_append_right _ (List.mem_append_right _ hx))
 clear hA0 hV0 hval0 hA hV
 refine (walk a0 len0 cap0 W w0 hT).mono fun e W' ⟨he,hB⟩=>?_
 subst he
 obtain⟨fuel',hd'⟩:=Below.trod laidOut0 (by kernel_rfl) (of_decide_eq_true (by kernel_rfl)) (v:=.agg cs) (⟨fuel,by simpa [Value.cells] using hd⟩:DataW.Trod enc Tryz.prog W 0 (fun _=>true) true 107 (.agg cs) d p') hB hltv
 have hv':=trodVars_mk1 (enc:=enc) (spare:=fun b=>decide (b<W.heap.size)) hg ht (var?_below hB hg hT.1 hvar) (by simpa [Value.cells] using hd')
 exact⟨_,rfl,_,_,_,[],_,_,hW',trodAll_mk1 (shut_bool Tryz.underlying4 _),(trodAll_cons_mk (Below.trod laidOut0 (by kernel_rfl) (of_decide_eq_true (by kernel_rfl)) k0 hB lt0) trodAll_mk0),hv',hB.frame _,fun h=>by cases h⟩
theorem named0 : Tryz.prog.funcNamed "loop.example/g00226/laws.FnProofSize" = some 3 := by kernel_rfl
theorem closed0:joinedFacts Tryz.prog 3 Tryz.f3 Rows.fnProofSizeSpec Rows.fnProofSizeRow=true:=by
 unfold joinedFacts
 rw[seat_may,seat_lifts,seat_make]
 kernel_rfl
theorem inst0:Tryz.f3.isInstance Tryz.prog Rows.fnProofSizeRow.origin Rows.fnProofSizeRow.targs:=of_decide_eq_true (by kernel_rfl)
theorem wrap0:Tryz.f3.isWrapper Tryz.prog Rows.fnProofSizeRow.wrapper Rows.fnProofSizeRow.mainSum:=by unfold Func.isWrapper;first | (rw[if_pos (by decide +kernel)];kernel_rfl) | (rw[if_neg (by decide +kernel)];exact⟨rfl,rfl⟩)
theorem over:Rows.fnProofSizeRow.holds Tryz.pinned (OpenSpec.ofChange Rows.fnProofSizeSpec) :=
 OpenClaim.holds_of_wide 3 Tryz.f3 rfl rfl rfl rfl rfl rfl rfl ⟨rfl,rfl,rfl,rfl,rfl⟩ rfl rfl rfl rfl rfl named0 Tryz.func3 closed0 inst0 wrap0
  (fun os started H enc _=>lifted os started H enc)
theorem text0:Rows.fnProofSizeRow.wfByText (OpenSpec.ofChange Rows.fnProofSizeSpec)=true:=by kernel_rfl
theorem looks0:false=Tryz.prog.looks []:=by kernel_rfl
theorem goes0:false=Rows.fnProofSizeRow.goesBy Tryz.prog:=by kernel_rfl
theorem wants0:([22].all fun u => !Tryz.prog.wantsStandIn u)=true:=by kernel_rfl
theorem card:Claim7.holds Tryz.pinned (.plain (OpenSpec.ofChange Rows.fnProofSizeSpec)) Rows.fnProofSizeCard :=
 Claim7.holds_tied_plain_at .later [] [.data] true (true,Rows.fnProofSizeCard.stood.harness.2) false
  over (fun _ h=>by cases h) text0 (fun _ h=>by cases h) fnProofSize_row_tie rfl ⟨rfl,rfl⟩ seat_main rfl
  (fun f fn hf hfn => by
   obtain rfl:f=3:=Option.some.inj (named0.symm.trans hf) |>.symm
   obtain rfl:fn=Tryz.f3:=(Option.some.inj (Tryz.func3.symm.trans hfn)).symm
   exact⟨looks0,fun j t ht=>by
    rw[Tryz.params3] at ht
    have hm:t∈[22]:=by simpa using Array.mem_of_getElem? ht
    exact (show Tryz.prog.wantsStandIn t=false by simpa using List.all_eq_true.1 wants0 t hm)⟩)
  goes0
end Go.Proofs.YtjelmpmlkfdfiaaGreatDoor.fnProofSize
namespace Go.Proofs.YtjelmpmlkfdfiaaGreatDoor
theorem fnProofSize_holds:Rows.FnProofSizeCardSaid:=fnProofSize.card
end Go.Proofs.YtjelmpmlkfdfiaaGreatDoor
