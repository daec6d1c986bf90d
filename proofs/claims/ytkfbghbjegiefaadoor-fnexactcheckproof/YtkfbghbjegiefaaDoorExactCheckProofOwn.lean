/-
 At every root, key and list of texts CheckProof answers as its model; it writes into no argument. No condition; the round words are laid as the program's text lays them.
-/
import Derived.Test.YtkfbghbjegiefaaDoorIChk3
import Derived.Test.YtkfbghbjegiefaaDoorStrsAll
import Derived.Test.YtkfbghbjegiefaaDoorSeatAll
import Derived.Test.YtkfbghbjegiefaaDoorTie
import Derived.Test.YtkfbghbjegiefaaDoorCards
import Derived.ProofKit
import Derived.LaidMore
import Derived.OpenShut
import Derived.ShutString
import Derived.ChangeOld
import Derived.Below
import Derived.Stop.Joined
import Derived.Lib.LaidTab
import Derived.SevenTiedAt
import Derived.SliceStrings
namespace Go.Proofs.YtkfbghbjegiefaaDoor.fnExactCheckProof
open Go.ChangeShapes Go.WideShapes Go.ChangeAt Go.RowKit
open Go.ChangeMaps (open_string shut_string)
set_option linter.unusedVariables false
theorem own:ownKnob Tryd.prog.godebug=none:=by kernel_rfl
theorem laidOut0:laidOutB Tryd.prog=true:=by kernel_rfl
theorem gTab : Tryd.prog.globalNamed "loop.example/g00226/impl.roundWords" = some 0 := by kernel_rfl
theorem tTab:(Tryd.prog.globals[0]?).map (·.type)=some 92:=by kernel_rfl
theorem door_met (os:Os) (args:Array Value):laidMetH Tryd.prog Rows.fnExactCheckProofRow.laid ((World.doorLaid Tryd.prog 400 os).forCall (fun _ _=>0) ⟨#[],args,[]⟩).memory :=
 laidMetH_of_parts3 (fuel:=8) (laidMet_of_run' 8 (by kernel_rfl) (by kernel_rfl)) (by kernel_rfl) (by kernel_rfl)
theorem tab_of {W:World} (h:laidMetH Tryd.prog Rows.fnExactCheckProofRow.laid W):Tab W:=by
 rw[MakeChecks.laidMetH_plain _ _ _ (by kernel_rfl)] at h
 have hT : Lib.TabIs Tryd.prog W "loop.example/g00226/impl.roundWords" .u32 (kL.map fun x => num x) := Lib.tabIs_of_head (rest := []) gTab tTab Tryd.underlying92 Tryd.underlying58 (by kernel_rfl) (by kernel_rfl) h
 have hc:∀ i,i<64→W.cell? ⟨0,i,none⟩=some (.int .u32 (num (kL.getD i 0))):=fun i hi=>by
  have hl:i<kL.length:=hi
  have:=hT.cell gTab i (by rw[List.length_map];exact hl)
  rw[this]
  simp[List.getD,hl]
 exact⟨block_lt_of_cell (hc 0 (by omega)),hc⟩
theorem below_drewN {B:Nat} {w w':World} (h:Below B w w') (q:Nat):Below B w (w'.drewN q):=⟨h.os,h.tape,h.output,h.size,h.block⟩
theorem below_low {w w1 w2:World} {v:Value} (h:Below w.heap.size w w1) (hg:w1.grownBy w2 v.ownBlock) (hl:∀ k,v.ownBlock=some k→w.heap.size≤k):Below w.heap.size w w2:=h.grown hg h.size hl
set_option maxRecDepth 100000 in
set_option maxHeartbeats 1000000 in
theorem walk (a0:ByteArray) (w0:a0.size≤maxLen) (a1:ByteArray) (w1:a1.size≤maxLen) (a:Option Addr) (cap:Nat) (ls:List (List UInt8)) (w:World) (hl:ls.length≤9223372036854775807) (hm:∀ l∈ls,l.length≤9223372036854775807) (hs:IsStrs w a ls) (hT:Tab w) :
 Calls Tryd.prog 3 #[.string a0,.string a1,.slice a ls.length cap] w fun e w'=>e=.returned (.bool true)∧Below w.heap.size w w':=by
 unfold maxLen at w0 w1
 have HT:Hid (Tab w):=hT
 clear hT
 by_cases hb0:a0.size≤1048576
 · have e0:a0=⟨a0.data.toList.toArray⟩:=ba_eq a0
   have hsl:a0.data.toList.length≤1048576:=by rw[Array.length_toList];exact hb0
   obtain⟨s,hs0⟩:∃ s,s=a0.data.toList:=⟨_,rfl⟩
   rw[←hs0] at e0 hsl
   clear hs0
   subst e0
   have hsl':(s.length:Int)≤1048576:=by omega
   by_cases hb1:a1.size≤1048576
   · have e1:a1=⟨a1.data.toList.toArray⟩:=ba_eq a1
     have hgl:a1.data.toList.length≤1048576:=by rw[Array.length_toList];exact hb1
     obtain⟨g,hg⟩:∃ s,s=a1.data.toList:=⟨_,rfl⟩
     rw[←hg] at e1 hgl
     clear hg
     subst e1
     have hgl':(g.length:Int)≤1048576:=by omega
     obtain⟨r,hr⟩:∃ r,r=(chkR s g ls).1:=⟨_,rfl⟩
     obtain⟨x,hx⟩:∃ x,x=(chkR s g ls).2:=⟨_,rfl⟩
     have HLM:Hid (ls.length+ls.flatten.length≤1048576→ls.length≤1048576∧∀ l∈ls,l.length≤1048576):=fun h=>⟨by omega,fun l hl'=>by
      obtain⟨j,hj,rfl⟩:=List.getElem_of_mem hl'
      have:=each_le ls j hj
      omega⟩
     have H1:Hid (∀ (b:Option Addr) (c:Nat) (W:World),ls.length+ls.flatten.length≤1048576→IsStrs W b ls→Calls Tryd.prog 5 #[.string ⟨s.toArray⟩,.string ⟨g.toArray⟩,.slice b ls.length c] W fun e w'=>e=.returned (.tuple #[.int .i64 r,.string ⟨x.toArray⟩])∧Below W.heap.size W w'):=fun b c W h1 h2=>by
      rw[hr,hx];exact spec_checkProof s g b c ls W hsl hgl (HLM.out h1).1 (HLM.out h1).2 h2
     have H2:Hid (∀ (b:Option Addr) (c:Nat) (W:World),Tab W→ls.length≤c→ls.length+ls.flatten.length≤1048576→IsStrs W b ls→Calls Tryd.prog 7 #[.string ⟨s.toArray⟩,.string ⟨g.toArray⟩,.slice b ls.length c] W fun e w'=>e=.returned (.tuple #[.int .i64 r,.string ⟨x.toArray⟩])∧Below W.heap.size W w'):=fun b c W h0 hc h1 h2=>by
      rw[hr,hx];exact impl_checkProof s g b c ls W h0 hc hsl hgl (HLM.out h1).1 (HLM.out h1).2 h2
     have HK:=szS_any a cap ls w hl hm hs
     have HS:Hid (∀ W,Below w.heap.size w W→IsStrs W a ls):=fun W hW=>strs_later hs hW
     clear hs hm hr hx hb0 hb1 w0 w1 HLM
     go_enter Tryd.func3,Tryd.ntmps3
     go_wp2_with fail
     refine HK.mono ?_
     rintro e w0 ⟨he,rfl⟩
     rcases he with rfl | ⟨hb,n,rfl⟩
     · go_wp2
       go_ret
       exact⟨rfl,Below.refl _ _⟩
     · have hln:ls.length≤1048576:=by omega
       have HB:Hid (ls.length+ls.flatten.length≤1048576):=hb
       clear HK hb
       go_wp2_with fail
       refine (toS_any a cap ls _ hln (HS.out _ (Below.refl _ _))).mono ?_
       rintro e w1 ⟨rfl,o1,b1⟩
       have I1:Hid (IsStrs w1 _ ls):=(strs_own o1).2.2
       clear o1
       go_wp2_with fail
       refine (H1.out _ _ _ HB.out I1.out).mono ?_
       rintro e w2 ⟨rfl,b2⟩
       have h2:=b1.trans (b2.mono b1.size)
       clear I1 b1 b2
       go_wp2_with fail
       refine (toS_any a cap ls _ hln (HS.out _ h2)).mono ?_
       rintro e w3 ⟨rfl,o3,b3⟩
       have h3:=h2.trans (b3.mono h2.size)
       have O3:=hidOwn o3
       have I3:Hid (IsStrs w3 _ ls):=(strs_own o3).2.2
       clear o3 b3 h2
       go_wp2_with fail
       refine (H2.out _ _ _ (HT.out.later h3) (Nat.le_refl _) HB.out I3.out).mono ?_
       rintro e w4 ⟨rfl,b4⟩
       have h4:=h3.trans (b4.mono h3.size)
       have O4:=hidOwn (kept1 O3.out b4)
       clear O3 b4 h3 I3
       go_wp2_with fail
       refine (toS_any a cap ls _ hln (HS.out _ h4)).mono ?_
       rintro e w5 ⟨rfl,o5,b5⟩
       have h5:=h4.trans (b5.mono h4.size)
       have O5:=hidOwn o5
       have P5:=hidOwn (kept1 O4.out b5)
       clear O4 o5 b5 h4
       go_wp2_with fail
       refine (eqS_same ls _ _ _ _ _ (by omega) P5.out O5.out).mono ?_
       rintro e w6 ⟨rfl,q,rfl⟩
       have h6:=below_drewN h5 q
       clear O5 P5 h5
       go_wp2
       go_ret
       exact⟨rfl,h6⟩
   · clear hs hm
     go_enter Tryd.func3,Tryd.ntmps3
     go_wp2
     go_ret
     exact⟨rfl,Below.refl _ _⟩
 · clear hs hm
   go_enter Tryd.func3,Tryd.ntmps3
   go_wp2
   go_ret
   exact⟨rfl,Below.refl _ _⟩
set_option maxRecDepth 100000 in
theorem lifted (os : Os) (started : os.Started) (H : Type) (enc : TypeId × Value → H) :
 ReturnsInHanded {} Tryd.checked os 3 .any (fun w args=>(Rows.fnExactCheckProofSpec.pre enc Tryd.prog Tryd.f3 [] false w args∧laidMetH Tryd.prog Rows.fnExactCheckProofRow.laid w)∧sizedMet enc Tryd.prog Tryd.f3 (OpenSpec.ofChange Rows.fnExactCheckProofSpec) false w args)
  (Rows.fnExactCheckProofSpec.post enc Tryd.prog Tryd.f3 false true false false):=by
 refine returnsInHanded_of_change_and (C:=Tryd.checked) (X:=fun w _=>laidMetH Tryd.prog Rows.fnExactCheckProofRow.laid w) (fun _ _ _ hh h=>h.of_heap hh) own started (by kernel_rfl) Tryd.func3
  (ChangeSpec.witness_shaped (enc:=enc) (C:=Tryd.checked) (os:=os) (X:=fun w _=>laidMetH Tryd.prog Rows.fnExactCheckProofRow.laid w) false (World.doorLaid Tryd.prog 400 os) #[.string ByteArray.empty,.string ByteArray.empty,.slice none 0 0] 8 rfl (World.shaped_of_RefB (by kernel_rfl) (by kernel_rfl)) (by kernel_rfl) (by kernel_rfl) (by kernel_rfl) (door_met os _)) ?_
 intro W base args ds gs before hval0 hW _ _ hL _
 have hval:∀ (j:Nat) t v,Tryd.f3.params[j]? = some t→args[j]? = some v→Value.okWide Tryd.prog W .any base t v:=hval0
 have hW':=hW
 obtain⟨p,q,hA0,hV0,rfl,hfz,hnd⟩:=hW
 have hA:DataW.TrodAll enc Tryd.prog W 0 (fun _=>true) true Tryd.f3.params.toList args.toList ds p:=hA0
 have hV : DataW.TrodVars enc Tryd.prog W (fun _ => true) ["loop.example/g00226/impl.roundWords"] gs q := hV0
 rw[Tryd.params3] at hA hval
 obtain⟨v0,vs0,d0,ds0,p0,q0,hargs0,rfl,rfl,h0,r0⟩:=trodAll_cons hA
 obtain⟨v1,vs1,d1,ds1,p1,q1,hargs1,rfl,rfl,h1,r1⟩:=trodAll_cons r0
 obtain⟨v2,vs2,d2,ds2,p2,q2,hargs2,rfl,rfl,h2,r2⟩:=trodAll_cons r1
 obtain⟨rfl,rfl,rfl⟩:=trodAll_nil r2
 obtain rfl:args=#[v0,v1,v2]:=by cases args;simp_all
 obtain⟨a0,rfl,rfl,rfl,w0⟩:=open_string Tryd.underlying9 (hval 0 9 v0 rfl rfl) h0
 obtain⟨a1,rfl,rfl,rfl,w1⟩:=open_string Tryd.underlying9 (hval 1 9 v1 rfl rfl) h1
 obtain⟨a2,len2,cap2,rfl⟩:=okWide_slice Tryd.underlying22 (hval 2 22 v2 rfl rfl)
 have k2:=h2
 have lt2:∀ x∈p2,x.block<W.heap.size:=by obtain⟨m,hm⟩:=k2;exact DataW.trod_lt m _ _ _ hm
 obtain ⟨ls, hls, hm, hs, hbig⟩ : ∃ ls : List (List UInt8), len2 = ls.length ∧ (∀ l ∈ ls, l.length ≤ 9223372036854775807) ∧ IsStrs W a2 ls ∧ ls.length ≤ 9223372036854775807 := by
  obtain⟨fuel,hf⟩:=h2
  rcases open_strings Tryd.underlying22 Tryd.underlying9 (by kernel_rfl) hf with ⟨hcs,_⟩ | ⟨x,l,c,ss,hcs,_,hl,hm,hz,_,hcell,hwz⟩
  · simp[Value.cells] at hcs
    obtain⟨rfl,rfl,rfl⟩:=hcs
    exact⟨[],rfl,by simp,.inl rfl,by simp⟩
  · simp[Value.cells] at hcs
    obtain⟨rfl,rfl,rfl⟩:=hcs
    unfold maxLen at hm
    have hz':ss.length=cap2:=by simpa using hz
    refine⟨(ss.take len2).map (·.data.toList),by simp;omega,?_,?_,by simp;omega⟩
    · intro l hlm
      simp only[List.mem_map] at hlm
      obtain⟨s,hs1,rfl⟩:=hlm
      have:=hwz s (List.mem_of_mem_take hs1)
      unfold maxLen at this
      rw[Array.length_toList];exact this
    · by_cases h0:len2=0
      · exact .inl (by simp[h0])
      · obtain⟨b,off,spot⟩:=x
        have hc:=hcell 0 (by omega)
        have hspot:spot=none:=by simpa [Addr.add] using World.cell?_spot hc
        subst hspot
        refine .inr ⟨b,off,rfl,fun j hj=>?_⟩
        simp at hj
        have hjs:j<ss.length:=by omega
        have hcj:=hcell j hjs
        have e1:(⟨b,off,none⟩:Addr).add j=⟨b,off+j,none⟩:=by simp[Addr.add]
        rw[e1,List.getD_eq_getElem?_getD,List.getElem?_eq_getElem hjs,Option.getD_some] at hcj
        rw[hcj]
        simp only[List.getElem_map,List.getElem_take]
 subst hls
 obtain⟨g,t,cs,fuel,d,p',rfl,hg,ht,hvar,hd,rfl⟩:=trodVars_one hV
 obtain rfl:=Option.some.inj (gTab.symm.trans hg)
 obtain rfl:=Option.some.inj (tTab.symm.trans ht)
 have hT:=tab_of hL
 have hltv:∀ x∈p',x.block<W.heap.size:=fun x hx=>hW'.lt x (List.mem_append_right _ (List.mem_append_right _ hx))
 clear hA0 hV0 hval0 hA hV
 refine (walk a0 w0 a1 w1 a2 cap2 ls W hbig hm hs hT).mono fun e W' ⟨he,hB⟩=>?_
 subst he
 obtain⟨fuel',hd'⟩:=Below.trod laidOut0 (by kernel_rfl) (of_decide_eq_true (by kernel_rfl)) (v:=.agg cs) (⟨fuel,by simpa [Value.cells] using hd⟩:DataW.Trod enc Tryd.prog W 0 (fun _=>true) true 92 (.agg cs) d p') hB hltv
 have hv':=trodVars_mk1 (enc:=enc) (spare:=fun b=>decide (b<W.heap.size)) hg ht (var?_below hB hg hT.1 hvar) (by simpa [Value.cells] using hd')
 exact⟨_,rfl,_,_,_,[],_,_,hW',trodAll_mk1 (shut_bool Tryd.underlying4 _),(trodAll_cons_mk (shut_string Tryd.underlying9 w0) (trodAll_cons_mk (shut_string Tryd.underlying9 w1) (trodAll_cons_mk (Below.trod laidOut0 (by kernel_rfl) (of_decide_eq_true (by kernel_rfl)) k2 hB lt2) trodAll_mk0))),hv',hB.frame _,fun h=>by cases h⟩
theorem named0 : Tryd.prog.funcNamed "loop.example/g00226/laws.FnExactCheckProof" = some 3 := by kernel_rfl
theorem closed0:joinedFacts Tryd.prog 3 Tryd.f3 Rows.fnExactCheckProofSpec Rows.fnExactCheckProofRow=true:=by
 unfold joinedFacts
 rw[seat_may,seat_lifts,seat_make]
 kernel_rfl
theorem inst0:Tryd.f3.isInstance Tryd.prog Rows.fnExactCheckProofRow.origin Rows.fnExactCheckProofRow.targs:=of_decide_eq_true (by kernel_rfl)
theorem wrap0:Tryd.f3.isWrapper Tryd.prog Rows.fnExactCheckProofRow.wrapper Rows.fnExactCheckProofRow.mainSum:=by unfold Func.isWrapper;first | (rw[if_pos (by decide +kernel)];kernel_rfl) | (rw[if_neg (by decide +kernel)];exact⟨rfl,rfl⟩)
theorem over:Rows.fnExactCheckProofRow.holds Tryd.pinned (OpenSpec.ofChange Rows.fnExactCheckProofSpec) :=
 OpenClaim.holds_of_wide 3 Tryd.f3 rfl rfl rfl rfl rfl rfl rfl ⟨rfl,rfl,rfl,rfl,rfl⟩ rfl rfl rfl rfl rfl named0 Tryd.func3 closed0 inst0 wrap0
  (fun os started H enc _=>lifted os started H enc)
theorem text0:Rows.fnExactCheckProofRow.wfByText (OpenSpec.ofChange Rows.fnExactCheckProofSpec)=true:=by kernel_rfl
theorem looks0:false=Tryd.prog.looks []:=by kernel_rfl
theorem goes0:false=Rows.fnExactCheckProofRow.goesBy Tryd.prog:=by kernel_rfl
theorem wants0:([9,9,22].all fun u => !Tryd.prog.wantsStandIn u)=true:=by kernel_rfl
theorem card:Claim7.holds Tryd.pinned (.plain (OpenSpec.ofChange Rows.fnExactCheckProofSpec)) Rows.fnExactCheckProofCard :=
 Claim7.holds_tied_plain_at .later [] [.data] true (true,Rows.fnExactCheckProofCard.stood.harness.2) false
  over (fun _ h=>by cases h) text0 (fun _ h=>by cases h) fnExactCheckProof_row_tie rfl ⟨rfl,rfl⟩ seat_main rfl
  (fun f fn hf hfn => by
   obtain rfl:f=3:=Option.some.inj (named0.symm.trans hf) |>.symm
   obtain rfl:fn=Tryd.f3:=(Option.some.inj (Tryd.func3.symm.trans hfn)).symm
   exact⟨looks0,fun j t ht=>by
    rw[Tryd.params3] at ht
    have hm:t∈[9,9,22]:=by simpa using Array.mem_of_getElem? ht
    exact (show Tryd.prog.wantsStandIn t=false by simpa using List.all_eq_true.1 wants0 t hm)⟩)
  goes0
end Go.Proofs.YtkfbghbjegiefaaDoor.fnExactCheckProof
namespace Go.Proofs.YtkfbghbjegiefaaDoor
theorem fnExactCheckProof_holds:Rows.FnExactCheckProofCardSaid:=fnExactCheckProof.card
end Go.Proofs.YtkfbghbjegiefaaDoor
