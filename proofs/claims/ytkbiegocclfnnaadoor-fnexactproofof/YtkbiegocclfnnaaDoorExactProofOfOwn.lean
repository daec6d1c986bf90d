/-
 At every list of nodes, root and key ProofOf answers as its model; it writes into no argument, and its answer owns its memory. No condition; the round words are laid as the program's text lays them.
-/
import Derived.Test.YtkbiegocclfnnaaDoorIPrf2
import Derived.Test.YtkbiegocclfnnaaDoorPairs
import Derived.Test.YtkbiegocclfnnaaDoorStrsAll
import Derived.Test.YtkbiegocclfnnaaDoorSeatAll
import Derived.Test.YtkbiegocclfnnaaDoorTie
import Derived.Test.YtkbiegocclfnnaaDoorCards
import Derived.ProofKit
import Derived.LaidMore
import Derived.OpenShut
import Derived.ShutString
import Derived.ChangeOld
import Derived.Below
import Derived.Stop.Joined
import Derived.Lib.LaidTab
import Derived.SevenTiedAt
import Derived.SliceStrings
namespace Go.Proofs.YtkbiegocclfnnaaDoor.fnExactProofOf
open Go.ChangeShapes Go.WideShapes Go.ChangeAt Go.RowKit
open Go.ChangeMaps (open_string shut_string)
set_option linter.unusedVariables false
theorem own:ownKnob Tryd.prog.godebug=none:=by kernel_rfl
theorem laidOut0:laidOutB Tryd.prog=true:=by kernel_rfl
theorem gTab : Tryd.prog.globalNamed "loop.example/g00226/impl.roundWords" = some 0 := by kernel_rfl
theorem tTab:(Tryd.prog.globals[0]?).map (·.type)=some 108:=by kernel_rfl
theorem door_met (os:Os) (args:Array Value):laidMetH Tryd.prog Rows.fnExactProofOfRow.laid ((World.doorLaid Tryd.prog 400 os).forCall (fun _ _=>0) ⟨#[],args,[]⟩).memory :=
 laidMetH_of_parts3 (fuel:=8) (laidMet_of_run' 8 (by kernel_rfl) (by kernel_rfl)) (by kernel_rfl) (by kernel_rfl)
theorem tab_of {W:World} (h:laidMetH Tryd.prog Rows.fnExactProofOfRow.laid W):Tab W:=by
 rw[MakeChecks.laidMetH_plain _ _ _ (by kernel_rfl)] at h
 have hT : Lib.TabIs Tryd.prog W "loop.example/g00226/impl.roundWords" .u32 (kL.map fun x => num x) := Lib.tabIs_of_head (rest := []) gTab tTab Tryd.underlying108 Tryd.underlying84 (by kernel_rfl) (by kernel_rfl) h
 have hc:∀ i,i<64→W.cell? ⟨0,i,none⟩=some (.int .u32 (num (kL.getD i 0))):=fun i hi=>by
  have hl:i<kL.length:=hi
  have:=hT.cell gTab i (by rw[List.length_map];exact hl)
  rw[this]
  simp[List.getD,hl]
 exact⟨block_lt_of_cell (hc 0 (by omega)),hc⟩
theorem sizeP_le (ps:List PairL) (j:Nat) (h:j<ps.length):ps[j].1.length+ps[j].2.length≤sizeP ps:=by
 have h1:sizeP ps=sizeP (ps.take (j+1))+sizeP (ps.drop (j+1)):=by
  conv=>lhs;rw[←List.take_append_drop (j+1) ps]
  simp only[sizeP,List.map_append,List.sum_append]
 rw[h1,sizeP_snoc ps j h];omega
theorem isPairs_own {w:World} {base e n:Nat} {a:Option Addr} {m cap:Nat} {ps:List PairL} (h:w.ownsRow base e 2 (.slice a m cap) n (pcells ps)):m=ps.length∧n=ps.length∧IsPairs w a ps:=by
 have hl:ps.length=n:=by have:=h.1;rw[pcells_length] at this;omega
 rcases h.2 with ⟨h',h0⟩ | ⟨g,cap',cur,h',_⟩
 · cases h'
   exact⟨by omega,by omega,.inl (List.length_eq_zero_iff.1 (by omega))⟩
 · cases h'
   exact⟨by omega,by omega,.inr ⟨g,0,rfl,fun j hj=>by
    rw[Nat.zero_add,h.cellAt (j*2) (by omega),h.cellAt (j*2+1) (by omega)]
    exact pcells_at ps j hj⟩⟩
theorem sizes_le (ps:List PairL) (L:Nat) (hL:L≤1048576) (h:ps.length+sizeP ps≤L):∀ p∈ps,p.1.length≤1048576∧p.2.length≤1048576:=by
 intro p hp
 obtain⟨j,hj,rfl⟩:=List.getElem_of_mem hp
 have:=sizeP_le ps j hj
 exact⟨by omega,by omega⟩
set_option maxRecDepth 100000 in
set_option maxHeartbeats 4000000 in
theorem walk (a:Option Addr) (cap:Nat) (ps:List PairL) (a1:ByteArray) (w1:a1.size≤maxLen) (a2:ByteArray) (w2:a2.size≤maxLen) (w:World) (hl:ps.length≤9223372036854775807) (hm:∀ p∈ps,p.1.length≤9223372036854775807∧p.2.length≤9223372036854775807) (hs:IsPairs w a ps) (hT:Tab w) :
 Calls Tryd.prog 3 #[.slice a ps.length cap,.string a1,.string a2] w fun e w'=>e=.returned (.bool true)∧Below w.heap.size w w':=by
 unfold maxLen at w1 w2
 have HT:Hid (Tab w):=hT
 by_cases hb0:a1.size≤1048576
 · have e0:a1=⟨a1.data.toList.toArray⟩:=ba_eq a1
   have hhl:a1.data.toList.length≤1048576:=by rw[Array.length_toList];exact hb0
   obtain⟨h,hh⟩:∃ s,s=a1.data.toList:=⟨_,rfl⟩
   rw[←hh] at e0 hhl
   clear hh
   subst e0
   have hhl':(h.length:Int)≤1048576:=by omega
   by_cases hb2:a2.size≤1048576
   case neg =>
    clear hs hm hT
    go_enter Tryd.func3,Tryd.ntmps3
    go_wp2
    go_ret
    exact⟨rfl,Below.refl _ _⟩
   have e2:a2=⟨a2.data.toList.toArray⟩:=ba_eq a2
   have hgl:a2.data.toList.length≤1048576:=by rw[Array.length_toList];exact hb2
   obtain⟨kk,hkk⟩:∃ s,s=a2.data.toList:=⟨_,rfl⟩
   rw[←hkk] at e2 hgl
   clear hkk
   subst e2
   have hgl':(kk.length:Int)≤1048576:=by omega
   have HS:Hid (∀ W,Below w.heap.size w W→IsPairs W a ps):=fun W hW=>hs.later hW
   have KZ:=szStoredS_gen 1048576 (Nat.le_refl _) a cap ps w hl hm hs
   clear hs hm hT hb0 w1 hb2 w2
   go_enter Tryd.func3,Tryd.ntmps3
   go_wp2_with fail
   refine KZ.mono ?_
   rintro e w2 ⟨he,B2⟩
   rcases he with rfl | ⟨hsz,n1,hn1,rfl⟩
   · go_wp2
     go_ret
     exact⟨rfl,B2⟩
   have hn10:(0:Int)≤(n1:Int):=by omega
   have hln:ps.length≤1048576:=by omega
   have hmm:=sizes_le ps 1048576 (Nat.le_refl _) (by omega)
   have HK1':=fun b off c W hp=>spec_proofOf (some ⟨b,off,none⟩) c ps h kk W hln hmm hp hhl hgl
   have HK2':=fun b off c W hT hp=>impl_proofOf (some ⟨b,off,none⟩) c ps h kk W hT hln hmm hp hhl hgl
   have hrl9:=proof_len ps h kk
   unfold FPost at HK1' HK2'
   obtain⟨ok,hok⟩:∃ ok,ok=(proofR ps h kk).isSome:=⟨_,rfl⟩
   obtain⟨rs,hrs⟩:∃ rs,rs=(proofR ps h kk).getD []:=⟨_,rfl⟩
   rw[←hok,←hrs] at HK1' HK2'
   rw[←hrs] at hrl9
   have HK1:Hid (∀ b off c W,IsPairs W (some ⟨b,off,none⟩) ps→Calls Tryd.prog 5 #[.slice (some ⟨b,off,none⟩) ps.length c,.string ⟨h.toArray⟩,.string ⟨kk.toArray⟩] W fun e w'=>∃ (a:Option Addr) (m c:Nat),e=.returned (.tuple #[.slice a m c,.bool ok])∧w'.ownsRow W.heap.size 9 1 (.slice a m c) rs.length (scells rs)∧Below W.heap.size W w'):=HK1'
   have HK2:Hid (∀ b off c W,Tab W→IsPairs W (some ⟨b,off,none⟩) ps→Calls Tryd.prog 7 #[.slice (some ⟨b,off,none⟩) ps.length c,.string ⟨h.toArray⟩,.string ⟨kk.toArray⟩] W fun e w'=>∃ (a:Option Addr) (m c:Nat),e=.returned (.tuple #[.slice a m c,.bool ok])∧w'.ownsRow W.heap.size 9 1 (.slice a m c) rs.length (scells rs)∧Below W.heap.size W w'):=HK2'
   have HT1:Hid (∀ W,Below w.heap.size w W→Calls Tryd.prog 6 #[.slice a ps.length cap] W fun e w'=>∃ g:Nat,e=.returned (.slice (some ⟨g,0,none⟩) ps.length ps.length)∧w'.ownsRow W.heap.size 40 2 (.slice (some ⟨g,0,none⟩) ps.length ps.length) ps.length (pcells ps)∧Below W.heap.size W w'):=fun W hW=>(toStoredS_any a cap ps W hln (HS.out W hW)).mono fun e w' h=>⟨_,h.1,h.2⟩
   clear HK1' HK2' hok hrs hmm hsz hn1 KZ hn10 HS hl
   go_wp2_with fail
   refine (HT1.out w2 B2).mono ?_
   rintro e w3 ⟨g1,rfl,og1,bg1⟩
   have Bw3:=B2.trans (bg1.mono B2.size)
   have Rpw3:Hid (w3.ownsRow w2.heap.size 40 2 (Value.slice (some ⟨g1,0,none⟩) ps.length ps.length) ps.length (pcells ps)):=og1
   have Lg1:Hid (w2.heap.size≤g1∧g1<w3.heap.size):=og1.lt g1 (by simp[Value.ownBlock])
   clear og1 bg1
   go_wp2_with fail
   refine (HK1.out g1 0 ps.length w3 (isPairs_own Rpw3.out).2.2).mono ?_
   rintro e w5 ⟨aw,maw,cw,rfl,oaw,baw⟩
   obtain⟨rfl,_,_⟩:=strs_own oaw
   have Sw5:Hid (w3.heap.size≤w5.heap.size):=baw.size
   have Bw5:=Bw3.trans (baw.mono Bw3.size)
   have Rpw5:=hidOwn (kept2 Rpw3.out baw)
   have Rww5:Hid (w5.ownsRow w3.heap.size 9 1 (Value.slice aw rs.length cw) rs.length (scells rs)):=oaw
   have Law:Hid (∀ q,(Value.slice aw rs.length cw).ownBlock=some q→w3.heap.size≤q∧q<w5.heap.size):=fun q hq=>oaw.lt q hq
   clear oaw baw
   have B5S:Hid (w.heap.size≤w5.heap.size):=Bw5.size
   go_wp2_with fail
   refine (HT1.out w5 Bw5).mono ?_
   rintro e w6 ⟨gx,rfl,ogx,bgx⟩
   have Bw6:=Bw5.trans (bgx.mono Bw5.size)
   have Rww6:=hidOwn (kept1 Rww5.out bgx)
   have Rxw6:Hid (w6.ownsRow w5.heap.size 40 2 (Value.slice (some ⟨gx,0,none⟩) ps.length ps.length) ps.length (pcells ps)):=ogx
   have Lgx:Hid (w5.heap.size≤gx∧gx<w6.heap.size):=ogx.lt gx (by simp[Value.ownBlock])
   clear ogx bgx
   go_wp2_with fail
   refine (HK2.out gx 0 ps.length w6 (HT.out.later Bw6) (isPairs_own Rxw6.out).2.2).mono ?_
   rintro e w8 ⟨ag,mag,cg,rfl,oag,bag⟩
   obtain⟨rfl,_,_⟩:=strs_own oag
   have Sw8:Hid (w6.heap.size≤w8.heap.size):=bag.size
   have Bw8:=Bw6.trans (bag.mono Bw6.size)
   have Rww8:=hidOwn (kept1 Rww6.out bag)
   have Rxw8:=hidOwn (kept2 Rxw6.out bag)
   have Rgw8:Hid (w8.ownsRow w6.heap.size 9 1 (Value.slice ag rs.length cg) rs.length (scells rs)):=oag
   have Lag:Hid (∀ q,(Value.slice ag rs.length cg).ownBlock=some q→w6.heap.size≤q∧q<w8.heap.size):=fun q hq=>oag.lt q hq
   clear oag bag
   have s5:w5.heap.size≤w6.heap.size∧w6.heap.size≤w8.heap.size:=⟨by have:=Lgx.out;omega,Sw8.out⟩
   go_wp2_with fail
   refine (eqS_same rs (.slice ag rs.length cg) (.slice aw rs.length cw) _ _ w8 (by omega) Rgw8.out Rww8.out).mono ?_
   rintro e w9 ⟨rfl,q9,hq9⟩
   have b9:Below w8.heap.size w8 w9:=by subst hq9;exact⟨rfl,rfl,rfl,Nat.le_refl _,fun _ _=>rfl⟩
   clear hq9
   have Bw9:=Bw8.trans (b9.mono Bw8.size)
   have Rww9:=hidOwn (kept1 Rww8.out b9)
   have Rxw9:=hidOwn (kept2 Rxw8.out b9)
   have Rgw9:=hidOwn (kept1 Rgw8.out b9)
   clear b9
   go_wp2_with fail
   refine (HT1.out w9 Bw9).mono ?_
   rintro e wa ⟨gz,rfl,ogz,bgz⟩
   have Bwa:=Bw9.trans (bgz.mono Bw9.size)
   have Rwwa:=hidOwn (kept1 Rww9.out bgz)
   have Rxwa:=hidOwn (kept2 Rxw9.out bgz)
   have Rgwa:=hidOwn (kept1 Rgw9.out bgz)
   have Rzwa:Hid (wa.ownsRow w9.heap.size 40 2 (Value.slice (some ⟨gz,0,none⟩) ps.length ps.length) ps.length (pcells ps)):=ogz
   have Lgz:Hid (w9.heap.size≤gz∧gz<wa.heap.size):=ogz.lt gz (by simp[Value.ownBlock])
   clear ogz bgz
   go_wp2_with fail
   refine (eqStoredS_same ps (some ⟨gx,0,none⟩) (some ⟨gz,0,none⟩) _ _ _ (by omega) (isPairs_own Rxwa.out).2.2 (isPairs_own Rzwa.out).2.2).mono ?_
   rintro e wb ⟨rfl,b9⟩
   have Bwb:=Bwa.trans (b9.mono Bwa.size)
   have Rwwb:=hidOwn (kept1 Rwwa.out b9)
   have Rxwb:=hidOwn (kept2 Rxwa.out b9)
   have Rgwb:=hidOwn (kept1 Rgwa.out b9)
   have Rzwb:=hidOwn (kept2 Rzwa.out b9)
   clear b9
   have hk0:¬ (1:Int)+2*(ps.length:Int)<0:=by omega
   have hkb:decide ((1:Int)+2*(ps.length:Int)<0)=false:=decide_eq_false hk0
   have KM:=markStoredS_any ps (some ⟨gx,0,none⟩) ps.length ps.length _ 1 wb (by omega) (by omega) (by omega) Rxwb.out
   go_wp2_with fail
   refine KM.mono ?_
   rintro e we ⟨he,om,G⟩
   subst he
   have Rwwe:=hidOwn (Rwwb.out.kept G (by
    cases hv:(Value.slice aw rs.length cw).ownBlock with
    | none=>exact .inl rfl
    | some q=>exact .inr (fun e=>by have h1:=Law.out q hv;simp[Value.ownBlock] at e;have h2:=Lgx.out;omega)))
   have Rgwe:=hidOwn (Rgwb.out.kept G (by
    cases hv:(Value.slice ag rs.length cg).ownBlock with
    | none=>exact .inl rfl
    | some q=>exact .inr (fun e=>by have h1:=Lag.out q hv;simp[Value.ownBlock] at e;have h2:=Lgx.out;omega)))
   have Bwe:Below w.heap.size w we:=Bwb.grown G Bwb.size (fun q hq=>by simp[Value.ownBlock] at hq;have h2:=Lgx.out;have h3:=B5S.out;omega)
   clear KM G om
   go_wp2_with fail
   refine (eqS_same rs (.slice ag rs.length cg) (.slice aw rs.length cw) _ _ we (by omega) Rgwe.out Rwwe.out).mono ?_
   rintro e wg ⟨rfl,q9,hq9⟩
   have b9:Below we.heap.size we wg:=by subst hq9;exact⟨rfl,rfl,rfl,Nat.le_refl _,fun _ _=>rfl⟩
   clear hq9
   have Bwg:=Bwe.trans (b9.mono Bwe.size)
   have Rwwg:=hidOwn (kept1 Rwwe.out b9)
   have Rgwg:=hidOwn (kept1 Rgwe.out b9)
   clear b9
   have hq0:¬ (1:Int)+(rs.length:Int)<0:=by omega
   have KM:=markS_any rs (.slice ag rs.length cg) _ 1 wg (by omega) (by omega) (by omega) Rgwg.out
   go_wp2_with fail
   refine KM.mono ?_
   rintro e wh ⟨he,om,G⟩
   subst he
   have Rwwh:=hidOwn (Rwwg.out.kept G (by
    cases hv:(Value.slice aw rs.length cw).ownBlock with
    | none=>exact .inl rfl
    | some q=>exact .inr (fun e=>by have h1:=Law.out q hv;have h2:=Lag.out q e.symm;omega)))
   have Bwh:Below w.heap.size w wh:=Bwg.grown G Bwg.size (fun q hq=>by have h2:=Lag.out q hq;have h3:=B5S.out;omega)
   have Rgwh:=hidOwn om
   clear KM G om
   have KM:=heldS_any rs.length (.slice ag rs.length cg) _ 1 wh (by omega) (by omega) (by omega) Rgwh.out
   go_wp2_with fail
   refine KM.mono ?_
   rintro e wi ⟨rfl,G⟩
   have bh:=below_of_grown G
   have Bwi:=Bwh.trans (bh.mono Bwh.size)
   have Rwwi:=hidOwn (kept1 Rwwh.out bh)
   have Rgwi:=hidOwn (kept1 Rgwh.out bh)
   clear KM G bh
   go_wp2_with fail
   refine (HT1.out wi Bwi).mono ?_
   rintro e wj ⟨g5,rfl,og5,bg5⟩
   have Bwj:=Bwi.trans (bg5.mono Bwi.size)
   have Rwwj:=hidOwn (kept1 Rwwi.out bg5)
   have Rgwj:=hidOwn (kept1 Rgwi.out bg5)
   have Rpwj:Hid (wj.ownsRow wi.heap.size 40 2 (Value.slice (some ⟨g5,0,none⟩) ps.length ps.length) ps.length (pcells ps)):=og5
   have Lg5:Hid (wi.heap.size≤g5∧g5<wj.heap.size):=og5.lt g5 (by simp[Value.ownBlock])
   clear og5 bg5
   go_wp2_with fail
   refine (HK2.out g5 0 ps.length wj (HT.out.later Bwj) (isPairs_own Rpwj.out).2.2).mono ?_
   rintro e wl ⟨ah,mah,ch,rfl,oah,bah⟩
   obtain⟨rfl,_,_⟩:=strs_own oah
   have Swl:Hid (wj.heap.size≤wl.heap.size):=bah.size
   have Bwl:=Bwj.trans (bah.mono Bwj.size)
   have Rwwl:=hidOwn (kept1 Rwwj.out bah)
   have Rgwl:=hidOwn (kept1 Rgwj.out bah)
   have Rpwl:=hidOwn (kept2 Rpwj.out bah)
   have Rhwl:Hid (wl.ownsRow wj.heap.size 9 1 (Value.slice ah rs.length ch) rs.length (scells rs)):=oah
   have Lah:Hid (∀ q,(Value.slice ah rs.length ch).ownBlock=some q→wj.heap.size≤q∧q<wl.heap.size):=fun q hq=>oah.lt q hq
   clear oah bah
   go_wp2_with fail
   refine (eqS_same rs (.slice ah rs.length ch) (.slice aw rs.length cw) _ _ wl (by omega) Rhwl.out Rwwl.out).mono ?_
   rintro e wm ⟨rfl,q9,hq9⟩
   have b9:Below wl.heap.size wl wm:=by subst hq9;exact⟨rfl,rfl,rfl,Nat.le_refl _,fun _ _=>rfl⟩
   clear hq9
   have Bwm:=Bwl.trans (b9.mono Bwl.size)
   have Rwwm:=hidOwn (kept1 Rwwl.out b9)
   have Rgwm:=hidOwn (kept1 Rgwl.out b9)
   have Rpwm:=hidOwn (kept2 Rpwl.out b9)
   have Rhwm:=hidOwn (kept1 Rhwl.out b9)
   clear b9
   have KM:=heldS_any rs.length (.slice ag rs.length cg) _ 1 wm (by omega) (by omega) (by omega) Rgwm.out
   go_wp2_with fail
   refine KM.mono ?_
   rintro e wn ⟨rfl,G⟩
   have bh:=below_of_grown G
   have Bwn:=Bwm.trans (bh.mono Bwm.size)
   have Rwwn:=hidOwn (kept1 Rwwm.out bh)
   have Rgwn:=hidOwn (kept1 Rgwm.out bh)
   have Rpwn:=hidOwn (kept2 Rpwm.out bh)
   have Rhwn:=hidOwn (kept1 Rhwm.out bh)
   clear KM G bh
   go_wp2
   go_ret
   exact⟨rfl,Bwn⟩
 · have hb0':¬ (a1.size:Int)≤1048576:=by omega
   clear hs hm hT
   go_enter Tryd.func3,Tryd.ntmps3
   go_wp2
   go_ret
   exact⟨rfl,Below.refl _ _⟩
set_option maxRecDepth 100000 in
theorem lifted (os:Os) (started:os.Started) (H:Type) (enc:TypeId × Value→H) :
 ReturnsInHanded {} Tryd.checked os 3 .any (fun w args=>(Rows.fnExactProofOfSpec.pre enc Tryd.prog Tryd.f3 [] false w args∧laidMetH Tryd.prog Rows.fnExactProofOfRow.laid w)∧sizedMet enc Tryd.prog Tryd.f3 (OpenSpec.ofChange Rows.fnExactProofOfSpec) false w args)
  (Rows.fnExactProofOfSpec.post enc Tryd.prog Tryd.f3 false true false false):=by
 refine returnsInHanded_of_change_and (C:=Tryd.checked) (X:=fun w _=>laidMetH Tryd.prog Rows.fnExactProofOfRow.laid w) (fun _ _ _ hh h=>h.of_heap hh) own started (by kernel_rfl) Tryd.func3
  (ChangeSpec.witness_shaped (enc:=enc) (C:=Tryd.checked) (os:=os) (X:=fun w _=>laidMetH Tryd.prog Rows.fnExactProofOfRow.laid w) false (World.doorLaid Tryd.prog 400 os) #[.slice none 0 0,.string ByteArray.empty,.string ByteArray.empty] 8 rfl (World.shaped_of_RefB (by kernel_rfl) (by kernel_rfl)) (by kernel_rfl) (by kernel_rfl) (by kernel_rfl) (door_met os _)) ?_
 intro W base args ds gs before hval0 hW _ _ hL _
 have hval:∀ (j:Nat) t v,Tryd.f3.params[j]? = some t→args[j]? = some v→Value.okWide Tryd.prog W .any base t v:=hval0
 have hW':=hW
 obtain⟨p,q,hA0,hV0,rfl,hfz,hnd⟩:=hW
 have hA:DataW.TrodAll enc Tryd.prog W 0 (fun _=>true) true Tryd.f3.params.toList args.toList ds p:=hA0
 have hV : DataW.TrodVars enc Tryd.prog W (fun _ => true) ["loop.example/g00226/impl.roundWords"] gs q := hV0
 rw[Tryd.params3] at hA hval
 obtain⟨v0,vs0,d0,ds0,p0,q0,hargs,rfl,rfl,h0,r0⟩:=trodAll_cons hA
 obtain⟨v1,vs1,d1,ds1,p1,q1,hargs1,rfl,rfl,h1,r1⟩:=trodAll_cons r0
 obtain⟨v2,vs2,d2,ds2,p2,q2,hargs2,rfl,rfl,h2,r2⟩:=trodAll_cons r1
 obtain⟨rfl,rfl,rfl⟩:=trodAll_nil r2
 obtain rfl:args=#[v0,v1,v2]:=by cases args;simp_all
 obtain⟨a2,rfl,rfl,rfl,w2⟩:=open_string Tryd.underlying9 (hval 2 9 v2 rfl rfl) h2
 obtain⟨a1,rfl,rfl,rfl,w1⟩:=open_string Tryd.underlying9 (hval 1 9 v1 rfl rfl) h1
 have k0:=h0
 have lt0:∀ x∈p0,x.block<W.heap.size:=by obtain⟨m,hm⟩:=k0;exact DataW.trod_lt m _ _ _ hm
 obtain⟨a0,ps,cap0,hv0,hm,hs,hbig⟩:∃ (a:Option Addr) (ps:List PairL) (cap:Nat),v0=.slice a ps.length cap∧(∀ p∈ps,p.1.length≤9223372036854775807∧p.2.length≤9223372036854775807)∧IsPairs W a ps∧ps.length≤9223372036854775807:=by
  obtain⟨a1,len1,cap1,rfl⟩:=okWide_slice Tryd.underlying22 (hval 0 22 v0 rfl rfl)
  obtain⟨fuel,hf⟩:=h0
  exact stored_of (by simpa [Value.cells] using hf)
 subst hv0
 obtain⟨g,t,cs,fuel,d,p',rfl,hg,ht,hvar,hd,rfl⟩:=trodVars_one hV
 obtain rfl:=Option.some.inj (gTab.symm.trans hg)
 obtain rfl:=Option.some.inj (tTab.symm.trans ht)
 have hT:=tab_of hL
 have hltv:∀ x∈p',x.block<W.heap.size:=fun x hx=>hW'.lt x (List.mem_append_right _ (List.mem_append_right _ hx))
 clear hA0 hV0 hval0 hA hV
 refine (walk a0 cap0 ps a1 w1 a2 w2 W hbig hm hs hT).mono fun e W' ⟨he,hB⟩=>?_
 subst he
 obtain⟨fuel',hd'⟩:=Below.trod laidOut0 (by kernel_rfl) (of_decide_eq_true (by kernel_rfl)) (v:=.agg cs) (⟨fuel,by simpa [Value.cells] using hd⟩:DataW.Trod enc Tryd.prog W 0 (fun _=>true) true 108 (.agg cs) d p') hB hltv
 have hv':=trodVars_mk1 (enc:=enc) (spare:=fun b=>decide (b<W.heap.size)) hg ht (var?_below hB hg hT.1 hvar) (by simpa [Value.cells] using hd')
 exact⟨_,rfl,_,_,_,[],_,_,hW',trodAll_mk1 (shut_bool Tryd.underlying4 _),(trodAll_cons_mk (Below.trod laidOut0 (by kernel_rfl) (of_decide_eq_true (by kernel_rfl)) k0 hB lt0) (trodAll_cons_mk (shut_string Tryd.underlying9 w1) (trodAll_cons_mk (shut_string Tryd.underlying9 w2) trodAll_mk0))),hv',hB.frame _,fun h=>by cases h⟩
theorem named0 : Tryd.prog.funcNamed "loop.example/g00226/laws.FnExactProofOf" = some 3 := by kernel_rfl
theorem closed0:joinedFacts Tryd.prog 3 Tryd.f3 Rows.fnExactProofOfSpec Rows.fnExactProofOfRow=true:=by
 unfold joinedFacts
 rw[seat_may,seat_lifts,seat_make]
 kernel_rfl
theorem inst0:Tryd.f3.isInstance Tryd.prog Rows.fnExactProofOfRow.origin Rows.fnExactProofOfRow.targs:=of_decide_eq_true (by kernel_rfl)
theorem wrap0:Tryd.f3.isWrapper Tryd.prog Rows.fnExactProofOfRow.wrapper Rows.fnExactProofOfRow.mainSum:=by unfold Func.isWrapper;first | (rw[if_pos (by decide +kernel)];kernel_rfl) | (rw[if_neg (by decide +kernel)];exact⟨rfl,rfl⟩)
theorem over:Rows.fnExactProofOfRow.holds Tryd.pinned (OpenSpec.ofChange Rows.fnExactProofOfSpec) :=
 OpenClaim.holds_of_wide 3 Tryd.f3 rfl rfl rfl rfl rfl rfl rfl ⟨rfl,rfl,rfl,rfl,rfl⟩ rfl rfl rfl rfl rfl named0 Tryd.func3 closed0 inst0 wrap0
  (fun os started H enc _=>lifted os started H enc)
theorem text0:Rows.fnExactProofOfRow.wfByText (OpenSpec.ofChange Rows.fnExactProofOfSpec)=true:=by kernel_rfl
theorem looks0:false=Tryd.prog.looks []:=by kernel_rfl
theorem goes0:false=Rows.fnExactProofOfRow.goesBy Tryd.prog:=by kernel_rfl
theorem wants0:([22,9,9].all fun u => !Tryd.prog.wantsStandIn u)=true:=by kernel_rfl
theorem card:Claim7.holds Tryd.pinned (.plain (OpenSpec.ofChange Rows.fnExactProofOfSpec)) Rows.fnExactProofOfCard :=
 Claim7.holds_tied_plain_at .later [] [.data] true (true,Rows.fnExactProofOfCard.stood.harness.2) false
  over (fun _ h=>by cases h) text0 (fun _ h=>by cases h) fnExactProofOf_row_tie rfl ⟨rfl,rfl⟩ seat_main rfl
  (fun f fn hf hfn => by
   obtain rfl:f=3:=Option.some.inj (named0.symm.trans hf) |>.symm
   obtain rfl:fn=Tryd.f3:=(Option.some.inj (Tryd.func3.symm.trans hfn)).symm
   exact⟨looks0,fun j t ht=>by
    rw[Tryd.params3] at ht
    have hm:t∈[22,9,9]:=by simpa using Array.mem_of_getElem? ht
    exact (show Tryd.prog.wantsStandIn t=false by simpa using List.all_eq_true.1 wants0 t hm)⟩)
  goes0
end Go.Proofs.YtkbiegocclfnnaaDoor.fnExactProofOf
namespace Go.Proofs.YtkbiegocclfnnaaDoor
theorem fnExactProofOf_holds:Rows.FnExactProofOfCardSaid:=fnExactProofOf.card
end Go.Proofs.YtkbiegocclfnnaaDoor
