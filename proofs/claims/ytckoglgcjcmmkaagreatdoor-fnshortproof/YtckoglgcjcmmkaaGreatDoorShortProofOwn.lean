/-
 At every code the last text of a proof that holds cannot be left out, and none be added behind it: FnShortProof answers true. No condition; the round words are laid as the program's text lays them.
-/
import Derived.Test.YtckoglgcjcmmkaaGreatDoorDrawGs
import Derived.Test.YtckoglgcjcmmkaaGreatDoorMathPfs
import Derived.Test.YtckoglgcjcmmkaaGreatDoorIPrf2
import Derived.Test.YtckoglgcjcmmkaaGreatDoorIChk3
import Derived.Test.YtckoglgcjcmmkaaGreatDoorAppT
import Derived.Test.YtckoglgcjcmmkaaGreatDoorBackM
import Derived.Test.YtckoglgcjcmmkaaGreatDoorSSums
import Derived.Test.YtckoglgcjcmmkaaGreatDoorIReadAll
import Derived.Test.YtckoglgcjcmmkaaGreatDoorDrawPs
import Derived.Test.YtckoglgcjcmmkaaGreatDoorSeatAll
import Derived.Test.YtckoglgcjcmmkaaGreatDoorTie
import Derived.Test.YtckoglgcjcmmkaaGreatDoorCards
import Derived.ProofKit
import Derived.LaidMore
import Derived.OpenShut
import Derived.ShutString
import Derived.ChangeOld
import Derived.Below
import Derived.Stop.Joined
import Derived.Lib.LaidTab
import Derived.SevenTiedAt
import Derived.SliceStrings
namespace Go.Proofs.YtckoglgcjcmmkaaGreatDoor.fnShortProof
open Go.ChangeShapes Go.WideShapes Go.ChangeAt Go.RowKit
open Go.ChangeMaps (open_string shut_string)
set_option linter.unusedVariables false
theorem own:ownKnob Tryz.prog.godebug=none:=by kernel_rfl
theorem laidOut0:laidOutB Tryz.prog=true:=by kernel_rfl
theorem gTab : Tryz.prog.globalNamed "loop.example/g00226/impl.roundWords" = some 0 := by kernel_rfl
theorem tTab:(Tryz.prog.globals[0]?).map (·.type)=some 141:=by kernel_rfl
theorem door_met (os:Os) (args:Array Value):laidMetH Tryz.prog Rows.fnShortProofRow.laid ((World.doorLaid Tryz.prog 400 os).forCall (fun _ _=>0) ⟨#[],args,[]⟩).memory :=
 laidMetH_of_parts3 (fuel:=8) (laidMet_of_run' 8 (by kernel_rfl) (by kernel_rfl)) (by kernel_rfl) (by kernel_rfl)
theorem tab_of {W:World} (h:laidMetH Tryz.prog Rows.fnShortProofRow.laid W):Tab W:=by
 rw[MakeChecks.laidMetH_plain _ _ _ (by kernel_rfl)] at h
 have hT : Lib.TabIs Tryz.prog W "loop.example/g00226/impl.roundWords" .u32 (kL.map fun x => num x) := Lib.tabIs_of_head (rest := []) gTab tTab Tryz.underlying141 Tryz.underlying96 (by kernel_rfl) (by kernel_rfl) h
 have hc:∀ i,i<64→W.cell? ⟨0,i,none⟩=some (.int .u32 (num (kL.getD i 0))):=fun i hi=>by
  have hl:i<kL.length:=hi
  have:=hT.cell gTab i (by rw[List.length_map];exact hl)
  rw[this]
  simp[List.getD,hl]
 exact⟨block_lt_of_cell (hc 0 (by omega)),hc⟩
theorem pz_refl (w:World) (q:Nat):Below w.heap.size w (w.drewN q):=⟨rfl,rfl,rfl,Nat.le_refl _,fun _ _=>rfl⟩
theorem cap_of {w:World} {B e n m c:Nat} {a:Option Addr} {xs:List Value} (h:w.ownsRow B e 1 (.slice a m c) n xs):n≤c:=by
 rcases h.2 with ⟨hv,h0⟩ | ⟨g,cap,cur,hv,hb,hgb,rest⟩
 · omega
 · cases hv
   exact rest.1
theorem find_val {ps:List PairL} {h t:List UInt8} (hf:findL ps h=some t):∃ p∈ps,p.2=t:=by
 unfold findL at hf
 rw[Option.map_eq_some_iff] at hf
 obtain⟨p,hp,rfl⟩:=hf
 exact⟨p,List.mem_of_find?_eq_some hp,rfl⟩
theorem strs_drop1 {w:World} {b off:Nat} {ls:List (List UInt8)} (h:IsStrs w (some ⟨b,off,none⟩) ls):IsStrs w (some ⟨b,off+1,none⟩) (ls.drop 1):=by
 rcases h with rfl | ⟨b',off',h1,h2⟩
 · exact .inl rfl
 · cases h1
   exact .inr ⟨b,off+1,rfl,fun j hj=>by
    have:=h2 (j+1) (by simp at hj;omega)
    rw[show off+1+j=off+(j+1) by omega,this]
    simp⟩
theorem flat_small (T:List (List UInt8)) (m:Nat) (h:∀ t∈T,t.length≤m):T.flatten.length≤T.length*m:=by
 induction T with
 | nil=>simp
 | cons t r ih =>
   have h1:=h t (by simp)
   have h2:=ih (fun x hx=>h x (by simp[hx]))
   simp only[List.flatten_cons,List.length_append,List.length_cons,Nat.succ_mul]
   omega
set_option maxRecDepth 100000 in
set_option maxHeartbeats 4000000 in
theorem walk (a0 : Option Addr) (len0 cap0 : Nat) (w : World) (w0 : Code w a0 len0) (hT : Tab w) :
 Calls Tryz.prog 4 #[.slice a0 len0 cap0] w fun e w'=>e=.returned (.bool true)∧Below w.heap.size w w':=by
 obtain⟨i0,hi0,hz0,hz1,hz2⟩:=info_parts info9a
 by_cases hb:len0≤1048576
 · have HB := bigNo len0 cap0 a0 w hb
   have HC:Hid (Code w a0 len0):=w0
   have HT:Hid (Tab w):=hT
   clear w0 hT
   go_enter Tryz.func4,Tryz.ntmps4
   go_wp2_with fail
   refine HB.mono ?_
   rintro e w ⟨rfl,rfl⟩
   clear HB
   have HD:=drawProofOf len0 cap0 a0 w hb HC.out
   go_wp2_with fail
   refine HD.mono ?_
   rintro e w1 ⟨ps,a1,c1,rt,key,rfl,hpl,hrt,hkl,hps,o1,B1⟩
   have I1:=(isPairs_own o1).2.2
   have HI1:Hid (∀ W,Below w1.heap.size w1 W→IsPairs W a1 ps):=fun W hW=>I1.later hW
   have HPS:Hid (∀ p∈ps,p.1.length≤1048576∧p.2.length≤1048576):=hps
   have K2:=impl_proofOf a1 c1 ps rt key w1 (HT.out.later B1) (by omega) hps I1 hrt (by omega)
   have HK3:Hid (∀ W,Below w1.heap.size w1 W→_):=fun W hW=>spec_proofOf a1 c1 ps rt key W (by omega) hps (I1.later hW) hrt (by omega)
   have HF:Hid (∀ T,proofR ps rt key=some T→_):=fun T h=>proof_facts (T:=T) h
   have HSH:Hid (∀ T,proofR ps rt key=some T→chkR rt key (T ++ [[120]])=(0,[])∧(T≠[]→chkR rt key T.dropLast=(0,[]))):=fun T h=>proof_short (T:=T) h [120]
   obtain⟨R,hR⟩:∃ R,R=proofR ps rt key:=⟨_,rfl⟩
   rw[←hR] at K2 HK3 HF HSH
   unfold FPost at K2 HK3
   clear HD o1 I1 hR hps
   cases R with
   | none =>
     simp only[Option.getD_none,Option.isSome_none] at K2 HK3
     clear HF HSH
     go_wp2_with fail
     refine K2.mono ?_
     rintro e w2 ⟨a2,m2,c2,rfl,_,b2⟩
     have B2:=B1.trans (b2.mono B1.size)
     have K3:=HK3.out w2 b2
     clear K2 HK3 b2
     go_wp2_with fail
     refine K3.mono ?_
     rintro e w3 ⟨a3,m3,c3,rfl,_,b3⟩
     have B3:=B2.trans (b3.mono B2.size)
     clear K3 b3
     go_wp2
     go_ret
     exact⟨rfl,B3⟩
   | some T =>
     obtain⟨hst,h32,hk12,hT30,hfd,hT2,hhd,hem,_,_,_,_⟩:=HF.out T rfl
     obtain⟨hmo,hle⟩:=HSH.out T rfl
     have HTM:Hid (∀ t∈T,t.length≤33006):=fun t ht=>by
      obtain⟨nd,hnd⟩:=Option.isSome_iff_exists.1 (find_sum hst (hfd t ht)).2
      rw[←(node_back t nd hnd).2]
      exact nodeB_len _ _ _ _
     have HPOS:Hid (∀ t∈T,0<t.length):=fun t ht=>by
      have hr:=(find_sum hst (hfd t ht)).2
      cases t with
      | nil=>exact absurd hr (by rw[show readNode []=none by decide +kernel];simp)
      | cons _ _=>simp
     have HMO:Hid (chkR rt key (T ++ [[120]])=(0,[])):=hmo
     have HLE:Hid (T≠[]→chkR rt key T.dropLast=(0,[])):=hle
     have HEM:Hid (T=[]→rt=emptyL):=hem
     simp only[Option.getD_some,Option.isSome_some] at K2 HK3
     clear HF HSH hst hfd hhd hem h32 hT2 hmo hle
     go_wp2_with fail
     refine K2.mono ?_
     rintro e w2 ⟨a2,m2,c2,rfl,o2,b2⟩
     have B2:=B1.trans (b2.mono B1.size)
     have K3:=HK3.out w2 b2
     have hcp:=cap_of o2
     have hnn:=own_noneT o2
     obtain⟨rfl,_,i2⟩:=strs_own o2
     have HI2:Hid (∀ W,Below w2.heap.size w2 W→IsStrs W a2 T):=fun W hW=>strs_later i2 hW
     clear K2 HK3 b2 o2 i2
     go_wp2_with fail
     refine K3.mono ?_
     rintro e w3 ⟨a3,m3,c3,rfl,_,b3⟩
     have B3:=B2.trans (b3.mono B2.size)
     have HX3:Hid (Below w2.heap.size w2 w3):=b3
     have XE:Below w3.heap.size w3 (w3.alloc (.cells #[] 9)):=(Below.refl _ _).alloc (Nat.le_refl _) _
     have HOE:Hid ((w3.alloc (.cells #[] 9)).ownsRow w3.heap.size 9 1 (.slice (some ⟨w3.heap.size,0,none⟩) 0 0) 0 []):=World.ownsRow_lit (e:=9) (size:=1) w3 #[] 0 (base:=w3.heap.size) (Nat.le_refl _) (Nat.zero_le _) rfl
     have HXE:Hid (Below w3.heap.size w3 (w3.alloc (.cells #[] 9))):=XE
     have HIE:Hid (IsStrs (w3.alloc (.cells #[] 9)) a2 T):=HI2.out _ (b3.trans (XE.mono b3.size))
     clear K3 b3 XE
     go_wp2_with (first
      | (at_builtin; refine wpList_append_strs rfl _ _ 30 rfl w3.heap.size 9 i0 (.string ⟨#[]⟩) 16 Tryz.underlying30 hi0 hz0 hz1 hz2 rfl (.slice (some ⟨w3.heap.size, 0, none⟩) 0 0) 0 [] rfl HOE.out a2 T T.length c2 rfl rfl hnn HIE.out (by unfold maxLen; omega) (by omega) (by simp) ?_; intro v4 w4 o4 g4; obtain ⟨a4, m4, c4, rfl⟩ := own_sliceT o4
         have HB4:Hid (Below w3.heap.size w3 w4):=HXE.out.grown g4 HXE.out.size (fun q hq=>(HOE.out.lt q hq).1)
         have OT4:Hid (w4.ownsRow w3.heap.size 9 1 (.slice a4 m4 c4) T.length (scells T)):=(by rw[Hid];simpa using o4)
         clear o4 g4)
      | (at_builtin;refine wpList_append_own _ rfl _ _ 30 rfl w3.heap.size 9 i0 (.string ⟨#[]⟩) 1 16 Tryz.underlying30 hi0 hz0 hz1 hz2 rfl (by decide) (.slice a4 m4 c4) T.length (scells T) rfl (OT4.out.alloc _) ⟨w4.heap.size,0,none⟩ 1 1 [.string ⟨#[120]⟩] rfl rfl (World.news_of_block (cs:=#[.string ⟨#[120]⟩]) (t:=9) (fr:=(0,0)) (heap_alloc_new w4 _)) (by simp[Value.oneCell']) (by unfold maxLen;omega) (by omega) (by have:=HB4.out.size;simp;omega) ?_;intro v5 w5 o5 g5 _;obtain⟨a5,m5,c5,rfl⟩:=own_sliceT o5))
     have O5:w5.ownsRow w3.heap.size 9 1 (.slice a5 m5 c5) (T.length+1) (scells (T ++ [[120]])):=by rw[scells_snoc];exact o5
     have hc5:=cap_of O5
     have XA:Below w3.heap.size w3 (w4.alloc (.cells #[.string ⟨#[120]⟩] 9)):=HB4.out.alloc HB4.out.size _
     have b5:Below w3.heap.size w3 w5:=XA.grown g5 XA.size (fun q hq=>(OT4.out.lt q hq).1)
     obtain⟨rfl,_,i5⟩:=strs_own O5
     have B5:=B3.trans (b5.mono B3.size)
     have HX5:Hid (Below w2.heap.size w2 w5):=HX3.out.trans (b5.mono HX3.out.size)
     have K6:=impl_checkProof rt key a5 c5 (T ++ [[120]]) w5 (HT.out.later B5) (by simpa using hc5) hrt (by omega) (by simp;omega) (fun t ht=>by
      rcases List.mem_append.1 ht with h | h
      · exact Nat.le_trans (HTM.out t h) (by omega)
      · rw[List.mem_singleton.1 h];simp) i5
     rw[HMO.out] at K6
     dsimp only at K6
     clear HMO HOE HXE HIE o5 g5 O5 XA b5 i5 HB4 OT4 HX3 B3
     refine K6.mono ?_
     rintro e w6 ⟨rfl,b6⟩
     dsimp only
     have B6:=B5.trans (b6.mono B5.size)
     have HX6:Hid (Below w2.heap.size w2 w6):=HX5.out.trans (b6.mono HX5.out.size)
     clear K6 b6 HX5 B5
     by_cases h0:T=[]
     · subst h0
       have K7:=impl_empty w6 (HT.out.later B6)
       have hrr:=HEM.out rfl
       subst hrr
       clear HEM HLE HTM HPOS HI2
       go_wp2_with fail
       refine K7.mono ?_
       rintro e w7 ⟨rfl,b7⟩
       have B7:=B6.trans (b7.mono B6.size)
       clear K7 b7
       go_wp2
       go_ret
       exact⟨by simp,B7⟩
     · obtain⟨k,hk⟩:∃ k,T.length=k+1:=⟨T.length - 1,by have:=List.length_pos_iff.2 h0;omega⟩
       obtain⟨g,off,rfl,hcell⟩:∃ g off,a2=some ⟨g,off,none⟩∧True:=by
        rcases HI2.out w6 HX6.out with h | ⟨g,off,h,_⟩
        · exact absurd h h0
        · exact⟨g,off,h,trivial⟩
       have hne0:((T.length:Int) == 0)=false:=by simp only[beq_eq_false_iff_ne,ne_eq];omega
       have hs1:(T.length:Int) - 1=(k:Int):=by omega
       have hkc:(k:Int)≤(c2:Int):=by omega
       have hk1:(1:Int)≤(T.length:Int):=by omega
       have HDL:Hid (T.dropLast=T.take k∧(T.take k).length=k):=⟨by rw[List.dropLast_eq_take,hk];rfl,by simp;omega⟩
       have K7:=impl_checkProof rt key (some ⟨g,off,none⟩) c2 (T.take k) w6 (HT.out.later B6) (by simp;omega) hrt (by omega) (by simp;omega) (fun t ht=>Nat.le_trans (HTM.out t (List.mem_of_mem_take ht)) (by omega)) (strs_take (HI2.out w6 HX6.out) k)
       rw[←HDL.out.1,HLE.out h0,HDL.out.1,HDL.out.2] at K7
       dsimp only at K7
       have HFL:Hid (T.length+T.flatten.length≤1048576):=by
        have:=flat_small T 33006 HTM.out
        rw[Hid];have h31:T.length*33006≤30*33006:=Nat.mul_le_mul_right _ hT30;omega
       have HTD:Hid (T.length - 1=k∧(T.drop 1).length=k∧(T.drop 1).length+(T.drop 1).flatten.length≤1048576∧bytesN (T.drop 1)<bytesN T):=by
        have hp:=HPOS.out
        have hf:=HFL.out
        cases T with
        | nil=>exact absurd rfl h0
        | cons t r =>
          have h1:=hp t (by simp)
          simp only[List.length_cons,List.flatten_cons,List.length_append] at hf hk ⊢
          refine⟨by omega,by show r.length=k;omega,by show r.length+r.flatten.length≤1048576;omega,?_⟩
          show r.flatten.length<(t :: r).flatten.length
          rw[List.flatten_cons,List.length_append];omega
       have HN:Hid (∀ W,Below w2.heap.size w2 W→(Calls Tryz.prog 14 #[.slice (some ⟨g,off,none⟩) T.length c2] W fun e w'=>e=.returned (.int .i64 (bytesN T:Int))∧w'=W)∧(Calls Tryz.prog 15 #[.slice (some ⟨g,off,none⟩) T.length c2] W fun e w'=>e=.returned (.int .i64 (bytesN T:Int))∧w'=W)∧Calls Tryz.prog 14 #[.slice (if c2=1 then some ⟨g,off,none⟩ else some ⟨g,off+1,none⟩) (T.length - 1) (c2 - 1)] W fun e w'=>e=.returned (.int .i64 (bytesN (T.drop 1):Int))∧w'=W):=fun W hW=>⟨impl_proofBytes _ _ T W HFL.out (HI2.out W hW),spec_proofBytes _ _ T W HFL.out (HI2.out W hW),by
        have hst:IsStrs W (if c2=1 then some ⟨g,off,none⟩ else some ⟨g,off+1,none⟩) (T.drop 1):=by
         split
         · exact .inl (List.length_eq_zero_iff.1 (by rw[HTD.out.2.1];omega))
         · exact strs_drop1 (HI2.out W hW)
        have:=impl_proofBytes _ (c2 - 1) (T.drop 1) W HTD.out.2.2.1 hst
        rwa [HTD.out.2.1,←HTD.out.1] at this⟩
       have hgt:(bytesN (T.drop 1):Int)<(bytesN T:Int):=by have:=HTD.out.2.2.2;omega
       have HKL:Hid (T.length=k+1):=hk
       have hkk:((T.length:Int) - 1).toNat=k:=by omega
       have hck:c2 - 1+1=c2:=by omega
       have hb1:decide ((bytesN (T.drop 1):Int)<(bytesN T:Int))=true:=decide_eq_true hgt
       clear HEM HLE HTM HPOS h0 hcell HDL HFL hk
       go_wp2_with fail
       refine K7.mono ?_
       rintro e w7 ⟨rfl,b7⟩
       dsimp only
       have B7:=B6.trans (b7.mono B6.size)
       have hX7:=HX6.out.trans (b7.mono HX6.out.size)
       have N7:=fun q=>HN.out (w7.drewN q) (hX7.trans ((pz_refl w7 q).mono hX7.size))
       have n1:=fun q=>(N7 q).1
       have n2:=fun q=>(N7 q).2.1
       have n3:=fun q=>(N7 q).2.2
       obtain⟨bt,hbt⟩:∃ bt,bt=bytesN T:=⟨_,rfl⟩
       obtain⟨bd,hbd⟩:∃ bd,bd=bytesN (T.drop 1):=⟨_,rfl⟩
       rw[←hbt] at n1 n2 hgt hb1
       rw[←hbd] at n3 hgt hb1
       clear K7 b7 HN N7 HTD hbt hbd HI2 hX7 HX6
       go_wp2
       go_quiet (first | (go_at_call 15;refine Calls.quiet_of_same (n2 _)) | (go_at_call_of 14 (Value.slice (some ⟨g,off,none⟩) T.length c2);refine Calls.quiet_of_same (n1 _)) | (go_at_call 14;with_reducible refine Calls.quiet_of_same (n3 _)))
       simp only[Exit.then]
       refine (by assumption:∀ (a:Act) (w:World),Code.wp Tryz.prog Code.ret _ a w→_) _ _ ?_
       apply wp_ret
       go_ret
       exact⟨rfl,B7.trans ((pz_refl w7 _).mono B7.size)⟩
 · have HB:=bigYes len0 cap0 a0 w hb
   clear w0
   go_enter Tryz.func4,Tryz.ntmps4
   go_wp2_with fail
   refine HB.mono ?_
   rintro e w1 ⟨rfl,rfl⟩
   go_wp2
   go_ret
   exact⟨rfl,Below.refl _ _⟩
set_option maxRecDepth 100000 in
theorem lifted (os:Os) (started:os.Started) (H:Type) (enc:TypeId × Value→H) :
 ReturnsInHanded {} Tryz.checked os 4 .any (fun w args=>(Rows.fnShortProofSpec.pre enc Tryz.prog Tryz.f4 [] false w args∧laidMetH Tryz.prog Rows.fnShortProofRow.laid w)∧sizedMet enc Tryz.prog Tryz.f4 (OpenSpec.ofChange Rows.fnShortProofSpec) false w args)
  (Rows.fnShortProofSpec.post enc Tryz.prog Tryz.f4 false true false false):=by
 refine returnsInHanded_of_change_and (C:=Tryz.checked) (X:=fun w _=>laidMetH Tryz.prog Rows.fnShortProofRow.laid w) (fun _ _ _ hh h=>h.of_heap hh) own started (by kernel_rfl) Tryz.func4
  (ChangeSpec.witness_shaped (enc:=enc) (C:=Tryz.checked) (os:=os) (X:=fun w _=>laidMetH Tryz.prog Rows.fnShortProofRow.laid w) false (World.doorLaid Tryz.prog 400 os) #[.slice none 0 0] 8 rfl (World.shaped_of_RefB (by kernel_rfl) (by kernel_rfl)) (by kernel_rfl) (by kernel_rfl) (by kernel_rfl) (door_met os _)) ?_
 intro W base args ds gs before hval0 hW _ _ hL _
 have hval:∀ (j:Nat) t v,Tryz.f4.params[j]? = some t→args[j]? = some v→Value.okWide Tryz.prog W .any base t v:=hval0
 have hW':=hW
 obtain⟨p,q,hA0,hV0,rfl,hfz,hnd⟩:=hW
 have hA:DataW.TrodAll enc Tryz.prog W 0 (fun _=>true) true Tryz.f4.params.toList args.toList ds p:=hA0
 have hV : DataW.TrodVars enc Tryz.prog W (fun _ => true) ["loop.example/g00226/impl.roundWords"] gs q := hV0
 rw[Tryz.params4] at hA hval
 obtain⟨v0,vs0,d0,ds0,p0,q0,hargs,rfl,rfl,h0,r0⟩:=trodAll_cons hA
 obtain⟨rfl,rfl,rfl⟩:=trodAll_nil r0
 obtain rfl:args=#[v0]:=by cases args;simp_all
 obtain⟨a0,len0,cap0,rfl⟩:=okWide_slice Tryz.underlying22 (hval 0 22 v0 rfl rfl)
 have k0:=h0
 have lt0:∀ x∈p0,x.block<W.heap.size:=by obtain⟨m,hm⟩:=k0;exact DataW.trod_lt m _ _ _ hm
 have w0:Code W a0 len0:=by
  obtain⟨fuel,hf⟩:=h0
  rcases open_ints Tryz.underlying22 Tryz.underlying5 (by kernel_rfl) hf with ⟨hcs,_⟩ | ⟨x,l,c,zs,hcs,_,hl,hm,hz,_,hcell,hwz⟩
  · simp[Value.cells] at hcs
    obtain⟨rfl,rfl,rfl⟩:=hcs
    exact .inl rfl
  · simp[Value.cells] at hcs
    obtain⟨rfl,rfl,rfl⟩:=hcs
    exact codeOf W x _ _ zs hl (by simpa using hz) hcell hwz
 obtain⟨g,t,cs,fuel,d,p',rfl,hg,ht,hvar,hd,rfl⟩:=trodVars_one hV
 obtain rfl:=Option.some.inj (gTab.symm.trans hg)
 obtain rfl:=Option.some.inj (tTab.symm.trans ht)
 have hT:=tab_of hL
 have hltv:∀ x∈p',x.block<W.heap.size:=fun x hx=>hW'.lt x (List.mem_append_right _ (List.mem_append_right _ hx))
 clear hA0 hV0 hval0 hA hV
 refine (walk a0 len0 cap0 W w0 hT).mono fun e W' ⟨he,hB⟩=>?_
 subst he
 obtain⟨fuel',hd'⟩:=Below.trod laidOut0 (by kernel_rfl) (of_decide_eq_true (by kernel_rfl)) (v:=.agg cs) (⟨fuel,by simpa [Value.cells] using hd⟩:DataW.Trod enc Tryz.prog W 0 (fun _=>true) true 141 (.agg cs) d p') hB hltv
 have hv':=trodVars_mk1 (enc:=enc) (spare:=fun b=>decide (b<W.heap.size)) hg ht (var?_below hB hg hT.1 hvar) (by simpa [Value.cells] using hd')
 exact⟨_,rfl,_,_,_,[],_,_,hW',trodAll_mk1 (shut_bool Tryz.underlying4 _),(trodAll_cons_mk (Below.trod laidOut0 (by kernel_rfl) (of_decide_eq_true (by kernel_rfl)) k0 hB lt0) trodAll_mk0),hv',hB.frame _,fun h=>by cases h⟩
theorem named0 : Tryz.prog.funcNamed "loop.example/g00226/laws.FnShortProof" = some 4 := by kernel_rfl
theorem closed0:joinedFacts Tryz.prog 4 Tryz.f4 Rows.fnShortProofSpec Rows.fnShortProofRow=true:=by
 unfold joinedFacts
 rw[seat_may,seat_lifts,seat_make]
 kernel_rfl
theorem inst0:Tryz.f4.isInstance Tryz.prog Rows.fnShortProofRow.origin Rows.fnShortProofRow.targs:=of_decide_eq_true (by kernel_rfl)
theorem wrap0:Tryz.f4.isWrapper Tryz.prog Rows.fnShortProofRow.wrapper Rows.fnShortProofRow.mainSum:=by unfold Func.isWrapper;first | (rw[if_pos (by decide +kernel)];kernel_rfl) | (rw[if_neg (by decide +kernel)];exact⟨rfl,rfl⟩)
theorem over:Rows.fnShortProofRow.holds Tryz.pinned (OpenSpec.ofChange Rows.fnShortProofSpec) :=
 OpenClaim.holds_of_wide 4 Tryz.f4 rfl rfl rfl rfl rfl rfl rfl ⟨rfl,rfl,rfl,rfl,rfl⟩ rfl rfl rfl rfl rfl named0 Tryz.func4 closed0 inst0 wrap0
  (fun os started H enc _=>lifted os started H enc)
theorem text0:Rows.fnShortProofRow.wfByText (OpenSpec.ofChange Rows.fnShortProofSpec)=true:=by kernel_rfl
theorem looks0:false=Tryz.prog.looks []:=by kernel_rfl
theorem goes0:false=Rows.fnShortProofRow.goesBy Tryz.prog:=by kernel_rfl
theorem wants0:([22].all fun u => !Tryz.prog.wantsStandIn u)=true:=by kernel_rfl
theorem card:Claim7.holds Tryz.pinned (.plain (OpenSpec.ofChange Rows.fnShortProofSpec)) Rows.fnShortProofCard :=
 Claim7.holds_tied_plain_at .later [] [.data] true (true,Rows.fnShortProofCard.stood.harness.2) false
  over (fun _ h=>by cases h) text0 (fun _ h=>by cases h) fnShortProof_row_tie rfl ⟨rfl,rfl⟩ seat_main rfl
  (fun f fn hf hfn => by
   obtain rfl:f=4:=Option.some.inj (named0.symm.trans hf) |>.symm
   obtain rfl:fn=Tryz.f4:=(Option.some.inj (Tryz.func4.symm.trans hfn)).symm
   exact⟨looks0,fun j t ht=>by
    rw[Tryz.params4] at ht
    have hm:t∈[22]:=by simpa using Array.mem_of_getElem? ht
    exact (show Tryz.prog.wantsStandIn t=false by simpa using List.all_eq_true.1 wants0 t hm)⟩)
  goes0
end Go.Proofs.YtckoglgcjcmmkaaGreatDoor.fnShortProof
namespace Go.Proofs.YtckoglgcjcmmkaaGreatDoor
theorem fnShortProof_holds:Rows.FnShortProofCardSaid:=fnShortProof.card
end Go.Proofs.YtckoglgcjcmmkaaGreatDoor
