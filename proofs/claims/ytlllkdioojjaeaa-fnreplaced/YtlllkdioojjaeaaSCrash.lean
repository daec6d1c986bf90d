/-
 Contract: Crash of the model.
-/
import Derived.Test.YtlllkdioojjaeaaMathCs
import Derived.Test.YtlllkdioojjaeaaSActs
import Derived.Test.YtlllkdioojjaeaaNewPs
import Derived.Deep.Cut
import Derived.Deep.CutRange
import Derived.BigQuiet
namespace Go.Proofs.Ytlllkdioojjaeaa
open Go.RowKit
set_option linter.unusedVariables false
def CrPost (W w':World) (e:Ending) (r:List PairL) (b:Bool):Prop :=
 ∃ (x1 x2:Option Addr) (k1 k2:Nat),e=.returned (.tuple #[.agg #[.slice x1 r.length k1,.slice x2 r.length k2,.slice none 0 0],.bool b])∧NewR w' W.heap.size x1 (pcells r)∧NewR w' W.heap.size x2 (pcells r)∧AddrOk x1∧AddrOk x2∧Below W.heap.size W w'
theorem crpost_none {w W:World} {rl:List PairL} {rb:Bool} (hb:rb=false) (hl:rl=[]) (hW:Below w.heap.size w W):CrPost w (((W.setCell ⟨w.heap.size+1,0,none⟩ (.slice none 0 0)).setCell ⟨w.heap.size+1,1,none⟩ (.slice none 0 0)).setCell ⟨w.heap.size+1,2,none⟩ (.slice none 0 0)) (.returned (.tuple #[.agg #[.slice none 0 0,.slice none 0 0,.slice none 0 0],.bool false])) rl rb:=by
 rw[hb,hl]
 exact⟨none,none,0,0,rfl,.inl rfl,.inl rfl,.inl rfl,.inl rfl,((hW.setCell (by simp only;omega) _).setCell (by simp only;omega) _).setCell (by simp only;omega) _⟩
theorem form_small2 {o:DOpL} (h:formOk o=true):o.n.length≤100∧o.t.length≤100:=by
 simp only[formOk,nameOk,Bool.and_eq_true,decide_eq_true_eq] at h
 obtain⟨_,⟨_,h2⟩,h3⟩:=h
 refine⟨h2,?_⟩
 split at h3
 · simp only[Bool.and_eq_true,decide_eq_true_eq] at h3
   omega
 · simp only[Bool.and_eq_true,List.isEmpty_iff] at h3
   rw[h3.1];simp
theorem own_addrC {w:World} {base e size n m c:Nat} {a:Option Addr} {xs:List Value} (h:w.ownsRow base e size (.slice a m c) n xs):AddrOk a∧(a=none→c=0):=by
 rcases h.2 with ⟨h',_⟩ | ⟨g,cap,cur,h',_⟩
 · cases h';exact⟨.inl rfl,fun _=>rfl⟩
 · cases h';exact⟨.inr ⟨_,_,rfl⟩,fun e=>by cases e⟩
theorem below_setC {B:Nat} {w W:World} {p:Addr} {v:Value} (h:Below B w W) (hp:B≤p.block):Below B w (W.setCell p v):=h.setCell hp v
theorem own_new {W:World} {base e size n m c:Nat} {a:Option Addr} {xs:List Value} (h:W.ownsRow base e size (.slice a m c) n xs):NewR W base a xs:=by
 have hm:m=n:=by
  rcases h.2 with ⟨h',h0⟩ | ⟨g,cap,cur,h',_⟩
  · cases h';exact h0.symm ▸ rfl
  · cases h';rfl
 subst hm
 exact GrowR.new (row:=(Value.slice a m c).ownBlock) (.inr ⟨h,rfl⟩)
theorem crpost_of {w W:World} {s l1 l2 k1 k2:Nat} {r rl:List PairL} {rb:Bool} {x1 x2:Option Addr} (hs:w.heap.size+1<s) (hb:Below w.heap.size w W) (n1:NewR W s x1 (pcells r)) (n2:NewR W s x2 (pcells r)) (ad1:AddrOk x1) (ad2:AddrOk x2) (e1:l1=r.length) (e2:l2=r.length) (hrb:rb=true) (hrl:rl=r) :
 CrPost w (((W.setCell ⟨w.heap.size+1,0,none⟩ (.slice x1 l1 k1)).setCell ⟨w.heap.size+1,1,none⟩ (.slice x2 l2 k2)).setCell ⟨w.heap.size+1,2,none⟩ (.slice none 0 0)) (.returned (.tuple #[.agg #[.slice x1 l1 k1,.slice x2 l2 k2,.slice none 0 0],.bool true])) rl rb:=by
 subst e1 e2 hrb hrl
 exact⟨x1,x2,k1,k2,rfl,(((n1.setCell _ hs _).setCell _ hs _).setCell _ hs _).lower (by omega),(((n2.setCell _ hs _).setCell _ hs _).setCell _ hs _).lower (by omega),ad1,ad2,((hb.setCell (by simp only;omega) _).setCell (by simp only;omega) _).setCell (by simp only;omega) _⟩
set_option maxRecDepth 100000 in
set_option maxHeartbeats 8000000 in
theorem spec_crash (a1 a2 a3 ka : Option Addr) (c1 c2 c3 kc : Nat) (live safe : List PairL) (ops : List DOpL) (ks : List Int) (tn : Int) (w : World) (ha2 : AddrOk a2) (hc2 : a2 = none → c2 = 0) (hl1 : live.length ≤ 1048576) (hm1 : ∀ p ∈ live, p.1.length ≤ 1048576 ∧ p.2.length ≤ 1048576) (hl2 : safe.length ≤ 1048576) (hm2 : ∀ p ∈ safe, p.1.length ≤ 1048576 ∧ p.2.length ≤ 1048576) (hl3 : ops.length ≤ 1048576) (hm3 : ∀ p ∈ ops, p.n.length ≤ 1048576 ∧ p.t.length ≤ 1048576 ∧ p.d.length ≤ 1048576) (hds : sizeD ops ≤ 1048576) (hk : ks.length ≤ 1048576)
 (hs1:IsPairs w a1 live) (hs2:IsPairs w a2 safe) (hs3:IsDOps w a3 ops) (hs4:IsInts w ka ks) :
 Calls Try.prog 25 #[.agg #[.slice a1 live.length c1,.slice a2 safe.length c2,.slice a3 ops.length c3],.slice ka ks.length kc,.int .i64 tn] w fun e w'=>CrPost w w' e (crashL live safe ops ks tn) (crashB live safe ops ks tn):=by
 obtain⟨wa,hwa⟩:∃ wa,wa=((w.alloc (.cells #[.slice a1 live.length c1,.slice a2 safe.length c2,.slice a3 ops.length c3] 31)).alloc (.cells #[.slice none 0 0,.slice none 0 0,.slice none 0 0] 31)):=⟨_,rfl⟩
 have B0:Below w.heap.size w wa:=by rw[hwa];exact ((Below.refl _ _).alloc (Nat.le_refl _) _).alloc (by simp) _
 have H0:Hid (wa.heap[w.heap.size]? = some (.cells #[.slice a1 live.length c1,.slice a2 safe.length c2,.slice a3 ops.length c3] 31 (0,0))):=by rw[hwa,Hid,Below.heap_alloc _ _ _ (by simp)];exact heap_alloc_new w _
 have R0:Hid (wa.heap[w.heap.size+1]? = some (.cells #[.slice none 0 0,.slice none 0 0,.slice none 0 0] 31 (0,0))):=by
  rw[hwa,Hid]
  have:=heap_alloc_new (w.alloc (.cells #[.slice a1 live.length c1,.slice a2 safe.length c2,.slice a3 ops.length c3] 31)) (.cells #[.slice none 0 0,.slice none 0 0,.slice none 0 0] 31)
  simpa using this
 obtain⟨p0,p1,p2,_⟩:=three_cells H0.out
 have KD:=spec_diskOk a1 a2 a3 c1 c2 c3 live safe ops wa ha2 hl1 hm1 hl2 hm2 hl3 hm3 (hs1.later B0) (hs2.later B0) (hs3.later B0)
 have HS:Hid (∀ W,Below w.heap.size w W→IsPairs W a2 safe∧IsDOps W a3 ops∧IsInts W ka ks):=fun W h=>⟨hs2.later h,hs3.later h,hs4.later h⟩
 have HRB:Hid (crashB live safe ops ks tn=(diskOk live safe ops && (decide (0≤tn) && (placesOk ops.length ks && filesOk (keptTo ops ks tn safe ks.length))))):=rfl
 have HRL:Hid (crashL live safe ops ks tn=if crashB live safe ops ks tn=true then keptTo ops ks tn safe ks.length else []):=rfl
 have HA:Hid ((a2=none→c2=0)∧sizeD ops≤1048576∧safe.length≤1048576∧ops.length≤1048576∧ks.length≤1048576):=⟨hc2,hds,hl2,hl3,hk⟩
 obtain⟨rb,hrb⟩:∃ x,x=crashB live safe ops ks tn:=⟨_,rfl⟩
 obtain⟨rl,hrl⟩:∃ x,x=crashL live safe ops ks tn:=⟨_,rfl⟩
 obtain⟨dk,hdk⟩:∃ x,x=diskOk live safe ops:=⟨_,rfl⟩
 obtain⟨ln,hln⟩:∃ x,x=ks.length:=⟨_,rfl⟩
 have HLN:Hid (ln=ks.length):=hln
 rw[←hrb] at HRB HRL
 rw[←hrl] at HRL
 rw[←hrb,←hrl,←hln]
 rw[←hdk] at KD HRB
 have HDK:Hid (dk=diskOk live safe ops):=hdk
 have HN:Hid (rb=false→rl=[]):=fun h=>by rw[HRL.out,h];simp
 have hlk:ln≤1048576:=by rw[hln];exact hk
 clear hrb hrl hdk hln hs1 hs2 hs3 hs4 hm1 hm2 hm3 hl1 hl2 hl3 hk hds hc2 ha2
 rw[hwa] at KD p0 p1 p2
 go_enter Try.func25,Try.ntmps25
 go_wp2_with fail
 refine KD.mono ?_
 rintro e w1 ⟨rfl,b1⟩
 rw[←hwa] at b1
 have B1:Below w.heap.size w w1:=B0.trans (b1.mono B0.size)
 have H1:Hid (w1.heap[w.heap.size]? = some (.cells #[.slice a1 live.length c1,.slice a2 safe.length c2,.slice a3 ops.length c3] 31 (0,0))):=(b1.block _ (lt_of_block H0.out)).trans H0.out
 have R1:Hid (w1.heap[w.heap.size+1]? = some (.cells #[.slice none 0 0,.slice none 0 0,.slice none 0 0] 31 (0,0))):=(b1.block _ (lt_of_block R0.out)).trans R0.out
 clear p0 p1 p2 KD b1 H0 R0 B0 hwa
 cases dk with
 | false =>
   have HE:Hid (rb=false):=by rw[Hid,HRB.out];rfl
   obtain⟨r0,r1,r2,rf⟩:=three_cells R1.out
   have rf0:=rf 0
   have rf1:=rf 1
   have rf2:=rf 2
   have HY:Hid (_=_):=dk_set (j:=2) (z:=.slice none 0 0) (dk_set (j:=1) (z:=.slice none 0 0) (dk_set (j:=0) (z:=.slice none 0 0) R1.out))
   have HP:Hid (CrPost w _ _ rl rb):=crpost_none HE.out (HN.out HE.out) B1
   clear rf HS HA HRL
   go_wp2
   refine bodyPost_ret (v:=.tuple #[.agg #[.slice none 0 0,.slice none 0 0,.slice none 0 0],.bool false]) (results_disk rfl _ _ (w.heap.size+1) 31 _ (0,0) _ _ rfl HY.out Try.underlying31 rfl (by kernel_rfl) rfl) rfl ?_
   exact HP.out
 | true =>
   by_cases ht:0≤tn
   · obtain ⟨tk, rfl⟩ := Int.eq_ofNat_of_zero_le ht
     have htl:decide ((tk:Int)<0)=false:=decide_eq_false (by omega)
     have htn:¬ (tk:Int)<0:=by omega
     have HB2:Hid (rb=(placesOk ops.length ks && filesOk (keptTo ops ks (tk:Int) safe ks.length))):=by rw[Hid,HRB.out,decide_eq_true ht];rfl
     clear HRB
     have q0:(0:Int)≤(ln:Int):=by omega
     go_wp2_with fail
     go_loopw [8] (fun i wr=>∃ j:Nat,j≤ln∧i=.int .i64 (j:Int)∧Hid (∀ i,i<j→placeOk ops.length ks i=true)∧Hid (Below w1.heap.size w1 wr)) (fun i _=>ln - (intOf i).toNat)
     case atStart=>exact⟨0,by omega,rfl,fun i h=>by omega,Below.refl _ _⟩
     case round =>
      obtain⟨j,hj,rfl,HP,HX⟩:=hrel
      have BW:Hid (Below w.heap.size w wr):=B1.trans (HX.out.mono B1.size)
      have HW:Hid (wr.heap[w.heap.size]? = some (.cells #[.slice a1 live.length c1,.slice a2 safe.length c2,.slice a3 ops.length c3] 31 (0,0))):=(HX.out.block _ (lt_of_block H1.out)).trans H1.out
      have RW:Hid (wr.heap[w.heap.size+1]? = some (.cells #[.slice none 0 0,.slice none 0 0,.slice none 0 0] 31 (0,0))):=(HX.out.block _ (lt_of_block R1.out)).trans R1.out
      by_cases hlt:j<ln
      · have hjk:j<ks.length:=by have:=HLN.out;omega
        obtain⟨b,off,rfl,hcs⟩:=(HS.out wr BW.out).2.2.at hjk
        have c1':=hcs j hjk
        have hdp:(j=0∨∃ i1,i1+1=j∧wr.cell? ⟨b,off+i1,none⟩=some (.int .i64 (plAt ks i1))):=by
         by_cases hz:j=0
         · exact .inl hz
         · exact .inr ⟨j - 1,by omega,hcs (j - 1) (by omega)⟩
        have HO:Hid (placeOk ops.length ks j=(decide (0≤plAt ks j∧plAt ks j≤(ops.length:Int) - 1) && (decide (j=0) || decide (plAt ks (j - 1)<plAt ks j)))):=rfl
        have KI:=fun W=>spec_inG (plAt ks j) 0 ((ops.length:Int) - 1) W
        obtain⟨kj,hkj⟩:∃ x,x=plAt ks j:=⟨_,rfl⟩
        rw[←hkj] at c1' HO KI
        obtain⟨ix,hix⟩:∃ x,x=decide (0≤kj∧kj≤(ops.length:Int) - 1):=⟨_,rfl⟩
        rw[←hix] at HO KI
        have hwo:IntKind.i64.wrap ((ops.length:Int) - 1)=(ops.length:Int) - 1:=by have:=HA.out.2.2.2.1;exact i64_wrap_small _ (by omega) (by omega)
        have hj0:(0:Int)≤(j:Int):=by omega
        have hj1:(j:Int)<(ln:Int):=by omega
        obtain⟨p0,p1,p2,_⟩:=three_cells HW.out
        have HNX:Hid (placeOk ops.length ks j=true→∀ k,k<j+1→placeOk ops.length ks k=true):=fun h k hk=>by
         by_cases e:k=j
         · rw[e];exact h
         · exact HP.out k (by omega)
        clear hcs hkj hix HP
        cases ix with
        | false =>
          have HE:Hid (rb=false):=by rw[Hid,HB2.out,places_bad hjk (by rw[HO.out];rfl)];rfl
          obtain⟨r0,r1,r2,rf⟩:=three_cells RW.out
          have rf0:=rf 0
          have rf1:=rf 1
          have rf2:=rf 2
          have HY:=fun (W:World) (hW:W.heap=wr.heap)=>dk_set (j:=2) (z:=.slice none 0 0) (dk_set (j:=1) (z:=.slice none 0 0) (dk_set (w:=W) (j:=0) (z:=.slice none 0 0) ((congrArg (fun h=>h[w.heap.size+1]?) hW).trans RW.out)))
          have HYH:Hid (∀ W:World,W.heap=wr.heap→_):=HY
          have HPW:Hid (∀ W,Below w.heap.size w W→CrPost w _ _ rl rb):=fun W hW=>crpost_none HE.out (HN.out HE.out) hW
          clear rf HRL HY HO HB2 hjk
          go_wp2
          go_quiet (first | (go_at_call 62;refine Calls.quiet_of_same (KI _)))
          go_wp2
          refine bodyPost_ret (v:=.tuple #[.agg #[.slice none 0 0,.slice none 0 0,.slice none 0 0],.bool false]) (results_disk rfl _ _ (w.heap.size+1) 31 _ (0,0) _ _ rfl (HYH.out _ rfl) Try.underlying31 rfl (by kernel_rfl) rfl) rfl ?_
          exact HPW.out _ (by first | exact BW.out | exact below_dr BW.out)
        | true =>
          rcases hdp with rfl | ⟨i1,rfl,d1⟩
          · have HTT:Hid (placeOk ops.length ks 0=true):=by rw[Hid,HO.out];rfl
            simp only[Nat.add_zero] at c1'
            have hzb:decide ((0:Int)<((0:Nat):Int))=false:=decide_eq_false (by omega)
            clear HO
            go_wp2
            go_quiet (first | (go_at_call 62;refine Calls.quiet_of_same (KI _)))
            go_wp2
            go_roundw
            case rel=>exact⟨0+1,by omega,by go_num,HNX.out HTT.out,by first | exact HX.out | exact below_dr HX.out⟩
            case measure=>simp[intOf];omega
          · rw[Nat.add_sub_cancel] at HO
            obtain⟨kp,hkp⟩:∃ x,x=plAt ks i1:=⟨_,rfl⟩
            rw[←hkp] at d1 HO
            have hzb:decide ((0:Int)<((i1+1:Nat):Int))=true:=decide_eq_true (by omega)
            have hzp:(0:Int)<((i1+1:Nat):Int):=by omega
            have hzi:IntKind.i64.wrap (((i1+1:Nat):Int) - 1)=(i1:Int):=by rw[i64_wrap_small _ (by omega) (by omega)];omega
            have hi2:((i1+1:Nat):Int) - 1=(i1:Int):=by omega
            have hi0:(0:Int)≤(i1:Int):=by omega
            have hi3:(i1:Int)<(ln:Int):=by omega
            clear hkp
            by_cases hle:kj≤kp
            · have hleb:decide (kj≤kp)=true:=decide_eq_true hle
              have HE:Hid (rb=false):=by rw[Hid,HB2.out,places_bad hjk (by rw[HO.out,decide_eq_false (show ¬ kp<kj by omega)];simp)];rfl
              obtain⟨r0,r1,r2,rf⟩:=three_cells RW.out
              have rf0:=rf 0
              have rf1:=rf 1
              have rf2:=rf 2
              have HY:=fun (W:World) (hW:W.heap=wr.heap)=>dk_set (j:=2) (z:=.slice none 0 0) (dk_set (j:=1) (z:=.slice none 0 0) (dk_set (w:=W) (j:=0) (z:=.slice none 0 0) ((congrArg (fun h=>h[w.heap.size+1]?) hW).trans RW.out)))
              have HYH:Hid (∀ W:World,W.heap=wr.heap→_):=HY
              have HPW:Hid (∀ W,Below w.heap.size w W→CrPost w _ _ rl rb):=fun W hW=>crpost_none HE.out (HN.out HE.out) hW
              clear rf HRL HY HO HB2 hjk
              go_wp2
              go_quiet (first | (go_at_call 62;refine Calls.quiet_of_same (KI _)))
              go_wp2
              refine bodyPost_ret (v:=.tuple #[.agg #[.slice none 0 0,.slice none 0 0,.slice none 0 0],.bool false]) (results_disk rfl _ _ (w.heap.size+1) 31 _ (0,0) _ _ rfl (HYH.out _ rfl) Try.underlying31 rfl (by kernel_rfl) rfl) rfl ?_
              exact HPW.out _ (by first | exact BW.out | exact below_dr BW.out)
            · have hleb:decide (kj≤kp)=false:=decide_eq_false hle
              have HTT:Hid (placeOk ops.length ks (i1+1)=true):=by rw[Hid,HO.out,decide_eq_true (show kp<kj by omega)];simp
              clear HO
              go_wp2
              go_quiet (first | (go_at_call 62;refine Calls.quiet_of_same (KI _)))
              go_wp2
              go_roundw
              case rel=>exact⟨i1+1+1,by omega,by go_num,HNX.out HTT.out,by first | exact HX.out | exact below_dr HX.out⟩
              case measure=>simp[intOf];omega
      · have hje : j = ln := by omega
        have hj1:¬ (j:Int)<(ln:Int):=by omega
        have HPL:Hid (placesOk ops.length ks=true):=places_end (fun i hi=>HP.out i (by have:=HLN.out;omega))
        have HINV:Hid (∀ j,j≤ks.length→_):=kept_inv (tn:=(tk:Int)) HDK.out.symm HPL.out
        have HB3:Hid (rb=filesOk (keptTo ops ks (tk:Int) safe ks.length)):=by rw[Hid,HB2.out,HPL.out,Bool.true_and]
        obtain⟨i0,hi0,hz0,hz1,hz2⟩:=info_parts infoFile
        have HO0:=hidOwn (World.ownsRow_lit (e:=84) (size:=2) wr #[] 0 (base:=wr.heap.size) (Nat.le_refl _) (Nat.zero_le _) rfl)
        have A0:Below wr.heap.size wr (wr.alloc (.cells #[] 84)):=(Below.refl _ _).alloc (Nat.le_refl _) _
        have HI0:Hid (IsPairs (wr.alloc (.cells #[] 84)) a2 safe):=(HS.out wr BW.out).1.later A0
        have HA0:Hid (Below wr.heap.size wr (wr.alloc (.cells #[] 84))):=A0
        have HW0:Hid ((wr.alloc (.cells #[] 84)).heap[w.heap.size]? = some (.cells #[.slice a1 live.length c1,.slice a2 safe.length c2,.slice a3 ops.length c3] 31 (0,0))):=(A0.block _ (lt_of_block HW.out)).trans HW.out
        obtain⟨p0,p1,p2,_⟩:=three_cells HW0.out
        obtain⟨hc2,hds,hl2,hl3,_⟩:=HA.out
        clear HP HB2 A0 H1 R1
        go_wp2_with (first
         | (at_builtin; refine wpList_append_prs rfl _ _ 28 rfl wr.heap.size 84 i0 (.agg #[.string ⟨#[]⟩, .string ⟨#[]⟩]) 32 Try.underlying28 hi0 hz0 hz1 hz2 rfl (.slice (some ⟨wr.heap.size, 0, none⟩) 0 0) 0 [] rfl HO0.out a2 safe safe.length c2 rfl rfl hc2 HI0.out (by unfold maxLen; omega) (by omega) (by simp) ?_; intro v3 w3 o3 g3; obtain ⟨a9, m9, c9, rfl⟩ := own_slice2 o3
            have O3:Hid (w3.ownsRow wr.heap.size 84 2 (.slice a9 m9 c9) safe.length (pcells safe)):=(by rw[Hid];simpa using o3)
            have B3:Hid (Below wr.heap.size wr w3):=HA0.out.grown g3 HA0.out.size (fun q hq=>(HO0.out.lt q hq).1)
            clear o3 g3))
        obtain⟨hm9,_,_⟩:=isPairs_own O3.out
        have BW3:Hid (Below w.heap.size w w3):=BW.out.trans (B3.out.mono BW.out.size)
        have HW3:Hid (w3.heap[w.heap.size]? = some (.cells #[.slice a1 live.length c1,.slice a2 safe.length c2,.slice a3 ops.length c3] 31 (0,0))):=(B3.out.block _ (lt_of_block HW.out)).trans HW.out
        have RW3:Hid (w3.heap[w.heap.size+1]? = some (.cells #[.slice none 0 0,.slice none 0 0,.slice none 0 0] 31 (0,0))):=(B3.out.block _ (lt_of_block RW.out)).trans RW.out
        have HS3:Hid (w3.ownsRow wr.heap.size 84 2 (.slice a9 m9 c9) m9 (pcells safe)∧m9=safe.length):=⟨by rw[hm9];have h:=O3.out;rw[hm9] at h;exact h,hm9⟩
        have HL3:Hid (w.heap.size+1<wr.heap.size):=lt_of_block RW.out
        have HB3s:Hid (wr.heap.size≤w3.heap.size):=B3.out.size
        clear O3 hm9 HI0 HA0 HO0 HW0 p0 p1 p2 HW RW HX B3 BW hje hj1 hj hc2 hl2
        obtain⟨wo,hwo⟩:∃ x,x=wr.heap.size:=⟨_,rfl⟩
        rw[←hwo] at HS3 HL3
        have HWO:Hid (wo≤w3.heap.size):=by rw[hwo];exact HB3s.out
        clear hwo HB3s
        go_loopw [9,10,11] (fun v i _ wq=>∃ (j fl:Nat) (a9:Option Addr) (c9:Nat),j≤ln∧i=.int .i64 (j:Int)∧v=.slice a9 fl c9∧Hid (fl=(keptTo ops ks (tk:Int) safe j).length∧wq.ownsRow wo 84 2 (.slice a9 fl c9) fl (pcells (keptTo ops ks (tk:Int) safe j)))∧Hid (Below w3.heap.size w3 wq)) (fun _ i _ _=>ln - (intOf i).toNat)
        case atStart=>exact⟨0,m9,a9,c9,by omega,rfl,rfl,⟨HS3.out.2,HS3.out.1⟩,Below.refl _ _⟩
        case round =>
         obtain⟨j2,fl,a8,c8,hj2,rfl,rfl,HF,HX⟩:=hrel
         obtain⟨wq,rfl⟩:∃ W,W=wr:=⟨_,rfl⟩
         clear HS3
         have BW:Hid (Below w.heap.size w wq):=BW3.out.trans (HX.out.mono BW3.out.size)
         have HW:Hid (wq.heap[w.heap.size]? = some (.cells #[.slice a1 live.length c1,.slice a2 safe.length c2,.slice a3 ops.length c3] 31 (0,0))):=(HX.out.block _ (lt_of_block HW3.out)).trans HW3.out
         by_cases hlt:j2<ln
         · have hjk : j2 < ks.length := by have := HLN.out; omega
           obtain⟨i1,i2,i3,i4,nx,i5,i6,i7,i8,i9⟩:=HINV.out j2 (by omega)
           have hpl:=places_at HPL.out j2 hjk
           simp only[placeOk,Bool.and_eq_true,decide_eq_true_eq] at hpl
           obtain⟨⟨q1,q2⟩,_⟩:=hpl
           obtain⟨pp,hpp⟩:∃ p:Nat,plAt ks j2=(p:Int):=⟨(plAt ks j2).toNat,by omega⟩
           have hpn:pp<ops.length:=by omega
           have hop:opAt ops (pp:Int)=ops[pp]:=by simp[opAt,hpn]
           obtain⟨kb,ko,rfl,hcs⟩:=(HS.out wq BW.out).2.2.at hjk
           have k0:=hcs j2 hjk
           rw[hpp] at k0
           obtain⟨ob,oo,rfl,hco⟩:∃ b off,a3=some ⟨b,off,none⟩∧_:=by
            rcases (HS.out wq BW.out).2.1 with h | h
            · rw[h] at hpn;cases hpn
            · exact h
           obtain⟨o0,o1,o2,o3⟩:=hco pp hpn
           have hds1:=dsum_le ops nx
           have hdp:ops[pp].d.length≤1048576:=by have h1:=sizeD_le ops pp hpn;unfold opN at h1;omega
           have hfo:=run_forms ops safe live (by have h:=HDK.out.symm;simp only[diskOk,Bool.and_eq_true,decide_eq_true_eq] at h;exact h.2.2.2) ops[pp] (List.getElem_mem hpn)
           have hfs:=form_small2 hfo
           obtain⟨op,hoq⟩:∃ o,o=ops[pp]:=⟨_,rfl⟩
           rw[←hoq] at o0 o1 o2 o3 hop hdp hfs
           have HKO:Hid (keptOp ops ks (tk:Int) j2=if j2+1=ks.length then tornO (tk:Int) op else op):=by rw[Hid,keptOp,hpp,hop]
           have HNX:Hid (keptTo ops ks (tk:Int) safe (j2+1)=(doF (keptTo ops ks (tk:Int) safe j2) (keptOp ops ks (tk:Int) j2)).1):=rfl
           obtain⟨fs,hfs2⟩:∃ x,x=keptTo ops ks (tk:Int) safe j2:=⟨_,rfl⟩
           rw[←hfs2] at HF HNX i1 i3 i9
           have HIP:Hid (IsPairs wq a8 fs):=(isPairs_own HF.out.2).2.2
           have HFL:Hid (fl=fs.length):=HF.out.1
           have HAD:Hid (AddrOk a8):=(own_addrC HF.out.2).1
           have KDO:=fun W (o:DOpL) (hn:o.n.length≤100) (ht:o.t.length≤100) (hd:o.d.length≤1048576) (h:IsPairs W a8 fs)=>spec_doA a8 HAD.out c8 fs o.k o.n o.t o.d W (by omega) (fun p hp=>by have:=i9 p hp;exact⟨by omega,by omega⟩) (by omega) (by omega) (by omega) h
           obtain⟨ok,on,ot,od⟩:=op
           simp only at o0 o1 o2 o3 hdp hfs
           have hj0:(0:Int)≤(j2:Int):=by omega
           have hj1:(j2:Int)<(ln:Int):=by omega
           have hp0:(0:Int)≤(pp:Int):=by omega
           have hp1:(pp:Int)<(ops.length:Int):=by omega
           obtain⟨p0,p1,p2,_⟩:=three_cells HW.out
           have SB:Hid (∀ W,Below wq.heap.size wq W→W.cell? ⟨w.heap.size,2,none⟩=some (.slice (some ⟨ob,oo,none⟩) ops.length c3)∧W.cell? ⟨kb,ko+j2,none⟩=some (.int .i64 (pp:Int))∧W.cell? ⟨ob,oo+pp*4,none⟩=some (.int .i64 ok)∧W.cell? ⟨ob,oo+pp*4+1,none⟩=some (.string ⟨on.toArray⟩)∧W.cell? ⟨ob,oo+pp*4+2,none⟩=some (.string ⟨ot.toArray⟩)∧W.cell? ⟨ob,oo+pp*4+3,none⟩=some (.string ⟨od.toArray⟩)):=fun W hW=>⟨(hW.cell (p:=⟨w.heap.size,2,none⟩) (lt_of_block HW.out)).trans p2,(hW.cell (p:=⟨kb,ko+j2,none⟩) (cell_ltK k0)).trans k0,(hW.cell (p:=⟨ob,oo+pp*4,none⟩) (cell_ltK o0)).trans o0,(hW.cell (p:=⟨ob,oo+pp*4+1,none⟩) (cell_ltK o0)).trans o1,(hW.cell (p:=⟨ob,oo+pp*4+2,none⟩) (cell_ltK o0)).trans o2,(hW.cell (p:=⟨ob,oo+pp*4+3,none⟩) (cell_ltK o0)).trans o3⟩
           have BR:Below wq.heap.size wq wq:=Below.refl _ _
           clear p0 p1 p2 hcs hco hoq hop hfo i1 i2 i3 i4 i5 i6 i7 i8 i9 hds1 hfs2 k0 o0 o1 o2 o3 q1 q2 hpp
           go_upto_region 12 with fail
           go_cut [11] from 57 to 98 (fun v wx=>v=.pointer (some ⟨wq.heap.size,0,none⟩)∧Hid (wx.heap[wq.heap.size]? = some (.cells #[.int .i64 ok,.string ⟨on.toArray⟩,.string ⟨ot.toArray⟩,.string ⟨od.toArray⟩] 40 (0,0))∧Below wq.heap.size wq wx))
           case first =>
            go_region_held3 (fun w'=>w'.cell? ⟨w.heap.size,2,none⟩=some (.slice (some ⟨ob,oo,none⟩) ops.length c3)∧w'.cell? ⟨kb,ko+j2,none⟩=some (.int .i64 (pp:Int))∧w'.cell? ⟨ob,oo+pp*4,none⟩=some (.int .i64 ok)∧w'.cell? ⟨ob,oo+pp*4+1,none⟩=some (.string ⟨on.toArray⟩)∧w'.cell? ⟨ob,oo+pp*4+2,none⟩=some (.string ⟨ot.toArray⟩)∧w'.cell? ⟨ob,oo+pp*4+3,none⟩=some (.string ⟨od.toArray⟩)) (first | exact SB.out _ (by repeat' first | with_reducible exact BR | with_reducible apply below_drew1 | (with_reducible refine below_lit ?_ (Nat.le_refl _) _) | with_reducible apply below_setC | exact Nat.le_refl _)) (fail)
            all_goals go_wp2_with fail
            all_goals go_meet
            all_goals exact⟨rfl,heap_alloc_new wq _,by repeat' first | with_reducible exact BR | with_reducible apply below_drew1 | (with_reducible refine below_lit ?_ (Nat.le_refl _) _) | with_reducible apply below_setC | exact Nat.le_refl _⟩
           case rest =>
            obtain⟨rfl,HC⟩:=hcut
            obtain⟨w5,rfl⟩:∃ W,W=wc:=⟨_,rfl⟩
            have HDOP:Hid (w5.heap[wq.heap.size]? = _):=HC.out.1
            have XB:Hid (Below wq.heap.size wq w5):=HC.out.2
            obtain⟨o0,o1,o2,o3,of⟩:=four_cells HDOP.out
            have of3:=of 3
            have hwl:IntKind.i64.wrap ((ln:Int) - 1)=(ln:Int) - 1:=by exact i64_wrap_small _ (by omega) (by omega)
            clear of HC BR
            have hdp':od.length≤1048576:=hdp
            by_cases hl:j2+1=ln
            · have hlb : ((j2 : Int) == (ln : Int) - 1) = true := by rw [beq_iff_eq]; omega
              have hlk:j2+1=ks.length:=by rw[←HLN.out];exact hl
              have HLK:Hid (j2+1=ks.length):=hlk
              clear hlk hl
              by_cases hk1:ok=1
              · have hkb:(ok == 1)=true:=by rw[hk1];rfl
                have HK1:Hid (ok=1):=hk1
                clear hk1
                by_cases hdl:(tk:Int)<(od.length:Int)
                · have hdb:decide ((tk:Int)<(od.length:Int))=true:=decide_eq_true hdl
                  have hdk:(tk:Int)≤(od.length:Int):=by omega
                  have hdn:tk≤od.length:=by omega
                  have htk0:(0:Int)≤(tk:Int):=by omega
                  have hex:=ext_to od tk hdn
                  have X6:Hid (Below wq.heap.size wq (w5.setCell ⟨wq.heap.size,3,none⟩ (.string ⟨(od.take tk).toArray⟩))):=XB.out.setCell (Nat.le_refl _) _
                  have HKQ:Hid (keptOp ops ks (tk:Int) j2=⟨ok,on,ot,od.take tk⟩):=by rw[Hid,HKO.out,if_pos HLK.out,tornO,if_pos ⟨HK1.out,hdl⟩];rfl
                  have KD:=KDO (w5.setCell ⟨wq.heap.size,3,none⟩ (.string ⟨(od.take tk).toArray⟩)) ⟨ok,on,ot,od.take tk⟩ hfs.1 hfs.2 (by simp only[List.length_take];omega) (HIP.out.later X6.out)
                  simp only at KD
                  rw[←HFL.out] at KD
                  obtain⟨gs,hgs⟩:∃ x,x=(doF fs ⟨ok,on,ot,od.take tk⟩).1:=⟨_,rfl⟩
                  obtain⟨gb,hgb⟩:∃ x,x=(doF fs ⟨ok,on,ot,od.take tk⟩).2:=⟨_,rfl⟩
                  have HGS:Hid (gs=keptTo ops ks (tk:Int) safe (j2+1)):=by rw[Hid,HNX.out,HKQ.out,hgs]
                  rw[←hgs,←hgb] at KD
                  clear hgs hgb KDO HKQ HNX HKO SB HDOP
                  go_wp2_with fail
                  refine KD.mono ?_
                  rintro e w7 ⟨a7,m7,c7,rfl,q7,b7⟩
                  obtain⟨hm7,_,_⟩:=isPairs_own q7
                  have HQ7:Hid (m7=gs.length∧w7.ownsRow wo 84 2 (.slice a7 m7 c7) m7 (pcells gs)):=by
                   refine⟨hm7,?_⟩
                   have h:=q7
                   rw[←hm7] at h
                   exact h.mono (Nat.le_trans HWO.out (Nat.le_trans HX.out.size X6.out.size))
                  have HX7:Hid (Below w3.heap.size w3 w7):=(HX.out.trans (X6.out.mono HX.out.size)).trans (b7.mono (HX.out.trans (X6.out.mono HX.out.size)).size)
                  clear KD q7 b7 hm7 o0 o1 o2 o3
                  go_wp2
                  go_roundw
                  case rel=>exact⟨j2+1,m7,a7,c7,by omega,by go_num,rfl,by rw[←HGS.out];exact HQ7.out,HX7.out⟩
                  case measure=>simp[intOf];omega
                · have hdb:decide ((tk:Int)<(od.length:Int))=false:=decide_eq_false hdl
                  have HKQ:Hid (keptOp ops ks (tk:Int) j2=⟨ok,on,ot,od⟩):=by rw[Hid,HKO.out,if_pos HLK.out,tornO,if_neg (fun h=>hdl h.2)]
                  have KD:=KDO w5 ⟨ok,on,ot,od⟩ hfs.1 hfs.2 (hdp) (HIP.out.later XB.out)
                  simp only at KD
                  rw[←HFL.out] at KD
                  obtain⟨gs,hgs⟩:∃ x,x=(doF fs ⟨ok,on,ot,od⟩).1:=⟨_,rfl⟩
                  obtain⟨gb,hgb⟩:∃ x,x=(doF fs ⟨ok,on,ot,od⟩).2:=⟨_,rfl⟩
                  have HGS:Hid (gs=keptTo ops ks (tk:Int) safe (j2+1)):=by rw[Hid,HNX.out,HKQ.out,hgs]
                  rw[←hgs,←hgb] at KD
                  clear hgs hgb KDO HKQ HNX HKO SB HDOP
                  go_wp2_with fail
                  refine KD.mono ?_
                  rintro e w7 ⟨a7,m7,c7,rfl,q7,b7⟩
                  obtain⟨hm7,_,_⟩:=isPairs_own q7
                  have HQ7:Hid (m7=gs.length∧w7.ownsRow wo 84 2 (.slice a7 m7 c7) m7 (pcells gs)):=by
                   refine⟨hm7,?_⟩
                   have h:=q7
                   rw[←hm7] at h
                   exact h.mono (Nat.le_trans HWO.out (Nat.le_trans HX.out.size XB.out.size))
                  have HX7:Hid (Below w3.heap.size w3 w7):=(HX.out.trans (XB.out.mono HX.out.size)).trans (b7.mono (HX.out.trans (XB.out.mono HX.out.size)).size)
                  clear KD q7 b7 hm7 o0 o1 o2 o3
                  go_wp2
                  go_roundw
                  case rel=>exact⟨j2+1,m7,a7,c7,by omega,by go_num,rfl,by rw[←HGS.out];exact HQ7.out,HX7.out⟩
                  case measure=>simp[intOf];omega
              · have hkb:(ok == 1)=false:=by rw[beq_eq_false_iff_ne];exact hk1
                have HKQ:Hid (keptOp ops ks (tk:Int) j2=⟨ok,on,ot,od⟩):=by rw[Hid,HKO.out,if_pos HLK.out,tornO,if_neg (fun h=>hk1 h.1)]
                have KD:=KDO w5 ⟨ok,on,ot,od⟩ hfs.1 hfs.2 (hdp) (HIP.out.later XB.out)
                simp only at KD
                rw[←HFL.out] at KD
                obtain⟨gs,hgs⟩:∃ x,x=(doF fs ⟨ok,on,ot,od⟩).1:=⟨_,rfl⟩
                obtain⟨gb,hgb⟩:∃ x,x=(doF fs ⟨ok,on,ot,od⟩).2:=⟨_,rfl⟩
                have HGS:Hid (gs=keptTo ops ks (tk:Int) safe (j2+1)):=by rw[Hid,HNX.out,HKQ.out,hgs]
                rw[←hgs,←hgb] at KD
                clear hgs hgb KDO HKQ HNX HKO SB HDOP
                go_wp2_with fail
                refine KD.mono ?_
                rintro e w7 ⟨a7,m7,c7,rfl,q7,b7⟩
                obtain⟨hm7,_,_⟩:=isPairs_own q7
                have HQ7:Hid (m7=gs.length∧w7.ownsRow wo 84 2 (.slice a7 m7 c7) m7 (pcells gs)):=by
                 refine⟨hm7,?_⟩
                 have h:=q7
                 rw[←hm7] at h
                 exact h.mono (Nat.le_trans HWO.out (Nat.le_trans HX.out.size XB.out.size))
                have HX7:Hid (Below w3.heap.size w3 w7):=(HX.out.trans (XB.out.mono HX.out.size)).trans (b7.mono (HX.out.trans (XB.out.mono HX.out.size)).size)
                clear KD q7 b7 hm7 o0 o1 o2 o3
                go_wp2
                go_roundw
                case rel=>exact⟨j2+1,m7,a7,c7,by omega,by go_num,rfl,by rw[←HGS.out];exact HQ7.out,HX7.out⟩
                case measure=>simp[intOf];omega
            · have hlb:((j2:Int) == (ln:Int) - 1)=false:=by rw[beq_eq_false_iff_ne];omega
              have hle:¬ (j2:Int)=(ln:Int) - 1:=by omega
              have HKQ:Hid (keptOp ops ks (tk:Int) j2=⟨ok,on,ot,od⟩):=by rw[Hid,HKO.out,if_neg (by rw[←HLN.out];exact hl)]
              have KD:=KDO w5 ⟨ok,on,ot,od⟩ hfs.1 hfs.2 (hdp) (HIP.out.later XB.out)
              simp only at KD
              rw[←HFL.out] at KD
              obtain⟨gs,hgs⟩:∃ x,x=(doF fs ⟨ok,on,ot,od⟩).1:=⟨_,rfl⟩
              obtain⟨gb,hgb⟩:∃ x,x=(doF fs ⟨ok,on,ot,od⟩).2:=⟨_,rfl⟩
              have HGS:Hid (gs=keptTo ops ks (tk:Int) safe (j2+1)):=by rw[Hid,HNX.out,HKQ.out,hgs]
              rw[←hgs,←hgb] at KD
              clear hgs hgb KDO HKQ HNX HKO SB HDOP
              go_wp2_with fail
              refine KD.mono ?_
              rintro e w7 ⟨a7,m7,c7,rfl,q7,b7⟩
              obtain⟨hm7,_,_⟩:=isPairs_own q7
              have HQ7:Hid (m7=gs.length∧w7.ownsRow wo 84 2 (.slice a7 m7 c7) m7 (pcells gs)):=by
               refine⟨hm7,?_⟩
               have h:=q7
               rw[←hm7] at h
               exact h.mono (Nat.le_trans HWO.out (Nat.le_trans HX.out.size XB.out.size))
              have HX7:Hid (Below w3.heap.size w3 w7):=(HX.out.trans (XB.out.mono HX.out.size)).trans (b7.mono (HX.out.trans (XB.out.mono HX.out.size)).size)
              clear KD q7 b7 hm7 o0 o1 o2 o3
              go_wp2
              go_roundw
              case rel=>exact⟨j2+1,m7,a7,c7,by omega,by go_num,rfl,by rw[←HGS.out];exact HQ7.out,HX7.out⟩
              case measure=>simp[intOf];omega
         · have hje:j2=ln:=by omega
           have hj1:¬ (j2:Int)<(ln:Int):=by omega
           have hjk:j2=ks.length:=by rw[hje];exact HLN.out
           obtain⟨i1,i2,i3,i4,nx,i5,i6,i7,i8,i9⟩:=HINV.out j2 (by omega)
           have hds1:=dsum_le ops nx
           rw[hjk] at HF i3 i9
           obtain⟨fs,hfs2⟩:∃ x,x=keptTo ops ks (tk:Int) safe ks.length:=⟨_,rfl⟩
           rw[←hfs2] at HF HB3 HRL i3 i9
           have HIP:Hid (IsPairs wq a8 fs):=(isPairs_own HF.out.2).2.2
           have HFL:Hid (fl=fs.length):=HF.out.1
           have HAD:=own_addrC HF.out.2
           have hfl:fl≤260:=by rw[HFL.out];omega
           have KF:=spec_files a8 c8 fs wq (by omega) (fun p hp=>by have:=i9 p hp;exact⟨by omega,by omega⟩) HIP.out
           rw[←HFL.out] at KF
           obtain⟨fo,hfo⟩:∃ x,x=filesOk fs:=⟨_,rfl⟩
           rw[←hfo] at KF HB3
           have RWq:Hid (wq.heap[w.heap.size+1]? = some (.cells #[.slice none 0 0,.slice none 0 0,.slice none 0 0] 31 (0,0))):=(HX.out.block _ (lt_of_block RW3.out)).trans RW3.out
           clear hfo hfs2 i1 i2 i3 i4 i5 i6 i7 i8 i9 hds1 hje hjk HINV
           go_wp2_with fail
           refine KF.mono ?_
           rintro e w8 ⟨rfl,b8⟩
           have BW8:Hid (Below w.heap.size w w8):=BW.out.trans (b8.mono BW.out.size)
           have RW8:Hid (w8.heap[w.heap.size+1]? = some (.cells #[.slice none 0 0,.slice none 0 0,.slice none 0 0] 31 (0,0))):=(b8.block _ (lt_of_block RWq.out)).trans RWq.out
           have HO8:Hid (w8.ownsRow wo 84 2 (.slice a8 fl c8) fl (pcells fs)):=kept2 HF.out.2 b8
           have HWO8:Hid (wo≤w8.heap.size):=Nat.le_trans HWO.out (Nat.le_trans HX.out.size b8.size)
           clear KF b8 HF RWq
           cases fo with
           | false =>
             have HE:Hid (rb=false):=HB3.out
             obtain⟨r0,r1,r2,rf⟩:=three_cells RW8.out
             have rf0:=rf 0
             have rf1:=rf 1
             have rf2:=rf 2
             have HY:Hid (_=_):=dk_set (j:=2) (z:=.slice none 0 0) (dk_set (j:=1) (z:=.slice none 0 0) (dk_set (j:=0) (z:=.slice none 0 0) RW8.out))
             have HP:Hid (CrPost w _ _ rl rb):=crpost_none HE.out (HN.out HE.out) BW8.out
             clear rf HS HA HRL HB3
             go_wp2
             refine bodyPost_ret (v:=.tuple #[.agg #[.slice none 0 0,.slice none 0 0,.slice none 0 0],.bool false]) (results_disk rfl _ _ (w.heap.size+1) 31 _ (0,0) _ _ rfl HY.out Try.underlying31 rfl (by kernel_rfl) rfl) rfl ?_
             exact HP.out
           | true =>
             have HEL:Hid (rl=fs):=by rw[Hid,HRL.out,HB3.out];rfl
             have HO0:=hidOwn (World.ownsRow_lit (e:=84) (size:=2) w8 #[] 0 (base:=w8.heap.size) (Nat.le_refl _) (Nat.zero_le _) rfl)
             have A0:Below w8.heap.size w8 (w8.alloc (.cells #[] 84)):=(Below.refl _ _).alloc (Nat.le_refl _) _
             have HI0:Hid (IsPairs (w8.alloc (.cells #[] 84)) a8 fs):=(isPairs_own HO8.out).2.2.later A0
             have HA0:Hid (Below w8.heap.size w8 (w8.alloc (.cells #[] 84))):=A0
             clear A0 HRL
             go_wp2_with (first
              | (at_builtin; refine wpList_append_prs rfl _ _ 28 rfl w8.heap.size 84 i0 (.agg #[.string ⟨#[]⟩, .string ⟨#[]⟩]) 32 Try.underlying28 hi0 hz0 hz1 hz2 rfl (.slice (some ⟨w8.heap.size, 0, none⟩) 0 0) 0 [] rfl HO0.out a8 fs fl c8 HFL.out rfl HAD.2 HI0.out (by unfold maxLen; omega) (by omega) (by simp) ?_; intro v3 w9 o3 g3; obtain ⟨a7, m7, c7, rfl⟩ := own_slice2 o3
                 have O9:Hid (w9.ownsRow w8.heap.size 84 2 (.slice a7 m7 c7) fl (pcells fs)):=(by rw[Hid];simpa using o3)
                 have B9:Hid (Below w8.heap.size w8 w9):=HA0.out.grown g3 HA0.out.size (fun q hq=>(HO0.out.lt q hq).1)
                 have R9:Hid (w9.heap[w.heap.size+1]? = some (.cells #[.slice none 0 0,.slice none 0 0,.slice none 0 0] 31 (0,0))):=(B9.out.block _ (lt_of_block RW8.out)).trans RW8.out
                 obtain⟨r0,r1,r2,rf⟩:=three_cells R9.out
                 have rf0:=rf 0
                 have rf1:=rf 1
                 have rf2:=rf 2
                 clear o3 g3 rf))
             obtain⟨hm7,_,_⟩:=isPairs_own O9.out
             have HY:Hid (_=_):=dk_set (j:=2) (z:=.slice none 0 0) (dk_set (j:=1) (z:=.slice a7 m7 c7) (dk_set (j:=0) (z:=.slice a8 fl c8) R9.out))
             have HP:Hid (CrPost w _ _ rl rb):=crpost_of (k1:=c8) (k2:=c7) (r:=fs) HL3.out (BW8.out.trans (B9.out.mono BW8.out.size)) (own_new ((kept2 HO8.out B9.out))) (own_new (O9.out.mono HWO8.out)) HAD.1 (own_addrC O9.out).1 HFL.out hm7 HB3.out HEL.out
             clear hm7
             refine bodyPost_ret (v:=.tuple #[.agg #[.slice a8 fl c8,.slice a7 m7 c7,.slice none 0 0],.bool true]) (results_disk rfl _ _ (w.heap.size+1) 31 _ (0,0) _ _ rfl HY.out Try.underlying31 rfl (by kernel_rfl) rfl) rfl ?_
             exact HP.out
   · have htl:decide (tn<0)=true:=decide_eq_true (by omega)
     have htn:tn<0:=by omega
     have HE:Hid (rb=false):=by rw[Hid,HRB.out,decide_eq_false ht];rfl
     clear HRB
     obtain⟨r0,r1,r2,rf⟩:=three_cells R1.out
     have rf0:=rf 0
     have rf1:=rf 1
     have rf2:=rf 2
     have HY:Hid (_=_):=dk_set (j:=2) (z:=.slice none 0 0) (dk_set (j:=1) (z:=.slice none 0 0) (dk_set (j:=0) (z:=.slice none 0 0) R1.out))
     have HP:Hid (CrPost w _ _ rl rb):=crpost_none HE.out (HN.out HE.out) B1
     clear rf HS HA HRL
     go_wp2
     refine bodyPost_ret (v:=.tuple #[.agg #[.slice none 0 0,.slice none 0 0,.slice none 0 0],.bool false]) (results_disk rfl _ _ (w.heap.size+1) 31 _ (0,0) _ _ rfl HY.out Try.underlying31 rfl (by kernel_rfl) rfl) rfl ?_
     exact HP.out
end Go.Proofs.Ytlllkdioojjaeaa
