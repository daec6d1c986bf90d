/-
 At every code what a root leads to in a drawn store are nodes that are there, rising, the root among them, and the root of drawn pairs leads to all their nodes: FnReached answers true. No condition; the round words are laid as the program's text lays them.
-/
import Derived.Test.YtglkmlfhcggckaaGreatDoorDrawRs
import Derived.Test.YtglkmlfhcggckaaGreatDoorReaches
import Derived.Test.YtglkmlfhcggckaaGreatDoorSame
import Derived.Test.YtglkmlfhcggckaaGreatDoorLaidAll
import Derived.Test.YtglkmlfhcggckaaGreatDoorGetAll
import Derived.Test.YtglkmlfhcggckaaGreatDoorEmptyR
import Derived.Test.YtglkmlfhcggckaaGreatDoorDrawPs
import Derived.Test.YtglkmlfhcggckaaGreatDoorSeatAll
import Derived.Test.YtglkmlfhcggckaaGreatDoorTie
import Derived.Test.YtglkmlfhcggckaaGreatDoorCards
import Derived.ProofKit
import Derived.LaidMore
import Derived.OpenShut
import Derived.ShutString
import Derived.ChangeOld
import Derived.Below
import Derived.Stop.Joined
import Derived.Lib.LaidTab
import Derived.SevenTiedAt
import Derived.SliceStrings
namespace Go.Proofs.YtglkmlfhcggckaaGreatDoor.fnReached
open Go.ChangeShapes Go.WideShapes Go.ChangeAt Go.RowKit
open Go.ChangeMaps (open_string shut_string)
set_option linter.unusedVariables false
theorem own:ownKnob Tryz.prog.godebug=none:=by kernel_rfl
theorem laidOut0:laidOutB Tryz.prog=true:=by kernel_rfl
theorem gTab : Tryz.prog.globalNamed "loop.example/g00226/impl.roundWords" = some 0 := by kernel_rfl
theorem tTab:(Tryz.prog.globals[0]?).map (·.type)=some 144:=by kernel_rfl
theorem door_met (os:Os) (args:Array Value):laidMetH Tryz.prog Rows.fnReachedRow.laid ((World.doorLaid Tryz.prog 400 os).forCall (fun _ _=>0) ⟨#[],args,[]⟩).memory :=
 laidMetH_of_parts3 (fuel:=8) (laidMet_of_run' 8 (by kernel_rfl) (by kernel_rfl)) (by kernel_rfl) (by kernel_rfl)
theorem tab_of {W:World} (h:laidMetH Tryz.prog Rows.fnReachedRow.laid W):Tab W:=by
 rw[MakeChecks.laidMetH_plain _ _ _ (by kernel_rfl)] at h
 have hT : Lib.TabIs Tryz.prog W "loop.example/g00226/impl.roundWords" .u32 (kL.map fun x => num x) := Lib.tabIs_of_head (rest := []) gTab tTab Tryz.underlying144 Tryz.underlying77 (by kernel_rfl) (by kernel_rfl) h
 have hc:∀ i,i<64→W.cell? ⟨0,i,none⟩=some (.int .u32 (num (kL.getD i 0))):=fun i hi=>by
  have hl:i<kL.length:=hi
  have:=hT.cell gTab i (by rw[List.length_map];exact hl)
  rw[this]
  simp[List.getD,hl]
 exact⟨block_lt_of_cell (hc 0 (by omega)),hc⟩
theorem rc_below {B:Nat} {w w':World} (h:Below B w w') (q:Nat):Below B w (w'.drewN q):=⟨h.os,h.tape,h.output,h.size,h.block⟩
theorem rc_refl (w:World) (q:Nat):Below w.heap.size w (w.drewN q):=rc_below (Below.refl _ _) q
set_option maxRecDepth 100000 in
set_option maxHeartbeats 4000000 in
theorem walk (a0 : Option Addr) (len0 cap0 : Nat) (w : World) (w0 : Code w a0 len0) (hT : Tab w) :
 Calls Tryz.prog 3 #[.slice a0 len0 cap0] w fun e w'=>e=.returned (.bool true)∧Below w.heap.size w w':=by
 by_cases hb:len0≤1048576
 · have HB := bigNo len0 cap0 a0 w hb
   have HC:Hid (Code w a0 len0):=w0
   have HT:Hid (Tab w):=hT
   clear w0 hT
   go_enter Tryz.func3,Tryz.ntmps3
   go_wp2_with fail
   refine HB.mono ?_
   rintro e w ⟨rfl,rfl⟩
   clear HB
   have HD:=drawReached len0 cap0 a0 w hb HC.out
   go_wp2_with fail
   refine HD.mono ?_
   rintro e w1 ⟨ps,a1,c1,rt,rfl,hpl,hrt,hps,o1,B1⟩
   have I1:=(isPairs_own o1).2.2
   have K2:=impl_reached a1 c1 ps rt w1 (HT.out.later B1) (by omega) hps I1 hrt
   have HK3:Hid (∀ W,Below w1.heap.size w1 W→_):=fun W hW=>spec_reached a1 c1 ps rt W (by omega) hps (I1.later hW)
   have HPS:Hid (∀ p∈ps,p.1.length≤1048576∧p.2.length≤1048576):=hps
   have HI1:Hid (∀ W,Below w1.heap.size w1 W→IsPairs W a1 ps):=fun W hW=>I1.later hW
   have HF:Hid (∀ L,reachedR ps rt=some L→storeOkL ps=true∧L.Pairwise (· < ·)∧(∀ x∈L,thereN ps x=true)∧(rt=emptyL∨rt∈L)):=fun L h=>reach_facts h
   have hrl:=reach_len (ps:=ps) (root:=rt)
   obtain⟨R,hR⟩:∃ R,R=reachedR ps rt:=⟨_,rfl⟩
   rw[←hR] at K2 HK3 hrl HF
   unfold RPost at K2 HK3
   obtain⟨ok,hok⟩:∃ ok,ok=R.isSome:=⟨_,rfl⟩
   obtain⟨L,hL⟩:∃ L,L=R.getD []:=⟨_,rfl⟩
   rw[←hok,←hL] at K2 HK3
   rw[←hL] at hrl
   have HFL:Hid (L.Pairwise (· < ·)∧(∀ x∈L,storeOkL ps=true∧thereN ps x=true)∧(ok=true→rt=emptyL∨rt∈L)):=by
    cases R with
    | none=>subst hL;subst hok;exact⟨List.Pairwise.nil,fun x hx=>by simp at hx,fun h=>by simp at h⟩
    | some M =>
      obtain⟨f1,f2,f3,f4⟩:=HF.out M rfl
      subst hL
      exact⟨f2,fun x hx=>⟨f1,f3 x hx⟩,fun _=>f4⟩
   have hL9:L.length≤3601:=by omega
   clear HD o1 I1 hR hok hL hps HF hrl
   go_wp2_with fail
   refine K2.mono ?_
   rintro e w2 ⟨a2,m2,c2,rfl,o2,b2⟩
   have B2:=B1.trans (b2.mono B1.size)
   have K3:=HK3.out w2 b2
   have Hb2:Hid (Below w1.heap.size w1 w2):=b2
   have HO2:=hidOwn o2
   obtain⟨rfl,_,i2⟩:=strs_own o2
   have HI2:Hid (∀ W,Below w2.heap.size w2 W→IsStrs W a2 L):=fun W hW=>strs_later i2 hW
   clear K2 HK3 b2 o2 i2
   go_wp2_with fail
   refine K3.mono ?_
   rintro e w3 ⟨a3,m3,c3,rfl,o3,b3⟩
   have B3:=B2.trans (b3.mono B2.size)
   have K4:=sameT_same L _ _ _ _ w3 (by omega) (kept1 HO2.out b3) o3
   have Hb3:Hid (Below w2.heap.size w2 w3):=b3
   clear K3 o3 b3 HO2
   go_wp2_with fail
   refine K4.mono ?_
   rintro e w4 ⟨rfl,q4,hq4⟩
   have b4:Below w3.heap.size w3 w4:=by rw[hq4];exact rc_refl w3 q4
   have B4:=B3.trans (b4.mono B3.size)
   have r4:=Hb3.out.trans (b4.mono Hb3.out.size)
   have K5:=impl_empty w4 (HT.out.later B4)
   obtain⟨em,hem⟩:∃ em,em=emptyL:=⟨_,rfl⟩
   rw[←hem] at K5 HFL
   obtain⟨b0,hb0⟩:∃ b0,(rt == em)=b0:=⟨_,rfl⟩
   have HB0:Hid (b0=true↔rt=em):=by rw[←hb0];exact beq_iff_eq
   clear K4 hq4 b4 hem
   go_wp2_with fail
   refine K5.mono ?_
   rintro e w5 ⟨rfl,b5⟩
   have B5:=B4.trans (b5.mono B4.size)
   have r5:=r4.trans (b5.mono r4.size)
   have s5:=Hb2.out.trans (r5.mono Hb2.out.size)
   have HR5:Hid (Below w2.heap.size w2 w5):=r5
   have HS5:Hid (Below w1.heap.size w1 w5):=s5
   clear K5 b5 r4 r5 s5
   go_wp2
   go_loopw [9,10,11,12] (fun v i _ _ wr=>∃ (j:Nat) (is:Bool),j≤L.length∧v=.bool is∧i=.int .i64 (j:Int)∧Hid (is=true↔(rt=em∨rt∈L.take j))∧Below w5.heap.size w5 wr) (fun _ i _ _ _=>L.length - (intOf i).toNat)
   case atStart=>exact⟨0,b0,Nat.zero_le _,rfl,rfl,by rw[Hid,HB0.out];simp,Below.refl _ _⟩
   case round =>
    obtain⟨j,is,hj,rfl,rfl,HIS,hbel⟩:=hrel
    have BR:=B5.trans (hbel.mono B5.size)
    by_cases hlt:j<L.length
    · obtain⟨b,off,hva,hc⟩:∃ b off,a2=some ⟨b,off,none⟩∧∀ q (hq:q<L.length),wr.cell? ⟨b,off+q,none⟩=some (.string ⟨L[q].toArray⟩):=by
       rcases HI2.out wr (HR5.out.trans (hbel.mono HR5.out.size)) with h | ⟨b,off,h,hc⟩
       · rw[h] at hlt;simp at hlt
       · exact⟨b,off,h,hc⟩
      have hj0:(0:Int)≤(j:Int):=by omega
      have hj1:(j:Int)<(L.length:Int):=by omega
      have hidx:∀ W:World,(Instr.indexAt 27 (.slice a2 L.length c2) (.int .i64 (j:Int))).run Tryz.prog W=.ok (.pointer (some ⟨b,off+j,none⟩)) W:=by
       intro W;rw[hva];go_simp
      have cj:=hc j hlt
      have hmem:L[j]∈L:=List.getElem_mem _
      obtain⟨hst,hth⟩:=HFL.out.2.1 L[j] hmem
      have hxl:L[j].length≤1048576:=by
       obtain⟨p,hp,he⟩:=List.mem_map.1 (there_mem ps _ hth)
       rw[←he];exact (HPS.out p hp).1
      have HTK:Hid (∀ x∈L.take (j+1),x∈L.take j∨x=L[j]):=fun x hx=>by
       rw[List.take_succ_eq_append_getElem hlt,List.mem_append,List.mem_singleton] at hx;exact hx
      have HTK2:Hid (∀ x,x∈L.take j∨x=L[j]→x∈L.take (j+1)):=fun x hx=>by
       rw[List.take_succ_eq_append_getElem hlt,List.mem_append,List.mem_singleton];exact hx
      have K6:=impl_storeGet a1 c1 ps L[j] wr (HT.out.later BR) (by omega) hxl HPS.out (HI1.out wr (HS5.out.trans (hbel.mono HS5.out.size))) _ true rfl (by rw[hst];unfold thereN at hth;rw[hth];rfl)
      have HLS:Hid (0<j→∃ (p:Nat) (hp:p<L.length),j=p+1∧L[p]<L[j]):=fun h=>⟨j - 1,by omega,by omega,List.pairwise_iff_getElem.1 HFL.out.1 (j - 1) j (by omega) hlt (by omega)⟩
      have HCC:Hid (∀ q (hq:q<L.length),wr.cell? ⟨b,off+q,none⟩=some (.string ⟨L[q].toArray⟩)):=hc
      have HVA:Hid (a2=some ⟨b,off,none⟩):=hva
      have hbl:=World.block_lt_of_cell? wr _ cj
      have HBE:Hid (Below w5.heap.size w5 wr):=hbel
      obtain⟨x,hx⟩:∃ x,x=L[j]:=⟨_,rfl⟩
      rw[←hx] at cj K6 HTK HTK2
      obtain⟨tx,htx⟩:∃ tx,tx=(if storeOkL ps=true then (findL ps x).getD [] else []):=⟨_,rfl⟩
      rw[←htx] at K6
      have HX:Hid (x=L[j]):=hx
      have HCJ:Hid (wr.cell? ⟨b,off+j,none⟩=some (.string ⟨x.toArray⟩)):=cj
      clear hva hc hx hmem hst hth hxl hbel htx
      go_wp2_with fail
      refine K6.mono ?_
      rintro e w6 ⟨rfl,b6⟩
      have bel6:Hid (Below w5.heap.size w5 w6):=HBE.out.trans (b6.mono HBE.out.size)
      have c6:=(b6.cell (p:=⟨b,off+j,none⟩) hbl).trans HCJ.out
      have HC6:Hid (∀ q (hq:q<L.length),w6.cell? ⟨b,off+q,none⟩=some (.string ⟨L[q].toArray⟩)):=fun q hq=>(b6.cell (p:=⟨b,off+q,none⟩) hbl).trans (HCC.out q hq)
      clear K6 b6 cj HCJ HCC HBE
      obtain⟨b1,hb1⟩:∃ b1,(x == rt)=b1:=⟨_,rfl⟩
      have HIS1 : Hid ((is || b1) = true ↔ (rt = em ∨ rt ∈ L.take (j + 1))) := by
       rw[Hid,Bool.or_eq_true,HIS.out,←hb1,beq_iff_eq]
       constructor
       · rintro ((h | h) | h)
         · exact .inl h
         · exact .inr (HTK2.out _ (.inl h))
         · exact .inr (HTK2.out _ (.inr h.symm))
       · rintro (h | h)
         · exact .inl (.inl h)
         · rcases HTK.out _ h with h | h
           · exact .inl (.inr h)
           · exact .inr h.symm
      clear HIS HTK HTK2
      by_cases hz:0<j
      · obtain⟨p,hp,hjp,hlp⟩:=HLS.out hz
        have hp0:(0:Int)≤(p:Int):=by omega
        have hp1:(p:Int)<(L.length:Int):=by omega
        have hsub:(j:Int) - 1=(p:Int):=by omega
        have hw1:IntKind.i64.wrap (p:Int)=(p:Int):=i64_wrap_small _ (by omega) (by omega)
        have hidp:∀ W:World,(Instr.indexAt 27 (.slice a2 L.length c2) (.int .i64 (p:Int))).run Tryz.prog W=.ok (.pointer (some ⟨b,off+p,none⟩)) W:=by
         intro W;rw[HVA.out];go_simp
        have cp:=HC6.out p hp
        rw[←HX.out,←less_iff] at hlp
        obtain⟨y,hy⟩:∃ y,y=L[p]:=⟨_,rfl⟩
        rw[←hy] at cp hlp
        have hz1:decide ((0:Int)<(j:Int))=true:=by simp;omega
        have hz3:decide (0<j)=true:=by simp;omega
        have HJP:Hid (j=p+1):=hjp
        clear HLS HC6 hy hjp hz
        cases is
        · go_wp2
          go_quiet (fail)
          go_wp2
          go_roundw
          case rel=>exact⟨j+1,_,by omega,rfl,by go_num,HIS1,rc_below bel6.out _⟩
          case measure=>simp[intOf];omega
        · go_wp2
          go_quiet (fail)
          go_wp2
          go_roundw
          case rel=>exact⟨j+1,_,by omega,rfl,by go_num,HIS1,rc_below bel6.out _⟩
          case measure=>simp[intOf];omega
      · have hz1:decide ((0:Int)<(j:Int))=false:=by simp;omega
        have hz3:decide (0<j)=false:=by simp;omega
        clear HLS HC6 hz
        cases is
        · go_wp2
          go_quiet (fail)
          go_wp2
          go_roundw
          case rel=>exact⟨j+1,_,by omega,rfl,by go_num,HIS1,rc_below bel6.out _⟩
          case measure=>simp[intOf];omega
        · go_wp2
          go_quiet (fail)
          go_wp2
          go_roundw
          case rel=>exact⟨j+1,_,by omega,rfl,by go_num,HIS1,rc_below bel6.out _⟩
          case measure=>simp[intOf];omega
    · have hjl:j=L.length:=by omega
      have HIS2:Hid (is=true↔(rt=em∨rt∈L)):=by
       rw[Hid,HIS.out,hjl,List.take_length]
      have HOI:Hid (ok=true→is=true):=fun h=>HIS2.out.2 (HFL.out.2.2 h)
      have HDN:=drawNodesOf len0 cap0 a0 wr hb (HC.out.later BR)
      have HBR:Hid (Below w.heap.size w wr):=BR
      have hnl:¬ (j:Int)<(L.length:Int):=by omega
      clear hbel hlt hj hjl HIS HIS2 BR
      cases ok with
      | false =>
        go_wp2_with fail
        refine HDN.mono ?_
        rintro e w6 ⟨qs,g,c,hql,hsm,rfl,o6,b6⟩
        have B6:Hid (Below w.heap.size w w6):=HBR.out.trans (b6.mono HBR.out.size)
        have hmm:=small_leS hsm
        have i6:=(isPairs_own o6).2.2
        have K7:=impl_nodesOf (some ⟨g,0,none⟩) c qs w6 (by omega) hmm i6 (HT.out.later B6.out)
        have HK8:Hid (∀ W,Below w6.heap.size w6 W→Tab W→_):=fun W hW hT=>impl_rootOf (some ⟨g,0,none⟩) c qs W (by omega) hmm (i6.later hW) hT
        have hnl9:=nodesR_len qs
        have HNS:Hid (∀ p∈nodesR qs,p.1.length≤1048576∧p.2.length≤1048576):=nodes_small qs
        have HRT:Hid ((rootR qs).length≤1048576):=by rw[Hid];exact root_le qs
        have HRN:Hid (rootOk qs=true→∃ L,reachedR (nodesR qs) (rootR qs)=some L∧L.length=(nodesR qs).length):=fun h=>reach_nodes h
        obtain⟨ns,hns⟩:∃ ns,ns=nodesR qs:=⟨_,rfl⟩
        obtain⟨rr,hrr⟩:∃ rr,rr=rootR qs:=⟨_,rfl⟩
        obtain⟨ro,hro⟩:∃ ro,ro=rootOk qs:=⟨_,rfl⟩
        rw[←hns] at K7 hnl9 HNS HRN
        rw[←hrr] at HK8 HRT HRN
        rw[←hro] at K7 HK8 HRN
        clear HDN o6 i6 hns hrr hro b6 HBR hmm hsm
        go_wp2_with fail
        refine K7.mono ?_
        rintro e w7 ⟨a7,m7,c7,rfl,o7,b7⟩
        have B7:Hid (Below w.heap.size w w7):=B6.out.trans (b7.mono B6.out.size)
        obtain⟨rfl,_,i7⟩:=isPairs_own o7
        have HI7:Hid (∀ W,Below w7.heap.size w7 W→IsPairs W a7 ns):=fun W hW=>i7.later hW
        have K8:=HK8.out w7 b7 (HT.out.later B7.out)
        clear K7 o7 i7 b7 HK8 B6
        cases ro with
        | false =>
          clear HRN K8
          go_wp2
          go_ret
          exact⟨rfl,B7.out⟩
        | true =>
          obtain⟨M,hM,hMl⟩:=HRN.out rfl
          have HML:Hid (M.length=ns.length):=hMl
          have HM:Hid (reachedR ns rr=some M):=hM
          clear HRN hM hMl
          go_wp2_with fail
          refine K8.mono ?_
          rintro e w8 ⟨rfl,b8⟩
          have B8:=B7.out.trans (b8.mono B7.out.size)
          have K9:=impl_reached a7 c7 ns rr w8 (HT.out.later B8) (by omega) HNS.out (HI7.out w8 b8) HRT.out
          rw[HM.out] at K9
          unfold RPost at K9
          simp only[Option.getD_some,Option.isSome_some] at K9
          clear K8 b8 B7
          go_wp2_with fail
          refine K9.mono ?_
          rintro e w9 ⟨a9,m9,c9,rfl,o9,b9⟩
          have B9:=B8.trans (b9.mono B8.size)
          obtain⟨rfl,_,_⟩:=strs_own o9
          have hml:=HML.out
          clear K9 o9 b9
          rw[hml]
          clear hml
          go_wp2
          go_ret
          exact⟨rfl,B9⟩
      | true =>
        obtain rfl:=HOI.out rfl
        go_wp2_with fail
        refine HDN.mono ?_
        rintro e w6 ⟨qs,g,c,hql,hsm,rfl,o6,b6⟩
        have B6:Hid (Below w.heap.size w w6):=HBR.out.trans (b6.mono HBR.out.size)
        have hmm:=small_leS hsm
        have i6:=(isPairs_own o6).2.2
        have K7:=impl_nodesOf (some ⟨g,0,none⟩) c qs w6 (by omega) hmm i6 (HT.out.later B6.out)
        have HK8:Hid (∀ W,Below w6.heap.size w6 W→Tab W→_):=fun W hW hT=>impl_rootOf (some ⟨g,0,none⟩) c qs W (by omega) hmm (i6.later hW) hT
        have hnl9:=nodesR_len qs
        have HNS:Hid (∀ p∈nodesR qs,p.1.length≤1048576∧p.2.length≤1048576):=nodes_small qs
        have HRT:Hid ((rootR qs).length≤1048576):=by rw[Hid];exact root_le qs
        have HRN:Hid (rootOk qs=true→∃ L,reachedR (nodesR qs) (rootR qs)=some L∧L.length=(nodesR qs).length):=fun h=>reach_nodes h
        obtain⟨ns,hns⟩:∃ ns,ns=nodesR qs:=⟨_,rfl⟩
        obtain⟨rr,hrr⟩:∃ rr,rr=rootR qs:=⟨_,rfl⟩
        obtain⟨ro,hro⟩:∃ ro,ro=rootOk qs:=⟨_,rfl⟩
        rw[←hns] at K7 hnl9 HNS HRN
        rw[←hrr] at HK8 HRT HRN
        rw[←hro] at K7 HK8 HRN
        clear HDN o6 i6 hns hrr hro b6 HBR hmm hsm
        go_wp2_with fail
        refine K7.mono ?_
        rintro e w7 ⟨a7,m7,c7,rfl,o7,b7⟩
        have B7:Hid (Below w.heap.size w w7):=B6.out.trans (b7.mono B6.out.size)
        obtain⟨rfl,_,i7⟩:=isPairs_own o7
        have HI7:Hid (∀ W,Below w7.heap.size w7 W→IsPairs W a7 ns):=fun W hW=>i7.later hW
        have K8:=HK8.out w7 b7 (HT.out.later B7.out)
        clear K7 o7 i7 b7 HK8 B6
        cases ro with
        | false =>
          clear HRN K8
          go_wp2
          go_ret
          exact⟨rfl,B7.out⟩
        | true =>
          obtain⟨M,hM,hMl⟩:=HRN.out rfl
          have HML:Hid (M.length=ns.length):=hMl
          have HM:Hid (reachedR ns rr=some M):=hM
          clear HRN hM hMl
          go_wp2_with fail
          refine K8.mono ?_
          rintro e w8 ⟨rfl,b8⟩
          have B8:=B7.out.trans (b8.mono B7.out.size)
          have K9:=impl_reached a7 c7 ns rr w8 (HT.out.later B8) (by omega) HNS.out (HI7.out w8 b8) HRT.out
          rw[HM.out] at K9
          unfold RPost at K9
          simp only[Option.getD_some,Option.isSome_some] at K9
          clear K8 b8 B7
          go_wp2_with fail
          refine K9.mono ?_
          rintro e w9 ⟨a9,m9,c9,rfl,o9,b9⟩
          have B9:=B8.trans (b9.mono B8.size)
          obtain⟨rfl,_,_⟩:=strs_own o9
          have hml:=HML.out
          clear K9 o9 b9
          rw[hml]
          clear hml
          go_wp2
          go_ret
          exact⟨rfl,B9⟩
 · have HB:=bigYes len0 cap0 a0 w hb
   clear w0
   go_enter Tryz.func3,Tryz.ntmps3
   go_wp2_with fail
   refine HB.mono ?_
   rintro e w1 ⟨rfl,rfl⟩
   go_wp2
   go_ret
   exact⟨rfl,Below.refl _ _⟩
set_option maxRecDepth 100000 in
theorem lifted (os:Os) (started:os.Started) (H:Type) (enc:TypeId × Value→H) :
 ReturnsInHanded {} Tryz.checked os 3 .any (fun w args=>(Rows.fnReachedSpec.pre enc Tryz.prog Tryz.f3 [] false w args∧laidMetH Tryz.prog Rows.fnReachedRow.laid w)∧sizedMet enc Tryz.prog Tryz.f3 (OpenSpec.ofChange Rows.fnReachedSpec) false w args)
  (Rows.fnReachedSpec.post enc Tryz.prog Tryz.f3 false true false false):=by
 refine returnsInHanded_of_change_and (C:=Tryz.checked) (X:=fun w _=>laidMetH Tryz.prog Rows.fnReachedRow.laid w) (fun _ _ _ hh h=>h.of_heap hh) own started (by kernel_rfl) Tryz.func3
  (ChangeSpec.witness_shaped (enc:=enc) (C:=Tryz.checked) (os:=os) (X:=fun w _=>laidMetH Tryz.prog Rows.fnReachedRow.laid w) false (World.doorLaid Tryz.prog 400 os) #[.slice none 0 0] 8 rfl (World.shaped_of_RefB (by kernel_rfl) (by kernel_rfl)) (by kernel_rfl) (by kernel_rfl) (by kernel_rfl) (door_met os _)) ?_
 intro W base args ds gs before hval0 hW _ _ hL _
 have hval:∀ (j:Nat) t v,Tryz.f3.params[j]? = some t→args[j]? = some v→Value.okWide Tryz.prog W .any base t v:=hval0
 have hW':=hW
 obtain⟨p,q,hA0,hV0,rfl,hfz,hnd⟩:=hW
 have hA:DataW.TrodAll enc Tryz.prog W 0 (fun _=>true) true Tryz.f3.params.toList args.toList ds p:=hA0
 have hV : DataW.TrodVars enc Tryz.prog W (fun _ => true) ["loop.example/g00226/impl.roundWords"] gs q := hV0
 rw[Tryz.params3] at hA hval
 obtain⟨v0,vs0,d0,ds0,p0,q0,hargs,rfl,rfl,h0,r0⟩:=trodAll_cons hA
 obtain⟨rfl,rfl,rfl⟩:=trodAll_nil r0
 obtain rfl:args=#[v0]:=by cases args;simp_all
 obtain⟨a0,len0,cap0,rfl⟩:=okWide_slice Tryz.underlying22 (hval 0 22 v0 rfl rfl)
 have k0:=h0
 have lt0:∀ x∈p0,x.block<W.heap.size:=by obtain⟨m,hm⟩:=k0;exact DataW.trod_lt m _ _ _ hm
 have w0:Code W a0 len0:=by
  obtain⟨fuel,hf⟩:=h0
  rcases open_ints Tryz.underlying22 Tryz.underlying5 (by kernel_rfl) hf with ⟨hcs,_⟩ | ⟨x,l,c,zs,hcs,_,hl,hm,hz,_,hcell,hwz⟩
  · simp[Value.cells] at hcs
    obtain⟨rfl,rfl,rfl⟩:=hcs
    exact .inl rfl
  · simp[Value.cells] at hcs
    obtain⟨rfl,rfl,rfl⟩:=hcs
    exact codeOf W x _ _ zs hl (by simpa using hz) hcell hwz
 obtain⟨g,t,cs,fuel,d,p',rfl,hg,ht,hvar,hd,rfl⟩:=trodVars_one hV
 obtain rfl:=Option.some.inj (gTab.symm.trans hg)
 obtain rfl:=Option.some.inj (tTab.symm.trans ht)
 have hT:=tab_of hL
 have hltv:∀ x∈p',x.block<W.heap.size:=fun x hx=>hW'.lt x (List.mem_append_right _ (List.mem_append_right _ hx))
 clear hA0 hV0 hval0 hA hV
 refine (walk a0 len0 cap0 W w0 hT).mono fun e W' ⟨he,hB⟩=>?_
 subst he
 obtain⟨fuel',hd'⟩:=Below.trod laidOut0 (by kernel_rfl) (of_decide_eq_true (by kernel_rfl)) (v:=.agg cs) (⟨fuel,by simpa [Value.cells] using hd⟩:DataW.Trod enc Tryz.prog W 0 (fun _=>true) true 144 (.agg cs) d p') hB hltv
 have hv':=trodVars_mk1 (enc:=enc) (spare:=fun b=>decide (b<W.heap.size)) hg ht (var?_below hB hg hT.1 hvar) (by simpa [Value.cells] using hd')
 exact⟨_,rfl,_,_,_,[],_,_,hW',trodAll_mk1 (shut_bool Tryz.underlying4 _),(trodAll_cons_mk (Below.trod laidOut0 (by kernel_rfl) (of_decide_eq_true (by kernel_rfl)) k0 hB lt0) trodAll_mk0),hv',hB.frame _,fun h=>by cases h⟩
theorem named0 : Tryz.prog.funcNamed "loop.example/g00226/laws.FnReached" = some 3 := by kernel_rfl
theorem closed0:joinedFacts Tryz.prog 3 Tryz.f3 Rows.fnReachedSpec Rows.fnReachedRow=true:=by
 unfold joinedFacts
 rw[seat_may,seat_lifts,seat_make]
 kernel_rfl
theorem inst0:Tryz.f3.isInstance Tryz.prog Rows.fnReachedRow.origin Rows.fnReachedRow.targs:=of_decide_eq_true (by kernel_rfl)
theorem wrap0:Tryz.f3.isWrapper Tryz.prog Rows.fnReachedRow.wrapper Rows.fnReachedRow.mainSum:=by unfold Func.isWrapper;first | (rw[if_pos (by decide +kernel)];kernel_rfl) | (rw[if_neg (by decide +kernel)];exact⟨rfl,rfl⟩)
theorem over:Rows.fnReachedRow.holds Tryz.pinned (OpenSpec.ofChange Rows.fnReachedSpec) :=
 OpenClaim.holds_of_wide 3 Tryz.f3 rfl rfl rfl rfl rfl rfl rfl ⟨rfl,rfl,rfl,rfl,rfl⟩ rfl rfl rfl rfl rfl named0 Tryz.func3 closed0 inst0 wrap0
  (fun os started H enc _=>lifted os started H enc)
theorem text0:Rows.fnReachedRow.wfByText (OpenSpec.ofChange Rows.fnReachedSpec)=true:=by kernel_rfl
theorem looks0:false=Tryz.prog.looks []:=by kernel_rfl
theorem goes0:false=Rows.fnReachedRow.goesBy Tryz.prog:=by kernel_rfl
theorem wants0:([22].all fun u => !Tryz.prog.wantsStandIn u)=true:=by kernel_rfl
theorem card:Claim7.holds Tryz.pinned (.plain (OpenSpec.ofChange Rows.fnReachedSpec)) Rows.fnReachedCard :=
 Claim7.holds_tied_plain_at .later [] [.data] true (true,Rows.fnReachedCard.stood.harness.2) false
  over (fun _ h=>by cases h) text0 (fun _ h=>by cases h) fnReached_row_tie rfl ⟨rfl,rfl⟩ seat_main rfl
  (fun f fn hf hfn => by
   obtain rfl:f=3:=Option.some.inj (named0.symm.trans hf) |>.symm
   obtain rfl:fn=Tryz.f3:=(Option.some.inj (Tryz.func3.symm.trans hfn)).symm
   exact⟨looks0,fun j t ht=>by
    rw[Tryz.params3] at ht
    have hm:t∈[22]:=by simpa using Array.mem_of_getElem? ht
    exact (show Tryz.prog.wantsStandIn t=false by simpa using List.all_eq_true.1 wants0 t hm)⟩)
  goes0
end Go.Proofs.YtglkmlfhcggckaaGreatDoor.fnReached
namespace Go.Proofs.YtglkmlfhcggckaaGreatDoor
theorem fnReached_holds:Rows.FnReachedCardSaid:=fnReached.card
end Go.Proofs.YtglkmlfhcggckaaGreatDoor
