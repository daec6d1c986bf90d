/-
 Contracts: Reached, of the program and of the model.
-/
import Derived.Test.YtglkmlfhcggckaaGreatDoorIHash
namespace Go.Proofs.YtglkmlfhcggckaaGreatDoor
open Go.RowKit
set_option linter.unusedVariables false
theorem store_400 (ps:List PairL) (h:storeOkL ps=true):ps.length≤400:=by
 simp only[storeOkL,Bool.and_eq_true,decide_eq_true_eq] at h
 exact h.1
theorem reached_no {ps:List PairL} {root:Bs} (h:¬ storeOkL ps=true):reachedR ps root=none:=by unfold reachedR;rw[if_neg h]
theorem reached_yes {ps:List PairL} {root:Bs} (h:storeOkL ps=true):reachedR ps root=reachR ps root:=by unfold reachedR;rw[if_pos h]
theorem reach_empty {ps:List PairL} {root:Bs} (h:root=emptyL):reachR ps root=some []:=by unfold reachR;rw[if_pos h]
theorem reach_out {ps:List PairL} {root:Bs} {out:List Bs} (h:¬ root=emptyL) (hs:Srch (kidsW ps) (thereN ps) root out []):reachR ps root=some (textsR out):=by
 obtain⟨h1,h2⟩:=led_end hs
 unfold reachR
 rw[if_neg h,if_pos h2,h1]
theorem reach_lost {ps:List PairL} {root:Bs} (h:¬ root=emptyL) (hn:¬ AllThere (kidsW ps) (thereN ps) root):reachR ps root=none:=by
 unfold reachR
 rw[if_neg h,if_neg]
 rw[all_no hn]
 simp
set_option maxRecDepth 100000 in
set_option maxHeartbeats 1000000 in
theorem spec_reached (a:Option Addr) (cap:Nat) (ps:List PairL) (root:Bs) (w:World) (hl:ps.length≤1048576) (hm:∀ p∈ps,p.1.length≤1048576∧p.2.length≤1048576) (hs:IsPairs w a ps) :
 Calls Tryz.prog 7 #[.slice a ps.length cap,.string ⟨root.toArray⟩] w fun e w'=>RPost w (reachedR ps root) e w':=by
 have K:=spec_storeOk a cap ps w hl hm hs
 by_cases hok:storeOkL ps=true
 · rw[hok] at K
   rw[reached_yes hok]
   have KR:Hid (∀ W,Below w.heap.size w W→Calls Tryz.prog 20 #[.slice a ps.length cap,.string ⟨root.toArray⟩] W fun e w'=>RPost W (reachR ps root) e w'):=fun W hW=>spec_l7Reached a cap ps root W hl (store_400 ps hok) hm (hs.later hW) hok
   unfold RPost at KR ⊢
   obtain⟨res,hres⟩:∃ res,res=reachR ps root:=⟨_,rfl⟩
   rw[←hres] at KR ⊢
   clear hs hm hok hres
   go_enter Tryz.func7,Tryz.ntmps7
   go_wp2_with fail
   refine K.mono ?_
   rintro e w1 ⟨rfl,b1⟩
   have K2:=KR.out w1 b1
   go_wp2_with fail
   refine K2.mono ?_
   rintro e w2 ⟨a2,m2,c2,rfl,o2,b2⟩
   have B2:=b1.trans (b2.mono b1.size)
   have O2:=hidOwn (o2.mono b1.size)
   clear o2 b2 K2 KR
   go_wp2
   go_ret2
   exact⟨a2,m2,c2,rfl,O2.out,B2⟩
 · have HN:Hid (reachedR ps root=none):=reached_no hok
   have hok':storeOkL ps=false:=by simpa using hok
   rw[hok'] at K
   obtain⟨res,hres⟩:∃ res,res=reachedR ps root:=⟨_,rfl⟩
   rw[←hres] at HN ⊢
   clear hs hm hok hok' hres
   go_enter Tryz.func7,Tryz.ntmps7
   go_wp2_with fail
   refine K.mono ?_
   rintro e w1 ⟨rfl,b1⟩
   go_wp2
   go_ret2
   exact rp_none HN.out b1
set_option maxRecDepth 100000 in
set_option maxHeartbeats 2000000 in
theorem impl_reached (a:Option Addr) (cap:Nat) (ps:List PairL) (root:Bs) (w:World) (hT:Tab w) (hl:ps.length≤1048576) (hm:∀ p∈ps,p.1.length≤1048576∧p.2.length≤1048576) (hs:IsPairs w a ps) (hr:root.length≤1048576) :
 Calls Tryz.prog 6 #[.slice a ps.length cap,.string ⟨root.toArray⟩] w fun e w'=>RPost w (reachedR ps root) e w':=by
 have K:=impl_heldNodesV a cap ps w hT hl hm hs
 have HT:Hid (Tab w):=hT
 by_cases hok:storeOkL ps=true
 · rw[hok] at K
   rw[reached_yes hok]
   have h400:=store_400 ps hok
   have KR:Hid (∀ mb W,HeldM W mb ps ps.length→Tab W→Calls Tryz.prog 17 #[.map (some mb),.string ⟨root.toArray⟩,.map (some W.heap.size)] (W.alloc (.map #[] 0)) fun e w'=>ReachP W (W.alloc (.map #[] 0)) W.heap.size ps root e w'):=fun mb W hM hTW=>impl_reach mb W.heap.size ps root W (W.alloc (.map #[] 0)) hok h400 hM ((Below.refl _ _).alloc (Nat.le_refl _) _) (Nat.le_refl _) (seen_made W) hTW hr
   have HY:Hid (∀ out,((root=emptyL∧out=[])∨(¬ root=emptyL∧Srch (kidsW ps) (thereN ps) root out []))→reachR ps root=some (textsR out)∧out.length≤400∧out.Pairwise (· ≠ ·)):=fun out h=>by
    rcases h with ⟨h1,rfl⟩ | ⟨h1,h2⟩
    · exact⟨reach_empty h1,by simp,List.Pairwise.nil⟩
    · exact⟨reach_out h1 h2,by have:=out_le h2;omega,h2.nodup⟩
   have HN:Hid (¬ root=emptyL∧¬ AllThere (kidsW ps) (thereN ps) root→reachR ps root=none):=fun h=>reach_lost h.1 h.2
   obtain⟨res,hres⟩:∃ res,res=reachR ps root:=⟨_,rfl⟩
   rw[←hres] at HY HN ⊢
   have hmm:=@run_makeMap Tryz.prog
   clear hs hm hok hres hT
   go_enter Tryz.func6,Tryz.ntmps6
   go_wp2_with fail
   refine K.mono ?_
   rintro e w1 ⟨mb,rfl,hM,hmb,b1⟩
   have K2:=KR.out mb w1 hM (HT.out.later b1)
   have hs1:=b1.size
   clear KR hM K
   go_wp2_with fail
   refine K2.mono ?_
   rintro e w3 ⟨ok,rfl,hk,hy,hn⟩
   have B3:Hid (Below w.heap.size w w3):=⟨hk.os.trans b1.os,hk.tape.trans b1.tape,hk.output.trans b1.output,by have:=hk.size;simp at this;omega,fun q hq=>(hk.block q (by simp;omega) (by omega)).trans ((Below.heap_alloc _ _ _ (by omega)).trans (b1.block q hq))⟩
   cases ok with
   | false =>
     have HNN:Hid (res=none):=HN.out (hn rfl)
     clear hk hy hn K2 HY HN
     go_wp2
     go_ret2
     exact rp_none HNN.out B3.out
   | true =>
     obtain⟨out,hse,hor⟩:=hy rfl
     obtain⟨h1,h2,h3⟩:=HY.out out hor
     have K4:=impl_hashes w1.heap.size out w3 h2 hse h3
     have HRS:Hid (res=some (textsR out)):=h1
     clear hk hy hn K2 HY HN hse hor h1 h2 h3
     go_wp2_with fail
     refine K4.mono ?_
     rintro e w4 ⟨a4,m4,c4,rfl,o4,b4⟩
     have B4:=B3.out.trans (b4.mono B3.out.size)
     have O4:=hidOwn (o4.mono B3.out.size)
     clear o4 b4 K4
     go_wp2
     go_ret2
     rw[HRS.out]
     exact⟨a4,m4,c4,rfl,O4.out,B4⟩
 · have HN:Hid (reachedR ps root=none):=reached_no hok
   have hok':storeOkL ps=false:=by simpa using hok
   rw[hok'] at K
   obtain⟨res,hres⟩:∃ res,res=reachedR ps root:=⟨_,rfl⟩
   rw[←hres] at HN ⊢
   clear hs hm hT hok hok' hres
   go_enter Tryz.func6,Tryz.ntmps6
   go_wp2_with fail
   refine K.mono ?_
   rintro e w1 ⟨rfl,b1⟩
   go_wp2
   go_ret2
   exact rp_none HN.out b1
end Go.Proofs.YtglkmlfhcggckaaGreatDoor
