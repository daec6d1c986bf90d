/-
 At every code a drawn disk whose power is lost has, when all ops are kept, the files that were seen, when none is, those that were synced, and nothing is left to be synced: FnCrashed answers true. No condition.
-/
import Derived.Test.YtlllkdioojjaeaaDrawDks
import Derived.Test.YtlllkdioojjaeaaMathCrd
import Derived.Test.YtlllkdioojjaeaaSDos
import Derived.Test.YtlllkdioojjaeaaKeepS
import Derived.Test.YtlllkdioojjaeaaNewPs
import Derived.Test.YtlllkdioojjaeaaICrs
import Derived.Deep.RegionHeld3
import Derived.ProofKit
import Derived.OpenShut
import Derived.ShutString
import Derived.ChangeOld
import Derived.Below
namespace Go.Proofs.Ytlllkdioojjaeaa.fnCrashed
open Go.ChangeShapes Go.WideShapes Go.ChangeAt Go.RowKit
open Go.ChangeMaps (open_string shut_string)
set_option linter.unusedVariables false
theorem own:ownKnob Try.prog.godebug=none:=by kernel_rfl
set_option maxRecDepth 100000 in
set_option maxHeartbeats 8000000 in
theorem walk (a0 : Option Addr) (len0 cap0 : Nat) (w : World) (w0 : Code w a0 len0) :
 Calls Try.prog 9 #[.slice a0 len0 cap0] w fun e w'=>e=.returned (.bool true)∧Below w.heap.size w w':=by
 by_cases hb:len0≤1048576
 · have HB := bigNo len0 cap0 a0 w hb
   have HC:Hid (Code w a0 len0):=w0
   obtain⟨i0,hi0,hz0,hz1,hz2⟩:=info_parts infoInt
   clear w0
   go_enter Try.func9,Try.ntmps9
   go_wp2_with fail
   refine HB.mono ?_
   rintro e w ⟨rfl,rfl⟩
   clear HB
   have HD:=drawDiskOk len0 cap0 a0 w hb HC.out
   unfold DdPost at HD
   go_wp2_with fail
   refine HD.mono ?_
   rintro e w1 ⟨x1,x2,x3,k1,k2,k3,live,safe,ops,rfl,hG,hS,hol,B1⟩
   obtain⟨wa,hwa⟩:∃ wa,wa=w1.alloc (.cells #[.slice x1 live.length k1,.slice x2 safe.length k2,.slice x3 ops.length k3] 31):=⟨_,rfl⟩
   have ba:Below w1.heap.size w1 wa:=by rw[hwa];exact (Below.refl _ _).alloc (Nat.le_refl _) _
   have XD:Hid (wa.heap[w1.heap.size]? = some (.cells #[.slice x1 live.length k1,.slice x2 safe.length k2,.slice x3 ops.length k3] 31 (0,0))):=by rw[hwa];exact heap_alloc_new w1 _
   have HBW:Hid (Below w.heap.size w wa):=B1.trans (ba.mono B1.size)
   have hGa:=hG.later ba
   have HIS:Hid (∀ W,Below wa.heap.size wa W→IsPairs W x1 live∧IsPairs W x2 safe∧IsDOps W x3 ops):=fun W hW=>⟨hGa.1.pairs.later hW,hGa.2.1.pairs.later hW,hGa.2.2.1.dops.later hW⟩
   have HCB:Hid (∀ W,Below wa.heap.size wa W→W.cell? ⟨w1.heap.size,0,none⟩=some (.slice x1 live.length k1)∧W.cell? ⟨w1.heap.size,1,none⟩=some (.slice x2 safe.length k2)∧W.cell? ⟨w1.heap.size,2,none⟩=some (.slice x3 ops.length k3)):=fun W hW=>by
    obtain⟨h1,h2,h3,_⟩:=three_cells ((hW.block _ (lt_of_block XD.out)).trans XD.out)
    exact⟨h1,h2,h3⟩
   have HSZ:=hS.1
   have hby:=dsz_bytes hS (by omega)
   have HKI:Hid (∀ W,Below wa.heap.size wa W→Calls Try.prog 15 #[.agg #[.slice x1 live.length k1,.slice x2 safe.length k2,.slice x3 ops.length k3]] W fun e w'=>e=.returned (.bool (diskOk live safe ops))∧Below W.heap.size W w'):=fun W hW=>impl_diskOk x1 x2 x3 k1 k2 k3 live safe ops W HSZ.1 HSZ.2.1 HSZ.2.2.1 HSZ.2.2.2.1 HSZ.2.2.2.2.1 HSZ.2.2.2.2.2 (HIS.out W hW).1 (HIS.out W hW).2.1 (HIS.out W hW).2.2
   have HKS:Hid (∀ W,Below wa.heap.size wa W→Calls Try.prog 13 #[.agg #[.slice x1 live.length k1,.slice x2 safe.length k2,.slice x3 ops.length k3]] W fun e w'=>e=.returned (.bool (diskOk live safe ops))∧Below W.heap.size W w'):=fun W hW=>spec_diskOk x1 x2 x3 k1 k2 k3 live safe ops W hG.2.2.2.2.1.ok HSZ.1 HSZ.2.1 HSZ.2.2.1 HSZ.2.2.2.1 HSZ.2.2.2.2.1 HSZ.2.2.2.2.2 (HIS.out W hW).1 (HIS.out W hW).2.1 (HIS.out W hW).2.2
   have HKY:Hid (∀ W,Below wa.heap.size wa W→Calls Try.prog 24 #[.agg #[.slice x1 live.length k1,.slice x2 safe.length k2,.slice x3 ops.length k3]] W fun e w'=>IPost W w' e (syncL live safe ops) (syncL live safe ops) []):=fun W hW=>impl_sync x1 x2 x3 k1 k2 k3 live safe ops W hG.2.2.2.1.ok hG.2.2.2.1.cap HSZ.1 HSZ.2.1 HSZ.2.2.1 HSZ.2.2.2.1 HSZ.2.2.2.2.1 HSZ.2.2.2.2.2 (HIS.out W hW).1 (HIS.out W hW).2.1 (HIS.out W hW).2.2
   have HKC:Hid (∀ (g c:Nat) W,Below wa.heap.size wa W→IsInts W (some ⟨g,0,none⟩) (allI ops.length)→Calls Try.prog 27 #[.agg #[.slice x1 live.length k1,.slice x2 safe.length k2,.slice x3 ops.length k3],.slice (some ⟨g,0,none⟩) ops.length c,.int .i64 1099511627776] W fun e w'=>JcPost W w' e (crashL live safe ops (allI ops.length) 1099511627776) (diskOk live safe ops)):=fun g c W hW hI=>by
    have h:=impl_crash x1 x2 x3 (some ⟨g,0,none⟩) k1 k2 k3 c live safe ops (allI ops.length) 1099511627776 W HSZ.1 HSZ.2.1 HSZ.2.2.1 HSZ.2.2.2.1 HSZ.2.2.2.2.1 HSZ.2.2.2.2.2 hby (by rw[allI_length];omega) (HIS.out W hW).1 (HIS.out W hW).2.1 (HIS.out W hW).2.2 hI
    rw[allI_length,(crash_all (T:=1099511627776) (by omega) (fun o ho=>by have:=(hS.2.1 o ho).2.2;omega)).1] at h
    exact h
   have HCA:Hid (diskOk live safe ops=true→crashL live safe ops (allI ops.length) 1099511627776=live):=(crash_all (T:=1099511627776) (by omega) (fun o ho=>by have:=(hS.2.1 o ho).2.2;omega)).2
   have HKN:Hid (∀ W,Below wa.heap.size wa W→Calls Try.prog 27 #[.agg #[.slice x1 live.length k1,.slice x2 safe.length k2,.slice x3 ops.length k3],.slice none 0 0,.int .i64 0] W fun e w'=>JcPost W w' e (crashL live safe ops [] 0) (diskOk live safe ops)):=fun W hW=>by
    have h:=impl_crash x1 x2 x3 none k1 k2 k3 0 live safe ops [] 0 W HSZ.1 HSZ.2.1 HSZ.2.2.1 HSZ.2.2.2.1 HSZ.2.2.2.2.1 HSZ.2.2.2.2.2 hby (by simp) (HIS.out W hW).1 (HIS.out W hW).2.1 (HIS.out W hW).2.2 (.inl rfl)
    rw[crash_none.1] at h
    exact h
   have HCN:Hid (diskOk live safe ops=true→crashL live safe ops [] 0=safe):=crash_none.2
   have HSY:Hid (diskOk live safe ops=true→syncL live safe ops=live):=sync_yes
   have HC0:Hid (diskOk live safe ops=false→crashL live safe ops (allI ops.length) 1099511627776=[]):=fun h=>crash_no (by rw[(crash_all (T:=1099511627776) (by omega) (fun o ho=>by have:=(hS.2.1 o ho).2.2;omega)).1];exact h)
   have HLL:Hid (live.length≤16777216∧safe.length≤16777216):=⟨by have:=HSZ.1;simp only at this;omega,by have:=HSZ.2.2.1;simp only at this;omega⟩
   have hol':ops.length≤10:=hol
   clear hG hGa hS HD B1 ba hol HSZ hby HC
   obtain⟨dk,hdk⟩:∃ x,x=diskOk live safe ops:=⟨_,rfl⟩
   rw[←hdk] at HKI HKS HKC HCA HKN HCN HSY HC0
   clear hdk
   have BR:Below wa.heap.size wa wa:=Below.refl _ _
   obtain⟨d0,d1,d2,_⟩:=three_cells XD.out
   rw[hwa] at d0 d1 d2
   go_wp2_with fail
   rw[←hwa]
   clear d0 d1 d2 hwa
   obtain⟨d0,d1,d2,_⟩:=three_cells XD.out
   go_region_held3 (fun w'=>w'.cell? ⟨w1.heap.size,0,none⟩=some (.slice x1 live.length k1)∧w'.cell? ⟨w1.heap.size,1,none⟩=some (.slice x2 safe.length k2)∧w'.cell? ⟨w1.heap.size,2,none⟩=some (.slice x3 ops.length k3))
    (first | exact HCB.out _ (by repeat' first | with_reducible exact BL.out | with_reducible exact BR | with_reducible apply below_drew1 | (with_reducible refine below_lit ?_ (Nat.le_refl _) _)))
    (first
     | (go_at_call 15
        with_reducible refine (HKI.out _ (by repeat' first | with_reducible exact BL.out | with_reducible exact BR | with_reducible apply below_drew1 | (with_reducible refine below_lit ?_ (Nat.le_refl _) _))).mono ?_
        rintro e wz ⟨rfl,b7⟩
        have BL:Hid (Below wa.heap.size wa wz):=below_via (by repeat' first | with_reducible exact BL.out | with_reducible exact BR | with_reducible apply below_drew1 | (with_reducible refine below_lit ?_ (Nat.le_refl _) _)) (Nat.le_refl _) b7
        clear b7)
     | (go_at_call 13
        with_reducible refine (HKS.out _ (by repeat' first | with_reducible exact BL.out | with_reducible exact BR | with_reducible apply below_drew1 | (with_reducible refine below_lit ?_ (Nat.le_refl _) _))).mono ?_
        rintro e wz ⟨rfl,b7⟩
        have BL:Hid (Below wa.heap.size wa wz):=below_via (by repeat' first | with_reducible exact BL.out | with_reducible exact BR | with_reducible apply below_drew1 | (with_reducible refine below_lit ?_ (Nat.le_refl _) _)) (Nat.le_refl _) b7
        clear b7))
   all_goals
    have BZ:=BL.out
    clear d0 d1 d2 BR
    have aDz:Hid (wz.heap[w1.heap.size]? = some (.cells #[.slice x1 live.length k1,.slice x2 safe.length k2,.slice x3 ops.length k3] 31 (0,0))):=(BZ.block _ (lt_of_block XD.out)).trans XD.out
    obtain⟨ln,hln⟩:∃ x,x=ops.length:=⟨_,rfl⟩
    have HLN:Hid (ln=ops.length):=hln
    have hln10:ln≤10:=by omega
    have XZ:Hid (wz.heap[w1.heap.size]? = some (.cells #[.slice x1 live.length k1,.slice x2 safe.length k2,.slice x3 ln k3] 31 (0,0))):=by rw[hln];exact aDz
    have O0:Hid ((wz.alloc (.cells #[] 2)).ownsRow wz.heap.size 2 1 (.slice (some ⟨wz.heap.size,0,none⟩) 0 0) 0 (zcells (allI 0))):=World.ownsRow_lit (e:=2) (size:=1) wz #[] 0 (base:=wz.heap.size) (Nat.le_refl _) (Nat.zero_le _) rfl
    have HB0:Hid (Below wz.heap.size wz (wz.alloc (.cells #[] 2))):=(Below.refl _ _).alloc (Nat.le_refl _) _
    clear hln
    go_wp2_with fail
    go_loopw [4,5] (fun v i wr=>∃ j g cap:Nat,j≤ln∧i=.int .i64 (j:Int)∧v=.slice (some ⟨g,0,none⟩) j cap∧Hid (wr.ownsRow wz.heap.size 2 1 (.slice (some ⟨g,0,none⟩) j cap) j (zcells (allI j)))∧Hid (Below wz.heap.size wz wr)) (fun _ i _=>ln - (intOf i).toNat)
    case atStart=>exact⟨0,wz.heap.size,0,Nat.zero_le _,rfl,rfl,O0,HB0⟩
    case round =>
     obtain⟨j,g,cap,hj,rfl,rfl,HO,HBR⟩:=hrel
     have hbg:=own_base HO.out
     obtain⟨d0,d1,d2,_⟩:=three_cells ((HBR.out.block _ (lt_of_block XZ.out)).trans XZ.out)
     clear O0 HB0
     by_cases hlt:j<ln
     · have hj0:(0:Int)≤(j:Int):=by omega
       have hj1:(j:Int)<(ln:Int):=by omega
       have HSZ9:Hid (wz.heap.size≤wr.heap.size):=HBR.out.size
       have HNW:Hid ((wr.alloc (.cells #[.int .i64 (j:Int)] 2)).heap[wr.heap.size]? = some (.cells #[.int .i64 (j:Int)] 2 (0,0))):=heap_alloc_new wr _
       go_wp2_with (at_builtin;(refine wpList_append_lies _ rfl _ _ 45 rfl wz.heap.size 2 i0 (.int .i64 0) 1 8 Try.underlying45 hi0 hz0 hz1 hz2 rfl (by decide) (.slice (some ⟨g,0,none⟩) j cap) j _ rfl (HO.out.alloc _) ⟨wr.heap.size,0,none⟩ 1 1 [.int .i64 (j:Int)] rfl rfl (World.news_of_block (cs:=#[.int .i64 (j:Int)]) (t:=2) (fr:=(0,0)) HNW.out) (by simp[Value.oneCell']) (by omega) (by unfold maxLen;omega) (by omega) (by have:=HSZ9.out;simp;omega) (wr.heap.size+1) (by simp) ?_))
       intro g2 cap2 w6 hown6 hgrow6 hat6 hlt6
       have HO6:Hid (w6.ownsRow wz.heap.size 2 1 (.slice (some ⟨g2,0,none⟩) (j+1) cap2) (j+1) (zcells (allI (j+1)))):=by rw[Hid,allI_snoc];simpa [zcells] using hown6
       have HB6:Hid (Below wz.heap.size wz w6):=(HBR.out.alloc HBR.out.size _).grown hgrow6 (by have:=HBR.out.size;simp;omega) (fun q hq=>by simp[Value.ownBlock] at hq;omega)
       clear hown6 hgrow6 hat6 hlt6 HNW d0 d1 d2
       go_wp2
       go_roundw
       case rel=>exact⟨j+1,g2,cap2,by omega,by go_num,by simp,HO6,HB6⟩
       case measure=>simp[intOf];omega
     · have hjl:j=ln:=by omega
       subst hjl
       have hq0:ops.length=j:=HLN.out.symm
       clear HLN
       subst hq0
       have bR:=HBR.out
       clear XZ
       have aDt1:Hid (wr.heap[w1.heap.size]? = some (.cells #[.slice x1 live.length k1,.slice x2 safe.length k2,.slice x3 ops.length k3] 31 (0,0))):=(bR.block (w1.heap.size) (lt_of_block aDz.out)).trans aDz.out
       clear aDz
       have Bt1:Below wa.heap.size wa wr:=BZ.trans (bR.mono BZ.size)
       clear BZ
       have HI:Hid (IsInts wr (some ⟨g,0,none⟩) (allI ops.length)):=isInts_own (allI_length _) HO.out
       clear HO HBR bR d0 d1 d2 hbg hj hlt
       obtain⟨ra,hra⟩:∃ x,x=crashL live safe ops (allI ops.length) 1099511627776:=⟨_,rfl⟩
       rw[←hra] at HKC HCA HC0
       clear hra
       obtain⟨rb,hrb⟩:∃ x,x=crashL live safe ops [] 0:=⟨_,rfl⟩
       rw[←hrb] at HKN HCN
       clear hrb
       obtain⟨ry,hry⟩:∃ x,x=syncL live safe ops:=⟨_,rfl⟩
       rw[←hry] at HKY HSY
       clear hry
       obtain⟨aD0,aD1,aD2,_⟩:=three_cells aDt1.out
       go_wp2_with fail
       have KC:=HKC.out g cap _ Bt1 HI.out
       unfold JcPost at KC
       refine KC.mono ?_
       rintro e w3 ⟨y1,y2,yk1,yk2,rfl,n1,n2,_,b9⟩
       clear KC
       clear aD0 aD1 aD2
       have aDt2:Hid (w3.heap[w1.heap.size]? = some (.cells #[.slice x1 live.length k1,.slice x2 safe.length k2,.slice x3 ops.length k3] 31 (0,0))):=(b9.block (w1.heap.size) (lt_of_block aDt1.out)).trans aDt1.out
       clear aDt1
       have Bt2:Below wa.heap.size wa w3:=Bt1.trans (b9.mono Bt1.size)
       clear Bt1
       have yr1:Hid (w3.ownsRow wr.heap.size 84 2 (.slice y1 ra.length yk1) ra.length (pcells ra)):=n1
       have yr2:Hid (w3.ownsRow wr.heap.size 84 2 (.slice y2 ra.length yk2) ra.length (pcells ra)):=n2
       clear n1 n2 b9
       have Xt3:Below w3.heap.size w3 (w3.alloc (.cells #[.slice y1 ra.length yk1,.slice y2 ra.length yk2,.slice none 0 0] 31)):=(Below.refl _ _).alloc (Nat.le_refl _) _
       have aDt4:Hid ((w3.alloc (.cells #[.slice y1 ra.length yk1,.slice y2 ra.length yk2,.slice none 0 0] 31)).heap[w1.heap.size]? = some (.cells #[.slice x1 live.length k1,.slice x2 safe.length k2,.slice x3 ops.length k3] 31 (0,0))):=(Xt3.block (w1.heap.size) (lt_of_block aDt2.out)).trans aDt2.out
       clear aDt2
       have yR1t4:Hid ((w3.alloc (.cells #[.slice y1 ra.length yk1,.slice y2 ra.length yk2,.slice none 0 0] 31)).ownsRow wr.heap.size 84 2 (Value.slice y1 ra.length yk1) ra.length (pcells ra)):=kept2 yr1.out Xt3
       clear yr1
       have yR2t4:Hid ((w3.alloc (.cells #[.slice y1 ra.length yk1,.slice y2 ra.length yk2,.slice none 0 0] 31)).ownsRow wr.heap.size 84 2 (Value.slice y2 ra.length yk2) ra.length (pcells ra)):=kept2 yr2.out Xt3
       clear yr2
       have Bt4:Below wa.heap.size wa (w3.alloc (.cells #[.slice y1 ra.length yk1,.slice y2 ra.length yk2,.slice none 0 0] 31)):=Bt2.trans (Xt3.mono Bt2.size)
       clear Bt2
       clear Xt3
       have bAt3:Hid ((w3.alloc (.cells #[.slice y1 ra.length yk1,.slice y2 ra.length yk2,.slice none 0 0] 31)).heap[w3.heap.size]? = some (.cells #[.slice y1 ra.length yk1,.slice y2 ra.length yk2,.slice none 0 0] 31 (0,0))):=heap_alloc_new w3 _
       clear HI HKC
       obtain⟨aD0,aD1,aD2,_⟩:=three_cells aDt4.out
       go_wp2_with fail
       have KC:=HKN.out _ Bt4
       unfold JcPost at KC
       refine KC.mono ?_
       rintro e w4 ⟨z1,z2,zk1,zk2,rfl,n1,n2,_,b9⟩
       clear KC
       clear aD0 aD1 aD2
       have aDt5:Hid (w4.heap[w1.heap.size]? = some (.cells #[.slice x1 live.length k1,.slice x2 safe.length k2,.slice x3 ops.length k3] 31 (0,0))):=(b9.block (w1.heap.size) (lt_of_block aDt4.out)).trans aDt4.out
       clear aDt4
       have yR1t5:Hid (w4.ownsRow wr.heap.size 84 2 (Value.slice y1 ra.length yk1) ra.length (pcells ra)):=kept2 yR1t4.out b9
       clear yR1t4
       have yR2t5:Hid (w4.ownsRow wr.heap.size 84 2 (Value.slice y2 ra.length yk2) ra.length (pcells ra)):=kept2 yR2t4.out b9
       clear yR2t4
       have bAt5:Hid (w4.heap[w3.heap.size]? = some (.cells #[.slice y1 ra.length yk1,.slice y2 ra.length yk2,.slice none 0 0] 31 (0,0))):=(b9.block (w3.heap.size) (lt_of_block bAt3.out)).trans bAt3.out
       clear bAt3
       have Bt5:Below wa.heap.size wa w4:=Bt4.trans (b9.mono Bt4.size)
       clear Bt4
       have zr1:Hid (w4.ownsRow (w3.alloc (.cells #[.slice y1 ra.length yk1,.slice y2 ra.length yk2,.slice none 0 0] 31)).heap.size 84 2 (.slice z1 rb.length zk1) rb.length (pcells rb)):=n1
       have zr2:Hid (w4.ownsRow (w3.alloc (.cells #[.slice y1 ra.length yk1,.slice y2 ra.length yk2,.slice none 0 0] 31)).heap.size 84 2 (.slice z2 rb.length zk2) rb.length (pcells rb)):=n2
       clear n1 n2 b9
       have Xt6:Below w4.heap.size w4 (w4.alloc (.cells #[.slice z1 rb.length zk1,.slice z2 rb.length zk2,.slice none 0 0] 31)):=(Below.refl _ _).alloc (Nat.le_refl _) _
       have aDt7:Hid ((w4.alloc (.cells #[.slice z1 rb.length zk1,.slice z2 rb.length zk2,.slice none 0 0] 31)).heap[w1.heap.size]? = some (.cells #[.slice x1 live.length k1,.slice x2 safe.length k2,.slice x3 ops.length k3] 31 (0,0))):=(Xt6.block (w1.heap.size) (lt_of_block aDt5.out)).trans aDt5.out
       clear aDt5
       have yR1t7:Hid ((w4.alloc (.cells #[.slice z1 rb.length zk1,.slice z2 rb.length zk2,.slice none 0 0] 31)).ownsRow wr.heap.size 84 2 (Value.slice y1 ra.length yk1) ra.length (pcells ra)):=kept2 yR1t5.out Xt6
       clear yR1t5
       have yR2t7:Hid ((w4.alloc (.cells #[.slice z1 rb.length zk1,.slice z2 rb.length zk2,.slice none 0 0] 31)).ownsRow wr.heap.size 84 2 (Value.slice y2 ra.length yk2) ra.length (pcells ra)):=kept2 yR2t5.out Xt6
       clear yR2t5
       have bAt7:Hid ((w4.alloc (.cells #[.slice z1 rb.length zk1,.slice z2 rb.length zk2,.slice none 0 0] 31)).heap[w3.heap.size]? = some (.cells #[.slice y1 ra.length yk1,.slice y2 ra.length yk2,.slice none 0 0] 31 (0,0))):=(Xt6.block (w3.heap.size) (lt_of_block bAt5.out)).trans bAt5.out
       clear bAt5
       have zR1t7:Hid ((w4.alloc (.cells #[.slice z1 rb.length zk1,.slice z2 rb.length zk2,.slice none 0 0] 31)).ownsRow (w3.alloc (.cells #[.slice y1 ra.length yk1,.slice y2 ra.length yk2,.slice none 0 0] 31)).heap.size 84 2 (Value.slice z1 rb.length zk1) rb.length (pcells rb)):=kept2 zr1.out Xt6
       clear zr1
       have zR2t7:Hid ((w4.alloc (.cells #[.slice z1 rb.length zk1,.slice z2 rb.length zk2,.slice none 0 0] 31)).ownsRow (w3.alloc (.cells #[.slice y1 ra.length yk1,.slice y2 ra.length yk2,.slice none 0 0] 31)).heap.size 84 2 (Value.slice z2 rb.length zk2) rb.length (pcells rb)):=kept2 zr2.out Xt6
       clear zr2
       have Bt7:Below wa.heap.size wa (w4.alloc (.cells #[.slice z1 rb.length zk1,.slice z2 rb.length zk2,.slice none 0 0] 31)):=Bt5.trans (Xt6.mono Bt5.size)
       clear Bt5
       clear Xt6
       have bBt6:Hid ((w4.alloc (.cells #[.slice z1 rb.length zk1,.slice z2 rb.length zk2,.slice none 0 0] 31)).heap[w4.heap.size]? = some (.cells #[.slice z1 rb.length zk1,.slice z2 rb.length zk2,.slice none 0 0] 31 (0,0))):=heap_alloc_new w4 _
       obtain⟨aD0,aD1,aD2,_⟩:=three_cells aDt7.out
       go_wp2_with fail
       refine (HKI.out _ Bt7).mono ?_
       rintro e w5 ⟨rfl,b9⟩
       clear aD0 aD1 aD2
       have aDt8:Hid (w5.heap[w1.heap.size]? = some (.cells #[.slice x1 live.length k1,.slice x2 safe.length k2,.slice x3 ops.length k3] 31 (0,0))):=(b9.block (w1.heap.size) (lt_of_block aDt7.out)).trans aDt7.out
       clear aDt7
       have yR1t8:Hid (w5.ownsRow wr.heap.size 84 2 (Value.slice y1 ra.length yk1) ra.length (pcells ra)):=kept2 yR1t7.out b9
       clear yR1t7
       have yR2t8:Hid (w5.ownsRow wr.heap.size 84 2 (Value.slice y2 ra.length yk2) ra.length (pcells ra)):=kept2 yR2t7.out b9
       clear yR2t7
       have bAt8:Hid (w5.heap[w3.heap.size]? = some (.cells #[.slice y1 ra.length yk1,.slice y2 ra.length yk2,.slice none 0 0] 31 (0,0))):=(b9.block (w3.heap.size) (lt_of_block bAt7.out)).trans bAt7.out
       clear bAt7
       have zR1t8:Hid (w5.ownsRow (w3.alloc (.cells #[.slice y1 ra.length yk1,.slice y2 ra.length yk2,.slice none 0 0] 31)).heap.size 84 2 (Value.slice z1 rb.length zk1) rb.length (pcells rb)):=kept2 zR1t7.out b9
       clear zR1t7
       have zR2t8:Hid (w5.ownsRow (w3.alloc (.cells #[.slice y1 ra.length yk1,.slice y2 ra.length yk2,.slice none 0 0] 31)).heap.size 84 2 (Value.slice z2 rb.length zk2) rb.length (pcells rb)):=kept2 zR2t7.out b9
       clear zR2t7
       have bBt8:Hid (w5.heap[w4.heap.size]? = some (.cells #[.slice z1 rb.length zk1,.slice z2 rb.length zk2,.slice none 0 0] 31 (0,0))):=(b9.block (w4.heap.size) (lt_of_block bBt6.out)).trans bBt6.out
       clear bBt6
       have Bt8:Below wa.heap.size wa w5:=Bt7.trans (b9.mono Bt7.size)
       clear Bt7
       clear b9 HKN HKI HKS
       cases dk with
       | false =>
         have e1:ra=[]:=HC0.out rfl
         subst e1
         obtain⟨bA0,bA1,bA2,_⟩:=three_cells bAt8.out
         go_wp2
         go_ret
         exact⟨rfl,HBW.out.trans (Bt8.mono HBW.out.size)⟩
       | true =>
         have e1:Hid (ra=live):=HCA.out rfl
         have e2:Hid (rb=safe):=HCN.out rfl
         have e3:Hid (ry=live):=HSY.out rfl
         clear HCA HCN HSY HC0
         obtain⟨aD0,aD1,aD2,_⟩:=three_cells aDt8.out
         go_wp2_with fail
         have KY:=HKY.out _ Bt8
         unfold IPost at KY
         refine KY.mono ?_
         rintro e w6 ⟨s1,s2,s3,sk1,sk2,sk3,rfl,n1,n2,n3,_,b9⟩
         clear KY HKY
         clear aD0 aD1 aD2
         have aDt9:Hid (w6.heap[w1.heap.size]? = some (.cells #[.slice x1 live.length k1,.slice x2 safe.length k2,.slice x3 ops.length k3] 31 (0,0))):=(b9.block (w1.heap.size) (lt_of_block aDt8.out)).trans aDt8.out
         clear aDt8
         have yR1t9:Hid (w6.ownsRow wr.heap.size 84 2 (Value.slice y1 ra.length yk1) ra.length (pcells ra)):=kept2 yR1t8.out b9
         clear yR1t8
         have yR2t9:Hid (w6.ownsRow wr.heap.size 84 2 (Value.slice y2 ra.length yk2) ra.length (pcells ra)):=kept2 yR2t8.out b9
         clear yR2t8
         have bAt9:Hid (w6.heap[w3.heap.size]? = some (.cells #[.slice y1 ra.length yk1,.slice y2 ra.length yk2,.slice none 0 0] 31 (0,0))):=(b9.block (w3.heap.size) (lt_of_block bAt8.out)).trans bAt8.out
         clear bAt8
         have zR1t9:Hid (w6.ownsRow (w3.alloc (.cells #[.slice y1 ra.length yk1,.slice y2 ra.length yk2,.slice none 0 0] 31)).heap.size 84 2 (Value.slice z1 rb.length zk1) rb.length (pcells rb)):=kept2 zR1t8.out b9
         clear zR1t8
         have zR2t9:Hid (w6.ownsRow (w3.alloc (.cells #[.slice y1 ra.length yk1,.slice y2 ra.length yk2,.slice none 0 0] 31)).heap.size 84 2 (Value.slice z2 rb.length zk2) rb.length (pcells rb)):=kept2 zR2t8.out b9
         clear zR2t8
         have bBt9:Hid (w6.heap[w4.heap.size]? = some (.cells #[.slice z1 rb.length zk1,.slice z2 rb.length zk2,.slice none 0 0] 31 (0,0))):=(b9.block (w4.heap.size) (lt_of_block bBt8.out)).trans bBt8.out
         clear bBt8
         have Bt9:Below wa.heap.size wa w6:=Bt8.trans (b9.mono Bt8.size)
         clear Bt8
         have sr2:Hid (w6.ownsRow w5.heap.size 84 2 (.slice s2 ry.length sk2) ry.length (pcells ry)):=n2
         clear n1 n2 n3 b9
         have Xt10:Below w6.heap.size w6 (w6.alloc (.cells #[.slice s1 ry.length sk1,.slice s2 ry.length sk2,.slice s3 0 sk3] 31)):=(Below.refl _ _).alloc (Nat.le_refl _) _
         have aDt11:Hid ((w6.alloc (.cells #[.slice s1 ry.length sk1,.slice s2 ry.length sk2,.slice s3 0 sk3] 31)).heap[w1.heap.size]? = some (.cells #[.slice x1 live.length k1,.slice x2 safe.length k2,.slice x3 ops.length k3] 31 (0,0))):=(Xt10.block (w1.heap.size) (lt_of_block aDt9.out)).trans aDt9.out
         clear aDt9
         have yR1t11:Hid ((w6.alloc (.cells #[.slice s1 ry.length sk1,.slice s2 ry.length sk2,.slice s3 0 sk3] 31)).ownsRow wr.heap.size 84 2 (Value.slice y1 ra.length yk1) ra.length (pcells ra)):=kept2 yR1t9.out Xt10
         clear yR1t9
         have yR2t11:Hid ((w6.alloc (.cells #[.slice s1 ry.length sk1,.slice s2 ry.length sk2,.slice s3 0 sk3] 31)).ownsRow wr.heap.size 84 2 (Value.slice y2 ra.length yk2) ra.length (pcells ra)):=kept2 yR2t9.out Xt10
         clear yR2t9
         have bAt11:Hid ((w6.alloc (.cells #[.slice s1 ry.length sk1,.slice s2 ry.length sk2,.slice s3 0 sk3] 31)).heap[w3.heap.size]? = some (.cells #[.slice y1 ra.length yk1,.slice y2 ra.length yk2,.slice none 0 0] 31 (0,0))):=(Xt10.block (w3.heap.size) (lt_of_block bAt9.out)).trans bAt9.out
         clear bAt9
         have zR1t11:Hid ((w6.alloc (.cells #[.slice s1 ry.length sk1,.slice s2 ry.length sk2,.slice s3 0 sk3] 31)).ownsRow (w3.alloc (.cells #[.slice y1 ra.length yk1,.slice y2 ra.length yk2,.slice none 0 0] 31)).heap.size 84 2 (Value.slice z1 rb.length zk1) rb.length (pcells rb)):=kept2 zR1t9.out Xt10
         clear zR1t9
         have zR2t11:Hid ((w6.alloc (.cells #[.slice s1 ry.length sk1,.slice s2 ry.length sk2,.slice s3 0 sk3] 31)).ownsRow (w3.alloc (.cells #[.slice y1 ra.length yk1,.slice y2 ra.length yk2,.slice none 0 0] 31)).heap.size 84 2 (Value.slice z2 rb.length zk2) rb.length (pcells rb)):=kept2 zR2t9.out Xt10
         clear zR2t9
         have bBt11:Hid ((w6.alloc (.cells #[.slice s1 ry.length sk1,.slice s2 ry.length sk2,.slice s3 0 sk3] 31)).heap[w4.heap.size]? = some (.cells #[.slice z1 rb.length zk1,.slice z2 rb.length zk2,.slice none 0 0] 31 (0,0))):=(Xt10.block (w4.heap.size) (lt_of_block bBt9.out)).trans bBt9.out
         clear bBt9
         have sR2t11:Hid ((w6.alloc (.cells #[.slice s1 ry.length sk1,.slice s2 ry.length sk2,.slice s3 0 sk3] 31)).ownsRow w5.heap.size 84 2 (Value.slice s2 ry.length sk2) ry.length (pcells ry)):=kept2 sr2.out Xt10
         clear sr2
         have Bt11:Below wa.heap.size wa (w6.alloc (.cells #[.slice s1 ry.length sk1,.slice s2 ry.length sk2,.slice s3 0 sk3] 31)):=Bt9.trans (Xt10.mono Bt9.size)
         clear Bt9
         clear Xt10
         have bSt10:Hid ((w6.alloc (.cells #[.slice s1 ry.length sk1,.slice s2 ry.length sk2,.slice s3 0 sk3] 31)).heap[w6.heap.size]? = some (.cells #[.slice s1 ry.length sk1,.slice s2 ry.length sk2,.slice s3 0 sk3] 31 (0,0))):=heap_alloc_new w6 _
         obtain⟨bA0,bA1,bA2,_⟩:=three_cells bAt11.out
         obtain⟨aD0,aD1,aD2,_⟩:=three_cells aDt11.out
         go_wp2_with fail
         have KF:=same_files y1 x1 yk1 k1 ra live (w6.alloc (.cells #[.slice s1 ry.length sk1,.slice s2 ry.length sk2,.slice s3 0 sk3] 31)) (by rw[e1.out];exact HLL.out.1) HLL.out.1 (isPairs_own yR1t11.out).2.2 (HIS.out _ Bt11).1
         rw[decide_eq_true e1.out] at KF
         refine KF.mono ?_
         rintro e w7 ⟨rfl,b9⟩
         clear KF
         clear bA0 bA1 bA2
         clear aD0 aD1 aD2
         have aDt12:Hid (w7.heap[w1.heap.size]? = some (.cells #[.slice x1 live.length k1,.slice x2 safe.length k2,.slice x3 ops.length k3] 31 (0,0))):=(b9.block (w1.heap.size) (lt_of_block aDt11.out)).trans aDt11.out
         clear aDt11
         have yR1t12:Hid (w7.ownsRow wr.heap.size 84 2 (Value.slice y1 ra.length yk1) ra.length (pcells ra)):=kept2 yR1t11.out b9
         clear yR1t11
         have yR2t12:Hid (w7.ownsRow wr.heap.size 84 2 (Value.slice y2 ra.length yk2) ra.length (pcells ra)):=kept2 yR2t11.out b9
         clear yR2t11
         have bAt12:Hid (w7.heap[w3.heap.size]? = some (.cells #[.slice y1 ra.length yk1,.slice y2 ra.length yk2,.slice none 0 0] 31 (0,0))):=(b9.block (w3.heap.size) (lt_of_block bAt11.out)).trans bAt11.out
         clear bAt11
         have zR1t12:Hid (w7.ownsRow (w3.alloc (.cells #[.slice y1 ra.length yk1,.slice y2 ra.length yk2,.slice none 0 0] 31)).heap.size 84 2 (Value.slice z1 rb.length zk1) rb.length (pcells rb)):=kept2 zR1t11.out b9
         clear zR1t11
         have zR2t12:Hid (w7.ownsRow (w3.alloc (.cells #[.slice y1 ra.length yk1,.slice y2 ra.length yk2,.slice none 0 0] 31)).heap.size 84 2 (Value.slice z2 rb.length zk2) rb.length (pcells rb)):=kept2 zR2t11.out b9
         clear zR2t11
         have bBt12:Hid (w7.heap[w4.heap.size]? = some (.cells #[.slice z1 rb.length zk1,.slice z2 rb.length zk2,.slice none 0 0] 31 (0,0))):=(b9.block (w4.heap.size) (lt_of_block bBt11.out)).trans bBt11.out
         clear bBt11
         have sR2t12:Hid (w7.ownsRow w5.heap.size 84 2 (Value.slice s2 ry.length sk2) ry.length (pcells ry)):=kept2 sR2t11.out b9
         clear sR2t11
         have bSt12:Hid (w7.heap[w6.heap.size]? = some (.cells #[.slice s1 ry.length sk1,.slice s2 ry.length sk2,.slice s3 0 sk3] 31 (0,0))):=(b9.block (w6.heap.size) (lt_of_block bSt10.out)).trans bSt10.out
         clear bSt10
         have Bt12:Below wa.heap.size wa w7:=Bt11.trans (b9.mono Bt11.size)
         clear Bt11
         clear b9
         obtain⟨bA0,bA1,bA2,_⟩:=three_cells bAt12.out
         obtain⟨aD0,aD1,aD2,_⟩:=three_cells aDt12.out
         go_wp2_with fail
         have KF:=same_files y2 x1 yk2 k1 ra live w7 (by rw[e1.out];exact HLL.out.1) HLL.out.1 (isPairs_own yR2t12.out).2.2 (HIS.out _ Bt12).1
         rw[decide_eq_true e1.out] at KF
         refine KF.mono ?_
         rintro e w8 ⟨rfl,b9⟩
         clear KF
         clear bA0 bA1 bA2
         clear aD0 aD1 aD2
         have aDt13:Hid (w8.heap[w1.heap.size]? = some (.cells #[.slice x1 live.length k1,.slice x2 safe.length k2,.slice x3 ops.length k3] 31 (0,0))):=(b9.block (w1.heap.size) (lt_of_block aDt12.out)).trans aDt12.out
         clear aDt12
         have yR1t13:Hid (w8.ownsRow wr.heap.size 84 2 (Value.slice y1 ra.length yk1) ra.length (pcells ra)):=kept2 yR1t12.out b9
         clear yR1t12
         have yR2t13:Hid (w8.ownsRow wr.heap.size 84 2 (Value.slice y2 ra.length yk2) ra.length (pcells ra)):=kept2 yR2t12.out b9
         clear yR2t12
         have bAt13:Hid (w8.heap[w3.heap.size]? = some (.cells #[.slice y1 ra.length yk1,.slice y2 ra.length yk2,.slice none 0 0] 31 (0,0))):=(b9.block (w3.heap.size) (lt_of_block bAt12.out)).trans bAt12.out
         clear bAt12
         have zR1t13:Hid (w8.ownsRow (w3.alloc (.cells #[.slice y1 ra.length yk1,.slice y2 ra.length yk2,.slice none 0 0] 31)).heap.size 84 2 (Value.slice z1 rb.length zk1) rb.length (pcells rb)):=kept2 zR1t12.out b9
         clear zR1t12
         have zR2t13:Hid (w8.ownsRow (w3.alloc (.cells #[.slice y1 ra.length yk1,.slice y2 ra.length yk2,.slice none 0 0] 31)).heap.size 84 2 (Value.slice z2 rb.length zk2) rb.length (pcells rb)):=kept2 zR2t12.out b9
         clear zR2t12
         have bBt13:Hid (w8.heap[w4.heap.size]? = some (.cells #[.slice z1 rb.length zk1,.slice z2 rb.length zk2,.slice none 0 0] 31 (0,0))):=(b9.block (w4.heap.size) (lt_of_block bBt12.out)).trans bBt12.out
         clear bBt12
         have sR2t13:Hid (w8.ownsRow w5.heap.size 84 2 (Value.slice s2 ry.length sk2) ry.length (pcells ry)):=kept2 sR2t12.out b9
         clear sR2t12
         have bSt13:Hid (w8.heap[w6.heap.size]? = some (.cells #[.slice s1 ry.length sk1,.slice s2 ry.length sk2,.slice s3 0 sk3] 31 (0,0))):=(b9.block (w6.heap.size) (lt_of_block bSt12.out)).trans bSt12.out
         clear bSt12
         have Bt13:Below wa.heap.size wa w8:=Bt12.trans (b9.mono Bt12.size)
         clear Bt12
         clear b9
         obtain⟨bB0,bB1,bB2,_⟩:=three_cells bBt13.out
         obtain⟨aD0,aD1,aD2,_⟩:=three_cells aDt13.out
         go_wp2_with fail
         have KF:=same_files z1 x2 zk1 k2 rb safe w8 (by rw[e2.out];exact HLL.out.2) HLL.out.2 (isPairs_own zR1t13.out).2.2 (HIS.out _ Bt13).2.1
         rw[decide_eq_true e2.out] at KF
         refine KF.mono ?_
         rintro e w9 ⟨rfl,b9⟩
         clear KF
         clear bB0 bB1 bB2
         clear aD0 aD1 aD2
         have aDt14:Hid (w9.heap[w1.heap.size]? = some (.cells #[.slice x1 live.length k1,.slice x2 safe.length k2,.slice x3 ops.length k3] 31 (0,0))):=(b9.block (w1.heap.size) (lt_of_block aDt13.out)).trans aDt13.out
         clear aDt13
         have yR1t14:Hid (w9.ownsRow wr.heap.size 84 2 (Value.slice y1 ra.length yk1) ra.length (pcells ra)):=kept2 yR1t13.out b9
         clear yR1t13
         have yR2t14:Hid (w9.ownsRow wr.heap.size 84 2 (Value.slice y2 ra.length yk2) ra.length (pcells ra)):=kept2 yR2t13.out b9
         clear yR2t13
         have bAt14:Hid (w9.heap[w3.heap.size]? = some (.cells #[.slice y1 ra.length yk1,.slice y2 ra.length yk2,.slice none 0 0] 31 (0,0))):=(b9.block (w3.heap.size) (lt_of_block bAt13.out)).trans bAt13.out
         clear bAt13
         have zR1t14:Hid (w9.ownsRow (w3.alloc (.cells #[.slice y1 ra.length yk1,.slice y2 ra.length yk2,.slice none 0 0] 31)).heap.size 84 2 (Value.slice z1 rb.length zk1) rb.length (pcells rb)):=kept2 zR1t13.out b9
         clear zR1t13
         have zR2t14:Hid (w9.ownsRow (w3.alloc (.cells #[.slice y1 ra.length yk1,.slice y2 ra.length yk2,.slice none 0 0] 31)).heap.size 84 2 (Value.slice z2 rb.length zk2) rb.length (pcells rb)):=kept2 zR2t13.out b9
         clear zR2t13
         have bBt14:Hid (w9.heap[w4.heap.size]? = some (.cells #[.slice z1 rb.length zk1,.slice z2 rb.length zk2,.slice none 0 0] 31 (0,0))):=(b9.block (w4.heap.size) (lt_of_block bBt13.out)).trans bBt13.out
         clear bBt13
         have sR2t14:Hid (w9.ownsRow w5.heap.size 84 2 (Value.slice s2 ry.length sk2) ry.length (pcells ry)):=kept2 sR2t13.out b9
         clear sR2t13
         have bSt14:Hid (w9.heap[w6.heap.size]? = some (.cells #[.slice s1 ry.length sk1,.slice s2 ry.length sk2,.slice s3 0 sk3] 31 (0,0))):=(b9.block (w6.heap.size) (lt_of_block bSt13.out)).trans bSt13.out
         clear bSt13
         have Bt14:Below wa.heap.size wa w9:=Bt13.trans (b9.mono Bt13.size)
         clear Bt13
         clear b9
         obtain⟨bA0,bA1,bA2,_⟩:=three_cells bAt14.out
         obtain⟨bB0,bB1,bB2,_⟩:=three_cells bBt14.out
         obtain⟨bS0,bS1,bS2,_⟩:=three_cells bSt14.out
         obtain⟨aD0,aD1,aD2,_⟩:=three_cells aDt14.out
         go_wp2_with fail
         have KF:=same_files s2 x1 sk2 k1 ry live w9 (by rw[e3.out];exact HLL.out.1) HLL.out.1 (isPairs_own sR2t14.out).2.2 (HIS.out _ Bt14).1
         rw[decide_eq_true e3.out] at KF
         refine KF.mono ?_
         rintro e wf ⟨rfl,b9⟩
         clear KF
         clear bA0 bA1 bA2
         clear bB0 bB1 bB2
         clear bS0 bS1 bS2
         clear aD0 aD1 aD2
         have aDt15:Hid (wf.heap[w1.heap.size]? = some (.cells #[.slice x1 live.length k1,.slice x2 safe.length k2,.slice x3 ops.length k3] 31 (0,0))):=(b9.block (w1.heap.size) (lt_of_block aDt14.out)).trans aDt14.out
         clear aDt14
         have yR1t15:Hid (wf.ownsRow wr.heap.size 84 2 (Value.slice y1 ra.length yk1) ra.length (pcells ra)):=kept2 yR1t14.out b9
         clear yR1t14
         have yR2t15:Hid (wf.ownsRow wr.heap.size 84 2 (Value.slice y2 ra.length yk2) ra.length (pcells ra)):=kept2 yR2t14.out b9
         clear yR2t14
         have bAt15:Hid (wf.heap[w3.heap.size]? = some (.cells #[.slice y1 ra.length yk1,.slice y2 ra.length yk2,.slice none 0 0] 31 (0,0))):=(b9.block (w3.heap.size) (lt_of_block bAt14.out)).trans bAt14.out
         clear bAt14
         have zR1t15:Hid (wf.ownsRow (w3.alloc (.cells #[.slice y1 ra.length yk1,.slice y2 ra.length yk2,.slice none 0 0] 31)).heap.size 84 2 (Value.slice z1 rb.length zk1) rb.length (pcells rb)):=kept2 zR1t14.out b9
         clear zR1t14
         have zR2t15:Hid (wf.ownsRow (w3.alloc (.cells #[.slice y1 ra.length yk1,.slice y2 ra.length yk2,.slice none 0 0] 31)).heap.size 84 2 (Value.slice z2 rb.length zk2) rb.length (pcells rb)):=kept2 zR2t14.out b9
         clear zR2t14
         have bBt15:Hid (wf.heap[w4.heap.size]? = some (.cells #[.slice z1 rb.length zk1,.slice z2 rb.length zk2,.slice none 0 0] 31 (0,0))):=(b9.block (w4.heap.size) (lt_of_block bBt14.out)).trans bBt14.out
         clear bBt14
         have sR2t15:Hid (wf.ownsRow w5.heap.size 84 2 (Value.slice s2 ry.length sk2) ry.length (pcells ry)):=kept2 sR2t14.out b9
         clear sR2t14
         have bSt15:Hid (wf.heap[w6.heap.size]? = some (.cells #[.slice s1 ry.length sk1,.slice s2 ry.length sk2,.slice s3 0 sk3] 31 (0,0))):=(b9.block (w6.heap.size) (lt_of_block bSt14.out)).trans bSt14.out
         clear bSt14
         have Bt15:Below wa.heap.size wa wf:=Bt14.trans (b9.mono Bt14.size)
         clear Bt14
         clear b9
         obtain⟨bS0,bS1,bS2,_⟩:=three_cells bSt15.out
         go_wp2
         go_ret
         exact⟨rfl,HBW.out.trans (Bt15.mono HBW.out.size)⟩
 · have HB:=bigYes len0 cap0 a0 w hb
   clear w0
   go_enter Try.func9,Try.ntmps9
   go_wp2_with fail
   refine HB.mono ?_
   rintro e w ⟨rfl,rfl⟩
   clear HB
   go_wp2
   go_ret
   exact⟨rfl,Below.refl _ _⟩
set_option maxRecDepth 100000 in
theorem lifted (os:Os) (started:os.Started) (H:Type) (enc:TypeId × Value→H) :
 ReturnsInHanded {} Try.checked os 9 .any (Rows.fnCrashedSpec.pre6 enc Try.prog Try.f9 Rows.fnCrashedRow.domain false) (Rows.fnCrashedSpec.post enc Try.prog Try.f9 false true false false):=by
 refine returnsInHanded_of_change (C:=Try.checked) own started (by kernel_rfl) Try.func9
  (ChangeSpec.witness6 (enc:=enc) (C:=Try.checked) false ⟨#[],#[.slice none 0 0],[]⟩ 8 (by kernel_rfl) (by kernel_rfl) (by kernel_rfl) (by kernel_rfl)) ?_
 intro W base args ds gs before hval0 hW hcnd _
 have hval:∀ (j:Nat) t v,Try.f9.params[j]? = some t→args[j]? = some v→Value.okWide Try.prog W .any base t v:=hval0
 have hW':=hW
 obtain⟨p,q,hA0,hV,rfl,hfz,hnd⟩:=hW
 have hA:DataW.TrodAll enc Try.prog W 0 (fun _=>true) true Try.f9.params.toList args.toList ds p:=hA0
 rw[Try.params9] at hA hval
 obtain⟨v0,vs0,d0,ds0,p0,q0,hargs,rfl,rfl,h0,r0⟩:=trodAll_cons hA
 obtain⟨rfl,rfl,rfl⟩:=trodAll_nil r0
 obtain rfl:args=#[v0]:=by cases args;simp_all
 obtain⟨rfl,rfl⟩:=trodVars_none hV
 obtain⟨a0,len0,cap0,rfl⟩:=okWide_slice Try.underlying57 (hval 0 57 v0 rfl rfl)
 have k0:=h0
 have lt0:∀ x∈p0,x.block<W.heap.size:=by obtain⟨m,hm⟩:=k0;exact DataW.trod_lt m _ _ _ hm
 have w0:Code W a0 len0:=by
  obtain⟨fuel,hf⟩:=h0
  rcases open_ints Try.underlying57 Try.underlying5 (by kernel_rfl) hf with ⟨hcs,_⟩ | ⟨x,l,c,zs,hcs,_,hl,hm,hz,_,hcell,hwz⟩
  · simp[Value.cells] at hcs
    obtain⟨rfl,rfl,rfl⟩:=hcs
    exact .inl rfl
  · simp[Value.cells] at hcs
    obtain⟨rfl,rfl,rfl⟩:=hcs
    exact codeOf W x _ _ zs hl (by simpa using hz) hcell hwz
 clear hA0 hval0
 refine (walk a0 len0 cap0 W w0).mono fun e W' ⟨he,bel⟩=>?_
 subst he
 exact⟨_,rfl,_,_,_,[],_,[],hW',trodAll_mk1 (shut_bool Try.underlying4 _),(trodAll_cons_mk (Below.trod laidOut (by kernel_rfl) (of_decide_eq_true (by kernel_rfl)) k0 bel lt0) trodAll_mk0),rfl,bel.frame _,fun h=>by cases h⟩
theorem over:Rows.fnCrashedRow.holds Try.pinned (OpenSpec.ofChange Rows.fnCrashedSpec) :=
 OpenClaim.holds_of_wide 9 Try.f9 rfl rfl rfl rfl rfl rfl rfl ⟨rfl,rfl,rfl,rfl,rfl⟩ rfl rfl rfl rfl rfl (by kernel_rfl) Try.func9 (by kernel_rfl)
  (of_decide_eq_true (by kernel_rfl)) (by unfold Func.isWrapper;first | (rw[if_pos (by decide +kernel)];kernel_rfl) | (rw[if_neg (by decide +kernel)];exact⟨rfl,rfl⟩))
  (fun os started H enc _=>lifted os started H enc)
end Go.Proofs.Ytlllkdioojjaeaa.fnCrashed
namespace Go.Proofs.Ytlllkdioojjaeaa
theorem fnCrashed_holds:Rows.FnCrashedSaid:=fnCrashed.over
end Go.Proofs.Ytlllkdioojjaeaa
