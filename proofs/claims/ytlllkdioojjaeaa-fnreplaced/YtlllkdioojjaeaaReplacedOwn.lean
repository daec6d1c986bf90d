/-
 At every code a file that is replaced on a drawn disk whose power is lost reads as it was or as the new one: FnReplaced answers true. No condition.
-/
import Derived.Test.YtlllkdioojjaeaaDrawRp
import Derived.Test.YtlllkdioojjaeaaMathRpd
import Derived.Test.YtlllkdioojjaeaaMathDn
import Derived.Test.YtlllkdioojjaeaaKeepS
import Derived.Test.YtlllkdioojjaeaaNewPs
import Derived.Test.YtlllkdioojjaeaaICrs
import Derived.Test.YtlllkdioojjaeaaIRep
import Derived.Test.YtlllkdioojjaeaaSRep
import Derived.Test.YtlllkdioojjaeaaIReadF
import Derived.Deep.RegionHeld3
import Derived.ProofKit
import Derived.OpenShut
import Derived.ShutString
import Derived.ChangeOld
import Derived.Below
namespace Go.Proofs.Ytlllkdioojjaeaa.fnReplaced
open Go.ChangeShapes Go.WideShapes Go.ChangeAt Go.RowKit
open Go.ChangeMaps (open_string shut_string)
set_option linter.unusedVariables false
theorem own:ownKnob Try.prog.godebug=none:=by kernel_rfl
theorem size_sync {live safe:List PairL} {ops:List DOpL} (h:SizeD (live,safe,ops,0)):SizeD (syncL live safe ops,syncL live safe ops,[],0):=by
 unfold syncL
 split
 · exact⟨h.1,h.2.1,h.1,h.2.1,by simp,by simp⟩
 · exact⟨by simp,by simp,by simp,by simp,by simp,by simp⟩
theorem size_files {l:List PairL} (h:filesOk l=true):l.length≤60∧∀ p∈l,p.1.length≤1048576∧p.2.length≤1048576:=by
 obtain⟨h0,h1,h2,h3⟩:=rise_files h
 refine⟨h2,fun p hp=>⟨?_,?_⟩⟩
 · have:=h1 p hp
   simp only[nameOk,Bool.and_eq_true,decide_eq_true_eq] at this
   omega
 · have:p.2.length≤dataN l:=by
    clear h h0 h1 h2 h3
    unfold dataN
    induction l with
    | nil=>simp at hp
    | cons a t ih =>
      simp only[List.map_cons,List.sum_cons]
      rcases List.mem_cons.1 hp with rfl | h
      · omega
      · have:=ih h;omega
   omega
theorem subs_len:∀ j,∀ ks∈subs j,ks.length≤j
 | 0,ks,h=>by simp[subs] at h;simp[h]
 | j + 1, ks, h => by
   simp only[subs,List.mem_append,List.mem_map] at h
   rcases h with h | ⟨k,h,rfl⟩
   · have:=subs_len j ks h;omega
   · have:=subs_len j k h;simp;omega
theorem subs_no {j:Nat} {ks:List Int} (h:ks∈subs j):ks∈subs (j+1):=List.mem_append.2 (.inl h)
theorem subs_yes {j:Nat} {ks:List Int} (h:ks∈subs j):ks ++ [(j:Int)]∈subs (j+1):=List.mem_append.2 (.inr (List.mem_map.2 ⟨ks,h,rfl⟩))
set_option maxRecDepth 100000 in
set_option maxHeartbeats 8000000 in
theorem walk (a0 : Option Addr) (len0 cap0 : Nat) (w : World) (w0 : Code w a0 len0) :
 Calls Try.prog 11 #[.slice a0 len0 cap0] w fun e w'=>e=.returned (.bool true)∧Below w.heap.size w w':=by
 by_cases hb:len0≤1048576
 · have HB := bigNo len0 cap0 a0 w hb
   have HC:Hid (Code w a0 len0):=w0
   obtain⟨i0,hi0,hz0,hz1,hz2⟩:=info_parts infoInt
   clear w0
   go_enter Try.func11,Try.ntmps11
   go_wp2_with fail
   refine HB.mono ?_
   rintro e w ⟨rfl,rfl⟩
   clear HB
   have HD:=drawReplace len0 cap0 a0 w hb HC.out
   go_wp2_with fail
   refine HD.mono ?_
   rintro e w1 ⟨x1,x2,x3,k1,k2,k3,live,safe,ops,nm,dd,rfl,hnm,hdd,hG,hS,hol,B1⟩
   obtain⟨wa,hwa⟩:∃ wa,wa=w1.alloc (.cells #[.slice x1 live.length k1,.slice x2 safe.length k2,.slice x3 ops.length k3] 31):=⟨_,rfl⟩
   have ba:Below w1.heap.size w1 wa:=by rw[hwa];exact (Below.refl _ _).alloc (Nat.le_refl _) _
   have XD:Hid (wa.heap[w1.heap.size]? = some (.cells #[.slice x1 live.length k1,.slice x2 safe.length k2,.slice x3 ops.length k3] 31 (0,0))):=by rw[hwa];exact heap_alloc_new w1 _
   have lta:w1.heap.size<wa.heap.size:=lt_of_block XD.out
   have hGa:=hG.later ba
   have HSZ:=hS.1
   have hKY:=impl_sync x1 x2 x3 k1 k2 k3 live safe ops wa hG.2.2.2.1.ok hG.2.2.2.1.cap HSZ.1 HSZ.2.1 HSZ.2.2.1 HSZ.2.2.2.1 HSZ.2.2.2.2.1 HSZ.2.2.2.2.2 hGa.1.pairs hGa.2.1.pairs hGa.2.2.1.dops
   unfold IPost at hKY
   obtain⟨sy,hsy⟩:∃ x,x=syncL live safe ops:=⟨_,rfl⟩
   have HOK:Hid (diskOk sy sy []=true):=by rw[hsy];exact sync_ok live safe ops
   have HZS:Hid (SizeD (sy,sy,[],0)):=by rw[hsy];exact size_sync HSZ
   rw[←hsy] at hKY
   clear hsy hG hGa hS HD HSZ hol
   have HKY:Hid (type_of% hKY):=hKY
   have HWA:Hid (Below w.heap.size w w1∧Below w1.heap.size w1 wa):=⟨B1,ba⟩
   have HLT:Hid (w1.heap.size<wa.heap.size):=lta
   have HNS:Hid (nm.length≤100∧dd.length≤56):=⟨hnm,hdd⟩
   clear hKY B1 ba lta hnm hdd
   obtain⟨d0,d1,d2,_⟩:=three_cells XD.out
   rw[hwa] at d0 d1 d2
   go_wp2_with fail
   rw[←hwa]
   clear d0 d1 d2 hwa
   refine HKY.out.mono ?_
   rintro e w2 ⟨s1,s2,s3,sk1,sk2,sk3,rfl,n1,n2,n3,_,b2⟩
   clear HKY
   have HAK:Hid (AddrK s1 sk1∧AddrK s2 sk2∧AddrK s3 sk3):=⟨own_addrK n1,own_addrK n2,own_addrK n3⟩
   have XD2:Hid (w2.heap[w1.heap.size]? = some (.cells #[.slice x1 live.length k1,.slice x2 safe.length k2,.slice x3 ops.length k3] 31 (0,0))):=(b2.block _ HLT.out).trans XD.out
   obtain⟨wb,hwb⟩:∃ wb,wb=(((w2.setCell ⟨w1.heap.size,0,none⟩ (.slice s1 sy.length sk1)).setCell ⟨w1.heap.size,1,none⟩ (.slice s2 sy.length sk2)).setCell ⟨w1.heap.size,2,none⟩ (.slice s3 0 sk3)):=⟨_,rfl⟩
   have lt9:=HLT.out
   have m1:Hid (wb.ownsRow wa.heap.size 84 2 (.slice s1 sy.length sk1) sy.length (pcells sy)):=by rw[hwb];exact own_set (own_set (own_set n1 _ lt9 _) _ lt9 _) _ lt9 _
   have m2:Hid (wb.ownsRow wa.heap.size 84 2 (.slice s2 sy.length sk2) sy.length (pcells sy)):=by rw[hwb];exact own_set (own_set (own_set n2 _ lt9 _) _ lt9 _) _ lt9 _
   have m3:Hid (wb.ownsRow wa.heap.size 40 4 (.slice s3 0 sk3) 0 (dcells [])):=by rw[hwb];exact own_set (own_set (own_set n3 _ lt9 _) _ lt9 _) _ lt9 _
   have XDz:Hid (wb.heap[w1.heap.size]? = some (.cells #[.slice s1 sy.length sk1,.slice s2 sy.length sk2,.slice s3 0 sk3] 31 (0,0))):=by rw[hwb];exact disk_set3 XD2.out
   have HBW:Hid (Below w.heap.size w wb):=by rw[hwb];exact HWA.out.1.trans (below_set3d (HWA.out.2.trans (b2.mono HWA.out.2.size)) (Nat.le_refl _) _ _ _ |>.mono HWA.out.1.size)
   have HIS:Hid (∀ W,Below wb.heap.size wb W→IsPairs W s1 sy∧IsPairs W s2 sy∧IsDOps W s3 []):=fun W hW=>⟨((isPairs_own m1.out).2.2).later hW,((isPairs_own m2.out).2.2).later hW,.inl rfl⟩
   have HCD:Hid (∀ W,Below wb.heap.size wb W→Code W a0 len0):=fun W hW=>HC.out.later (HBW.out.trans (hW.mono HBW.out.size))
   obtain⟨r0,r1,r2,rf⟩:=three_cells XD2.out
   have rf0:=rf 0
   have rf1:=rf 1
   have rf2:=rf 2
   clear n1 n2 n3 b2 m1 m2 m3 lt9 XD HC HWA HLT rf
   have hKI:=fun W (hW:Below wb.heap.size wb W)=>impl_replace s1 s2 s3 sk1 sk2 sk3 sy sy [] nm dd W HAK.out.1.ok HAK.out.1.cap HAK.out.2.1.ok HAK.out.2.1.cap HAK.out.2.2.ok HAK.out.2.2.cap HZS.out (by have:=HNS.out;omega) (by have:=HNS.out;omega) (HIS.out W hW).1 (HIS.out W hW).2.1 (HIS.out W hW).2.2
   have hKM:=fun W (hW:Below wb.heap.size wb W)=>spec_replace s1 s2 s3 sk1 sk2 sk3 sy sy [] nm dd W HAK.out.1.ok HAK.out.2.1.ok HZS.out.1 HZS.out.2.1 HZS.out.2.2.1 HZS.out.2.2.2.1 HZS.out.2.2.2.2.1 HZS.out.2.2.2.2.2 (by have:=HNS.out;omega) (by have:=HNS.out;omega) (HIS.out W hW).1 (HIS.out W hW).2.1 (HIS.out W hW).2.2
   unfold JPost at hKI
   unfold APost at hKM
   have HRD:Hid (∀ (nx:List UInt8) W,nx.length≤1048576→Below wb.heap.size wb W→Calls Try.prog 31 #[.agg #[.slice s1 sy.length sk1,.slice s2 sy.length sk2,.slice s3 0 sk3],.string ⟨nx.toArray⟩] W fun e w'=>e=.returned (.tuple #[.string ⟨(readR sy sy [] nx).toArray⟩,.bool (readB sy sy [] nx)])∧Below W.heap.size W w'):=fun nx W hx hW=>impl_readFile s1 s2 s3 sk1 sk2 sk3 sy sy [] nx W HAK.out.1.ok HZS.out.1 HZS.out.2.1 HZS.out.2.2.1 HZS.out.2.2.2.1 HZS.out.2.2.2.2.1 HZS.out.2.2.2.2.2 hx (HIS.out W hW).1 (HIS.out W hW).2.1 (HIS.out W hW).2.2
   obtain⟨rr,hrr⟩:∃ x,x=repL sy sy [] nm dd:=⟨_,rfl⟩
   rw[←hrr] at hKI hKM
   obtain⟨rl,rs,ro,cd⟩:=rr
   dsimp only at hKI hKM
   have HRR:Hid ((rl,rs,ro,cd)=repL sy sy [] nm dd):=hrr
   have HKI:=(show Hid _ from hKI)
   have HKM:=(show Hid _ from hKM)
   clear hrr hKI hKM
   have Bz:Below wb.heap.size wb wb:=Below.refl _ _
   obtain⟨bd0,bd1,bd2,_⟩:=three_cells XDz.out
   rw[hwb] at bd0 bd1 bd2
   go_wp2_with fail
   rw[←hwb]
   refine (HKI.out _ Bz).mono ?_
   rintro e w3 ⟨y1,y2,y3,q1,q2,q3,rfl,n1,n2,n3,_,b9⟩
   clear hwb HKI XD2 r0 r1 r2 rf0 rf1 rf2
   clear bd0 bd1 bd2
   have bdt1:Hid (w3.heap[w1.heap.size]? = some (.cells #[.slice s1 sy.length sk1,.slice s2 sy.length sk2,.slice s3 0 sk3] 31 (0,0))):=(b9.block (w1.heap.size) (lt_of_block XDz.out)).trans XDz.out
   clear XDz
   have Bt1:Below wb.heap.size wb w3:=Bz.trans (b9.mono Bz.size)
   clear Bz
   have yr1:Hid (w3.ownsRow wb.heap.size 84 2 (Value.slice y1 rl.length q1) rl.length (pcells rl)):=n1
   have yr2:Hid (w3.ownsRow wb.heap.size 84 2 (Value.slice y2 rs.length q2) rs.length (pcells rs)):=n2
   have yr3:Hid (w3.ownsRow wb.heap.size 40 4 (Value.slice y3 ro.length q3) ro.length (dcells ro)):=n3
   have YA:Hid (AddrK y1 q1):=own_addrK n1
   clear n1 n2 n3 b9
   have Xt2:Below w3.heap.size w3 (w3.alloc (.cells #[.slice y1 rl.length q1,.slice y2 rs.length q2,.slice y3 ro.length q3] 31)):=(Below.refl _ _).alloc (Nat.le_refl _) _
   have bdt3:Hid ((w3.alloc (.cells #[.slice y1 rl.length q1,.slice y2 rs.length q2,.slice y3 ro.length q3] 31)).heap[w1.heap.size]? = some (.cells #[.slice s1 sy.length sk1,.slice s2 sy.length sk2,.slice s3 0 sk3] 31 (0,0))):=(Xt2.block (w1.heap.size) (lt_of_block bdt1.out)).trans bdt1.out
   clear bdt1
   have Y1t3:Hid ((w3.alloc (.cells #[.slice y1 rl.length q1,.slice y2 rs.length q2,.slice y3 ro.length q3] 31)).ownsRow wb.heap.size 84 2 (Value.slice y1 rl.length q1) rl.length (pcells rl)):=kept2 yr1.out Xt2
   clear yr1
   have Y2t3:Hid ((w3.alloc (.cells #[.slice y1 rl.length q1,.slice y2 rs.length q2,.slice y3 ro.length q3] 31)).ownsRow wb.heap.size 84 2 (Value.slice y2 rs.length q2) rs.length (pcells rs)):=kept2 yr2.out Xt2
   clear yr2
   have Y3t3:Hid ((w3.alloc (.cells #[.slice y1 rl.length q1,.slice y2 rs.length q2,.slice y3 ro.length q3] 31)).ownsRow wb.heap.size 40 4 (Value.slice y3 ro.length q3) ro.length (dcells ro)):=kept4 yr3.out Xt2
   clear yr3
   have Bt3:Below wb.heap.size wb (w3.alloc (.cells #[.slice y1 rl.length q1,.slice y2 rs.length q2,.slice y3 ro.length q3] 31)):=Bt1.trans (Xt2.mono Bt1.size)
   clear Bt1
   clear Xt2
   have bat2:Hid ((w3.alloc (.cells #[.slice y1 rl.length q1,.slice y2 rs.length q2,.slice y3 ro.length q3] 31)).heap[w3.heap.size]? = some (.cells #[.slice y1 rl.length q1,.slice y2 rs.length q2,.slice y3 ro.length q3] 31 (0,0))):=heap_alloc_new w3 _
   obtain⟨bd0,bd1,bd2,_⟩:=three_cells bdt3.out
   go_wp2_with fail
   refine (HKM.out _ Bt3).mono ?_
   rintro e w4 ⟨t1,t2,t3,tk1,tk2,tk3,rfl,_,_,_,_,_,b9⟩
   clear HKM
   clear bd0 bd1 bd2
   have bdt4:Hid (w4.heap[w1.heap.size]? = some (.cells #[.slice s1 sy.length sk1,.slice s2 sy.length sk2,.slice s3 0 sk3] 31 (0,0))):=(b9.block (w1.heap.size) (lt_of_block bdt3.out)).trans bdt3.out
   clear bdt3
   have Y1t4:Hid (w4.ownsRow wb.heap.size 84 2 (Value.slice y1 rl.length q1) rl.length (pcells rl)):=kept2 Y1t3.out b9
   clear Y1t3
   have Y2t4:Hid (w4.ownsRow wb.heap.size 84 2 (Value.slice y2 rs.length q2) rs.length (pcells rs)):=kept2 Y2t3.out b9
   clear Y2t3
   have Y3t4:Hid (w4.ownsRow wb.heap.size 40 4 (Value.slice y3 ro.length q3) ro.length (dcells ro)):=kept4 Y3t3.out b9
   clear Y3t3
   have bat4:Hid (w4.heap[w3.heap.size]? = some (.cells #[.slice y1 rl.length q1,.slice y2 rs.length q2,.slice y3 ro.length q3] 31 (0,0))):=(b9.block (w3.heap.size) (lt_of_block bat2.out)).trans bat2.out
   clear bat2
   have Bt4:Below wb.heap.size wb w4:=Bt3.trans (b9.mono Bt3.size)
   clear Bt3
   clear b9
   have Xt5:Below w4.heap.size w4 (w4.alloc (.cells #[.slice t1 rl.length tk1,.slice t2 rs.length tk2,.slice t3 ro.length tk3] 31)):=(Below.refl _ _).alloc (Nat.le_refl _) _
   have bdt6:Hid ((w4.alloc (.cells #[.slice t1 rl.length tk1,.slice t2 rs.length tk2,.slice t3 ro.length tk3] 31)).heap[w1.heap.size]? = some (.cells #[.slice s1 sy.length sk1,.slice s2 sy.length sk2,.slice s3 0 sk3] 31 (0,0))):=(Xt5.block (w1.heap.size) (lt_of_block bdt4.out)).trans bdt4.out
   clear bdt4
   have Y1t6:Hid ((w4.alloc (.cells #[.slice t1 rl.length tk1,.slice t2 rs.length tk2,.slice t3 ro.length tk3] 31)).ownsRow wb.heap.size 84 2 (Value.slice y1 rl.length q1) rl.length (pcells rl)):=kept2 Y1t4.out Xt5
   clear Y1t4
   have Y2t6:Hid ((w4.alloc (.cells #[.slice t1 rl.length tk1,.slice t2 rs.length tk2,.slice t3 ro.length tk3] 31)).ownsRow wb.heap.size 84 2 (Value.slice y2 rs.length q2) rs.length (pcells rs)):=kept2 Y2t4.out Xt5
   clear Y2t4
   have Y3t6:Hid ((w4.alloc (.cells #[.slice t1 rl.length tk1,.slice t2 rs.length tk2,.slice t3 ro.length tk3] 31)).ownsRow wb.heap.size 40 4 (Value.slice y3 ro.length q3) ro.length (dcells ro)):=kept4 Y3t4.out Xt5
   clear Y3t4
   have bat6:Hid ((w4.alloc (.cells #[.slice t1 rl.length tk1,.slice t2 rs.length tk2,.slice t3 ro.length tk3] 31)).heap[w3.heap.size]? = some (.cells #[.slice y1 rl.length q1,.slice y2 rs.length q2,.slice y3 ro.length q3] 31 (0,0))):=(Xt5.block (w3.heap.size) (lt_of_block bat4.out)).trans bat4.out
   clear bat4
   have Bt6:Below wb.heap.size wb (w4.alloc (.cells #[.slice t1 rl.length tk1,.slice t2 rs.length tk2,.slice t3 ro.length tk3] 31)):=Bt4.trans (Xt5.mono Bt4.size)
   clear Bt4
   clear Xt5
   have btt5:Hid ((w4.alloc (.cells #[.slice t1 rl.length tk1,.slice t2 rs.length tk2,.slice t3 ro.length tk3] 31)).heap[w4.heap.size]? = some (.cells #[.slice t1 rl.length tk1,.slice t2 rs.length tk2,.slice t3 ro.length tk3] 31 (0,0))):=heap_alloc_new w4 _
   clear btt5
   by_cases hc0:cd=0
   · skip
     subst hc0
     obtain⟨nx,hnx⟩:∃ x,x=nm ++ dotNew:=⟨_,rfl⟩
     have hcat:(⟨nm.toArray⟩:ByteArray) ++ ⟨#[46,110,101,119]⟩=⟨nx.toArray⟩:=by rw[hnx];exact cat_bytes nm dotNew
     have HNX:Hid (nx=nm ++ dotNew):=hnx
     have HXL:Hid (nx.length≤1048576):=by rw[hnx,Hid];have:=HNS.out;simp[dotNew];omega
     have hnl:nm.length≤100:=HNS.out.1
     clear hnx
     obtain⟨bd0,bd1,bd2,_⟩:=three_cells bdt6.out
     go_wp2_with fail
     have KR:=HRD.out nx _ HXL.out Bt6
     obtain⟨sx,hsx⟩:∃ x,x=readR sy sy [] nx:=⟨_,rfl⟩
     obtain⟨gx,hgx⟩:∃ x,x=readB sy sy [] nx:=⟨_,rfl⟩
     rw[←hsx,←hgx] at KR
     have HGX:Hid (gx=readB sy sy [] nx):=hgx
     clear hsx hgx hcat
     refine KR.mono ?_
     rintro e w5 ⟨rfl,b9⟩
     clear KR
     clear bd0 bd1 bd2
     have bdt7:Hid (w5.heap[w1.heap.size]? = some (.cells #[.slice s1 sy.length sk1,.slice s2 sy.length sk2,.slice s3 0 sk3] 31 (0,0))):=(b9.block (w1.heap.size) (lt_of_block bdt6.out)).trans bdt6.out
     clear bdt6
     have Y1t7:Hid (w5.ownsRow wb.heap.size 84 2 (Value.slice y1 rl.length q1) rl.length (pcells rl)):=kept2 Y1t6.out b9
     clear Y1t6
     have Y2t7:Hid (w5.ownsRow wb.heap.size 84 2 (Value.slice y2 rs.length q2) rs.length (pcells rs)):=kept2 Y2t6.out b9
     clear Y2t6
     have Y3t7:Hid (w5.ownsRow wb.heap.size 40 4 (Value.slice y3 ro.length q3) ro.length (dcells ro)):=kept4 Y3t6.out b9
     clear Y3t6
     have bat7:Hid (w5.heap[w3.heap.size]? = some (.cells #[.slice y1 rl.length q1,.slice y2 rs.length q2,.slice y3 ro.length q3] 31 (0,0))):=(b9.block (w3.heap.size) (lt_of_block bat6.out)).trans bat6.out
     clear bat6
     have Bt7:Below wb.heap.size wb w5:=Bt6.trans (b9.mono Bt6.size)
     clear Bt6
     clear b9
     cases gx with
     | true =>
       go_wp2
       go_ret
       exact⟨rfl,HBW.out.trans (Bt7.mono HBW.out.size)⟩
     | false =>
       have HNO:Hid (¬ 0≤atF sy (nm ++ dotNew)):=by
        have h:=HGX.out
        rw[HNX.out,readB,HOK.out] at h
        rw[Hid]
        simpa using h.symm
       have R2:=rep_two HOK.out HNO.out (by rw[←HRR.out])
       have hq:=HRR.out.trans R2.1
       have HRL:Hid (rl=g2R sy nm dd):=congrArg (fun z:DskL=>z.1) hq
       have HRS:Hid (rs=sy):=congrArg (fun z:DskL=>z.2.1) hq
       have HRO:Hid (ro=[o1R nm dd,o2R nm]):=congrArg (fun z:DskL=>z.2.2.1) hq
       have HR2:Hid (type_of% R2.2):=R2.2
       clear R2 hq HGX
       have HZR:Hid (SizeD (rl,rs,ro,0)∧sizeD ro≤1048576):=by
        rw[HRL.out,HRS.out,HRO.out]
        have sf:=size_files HR2.out.2.1
        have hn:=HNS.out
        refine⟨⟨by have:=sf.1;simp only;omega,sf.2,HZS.out.1,HZS.out.2.1,by simp,?_⟩,?_⟩
        · intro p hp
          simp only[List.mem_cons,List.not_mem_nil,or_false] at hp
          rcases hp with rfl | rfl <;> simp[o1R,o2R,dotNew] <;> omega
        · simp[sizeD,opN,o1R,o2R,dotNew];omega
       have HFS:Hid (filesOk sy=true):=by
        have h:=HOK.out
        simp only[diskOk,Bool.and_eq_true] at h
        exact h.1
       obtain⟨bd0,bd1,bd2,_⟩:=three_cells bdt7.out
       go_wp2_with fail
       have KR:=HRD.out nm _ (by have:=HNS.out;omega) Bt7
       obtain⟨s5,hs5⟩:∃ x,x=readR sy sy [] nm:=⟨_,rfl⟩
       obtain⟨g5,hg5⟩:∃ x,x=readB sy sy [] nm:=⟨_,rfl⟩
       rw[←hs5,←hg5] at KR
       have HS5:Hid (s5=readR sy sy [] nm∧g5=readB sy sy [] nm):=⟨hs5,hg5⟩
       clear hs5 hg5
       refine KR.mono ?_
       rintro e wz ⟨rfl,b9⟩
       clear KR HRD
       clear bd0 bd1 bd2
       have bdt8:Hid (wz.heap[w1.heap.size]? = some (.cells #[.slice s1 sy.length sk1,.slice s2 sy.length sk2,.slice s3 0 sk3] 31 (0,0))):=(b9.block (w1.heap.size) (lt_of_block bdt7.out)).trans bdt7.out
       clear bdt7
       have Y1t8:Hid (wz.ownsRow wb.heap.size 84 2 (Value.slice y1 rl.length q1) rl.length (pcells rl)):=kept2 Y1t7.out b9
       clear Y1t7
       have Y2t8:Hid (wz.ownsRow wb.heap.size 84 2 (Value.slice y2 rs.length q2) rs.length (pcells rs)):=kept2 Y2t7.out b9
       clear Y2t7
       have Y3t8:Hid (wz.ownsRow wb.heap.size 40 4 (Value.slice y3 ro.length q3) ro.length (dcells ro)):=kept4 Y3t7.out b9
       clear Y3t7
       have bat8:Hid (wz.heap[w3.heap.size]? = some (.cells #[.slice y1 rl.length q1,.slice y2 rs.length q2,.slice y3 ro.length q3] 31 (0,0))):=(b9.block (w3.heap.size) (lt_of_block bat7.out)).trans bat7.out
       clear bat7
       have Bt8:Below wb.heap.size wb wz:=Bt7.trans (b9.mono Bt7.size)
       clear Bt7
       clear b9
       clear bdt8
       have XZ:Hid (wz.heap[w3.heap.size]? = some (.cells #[.slice y1 rl.length q1,.slice y2 rs.length q2,.slice y3 2 q3] 31 (0,0))):=by have h:=bat8.out;rw[HRO.out] at h;exact h
       have O0:Hid ((wz.alloc (.cells #[] 2)).ownsRow wz.heap.size 2 1 (.slice (some ⟨wz.heap.size,0,none⟩) 0 0) 0 (zcells [])):=World.ownsRow_lit (e:=2) (size:=1) wz #[] 0 (base:=wz.heap.size) (Nat.le_refl _) (Nat.zero_le _) rfl
       have HB0:Hid (Below wz.heap.size wz (wz.alloc (.cells #[] 2))):=(Below.refl _ _).alloc (Nat.le_refl _) _
       have HSB:Hid (([]:List Int)∈subs 0):=by simp[subs,Hid]
       go_wp2_with fail
       go_loopw [14,15] (fun v i wr=>∃ (ks:List Int) (j g cap m:Nat),j≤2∧m≤2∧Hid (ks∈subs j∧ks.length=m)∧i=.int .i64 (j:Int)∧v=.slice (some ⟨g,0,none⟩) m cap∧Hid (wr.ownsRow wz.heap.size 2 1 (.slice (some ⟨g,0,none⟩) m cap) m (zcells ks))∧Hid (Below wz.heap.size wz wr)) (fun _ i _=>2 - (intOf i).toNat)
       case atStart=>exact⟨[],0,wz.heap.size,0,0,Nat.zero_le _,Nat.zero_le _,⟨HSB.out,rfl⟩,rfl,rfl,O0,HB0⟩
       case round =>
        obtain⟨ks,j,g,cap,m,hj,hm,HKS,rfl,rfl,HO,HBR⟩:=hrel
        have hbg:=own_base HO.out
        obtain⟨d0,d1,d2,_⟩:=three_cells ((HBR.out.block _ (lt_of_block XZ.out)).trans XZ.out)
        clear O0 HB0 HSB
        by_cases hlt:j<2
        · have hj0:(0:Int)≤(j:Int):=by omega
          have hj1:(j:Int)<2:=by omega
          by_cases hl0:len0=0
          · subst hl0
            go_wp2
            go_roundw
            case rel=>exact⟨ks,j+1,g,cap,m,by omega,hm,⟨subs_no HKS.out.1,HKS.out.2⟩,by go_num,rfl,HO,HBR⟩
            case measure=>simp[intOf];omega
          · have hlp:(0:Int)<(len0:Int):=by omega
            have hln:¬ (len0:Int)=0:=by omega
            obtain⟨cb,off,ha0,hcb,hz⟩:=(HCD.out wr (Bt8.trans (HBR.out.mono Bt8.size))).resolve_left hl0
            subst ha0
            obtain⟨q,hq⟩:∃ x,x=j % len0:=⟨_,rfl⟩
            have hql:q<len0:=by rw[hq];exact Nat.mod_lt _ (by omega)
            have hqi:(q:Int)<(len0:Int):=by omega
            have hq0:(0:Int)≤(q:Int):=by omega
            obtain⟨z,hzc⟩:=hz q hql
            have hqm:(j:Int).tmod (len0:Int)=(q:Int):=by rw[Int.tmod_eq_emod_of_nonneg (by omega),hq];push_cast;rfl
            have hj8:(j:Int).tmod 8=(j:Int):=by rw[Int.tmod_eq_emod_of_nonneg (by omega)];omega
            clear hz hq hcb
            obtain⟨bt,hbt⟩:∃ x,(((z.toNat:Int) / 2 ^ j).tmod 2 == 1)=x:=⟨_,rfl⟩
            cases bt with
            | false =>
              go_wp2
              go_roundw
              case rel=>exact⟨ks,j+1,g,cap,m,by omega,hm,⟨subs_no HKS.out.1,HKS.out.2⟩,by go_num,rfl,HO,HBR⟩
              case measure=>simp[intOf];omega
            | true =>
              have hml:m≤j:=by rw[←HKS.out.2];exact subs_len j ks HKS.out.1
              have HML:Hid (m≤j):=hml
              clear hml
              have HSZ9:Hid (wz.heap.size≤wr.heap.size):=HBR.out.size
              have HNW:Hid ((wr.alloc (.cells #[.int .i64 (j:Int)] 2)).heap[wr.heap.size]? = some (.cells #[.int .i64 (j:Int)] 2 (0,0))):=heap_alloc_new wr _
              go_wp2_with (at_builtin;(refine wpList_append_lies _ rfl _ _ 45 rfl wz.heap.size 2 i0 (.int .i64 0) 1 8 Try.underlying45 hi0 hz0 hz1 hz2 rfl (by decide) (.slice (some ⟨g,0,none⟩) m cap) m _ rfl (HO.out.alloc _) ⟨wr.heap.size,0,none⟩ 1 1 [.int .i64 (j:Int)] rfl rfl (World.news_of_block (cs:=#[.int .i64 (j:Int)]) (t:=2) (fr:=(0,0)) HNW.out) (by simp[Value.oneCell']) (by omega) (by unfold maxLen;omega) (by omega) (by have:=HSZ9.out;simp;omega) (wr.heap.size+1) (by simp) ?_))
              intro g2 cap2 w6 hown6 hgrow6 hat6 hlt6
              have HO6:Hid (w6.ownsRow wz.heap.size 2 1 (.slice (some ⟨g2,0,none⟩) (m+1) cap2) (m+1) (zcells (ks ++ [(j:Int)]))):=by simpa [zcells,Hid] using hown6
              have HB6:Hid (Below wz.heap.size wz w6):=(HBR.out.alloc HBR.out.size _).grown hgrow6 (by have:=HBR.out.size;simp;omega) (fun q hq=>by simp[Value.ownBlock] at hq;omega)
              clear hown6 hgrow6 hat6 hlt6 HNW d0 d1 d2 hzc
              go_wp2
              go_roundw
              case rel=>exact⟨ks ++ [(j:Int)],j+1,g2,cap2,m+1,by omega,by have:=HML.out;omega,⟨subs_yes HKS.out.1,by have:=HKS.out.2;simp;omega⟩,by go_num,by simp,HO6,HB6⟩
              case measure=>simp[intOf];omega
        · have hjl:j=2:=by omega
          subst hjl
          clear hlt hj
          have bR:=HBR.out
          clear XZ
          have Y1t9:Hid (wr.ownsRow wb.heap.size 84 2 (Value.slice y1 rl.length q1) rl.length (pcells rl)):=kept2 Y1t8.out bR
          clear Y1t8
          have Y2t9:Hid (wr.ownsRow wb.heap.size 84 2 (Value.slice y2 rs.length q2) rs.length (pcells rs)):=kept2 Y2t8.out bR
          clear Y2t8
          have Y3t9:Hid (wr.ownsRow wb.heap.size 40 4 (Value.slice y3 ro.length q3) ro.length (dcells ro)):=kept4 Y3t8.out bR
          clear Y3t8
          have bat9:Hid (wr.heap[w3.heap.size]? = some (.cells #[.slice y1 rl.length q1,.slice y2 rs.length q2,.slice y3 ro.length q3] 31 (0,0))):=(bR.block (w3.heap.size) (lt_of_block bat8.out)).trans bat8.out
          clear bat8
          have Bt9:Below wb.heap.size wb wr:=Bt8.trans (bR.mono Bt8.size)
          clear Bt8
          have HI:Hid (IsInts wr (some ⟨g,0,none⟩) ks):=isInts_own HKS.out.2 HO.out
          clear HBR bR d0 d1 d2 hbg
          have E2:Hid (ro.length=2):=by rw[HRO.out];exact rfl
          have baZ:Hid (wr.heap[w3.heap.size]? = some (.cells #[.slice y1 rl.length q1,.slice y2 rs.length q2,.slice y3 2 q3] 31 (0,0))):=by have h:=bat9.out;rw[E2.out] at h;exact h
          obtain⟨tn,htn⟩:∃ x,x=len0 % 4:=⟨_,rfl⟩
          have htm:(len0:Int).tmod 4=(tn:Int):=by rw[Int.tmod_eq_emod_of_nonneg (by omega),htn];push_cast;rfl
          clear htn
          obtain⟨cr,hcr,hcb,hcf,hcw⟩:=rep_crash (tn:=(tn:Int)) HFS.out (by have h:=HNO.out;omega) HR2.out.1 HR2.out.2.1 HR2.out.2.2.1 HR2.out.2.2.2 (by omega) HKS.out.1
          have RN:=rep_now HR2.out.1 HR2.out.2.2.2
          have HRN:Hid (readR rl rs ro nm=dd∧readB rl rs ro nm=true):=by rw[HRL.out,HRS.out,HRO.out];exact RN
          have HCR:Hid (crashL rl rs ro ks (tn:Int)=cr∧crashB rl rs ro ks (tn:Int)=true):=by rw[HRL.out,HRS.out,HRO.out];exact⟨hcr,hcb⟩
          have HCF:Hid (cr.length≤60∧∀ p∈cr,p.1.length≤1048576∧p.2.length≤1048576):=size_files hcf
          rw[←HS5.out.1,←HS5.out.2] at hcw
          have HCW:Hid (type_of% hcw):=hcw
          have KC:=impl_crash y1 y2 y3 (some ⟨g,0,none⟩) q1 q2 q3 cap rl rs ro ks (tn:Int) wr HZR.out.1.1 HZR.out.1.2.1 HZR.out.1.2.2.1 HZR.out.1.2.2.2.1 HZR.out.1.2.2.2.2.1 HZR.out.1.2.2.2.2.2 HZR.out.2 (by have:=HKS.out.2;omega) (isPairs_own Y1t9.out).2.2 (isPairs_own Y2t9.out).2.2 (isDOps_own Y3t9.out).2.2 HI.out
          rw[HKS.out.2,HCR.out.1,HCR.out.2,E2.out] at KC
          unfold JcPost at KC
          clear hcr hcb hcf hcw RN
          obtain⟨ba0,ba1,ba2,_⟩:=three_cells baZ.out
          go_wp2_with fail
          refine KC.mono ?_
          rintro e w7 ⟨z1,z2,zk1,zk2,rfl,n1,n2,_,b9⟩
          clear KC HI HO
          clear ba0 ba1 ba2
          have Y1t10:Hid (w7.ownsRow wb.heap.size 84 2 (Value.slice y1 rl.length q1) rl.length (pcells rl)):=kept2 Y1t9.out b9
          clear Y1t9
          have Y2t10:Hid (w7.ownsRow wb.heap.size 84 2 (Value.slice y2 rs.length q2) rs.length (pcells rs)):=kept2 Y2t9.out b9
          clear Y2t9
          have Y3t10:Hid (w7.ownsRow wb.heap.size 40 4 (Value.slice y3 ro.length q3) ro.length (dcells ro)):=kept4 Y3t9.out b9
          clear Y3t9
          have bat10:Hid (w7.heap[w3.heap.size]? = some (.cells #[.slice y1 rl.length q1,.slice y2 rs.length q2,.slice y3 2 q3] 31 (0,0))):=(b9.block (w3.heap.size) (lt_of_block baZ.out)).trans baZ.out
          clear baZ
          have Bt10:Below wb.heap.size wb w7:=Bt9.trans (b9.mono Bt9.size)
          clear Bt9
          have zr1:Hid (w7.ownsRow wr.heap.size 84 2 (.slice z1 cr.length zk1) cr.length (pcells cr)):=n1
          have zr2:Hid (w7.ownsRow wr.heap.size 84 2 (.slice z2 cr.length zk2) cr.length (pcells cr)):=n2
          have ZA:Hid (AddrK z1 zk1):=own_addrK n1
          clear n1 n2 b9
          have Xt11:Below w7.heap.size w7 (w7.alloc (.cells #[.slice z1 cr.length zk1,.slice z2 cr.length zk2,.slice none 0 0] 31)):=(Below.refl _ _).alloc (Nat.le_refl _) _
          have Y1t12:Hid ((w7.alloc (.cells #[.slice z1 cr.length zk1,.slice z2 cr.length zk2,.slice none 0 0] 31)).ownsRow wb.heap.size 84 2 (Value.slice y1 rl.length q1) rl.length (pcells rl)):=kept2 Y1t10.out Xt11
          clear Y1t10
          have Y2t12:Hid ((w7.alloc (.cells #[.slice z1 cr.length zk1,.slice z2 cr.length zk2,.slice none 0 0] 31)).ownsRow wb.heap.size 84 2 (Value.slice y2 rs.length q2) rs.length (pcells rs)):=kept2 Y2t10.out Xt11
          clear Y2t10
          have Y3t12:Hid ((w7.alloc (.cells #[.slice z1 cr.length zk1,.slice z2 cr.length zk2,.slice none 0 0] 31)).ownsRow wb.heap.size 40 4 (Value.slice y3 ro.length q3) ro.length (dcells ro)):=kept4 Y3t10.out Xt11
          clear Y3t10
          have bat12:Hid ((w7.alloc (.cells #[.slice z1 cr.length zk1,.slice z2 cr.length zk2,.slice none 0 0] 31)).heap[w3.heap.size]? = some (.cells #[.slice y1 rl.length q1,.slice y2 rs.length q2,.slice y3 2 q3] 31 (0,0))):=(Xt11.block (w3.heap.size) (lt_of_block bat10.out)).trans bat10.out
          clear bat10
          have Z1t12:Hid ((w7.alloc (.cells #[.slice z1 cr.length zk1,.slice z2 cr.length zk2,.slice none 0 0] 31)).ownsRow wr.heap.size 84 2 (Value.slice z1 cr.length zk1) cr.length (pcells cr)):=kept2 zr1.out Xt11
          clear zr1
          have Z2t12:Hid ((w7.alloc (.cells #[.slice z1 cr.length zk1,.slice z2 cr.length zk2,.slice none 0 0] 31)).ownsRow wr.heap.size 84 2 (Value.slice z2 cr.length zk2) cr.length (pcells cr)):=kept2 zr2.out Xt11
          clear zr2
          have Bt12:Below wb.heap.size wb (w7.alloc (.cells #[.slice z1 cr.length zk1,.slice z2 cr.length zk2,.slice none 0 0] 31)):=Bt10.trans (Xt11.mono Bt10.size)
          clear Bt10
          clear Xt11
          have bBt11:Hid ((w7.alloc (.cells #[.slice z1 cr.length zk1,.slice z2 cr.length zk2,.slice none 0 0] 31)).heap[w7.heap.size]? = some (.cells #[.slice z1 cr.length zk1,.slice z2 cr.length zk2,.slice none 0 0] 31 (0,0))):=heap_alloc_new w7 _
          obtain⟨s6,hs6⟩:∃ x,x=readR cr cr [] nm:=⟨_,rfl⟩
          obtain⟨g6,hg6⟩:∃ x,x=readB cr cr [] nm:=⟨_,rfl⟩
          have HW6:Hid ((s6=s5∧g6=g5)∨(s6=dd∧g6=true)):=by rw[hs6,hg6];exact HCW.out
          have HS6:Hid (readR cr cr [] nm=s6∧readB cr cr [] nm=g6):=⟨hs6.symm,hg6.symm⟩
          clear hs6 hg6
          obtain⟨bB0,bB1,bB2,_⟩:=three_cells bBt11.out
          obtain⟨ba0,ba1,ba2,_⟩:=three_cells bat12.out
          go_wp2_with fail
          have KR:=impl_readFile z1 z2 none zk1 zk2 0 cr cr [] nm (w7.alloc (.cells #[.slice z1 cr.length zk1,.slice z2 cr.length zk2,.slice none 0 0] 31)) ZA.out.ok (by have:=HCF.out.1;omega) HCF.out.2 (by have:=HCF.out.1;omega) HCF.out.2 (by simp) (by simp) (by have:=HNS.out;omega) (isPairs_own Z1t12.out).2.2 (isPairs_own Z2t12.out).2.2 (.inl rfl)
          rw[HS6.out.1,HS6.out.2] at KR
          refine KR.mono ?_
          rintro e w8 ⟨rfl,b9⟩
          clear KR
          clear bB0 bB1 bB2
          clear ba0 ba1 ba2
          clear bBt11
          have Y1t13:Hid (w8.ownsRow wb.heap.size 84 2 (Value.slice y1 rl.length q1) rl.length (pcells rl)):=kept2 Y1t12.out b9
          clear Y1t12
          have Y2t13:Hid (w8.ownsRow wb.heap.size 84 2 (Value.slice y2 rs.length q2) rs.length (pcells rs)):=kept2 Y2t12.out b9
          clear Y2t12
          have Y3t13:Hid (w8.ownsRow wb.heap.size 40 4 (Value.slice y3 ro.length q3) ro.length (dcells ro)):=kept4 Y3t12.out b9
          clear Y3t12
          have bat13:Hid (w8.heap[w3.heap.size]? = some (.cells #[.slice y1 rl.length q1,.slice y2 rs.length q2,.slice y3 2 q3] 31 (0,0))):=(b9.block (w3.heap.size) (lt_of_block bat12.out)).trans bat12.out
          clear bat12
          have Z1t13:Hid (w8.ownsRow wr.heap.size 84 2 (Value.slice z1 cr.length zk1) cr.length (pcells cr)):=kept2 Z1t12.out b9
          clear Z1t12
          have Z2t13:Hid (w8.ownsRow wr.heap.size 84 2 (Value.slice z2 cr.length zk2) cr.length (pcells cr)):=kept2 Z2t12.out b9
          clear Z2t12
          have Bt13:Below wb.heap.size wb w8:=Bt12.trans (b9.mono Bt12.size)
          clear Bt12
          clear b9
          obtain⟨ba0,ba1,ba2,_⟩:=three_cells bat13.out
          go_wp2_with fail
          have KR:=impl_readFile y1 y2 y3 q1 q2 q3 rl rs ro nm w8 YA.out.ok HZR.out.1.1 HZR.out.1.2.1 HZR.out.1.2.2.1 HZR.out.1.2.2.2.1 HZR.out.1.2.2.2.2.1 HZR.out.1.2.2.2.2.2 (by have:=HNS.out;omega) (isPairs_own Y1t13.out).2.2 (isPairs_own Y2t13.out).2.2 (isDOps_own Y3t13.out).2.2
          rw[HRN.out.1,HRN.out.2,E2.out] at KR
          refine KR.mono ?_
          rintro e w9 ⟨rfl,b9⟩
          clear KR
          clear ba0 ba1 ba2
          clear bat13
          have Y1t14:Hid (w9.ownsRow wb.heap.size 84 2 (Value.slice y1 rl.length q1) rl.length (pcells rl)):=kept2 Y1t13.out b9
          clear Y1t13
          have Y2t14:Hid (w9.ownsRow wb.heap.size 84 2 (Value.slice y2 rs.length q2) rs.length (pcells rs)):=kept2 Y2t13.out b9
          clear Y2t13
          have Y3t14:Hid (w9.ownsRow wb.heap.size 40 4 (Value.slice y3 ro.length q3) ro.length (dcells ro)):=kept4 Y3t13.out b9
          clear Y3t13
          have Z1t14:Hid (w9.ownsRow wr.heap.size 84 2 (Value.slice z1 cr.length zk1) cr.length (pcells cr)):=kept2 Z1t13.out b9
          clear Z1t13
          have Z2t14:Hid (w9.ownsRow wr.heap.size 84 2 (Value.slice z2 cr.length zk2) cr.length (pcells cr)):=kept2 Z2t13.out b9
          clear Z2t13
          have Bt14:Below wb.heap.size wb w9:=Bt13.trans (b9.mono Bt13.size)
          clear Bt13
          clear b9
          rcases HW6.out with ⟨e6,f6⟩ | ⟨e6,f6⟩
          · subst e6 f6
            go_wp2
            go_ret
            exact⟨rfl,HBW.out.trans (Bt14.mono HBW.out.size)⟩
          · subst e6 f6
            cases g5 with
            | false =>
              go_wp2
              go_ret
              exact⟨rfl,HBW.out.trans (Bt14.mono HBW.out.size)⟩
            | true =>
              by_cases h9:s6=s5
              · subst h9
                go_wp2
                go_ret
                exact⟨rfl,HBW.out.trans (Bt14.mono HBW.out.size)⟩
              · have hbe:(s6 == s5)=false:=by simpa using h9
                go_wp2
                go_ret
                exact⟨rfl,HBW.out.trans (Bt14.mono HBW.out.size)⟩
   · skip
     have hcb:(cd == 0)=false:=by simpa using hc0
     have hcn:(cd != 0)=true:=by simpa using hc0
     go_wp2
     go_ret
     exact⟨rfl,HBW.out.trans (Bt6.mono HBW.out.size)⟩
 · have HB:=bigYes len0 cap0 a0 w hb
   clear w0
   go_enter Try.func11,Try.ntmps11
   go_wp2_with fail
   refine HB.mono ?_
   rintro e w ⟨rfl,rfl⟩
   clear HB
   go_wp2
   go_ret
   exact⟨rfl,Below.refl _ _⟩
set_option maxRecDepth 100000 in
theorem lifted (os:Os) (started:os.Started) (H:Type) (enc:TypeId × Value→H) :
 ReturnsInHanded {} Try.checked os 11 .any (Rows.fnReplacedSpec.pre6 enc Try.prog Try.f11 Rows.fnReplacedRow.domain false) (Rows.fnReplacedSpec.post enc Try.prog Try.f11 false true false false):=by
 refine returnsInHanded_of_change (C:=Try.checked) own started (by kernel_rfl) Try.func11
  (ChangeSpec.witness6 (enc:=enc) (C:=Try.checked) false ⟨#[],#[.slice none 0 0],[]⟩ 8 (by kernel_rfl) (by kernel_rfl) (by kernel_rfl) (by kernel_rfl)) ?_
 intro W base args ds gs before hval0 hW hcnd _
 have hval:∀ (j:Nat) t v,Try.f11.params[j]? = some t→args[j]? = some v→Value.okWide Try.prog W .any base t v:=hval0
 have hW':=hW
 obtain⟨p,q,hA0,hV,rfl,hfz,hnd⟩:=hW
 have hA:DataW.TrodAll enc Try.prog W 0 (fun _=>true) true Try.f11.params.toList args.toList ds p:=hA0
 rw[Try.params11] at hA hval
 obtain⟨v0,vs0,d0,ds0,p0,q0,hargs,rfl,rfl,h0,r0⟩:=trodAll_cons hA
 obtain⟨rfl,rfl,rfl⟩:=trodAll_nil r0
 obtain rfl:args=#[v0]:=by cases args;simp_all
 obtain⟨rfl,rfl⟩:=trodVars_none hV
 obtain⟨a0,len0,cap0,rfl⟩:=okWide_slice Try.underlying57 (hval 0 57 v0 rfl rfl)
 have k0:=h0
 have lt0:∀ x∈p0,x.block<W.heap.size:=by obtain⟨m,hm⟩:=k0;exact DataW.trod_lt m _ _ _ hm
 have w0:Code W a0 len0:=by
  obtain⟨fuel,hf⟩:=h0
  rcases open_ints Try.underlying57 Try.underlying5 (by kernel_rfl) hf with ⟨hcs,_⟩ | ⟨x,l,c,zs,hcs,_,hl,hm,hz,_,hcell,hwz⟩
  · simp[Value.cells] at hcs
    obtain⟨rfl,rfl,rfl⟩:=hcs
    exact .inl rfl
  · simp[Value.cells] at hcs
    obtain⟨rfl,rfl,rfl⟩:=hcs
    exact codeOf W x _ _ zs hl (by simpa using hz) hcell hwz
 clear hA0 hval0
 refine (walk a0 len0 cap0 W w0).mono fun e W' ⟨he,bel⟩=>?_
 subst he
 exact⟨_,rfl,_,_,_,[],_,[],hW',trodAll_mk1 (shut_bool Try.underlying4 _),(trodAll_cons_mk (Below.trod laidOut (by kernel_rfl) (of_decide_eq_true (by kernel_rfl)) k0 bel lt0) trodAll_mk0),rfl,bel.frame _,fun h=>by cases h⟩
theorem over:Rows.fnReplacedRow.holds Try.pinned (OpenSpec.ofChange Rows.fnReplacedSpec) :=
 OpenClaim.holds_of_wide 11 Try.f11 rfl rfl rfl rfl rfl rfl rfl ⟨rfl,rfl,rfl,rfl,rfl⟩ rfl rfl rfl rfl rfl (by kernel_rfl) Try.func11 (by kernel_rfl)
  (of_decide_eq_true (by kernel_rfl)) (by unfold Func.isWrapper;first | (rw[if_pos (by decide +kernel)];kernel_rfl) | (rw[if_neg (by decide +kernel)];exact⟨rfl,rfl⟩))
  (fun os started H enc _=>lifted os started H enc)
end Go.Proofs.Ytlllkdioojjaeaa.fnReplaced
namespace Go.Proofs.Ytlllkdioojjaeaa
theorem fnReplaced_holds:Rows.FnReplacedSaid:=fnReplaced.over
end Go.Proofs.Ytlllkdioojjaeaa
