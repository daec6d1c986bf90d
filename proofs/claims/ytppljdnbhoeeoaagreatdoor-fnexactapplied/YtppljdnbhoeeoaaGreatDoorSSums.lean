/-
 Texts that are laid as one: SSum, SL1, EmptyR.
-/
import Derived.Test.YtppljdnbhoeeoaaGreatDoorSBlock
import Derived.Test.YtppljdnbhoeeoaaGreatDoorSumI
import Derived.Test.YtppljdnbhoeeoaaGreatDoorWrapTxt
namespace Go.Proofs.YtppljdnbhoeeoaaGreatDoor
open Go.RowKit
set_option linter.unusedVariables false
set_option maxHeartbeats 1000000
set_option maxRecDepth 100000
theorem za26 (w:World) :
 Calls Tryz.prog 125 #[] w fun e w'=>e=.returned (.slice (some ⟨w.heap.size,0,none⟩) 64 64)∧Arr w' w.heap.size 192 kL∧Below w.heap.size w w':=by
 go_enter Tryz.func125,Tryz.ntmps125
 go_wp2
 go_ret
 exact⟨rfl,heap_alloc_new w _,(Below.refl _ _).alloc (Nat.le_refl _) _⟩
theorem cell_kept (w:World) (o:Obj) (a:Addr) (v:Value) (h:a.block<w.heap.size) (hc:w.cell? a=some v):(w.alloc o).drew.cell? a=some v :=
 (((Below.refl w.heap.size w).alloc (Nat.le_refl _) o).cell (p:=a) h).trans hc
theorem RowX.cellB {w:World} {base g n cap:Nat} {l:List UInt8} (h:RowX w base g n cap (ze l)) (i:Nat) (hi:i<n):w.cell? ⟨g,i,none⟩=some (.int .u8 ((l.getD i 0).toNat:Int)):=by
 have hn:l.length=n:=by rw[←ze6 l];exact h.len
 rw[h.cells i hi]
 simp[ze,List.getD,show i<l.length by omega]
theorem zfm (l : List UInt8) (w : World) (hl : l.length ≤ 1048576) :
 Calls Tryz.prog 92 #[.string ⟨l.toArray⟩] w fun e w'=>e=.returned (.string ⟨(sumL l).toArray⟩)∧Below w.heap.size w w':=by
 obtain⟨i0,hi0,hz0,hz1,hz2⟩:=info_parts info5
 have hz:(ByteArray.mk l.toArray).size=l.length:=by simp[ByteArray.size]
 have hcv0:=run_bytes_of_string (P:=Tryz.prog) w 9 150 5 ⟨l.toArray⟩ Tryz.underlying9 Tryz.underlying150 Tryz.underlying5
 rw[hz] at hcv0
 have hcap:=grownCap_ge w l.length 0 5
 obtain⟨cap0,hcap0⟩:∃ cap0,cap0=grownCap w l.length 0 5:=⟨_,rfl⟩
 rw[←hcap0] at hcv0 hcap
 have hrx:=zkk w.drew l w.heap.size cap0 5 (Nat.le_refl _) hcap
 obtain⟨W1,hW1⟩:∃ W1,W1=w.drew.alloc (.cells (bytesRow ⟨l.toArray⟩ cap0) 5 ((bytesRow ⟨l.toArray⟩ cap0).size,(bytesRow ⟨l.toArray⟩ cap0).size+1)):=⟨_,rfl⟩
 have hB1:Below w.heap.size w W1:=by rw[hW1];exact ((show Below w.heap.size w w.drew from ⟨rfl,rfl,rfl,Nat.le_refl _,fun _ _=>rfl⟩).alloc (Nat.le_refl _) _)
 have hs1:W1.heap.size=w.heap.size+1:=by rw[hW1];simp[heap_drew]
 rw[←hW1] at hcv0 hrx
 have HRX:Hid (RowX W1 w.heap.size w.heap.size l.length cap0 (ze l)):=hrx
 have HB1:Hid (Below w.heap.size w W1):=hB1
 clear hrx hW1 hcap0 hz hB1
 go_enter Tryz.func92,Tryz.ntmps92
 go_wp2_with (at_builtin;refine zfh _ rfl _ _ 150 rfl 5 i0 (.int .u8 0) 1 Tryz.underlying150 hi0 hz0 hz1 hz2 rfl w.heap.size w.heap.size l.length cap0 (ze l) rfl (HRX.out.alloc _) ⟨w.heap.size+1,0,none⟩ 1 1 [.int .u8 128] rfl rfl (World.news_of_block (cs:=#[.int .u8 128]) (t:=5) (fr:=(0,0)) (zcj W1 _ _ hs1)) (by simp[Value.oneCell']) (by omega) (by unfold maxLen;omega) (by omega) (by simp;omega) ?_;intro g1 cap1 w2 hR2 hg2)
 have hB2:Below w.heap.size w w2:=(HB1.out.alloc (by omega) _).grown hg2 (by simp;omega) (fun k hk=>by simp at hk;omega)
 clear HRX HB1 hcv0 hg2
 go_loopw [3] (fun v wr=>∃ z g cap:Nat,z≤padZ l.length∧v=.slice (some ⟨g,0,none⟩) (l.length+1+z) cap∧RowX wr w.heap.size g (l.length+1+z) cap (ze (l ++ 128 :: List.replicate z 0))∧Below w.heap.size w wr) (fun v _=>l.length+1+padZ l.length - vlen v)
 case atStart=>exact⟨0,g1,cap1,Nat.zero_le _,rfl,by rw[zed];exact hR2,hB2⟩
 case round =>
  obtain⟨z,g,cap,hzl,rfl,hR,hbel⟩:=hrel
  have hsz:=hbel.size
  have hpz:=zjz l.length
  clear hR2 hB2
  by_cases hlt:z<padZ l.length
  · have hne:=zov l.length z hlt
    obtain⟨q,hq⟩:∃ q,q=l.length+1+z:=⟨_,rfl⟩
    rw[←hq] at hne hR ⊢
    have htm:(q:Int).tmod 64=((q % 64:Nat):Int):=by rw[Int.tmod_eq_emod_of_nonneg (by omega)];omega
    obtain⟨r,hr⟩:∃ r,r=q % 64:=⟨_,rfl⟩
    rw[←hr] at htm hne
    have hne2:(r:Int)≠56:=by omega
    have HQ:Hid (q=l.length+1+z):=hq
    have HRR:Hid (RowX wr w.heap.size g q cap (ze (l ++ 128 :: List.replicate z 0))):=hR
    have hq2:q≤1048640:=by omega
    clear hr hq hR
    go_wp2_with (at_builtin;refine zfh _ rfl _ _ 150 rfl 5 i0 (.int .u8 0) 1 Tryz.underlying150 hi0 hz0 hz1 hz2 rfl w.heap.size g q cap (ze (l ++ 128 :: List.replicate z 0)) rfl (HRR.out.alloc _) ⟨wr.heap.size,0,none⟩ 1 1 [.int .u8 0] rfl rfl (World.news_of_block (cs:=#[.int .u8 0]) (t:=5) (fr:=(0,0)) (heap_alloc_new wr _)) (by simp[Value.oneCell']) (by omega) (by unfold maxLen;omega) (by omega) (by simp;omega) ?_;intro g3 cap3 w3 hR3 hg3)
    have hB3:Below w.heap.size w w3:=(hbel.alloc hsz _).grown hg3 (by simp;omega) (fun k hk=>by have:=HRR.out.low;simp at hk;omega)
    have HR3:Hid (RowX w3 w.heap.size g3 (l.length+1+(z+1)) cap3 (ze (l ++ 128 :: List.replicate (z+1) 0))):=by
     have e1:q+1=l.length+1+(z+1):=by have:=HQ.out;omega
     have e2:ze (l ++ 128 :: List.replicate (z+1) 0)=ze (l ++ 128 :: List.replicate z 0) ++ [.int .u8 0]:=by rw[List.replicate_succ',←List.cons_append,←List.append_assoc,zed];rfl
     rw[Hid,←e1,e2];exact hR3
    clear hg3 hR3
    go_roundw
    case rel=>exact⟨z+1,g3,cap3,by omega,by have:=HQ.out;simp;omega,HR3.out,hB3⟩
    case measure=>have:=HQ.out;simp[vlen];omega
  · have hzz:z=padZ l.length:=by omega
    subst hzz
    have hend:=zk0 l.length
    obtain⟨q,hq⟩:∃ q,q=l.length+1+padZ l.length:=⟨_,rfl⟩
    rw[←hq] at hend hR ⊢
    obtain⟨hd,hhd⟩:∃ hd,hd=l ++ 128 :: List.replicate (padZ l.length) 0:=⟨_,rfl⟩
    rw[←hhd] at hR
    have htm:(q:Int).tmod 64=56:=by rw[Int.tmod_eq_emod_of_nonneg (by omega)];omega
    have HF:Hid (padB l l.length=hd ++ bigB (8*l.length) 8):=by rw[Hid,hhd];rfl
    have HQ:Hid (q % 64=56):=hend
    have HRR:Hid (RowX wr w.heap.size g q cap (ze hd)):=hR
    have HBB:Hid (Below w.heap.size w wr):=hbel
    have hq2:q≤1048640:=by omega
    have H1:=zsi (8*l.length) 8 wr (by omega) (by omega)
    have hn8:(l.length:Int)*8=((8*l.length:Nat):Int):=by omega
    obtain⟨N,hN⟩:∃ N,N=8*l.length:=⟨_,rfl⟩
    rw[←hN] at HF H1 hn8
    have hNl:N≤8388608:=by omega
    clear hend hq hhd hR hbel hpz hlt hzl hN
    go_wp2_with fail
    refine H1.mono ?_
    rintro e' w4 ⟨rfl,hb4⟩
    have hR4:RowX w4 w.heap.size g q cap (ze hd):=HRR.out.below hb4
    have hB4:Below w.heap.size w w4:=HBB.out.trans (hb4.mono hsz)
    have hs4:=hB4.size
    have hz4:(ByteArray.mk (bigB N 8).toArray).size=8:=by simp[ByteArray.size,zdt]
    have hcv4:=run_bytes_of_string (P:=Tryz.prog) w4 9 150 5 ⟨(bigB N 8).toArray⟩ Tryz.underlying9 Tryz.underlying150 Tryz.underlying5
    rw[hz4] at hcv4
    have hcap4:=grownCap_ge w4 8 0 5
    obtain⟨cap4,hcap40⟩:∃ cap4,cap4=grownCap w4 8 0 5:=⟨_,rfl⟩
    rw[←hcap40] at hcv4 hcap4
    have hrx4:RowX _ w4.heap.size w4.heap.size _ _ _:=zkk w4.drew (bigB N 8) w4.heap.size cap4 5 (Nat.le_refl _) (by rw[zdt];exact hcap4)
    obtain⟨W5,hW5⟩:∃ W5,W5=w4.drew.alloc (.cells (bytesRow ⟨(bigB N 8).toArray⟩ cap4) 5 ((bytesRow ⟨(bigB N 8).toArray⟩ cap4).size,(bytesRow ⟨(bigB N 8).toArray⟩ cap4).size+1)):=⟨_,rfl⟩
    have hb5:Below w4.heap.size w4 W5:=by rw[hW5];exact ((show Below w4.heap.size w4 w4.drew from ⟨rfl,rfl,rfl,Nat.le_refl _,fun _ _=>rfl⟩).alloc (Nat.le_refl _) _)
    rw[←hW5] at hcv4 hrx4
    have hR5:RowX W5 w.heap.size g q cap (ze hd):=hR4.below hb5
    have hB5:Below w.heap.size w W5:=hB4.trans (hb5.mono hs4)
    have hnews:∀ j u,(ze (bigB N 8))[j]? = some u→W5.cell? ((⟨w4.heap.size,0,none⟩:Addr).add j)=some u:=fun j u hu=>by
     have hj:j<8:=by have:=(List.getElem?_eq_some_iff.1 hu).1;rw[ze6,zdt] at this;exact this
     rw[zgd,hrx4.cells j (by rw[zdt];exact hj)];exact hu
    have hnl:(ze (bigB N 8)).length=8:=by rw[ze6,zdt]
    have A5:Hid (_∧_∧_):=⟨hR5,hB5,hnews⟩
    have hs5:=hB5.size
    clear HRR HBB H1 hb4 hR4 hB4 hz4 hcap40 hrx4 hW5 hb5 hR5 hB5 hnews
    go_wp2_with (at_builtin;refine zfh _ rfl _ _ 150 rfl 5 i0 (.int .u8 0) 1 Tryz.underlying150 hi0 hz0 hz1 hz2 rfl w.heap.size g q cap (ze hd) rfl A5.out.1 ⟨w4.heap.size,0,none⟩ 8 cap4 (ze (bigB N 8)) rfl hnl A5.out.2.2 (zgf _) (by omega) (by unfold maxLen;omega) (by omega) hs5 ?_;intro g6 cap6 w6 hR6 hg6)
    have hB6:Below w.heap.size w w6:=A5.out.2.1.grown hg6 (by omega) (fun k hk=>by have:=A5.out.1.low;simp at hk;omega)
    have hs6:=hB6.size
    obtain⟨P,hP⟩:∃ P,P=padB l l.length:=⟨_,rfl⟩
    have hR6':RowX w6 w.heap.size g6 (q+8) cap6 (ze P):=by rw[hP,HF.out,zed];exact hR6
    have hPl:P.length=q+8:=by rw[←ze6 P];exact hR6'.len
    have A6:Hid (_∧_):=⟨hR6',hB6⟩
    have HS:Hid (sumL l=stT (stAt zcw P (P.length / 64))):=by rw[Hid,hP];rfl
    have H2:=za26 w6
    clear A5 hg6 hR6 hR6' hB6 HF hP hcv4 hnl
    go_wp2_with fail
    refine H2.mono ?_
    rintro e' w7 ⟨rfl,hA7,hb7⟩
    have hs7:=hb7.size
    have hs77:w6.heap.size<w7.heap.size:=hA7.lt
    have A7:Hid (_∧_∧_):=⟨A6.out.1.below hb7,A6.out.2.trans (hb7.mono hs6),hA7⟩
    clear A6 H2 hA7 hb7
    obtain⟨m,hm⟩:∃ m,m=(q+8) / 64:=⟨_,rfl⟩
    have HQM:Hid (q+8=64*m):=by rw[Hid];have:=HQ.out;omega
    have hPm:P.length / 64=m:=by rw[hPl];exact hm.symm
    rw[hPm] at HS
    have HPL:Hid (P.length=q+8):=hPl
    have hmk:m≤20000:=by omega
    clear hm HQ hPl hPm
    go_wp2
    go_loopw [5,6] (fun h i wr=>∃ j hb:Nat,j≤m∧i=.int .i64 ((64*j:Nat):Int)∧h=.slice (some ⟨hb,0,none⟩) 8 8∧w.heap.size≤hb∧Arr wr hb 192 (stAt zcw P j).l∧RowX wr w.heap.size g6 (q+8) cap6 (ze P)∧Arr wr w6.heap.size 192 kL∧Below w.heap.size w wr) (fun _ i _=>64*m - (intOf i).toNat)
    case atStart =>
     refine⟨0,w7.heap.size,by omega,rfl,rfl,by omega,?_,A7.out.1.alloc _,A7.out.2.2.kept (Below.heap_alloc _ _ _ hs77),A7.out.2.1.alloc (by omega) _⟩
     exact heap_alloc_new w7 _
    case round =>
     obtain⟨j,hb,hj,rfl,rfl,hhb,hA,hR,hK,hbel⟩:=hrel
     have hsz8:=hbel.size
     by_cases hlt:j<m
     · have hqm:=HQM.out
       have hPl:=HPL.out
       have HB:=za1n (stAt zcw P j) ((P.drop (64*j)).take 64) hb w6.heap.size g6 (64*j) 8 64 (cap6 - 64*j) wr (by simp;omega) hA.lt hK.lt hR.lt
        (fun i hi=>by rw[hA.cell i (by simpa [S8.l] using hi),zhm _ i hi]) (fun i hi=>by rw[hK.cell i (by simpa [kL] using hi)];simp[List.getD,kL,hi])
        (fun i hi=>by rw[hR.cellB (64*j+i) (by omega)];simp[List.getD,hi])
       have hnx:mix (stAt zcw P j) (bl ((P.drop (64*j)).take 64))=stAt zcw P (j+1):=rfl
       rw[hnx] at HB
       obtain⟨p,hp⟩:∃ p:Nat,p=64*j:=⟨_,rfl⟩
       rw[←hp] at HB ⊢
       have HP:Hid (p=64*j):=hp
       have hfit:=hR.fit
       have hpl:(p:Int)<(q:Int)+8:=by omega
       have hpe:(p:Int)+64≤(cap6:Int):=by omega
       have hpc:¬ cap6=p:=by omega
       have hpk:p≤1300000:=by omega
       have A8:Hid (_∧_∧_):=⟨hR,hK,hbel⟩
       have hgl:=hR.lt
       have hkl:=hK.lt
       clear hp hR hK hbel hA hnx hqm hPl hfit
       go_wp2_with fail
       refine HB.mono ?_
       rintro e' w8 ⟨hb',rfl,hhb',hA8,hb8⟩
       have hR8:=A8.out.1.below hb8
       have hK8:Arr w8 w6.heap.size 192 kL:=A8.out.2.1.kept (hb8.block _ hkl)
       have hB8:=A8.out.2.2.trans (hb8.mono hsz8)
       have hi1:((64*(j+1):Nat):Int)=(p:Int)+64:=by have:=HP.out;omega
       have hm64:p+64≤64*m:=by have:=HP.out;omega
       have FF:Hid (_∧_∧_∧_∧_∧_):=⟨hi1,(show w.heap.size≤hb' by omega),hA8,hR8,hK8,hB8⟩
       clear HB A8 hA8 hR8 hK8 hB8 hi1 hb8
       go_wp2
       go_roundw
       case rel=>exact⟨j+1,hb',by omega,by rw[FF.out.1],rfl,FF.out.2.1,FF.out.2.2.1,FF.out.2.2.2.1,FF.out.2.2.2.2.1,FF.out.2.2.2.2.2⟩
       case measure=>simp[intOf];omega
     · have hjm:j=m:=by omega
       subst hjm
       obtain⟨S,hS⟩:∃ S,S=stAt zcw P j:=⟨_,rfl⟩
       rw[←hS] at hA HS
       have hx8:=fun i (hi:i<8)=>(hA.cell i (by simpa [S8.l] using hi)).trans (by rw[zhm _ i hi])
       have HX8:Hid (∀ i,i<8→wr.cell? ⟨hb,i,none⟩=some (.int .u32 (num (S.l.getD i 0)))):=hx8
       have hhl:=hA.lt
       have HBB:Hid (Below w.heap.size w wr):=hbel
       have hnl:¬ ((64*j:Nat):Int)<(q:Int)+8:=by have:=HQM.out;omega
       obtain⟨p,hp⟩:∃ p:Nat,p=64*j:=⟨_,rfl⟩
       rw[←hp] at hnl ⊢
       obtain⟨V,hV⟩:∃ V,V=wr:=⟨_,rfl⟩
       subst hV
       clear hS hx8 hA hR hK hbel hp A7 HQM HPL
       go_wp2
       go_loopw [7,8] (fun v i wx=>∃ j g cap:Nat,j≤8∧i=.int .i64 (j:Int)∧v=.slice (some ⟨g,0,none⟩) (4*j) cap∧wx.ownsRow V.heap.size 5 1 (.slice (some ⟨g,0,none⟩) (4*j) cap) (4*j) (ze ((S.l.take j).map wB).flatten)∧Below V.heap.size V wx) (fun _ i _=>8 - (intOf i).toNat)
       case atStart=>exact⟨0,V.heap.size,0,by omega,rfl,rfl,World.ownsRow_lit V #[] 0 (Nat.le_refl _) (Nat.zero_le _) rfl,(Below.refl _ _).alloc (Nat.le_refl _) _⟩
       case round =>
        obtain⟨t,g9,cap9,ht,rfl,rfl,hown,hbel⟩:=hrel
        have hsz9:=hbel.size
        have hbg:=own_base hown
        by_cases hlt9:t<8
        · have hx:=(hbel.cell (p:=⟨hb,t,none⟩) hhl).trans (HX8.out t hlt9)
          have HN:=zk1 S t hlt9
          obtain⟨x,hxx⟩:∃ x,x=S.l.getD t 0:=⟨_,rfl⟩
          rw[←hxx] at hx HN
          have HNN:Hid (_=_):=HN
          have e24:=zfe x 16777216 16777216 rfl
          have e16:=zfe x 65536 65536 rfl
          have e8:=zfe x 256 256 rfl
          have e0:=zox x
          have ht8:(t:Int)<8:=by omega
          have ht0:(0:Int)≤(t:Int):=by omega
          clear hxx HN HX8
          go_wp2_with fail
          go_region_held3 (fun w'=>w'.cell? ⟨hb,t,none⟩=some (.int .u32 (num x))) (first | exact hx | exact hx1 | go_keep)
           ((refine step_append_lies _ (by rfl) _ _ _ (by rfl) V.heap.size 5 i0 _ 1 1 Tryz.underlying150 hi0 hz0 hz1 hz2 rfl (by omega) (.slice (some ⟨g9,0,none⟩) (4*t) cap9) (4*t) _ (by rfl) ((hown.alloc _).drew) ⟨wr.heap.size,0,none⟩ 4 4 (ze (wB x)) (by rfl) (by rfl) (World.news_of_block (cs:=(ze (wB x)).toArray) (t:=5) (fr:=(0,0)) (heap_alloc_new wr _)) (zgf _) (by omega) (by unfold maxLen;omega) (by omega) (by simp;omega) (wr.heap.size+1) (by simp) ?_;intro g2 cap2 w1 hown1 hgrow hat hlt1;have hx1:=(hgrow.cell_far ⟨hb,t,none⟩ (by simp[heap_drew];omega) (by simp[Value.ownBlock];omega)).trans (cell_kept _ _ ⟨hb,t,none⟩ _ (by simp;omega) hx)))
          all_goals
           have hbel1:=zel hbel hsz9 hbg hgrow
           have HR9:Hid (w1.ownsRow V.heap.size 5 1 (.slice (some ⟨g2,0,none⟩) (4*(t+1)) cap2) (4*(t+1)) (ze ((S.l.take (t+1)).map wB).flatten)):=by rw[Hid,HNN.out,zed];simpa [Nat.mul_add] using hown1
           clear hown1 hgrow hown hx hx1
           go_wp2
           go_roundw
           case rel=>exact⟨t+1,g2,cap2,by omega,by go_num,by simp[Nat.mul_add],HR9.out,hbel1⟩
           case measure=>simp[intOf];omega
        · have ht8:t=8:=by omega
          subst ht8
          have hcv:=zd6 (P:=Tryz.prog) Tryz.underlying150 Tryz.underlying5 Tryz.underlying9 hown
          have HR:Hid (((S.l.take 8).map wB).flatten=sumL l):=by rw[Hid,HS.out];rfl
          have hB9:Below w.heap.size w wr:=HBB.out.trans (hbel.mono hsz8)
          clear HX8 hbel hown
          go_wp2
          go_ret
          exact⟨zcx HR.out,hB9⟩
theorem zgr:(Tryz.prog.info? 9).map (fun i=>(i.zero,i.size,i.bytes))=some (some (.string ⟨#[]⟩),1,16):=by kernel_rfl
theorem za27 (l:List UInt8) (w:World) (hl:l.length≤60000) :
 Calls Tryz.prog 93 #[.string ⟨l.toArray⟩] w fun e w'=>e=.returned (.string ⟨(zz l).toArray⟩)∧Below w.heap.size w w':=by
 have h:=zsj ⟨l.toArray⟩ w (by simp[ByteArray.size];omega)
 have e1:(ByteArray.mk l.toArray).data.toList=l:=by simp
 rw[e1] at h
 exact h
theorem za28 (l:List UInt8) (w:World) (hl:l.length≤60000) :
 Calls Tryz.prog 127 #[.string ⟨l.toArray⟩,.int .i64 192] w fun e w'=>e=.returned (.string ⟨(za9 l 192).toArray⟩)∧Below w.heap.size w w':=by
 have h:=zm0 ⟨l.toArray⟩ 192 w (by simp[ByteArray.size];omega) (by omega)
 have e1:(ByteArray.mk l.toArray).data.toList=l:=by simp
 rw[e1] at h
 exact h
theorem za29 (a b:List UInt8):ByteArray.mk a.toArray ++ ByteArray.mk b.toArray=⟨(a ++ b).toArray⟩:=by
 apply ByteArray.ext
 simp
theorem zfn (g cap:Nat) (ls:List (List UInt8)) (b0:Nat) (w:World) (hf:ls.flatten.length≤30000) (hl:ls.length≤1001) (hv:w.ownsRow b0 9 1 (.slice (some ⟨g,0,none⟩) ls.length cap) ls.length (zh ls)) :
 Calls Tryz.prog 159 #[.slice (some ⟨g,0,none⟩) ls.length cap] w fun e w'=>e=.returned (.string ⟨(za8 ls).toArray⟩)∧Below w.heap.size w w':=by
 have hgl:=zci hv
 have hc:∀ j (h:j<ls.length),w.cell? ⟨g,j,none⟩=some (.string ⟨ls[j].toArray⟩):=fun j h=>by rw[hv.cellAt j (by omega),zgm ls j h]
 have HO:Hid (za8 ls=za9 (zbf ls) 192):=rfl
 have hlen:=(zek ls hf hl).1
 obtain⟨out,hout⟩:∃ out,out=za8 ls:=⟨_,rfl⟩
 rw[←hout] at HO ⊢
 clear hv hout
 go_enter Tryz.func159,Tryz.ntmps159
 go_wp2
 go_loopw [3,4] (fun v i wr=>∃ j:Nat,∃ t:List UInt8,j≤ls.length∧i=.int .i64 (j:Int)∧v=.string ⟨t.toArray⟩∧Hid (t=zbf (ls.take j))∧t.length≤33003∧Below w.heap.size w wr) (fun _ i _=>ls.length - (intOf i).toNat)
 case atStart=>exact⟨0,[],Nat.zero_le _,rfl,rfl,rfl,by simp,Below.refl _ _⟩
 case round =>
  obtain⟨j,t,hj,rfl,rfl,HT,ht6,hbel⟩:=hrel
  have hsz:=hbel.size
  by_cases hlt:j<ls.length
  · have c1:=(hbel.cell (p:=⟨g,j,none⟩) hgl).trans (hc j hlt)
    have hxl:=zen ls j hlt
    have HF:Hid (zbf (ls.take (j+1))=t ++ zz ls[j]):=by rw[Hid,zya ls j hlt,←HT.out]
    have HTL:Hid ((zbf (ls.take (j+1))).length≤33003):=by rw[Hid];have:=zyb ls (j+1) (by omega);omega
    have hj0:(0:Int)≤(j:Int):=by omega
    have hj1:(j:Int)<(ls.length:Int):=by omega
    obtain⟨x,hx⟩:∃ x,x=ls[j]:=⟨_,rfl⟩
    rw[←hx] at c1 hxl HF
    have H1:=fun W=>za27 x W (by omega)
    obtain⟨y,hy⟩:∃ y,y=zz x:=⟨_,rfl⟩
    rw[←hy] at H1 HF
    have happ:=za29 t y
    have hyl:y.length≤33003:=by have h1:=HTL.out;rw[HF.out,List.length_append] at h1;omega
    have HTY:Hid ((t ++ y).length≤33003):=by rw[Hid,←HF.out];exact HTL.out
    clear hc hx hy hxl HTL HT
    go_wp2_with fail
    refine (H1 _).mono ?_
    rintro e w1 ⟨rfl,hb1⟩
    have hbel2:=hbel.trans (hb1.mono hsz)
    clear H1 hb1 hbel c1
    go_wp2
    go_roundw
    case rel=>exact⟨j+1,t ++ y,by omega,by go_num,by simp,HF.out.symm,HTY.out,hbel2⟩
    case measure=>simp[intOf];omega
  · have hjl:j=ls.length:=by omega
    subst hjl
    have HR:Hid (out=za9 t 192):=by
     have e1:=HT.out
     rw[List.take_length] at e1
     rw[Hid,HO.out,e1]
    have H1:=fun W=>za28 t W (by omega)
    rw[←HR.out] at H1
    clear hc HT HR HO
    go_wp2_with fail
    refine (H1 _).mono ?_
    rintro e w1 ⟨rfl,hb1⟩
    go_wp2
    go_ret
    exact⟨rfl,hbel.trans (hb1.mono hsz)⟩
def emptyL:List UInt8:=sumL (zz [])
theorem zr9:(zz []).length≤1048576:=by decide
theorem zlf (w:World) (hT:Tab w):Calls Tryz.prog 79 #[] w fun e w'=>e=.returned (.string ⟨emptyL.toArray⟩)∧Below w.heap.size w w':=by
 have HT:Hid (Tab w):=hT
 have K1:=zsk ⟨#[]⟩ w (by decide)
 have K2:=fun W hW=>zin (zz []) W zr9 hW
 have HE:Hid (emptyL=sumL (zz [])):=rfl
 have HX:zgl (⟨#[]⟩:ByteArray).data.toList=zz []:=rfl
 rw[HX] at K1
 rw[←HE.out] at K2
 obtain⟨t,ht⟩:∃ t,t=zz []:=⟨_,rfl⟩
 obtain⟨m,hm⟩:∃ m,m=emptyL:=⟨_,rfl⟩
 rw[←ht] at K1 K2
 rw[←hm] at K2 ⊢
 clear hT HE HX ht hm
 go_enter Tryz.func79,Tryz.ntmps79
 go_wp2_with fail
 refine K1.mono ?_
 rintro e w1 ⟨rfl,b1⟩
 go_wp2_with fail
 refine (K2 _ (HT.out.later b1)).mono ?_
 rintro e w2 ⟨rfl,b2⟩
 have B2:=b1.trans (b2.mono b1.size)
 go_wp2
 go_ret
 exact⟨rfl,B2⟩
theorem zlg (w:World):Calls Tryz.prog 71 #[] w fun e w'=>e=.returned (.string ⟨emptyL.toArray⟩)∧Below w.heap.size w w':=by
 have K1:=zsj ⟨#[]⟩ w (by decide)
 have K2:=fun W=>zfm (zz []) W zr9
 have HE:Hid (emptyL=sumL (zz [])):=rfl
 have HX:zz (⟨#[]⟩:ByteArray).data.toList=zz []:=rfl
 rw[HX] at K1
 rw[←HE.out] at K2
 obtain⟨t,ht⟩:∃ t,t=zz []:=⟨_,rfl⟩
 obtain⟨m,hm⟩:∃ m,m=emptyL:=⟨_,rfl⟩
 rw[←ht] at K1 K2
 rw[←hm] at K2 ⊢
 clear HE HX ht hm
 go_enter Tryz.func71,Tryz.ntmps71
 go_wp2_with fail
 refine K1.mono ?_
 rintro e w1 ⟨rfl,b1⟩
 go_wp2_with fail
 refine (K2 _).mono ?_
 rintro e w2 ⟨rfl,b2⟩
 have B2:=b1.trans (b2.mono b1.size)
 go_wp2
 go_ret
 exact⟨rfl,B2⟩
end Go.Proofs.YtppljdnbhoeeoaaGreatDoor
