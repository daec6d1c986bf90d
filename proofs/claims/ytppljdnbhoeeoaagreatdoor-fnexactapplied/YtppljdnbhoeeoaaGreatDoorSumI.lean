/-
 Texts that are laid as one: Absorb, SumT, ISum.
-/
import Derived.Test.YtppljdnbhoeeoaaGreatDoorTurnAll
namespace Go.Proofs.YtppljdnbhoeeoaaGreatDoor
open Go.RowKit
set_option linter.unusedVariables false
set_option maxHeartbeats 1000000
set_option maxRecDepth 100000
theorem za3g (l:List UInt8) (w:World) (hl:l.length=64) :
 Calls Tryz.prog 170 #[.string ⟨l.toArray⟩] w fun e w'=>e=.returned (.agg (zv (bl l)).toArray)∧Below w.heap.size w w':=za4j l w hl
theorem zrw (s : S8) (l : List UInt8) (m : Nat) (w : World) (hl : l.length = 64 * m) (hm : m ≤ 20000) (hT : Tab w) :
 Calls Tryz.prog 133 #[.agg (zv s.l).toArray,.string ⟨l.toArray⟩] w fun e w'=>e=.returned (.agg (zv (stAt s l m).l).toArray)∧Below w.heap.size w w':=by
 obtain⟨c0,hc0⟩:∃ c0,c0=(zv s.l).toArray:=⟨_,rfl⟩
 obtain⟨cf,hcf⟩:∃ cf,cf=(zv (stAt s l m).l).toArray:=⟨_,rfl⟩
 rw[←hc0,←hcf]
 have HC0:Hid _:=hc0
 have HCF:Hid _:=hcf
 have HT:Hid (Tab w):=hT
 clear hc0 hcf hT
 go_enter Tryz.func133,Tryz.ntmps133
 go_wp2
 go_loopw [5] (fun i wr=>∃ j:Nat,j≤m∧i=.int .i64 ((64*j:Nat):Int)∧Arr wr w.heap.size 197 (stAt s l j).l∧(∃ old,wr.heap[w.heap.size+1]? = some (.cells old 197 (0,0))∧old.size=8)∧Below w.heap.size w wr∧w.heap.size+2≤wr.heap.size) (fun i _=>64*m - (intOf i).toNat)
 case atStart =>
  refine⟨0,by omega,rfl,?_,⟨_,heap_alloc2_new _ _ _,rfl⟩,((Below.refl _ _).alloc (Nat.le_refl _) _).alloc (by simp) _,by simp⟩
  unfold Arr
  rw[heap_alloc2_old,HC0.out]
  rfl
 case round =>
  obtain⟨j,hj,rfl,hA,hold,hbel,hsz⟩:=hrel
  by_cases hlt:j<m
  · have hsl := zy4 l (64 * j) 64 (by omega)
    have H1:=fun W=>za3g ((l.drop (64*j)).take 64) W (by simp;omega)
    have hbl:(bl ((l.drop (64*j)).take 64)).length=16:=zfc _ _
    have H2:=fun W hW=>za4o (stAt s l j) (bl ((l.drop (64*j)).take 64)) W hbl hW
    have hnx:mix (stAt s l j) (bl ((l.drop (64*j)).take 64))=stAt s l (j+1):=rfl
    rw[hnx] at H2
    obtain⟨cn,hcn⟩:∃ cn,cn=(zv (stAt s l (j+1)).l).toArray:=⟨_,rfl⟩
    obtain⟨cb,hcb⟩:∃ cb,cb=(zv (bl ((l.drop (64*j)).take 64))).toArray:=⟨_,rfl⟩
    rw[←hcn] at H2
    rw[←hcb] at H1 H2
    obtain⟨blk,hblk⟩:∃ blk,blk=(l.drop (64*j)).take 64:=⟨_,rfl⟩
    rw[←hblk] at H1 hsl
    have hnz:cn.size=8:=by rw[hcn];rfl
    have hn1:cn.all (·.oneCell')=true:=by rw[hcn];exact ze5 _
    have HCN:Hid _:=hcn
    obtain⟨p,hp⟩:∃ p:Nat,p=64*j:=⟨_,rfl⟩
    rw[←hp] at hsl ⊢
    have hpl:(p:Int)<(l.length:Int):=by omega
    have hpm:p≤1300000:=by omega
    have hwp:IntKind.i64.wrap ((p:Int)+64)=(p:Int)+64:=zag _ (by omega) (by omega)
    have hpe:(p:Int)+64≤(l.length:Int):=by omega
    have hp0:(0:Int)≤(p:Int)+64:=by omega
    have hpn:((p:Int)+64).toNat=p+64:=by omega
    have HP:Hid _:=hp
    have hlm:l.length≤1300000:=by omega
    obtain⟨old,ho1,ho2⟩:=hold
    have HLL:Hid (l.length=64*m):=hl
    obtain⟨S,hS⟩:∃ S,S=stAt s l j:=⟨_,rfl⟩
    rw[←hS] at H2 hA
    clear hS hcn hcb hblk hp hbl hnx HC0 HCF hl
    obtain⟨a,b,c,d,e,f,g,h⟩:=S
    have hAA:wr.heap[w.heap.size]? = some (.cells #[.int .u32 (num a),.int .u32 (num b),.int .u32 (num c),.int .u32 (num d),.int .u32 (num e),.int .u32 (num f),.int .u32 (num g),.int .u32 (num h)] 197 (0,0)):=hA
    have q:=fun k=>cell_of_row wr w.heap.size k _ _ _ hAA
    have q0:=q 0
    have q1:=q 1
    have q2:=q 2
    have q3:=q 3
    have q4:=q 4
    have q5:=q 5
    have q6:=q 6
    have q7:=q 7
    have H2':∀ W,Tab W→Calls Tryz.prog 169 #[.agg #[.int .u32 (num a),.int .u32 (num b),.int .u32 (num c),.int .u32 (num d),.int .u32 (num e),.int .u32 (num f),.int .u32 (num g),.int .u32 (num h)],.agg cb] W fun e w'=>e=.returned (.agg cn)∧Below W.heap.size W w':=H2
    have HO:Hid (_∧_∧_):=⟨ho1,hbel,hAA⟩
    have HTR:Hid (Tab wr):=HT.out.later hbel
    clear H2 q hAA hA ho1 hbel
    go_wp2
    go_region_with (first
     | (go_at_call 170
        refine (H1 wr.drew).mono ?_
        rintro e' w1 ⟨rfl,hb1'⟩
        have hb1:Below wr.heap.size wr w1:=⟨hb1'.os,hb1'.tape,hb1'.output,hb1'.size,hb1'.block⟩
        clear hb1'
        have r0:=(hb1.cell (p:=⟨w.heap.size,0,none⟩) (by simp;omega)).trans q0
        have r1:=(hb1.cell (p:=⟨w.heap.size,1,none⟩) (by simp;omega)).trans q1
        have r2:=(hb1.cell (p:=⟨w.heap.size,2,none⟩) (by simp;omega)).trans q2
        have r3:=(hb1.cell (p:=⟨w.heap.size,3,none⟩) (by simp;omega)).trans q3
        have r4:=(hb1.cell (p:=⟨w.heap.size,4,none⟩) (by simp;omega)).trans q4
        have r5:=(hb1.cell (p:=⟨w.heap.size,5,none⟩) (by simp;omega)).trans q5
        have r6:=(hb1.cell (p:=⟨w.heap.size,6,none⟩) (by simp;omega)).trans q6
        have r7:=(hb1.cell (p:=⟨w.heap.size,7,none⟩) (by simp;omega)).trans q7)
     | (go_at_call 169
        refine (H2' w1 ?_).mono ?_
        · exact HTR.out.later hb1
        rintro e' w2 ⟨rfl,hb2⟩
        have hw2:w2.heap[w.heap.size]? = some (.cells #[.int .u32 (num a),.int .u32 (num b),.int .u32 (num c),.int .u32 (num d),.int .u32 (num e),.int .u32 (num f),.int .u32 (num g),.int .u32 (num h)] 197 (0,0)):=by
         rw[hb2.block _ (by have:=hb1.size;omega),hb1.block _ (by omega)];exact HO.out.2.2
        have hst:=zjy (P:=Tryz.prog) w2 w.heap.size 197 _ cn hw2 hnz.symm hn1
        have HW2:Hid (_∧_):=⟨hb2,hw2⟩
        clear hw2 hb2))
    all_goals
     have hi1:((64*(j+1):Nat):Int)=(p:Int)+64:=by have:=HP.out;omega
     have hA2:Arr (w2.setRow w.heap.size cn) w.heap.size 197 (stAt s l (j+1)).l:=by
      have:=setRow_heap w2 w.heap.size _ cn 197 (0,0) HW2.out.2
      unfold Arr
      rw[←HCN.out]
      exact this
     have hB2:Below w.heap.size w w2:=(HO.out.2.1.trans (hb1.mono (by omega))).trans (HW2.out.1.mono (by have:=hb1.size;omega))
     have hB3:=below_setRow hB2 (Nat.le_refl _) cn
     have hO3:(w2.setRow w.heap.size cn).heap[w.heap.size+1]? = some (.cells old 197 (0,0)):=by
      rw[setRow_other _ _ _ _ (by omega),HW2.out.1.block _ (by have:=hb1.size;omega),hb1.block _ (by omega)]
      exact HO.out.1
     have hS3:w.heap.size+2≤(w2.setRow w.heap.size cn).heap.size:=by have:=HW2.out.1.size;have:=hb1.size;simp;omega
     have hm64:p+64≤64*m:=by have:=HP.out;omega
     have FF:Hid (_∧_∧_∧_∧_):=⟨hi1,hA2,hB3,hO3,hS3⟩
     clear hi1 hA2 hB3 hO3 hS3 hB2 hst q0 q1 q2 q3 q4 q5 q6 q7 r0 r1 r2 r3 r4 r5 r6 r7 H1 H2' hsl
     go_wp2
     go_roundw
     case rel=>exact⟨j+1,by omega,by rw[FF.out.1],FF.out.2.1,⟨old,FF.out.2.2.2.1,ho2⟩,FF.out.2.2.1,FF.out.2.2.2.2⟩
     case measure=>simp[intOf];omega
  · have hjm:j=m:=by omega
    subst hjm
    have hA':wr.heap[w.heap.size]? = some (.cells cf 197 (0,0)):=by rw[HCF.out];exact hA
    have hz8:cf.size=8:=by rw[HCF.out];rfl
    have h18:cf.all (·.oneCell')=true:=by rw[HCF.out];exact ze5 _
    have hsz8:(Tryz.prog.info? 197).map (·.size)=some cf.size:=by rw[hz8];exact ziw
    obtain⟨old,ho1,ho2⟩:=hold
    have hbW:=below_setRow hbel (show w.heap.size≤w.heap.size+1 by omega) cf
    have hW:=setRow_heap wr (w.heap.size+1) _ cf 197 (0,0) ho1
    have hso:old.size=cf.size:=by omega
    have hjl:¬ ((64*j:Nat):Int)<(l.length:Int):=by omega
    have hlm:l.length≤1300000:=by omega
    obtain⟨p,hp⟩:∃ p:Nat,p=64*j:=⟨_,rfl⟩
    rw[←hp] at hjl ⊢
    clear hA hp hl ho2 HCF HC0
    go_wp2_with (first | refine wpList_load_row rfl 197 _ rfl w.heap.size rfl 197 cf (0,0) _ hA' Tryz.underlying197 rfl hsz8 ?_ | refine wpList_store_row rfl 197 _ _ rfl (w.heap.size+1) cf rfl rfl 197 _ ho1 hsz8 hso h18 ?_)
    exact bodyPost_ret (v:=.agg cf) (results_cell_row rfl _ _ (w.heap.size+1) 197 _ (0,0) _ rfl hW Tryz.underlying197 rfl hsz8) rfl ⟨rfl,hbW⟩
theorem za3h (s:S8) (W:World):(Instr.index 197 (.agg (zv s.l).toArray) (.int .i64 0)).run Tryz.prog W=.ok (.int .u32 (num (s.l.getD 0 0))) W:=by kernel_rfl
theorem za3i (s:S8) (W:World):(Instr.index 197 (.agg (zv s.l).toArray) (.int .i64 1)).run Tryz.prog W=.ok (.int .u32 (num (s.l.getD 1 0))) W:=by kernel_rfl
theorem za3j (s:S8) (W:World):(Instr.index 197 (.agg (zv s.l).toArray) (.int .i64 2)).run Tryz.prog W=.ok (.int .u32 (num (s.l.getD 2 0))) W:=by kernel_rfl
theorem za3k (s:S8) (W:World):(Instr.index 197 (.agg (zv s.l).toArray) (.int .i64 3)).run Tryz.prog W=.ok (.int .u32 (num (s.l.getD 3 0))) W:=by kernel_rfl
theorem za3l (s:S8) (W:World):(Instr.index 197 (.agg (zv s.l).toArray) (.int .i64 4)).run Tryz.prog W=.ok (.int .u32 (num (s.l.getD 4 0))) W:=by kernel_rfl
theorem za3m (s:S8) (W:World):(Instr.index 197 (.agg (zv s.l).toArray) (.int .i64 5)).run Tryz.prog W=.ok (.int .u32 (num (s.l.getD 5 0))) W:=by kernel_rfl
theorem za3n (s:S8) (W:World):(Instr.index 197 (.agg (zv s.l).toArray) (.int .i64 6)).run Tryz.prog W=.ok (.int .u32 (num (s.l.getD 6 0))) W:=by kernel_rfl
theorem za3o (s:S8) (W:World):(Instr.index 197 (.agg (zv s.l).toArray) (.int .i64 7)).run Tryz.prog W=.ok (.int .u32 (num (s.l.getD 7 0))) W:=by kernel_rfl
theorem idx8 (s:S8) (j:Nat) (h:j<8) (W:World):(Instr.index 197 (.agg (zv s.l).toArray) (.int .i64 (j:Int))).run Tryz.prog W=.ok (.int .u32 (num (s.l.getD j 0))) W:=by
 match j,h with
 | 0,_=>exact za3h s W
 | 1,_=>exact za3i s W
 | 2,_=>exact za3j s W
 | 3,_=>exact za3k s W
 | 4,_=>exact za3l s W
 | 5,_=>exact za3m s W
 | 6,_=>exact za3n s W
 | 7,_=>exact za3o s W
theorem zed (a b:List UInt8):ze (a ++ b)=ze a ++ ze b:=by simp[ze]
theorem za3p (s:S8) (w:World) :
 Calls Tryz.prog 135 #[.agg (zv s.l).toArray] w fun e w'=>e=.returned (.string ⟨(stT s).toArray⟩)∧Below w.heap.size w w':=by
 obtain⟨i0,hi0,hz0,hz1,hz2⟩:=info_parts info5
 have hix:=idx8 s
 obtain⟨cs,hcs⟩:∃ cs,cs=(zv s.l).toArray:=⟨_,rfl⟩
 have hz8:cs.size=8:=by rw[hcs];rfl
 rw[←hcs] at hix ⊢
 have hsz8:(Tryz.prog.info? 197).map (·.size)=some cs.size:=by rw[hz8];exact ziw
 clear hcs hz8
 go_enter Tryz.func135,Tryz.ntmps135
 go_wp2_with (first | (at_make;refine wpList_make_own _ rfl _ _ 150 rfl w.heap.size 5 i0 (.int .u8 0) 1 Tryz.underlying150 hi0 hz0 hz1 _ _ _ 32 rfl rfl (by omega) (by rw[hz2];omega) (by unfold maxLen;omega) (by simp) ?_;intro w0 hown0 hgrow0;have hr0:w0.heap[w.heap.size]? = some (.cells cs 197 (0,0)):=(hgrow0.block _ (by simp) (by simp)).trans (heap_alloc_new w _)) | (refine wpList_load_row rfl 197 _ rfl w.heap.size rfl 197 cs (0,0) _ hr0 Tryz.underlying197 rfl hsz8 ?_))
 go_loopw [3,8] (fun v i wr=>∃ j g cap:Nat,j≤8∧i=.int .i64 (j:Int)∧v=.slice (some ⟨g,0,none⟩) (4*j) cap∧wr.ownsRow w.heap.size 5 1 (.slice (some ⟨g,0,none⟩) (4*j) cap) (4*j) (ze ((s.l.take j).map wB).flatten)∧Below w.heap.size w wr) (fun _ i _=>8 - (intOf i).toNat)
 case atStart=>exact⟨0,w.heap.size+1,32,by omega,rfl,rfl,by simpa [ze] using hown0,((Below.refl _ _).alloc (Nat.le_refl _) _).grown hgrow0 (by simp) (by simp)⟩
 case round =>
  obtain⟨j,g,cap,hj,rfl,rfl,hown,hbel⟩:=hrel
  have hsz:=hbel.size
  have hbg:=own_base hown
  clear hr0 hown0 hgrow0
  by_cases hlt:j<8
  · have hx:=hix j hlt
    have HN:=zk1 s j hlt
    obtain⟨x,hxx⟩:∃ x,x=s.l.getD j 0:=⟨_,rfl⟩
    rw[←hxx] at hx HN
    have HNN:Hid (_=_):=HN
    have e24:=zfe x 16777216 16777216 rfl
    have e16:=zfe x 65536 65536 rfl
    have e8:=zfe x 256 256 rfl
    have e0:=zox x
    have hj8:(j:Int)<8:=by omega
    clear hix hxx HN
    go_wp2_with (at_builtin;refine wpList_append_lies _ rfl _ _ 150 rfl w.heap.size 5 i0 (.int .u8 0) 1 1 Tryz.underlying150 hi0 hz0 hz1 hz2 rfl (by decide) (.slice (some ⟨g,0,none⟩) (4*j) cap) (4*j) _ rfl (hown.alloc _) ⟨wr.heap.size,0,none⟩ 4 4 (ze (wB x)) rfl rfl (World.news_of_block (cs:=(ze (wB x)).toArray) (t:=5) (fr:=(0,0)) (heap_alloc_new wr _)) (zgf _) (by omega) (by unfold maxLen;omega) (by omega) (by simp;omega) (wr.heap.size+1) (by simp) ?_;intro g2 cap2 w1 hown1 hgrow hat hlt1)
    have hbel1:=zk2 hbel hsz hbg hgrow
    go_roundw
    case rel=>exact⟨j+1,g2,cap2,by omega,by go_num,by simp[Nat.mul_add],by rw[HNN.out,zed];simpa [Nat.mul_add] using hown1,hbel1⟩
    case measure=>simp[intOf];omega
  · have hj8:j=8:=by omega
    subst hj8
    have hcv:=zd6 (P:=Tryz.prog) Tryz.underlying150 Tryz.underlying5 Tryz.underlying9 hown
    have HR:Hid (((s.l.take 8).map wB).flatten=stT s):=rfl
    clear hix
    go_wp2
    go_ret
    exact⟨zcx HR.out,hbel⟩
theorem RowX.drew {w:World} {base g n cap:Nat} {xs:List Value} (h:RowX w base g n cap xs):RowX w.drew base g n cap xs:=⟨h.len,h.low,h.lt,h.fit,h.cells,h.spare⟩
theorem za3q (l : List UInt8) (n : Nat) (w : World) (hl : l.length ≤ 1048576) (hn : n ≤ 1048576) :
 Calls Tryz.prog 134 #[.string ⟨l.toArray⟩,.int .u64 (n:Int)] w fun e w'=>e=.returned (.string ⟨(padB l n).toArray⟩)∧Below w.heap.size w w':=by
 obtain⟨i0,hi0,hz0,hz1,hz2⟩:=info_parts info5
 have hz:(ByteArray.mk l.toArray).size=l.length:=by simp[ByteArray.size]
 have hcv0:=run_bytes_of_string (P:=Tryz.prog) w 9 150 5 ⟨l.toArray⟩ Tryz.underlying9 Tryz.underlying150 Tryz.underlying5
 rw[hz] at hcv0
 have hcap:=grownCap_ge w l.length 0 5
 obtain⟨cap0,hcap0⟩:∃ cap0,cap0=grownCap w l.length 0 5:=⟨_,rfl⟩
 rw[←hcap0] at hcv0 hcap
 have hrx:=zkk w.drew l w.heap.size cap0 5 (Nat.le_refl _) hcap
 obtain⟨W1,hW1⟩:∃ W1,W1=w.drew.alloc (.cells (bytesRow ⟨l.toArray⟩ cap0) 5 ((bytesRow ⟨l.toArray⟩ cap0).size,(bytesRow ⟨l.toArray⟩ cap0).size+1)):=⟨_,rfl⟩
 have hB1:Below w.heap.size w W1:=by rw[hW1];exact ((show Below w.heap.size w w.drew from ⟨rfl,rfl,rfl,Nat.le_refl _,fun _ _=>rfl⟩).alloc (Nat.le_refl _) _)
 have hs1:W1.heap.size=w.heap.size+1:=by rw[hW1];simp[heap_drew]
 rw[←hW1] at hcv0 hrx
 have HRX:Hid _:=hrx
 have HB1:Hid _:=hB1
 clear hrx hW1 hcap0 hz hB1
 go_enter Tryz.func134,Tryz.ntmps134
 go_wp2_with (at_builtin;refine zfh _ rfl _ _ 150 rfl 5 i0 (.int .u8 0) 1 Tryz.underlying150 hi0 hz0 hz1 hz2 rfl w.heap.size w.heap.size l.length cap0 (ze l) rfl (HRX.out.alloc _) ⟨w.heap.size+1,0,none⟩ 1 1 [.int .u8 128] rfl rfl (World.news_of_block (cs:=#[.int .u8 128]) (t:=5) (fr:=(0,0)) (zcj W1 _ _ hs1)) (by simp[Value.oneCell']) (by omega) (by unfold maxLen;omega) (by omega) (by simp;omega) ?_;intro g1 cap1 w2 hR2 hg2)
 have hB2:Below w.heap.size w w2:=(HB1.out.alloc (by omega) _).grown hg2 (by simp;omega) (fun k hk=>by simp at hk;omega)
 clear HRX HB1 hcv0 hg2
 go_loopw [5] (fun v wr=>∃ z g cap:Nat,z≤padZ l.length∧v=.slice (some ⟨g,0,none⟩) (l.length+1+z) cap∧RowX wr w.heap.size g (l.length+1+z) cap (ze (l ++ 128 :: List.replicate z 0))∧Below w.heap.size w wr) (fun v _=>l.length+1+padZ l.length - vlen v)
 case atStart=>exact⟨0,g1,cap1,Nat.zero_le _,rfl,by rw[zed];exact hR2,hB2⟩
 case round =>
  obtain⟨z,g,cap,hzl,rfl,hR,hbel⟩:=hrel
  have hsz:=hbel.size
  have hpz:=zjz l.length
  clear hR2 hB2
  by_cases hlt:z<padZ l.length
  · have hne:=zov l.length z hlt
    obtain⟨q,hq⟩:∃ q,q=l.length+1+z:=⟨_,rfl⟩
    rw[←hq] at hne hR ⊢
    have htm:(q:Int).tmod 64=((q % 64:Nat):Int):=by rw[Int.tmod_eq_emod_of_nonneg (by omega)];omega
    obtain⟨r,hr⟩:∃ r,r=q % 64:=⟨_,rfl⟩
    rw[←hr] at htm hne
    have hne2:(r:Int)≠56:=by omega
    have HQ:Hid _:=hq
    have HRR:Hid _:=hR
    have hq2:q≤1048640:=by omega
    clear hr hq hR
    go_wp2_with (at_builtin;refine zfh _ rfl _ _ 150 rfl 5 i0 (.int .u8 0) 1 Tryz.underlying150 hi0 hz0 hz1 hz2 rfl w.heap.size g q cap (ze (l ++ 128 :: List.replicate z 0)) rfl (HRR.out.alloc _) ⟨wr.heap.size,0,none⟩ 1 1 [.int .u8 0] rfl rfl (World.news_of_block (cs:=#[.int .u8 0]) (t:=5) (fr:=(0,0)) (heap_alloc_new wr _)) (by simp[Value.oneCell']) (by omega) (by unfold maxLen;omega) (by omega) (by simp;omega) ?_;intro g3 cap3 w3 hR3 hg3)
    have hB3:Below w.heap.size w w3:=(hbel.alloc hsz _).grown hg3 (by simp;omega) (fun k hk=>by have:=HRR.out.low;simp at hk;omega)
    have HR3:Hid (RowX w3 w.heap.size g3 (l.length+1+(z+1)) cap3 (ze (l ++ 128 :: List.replicate (z+1) 0))):=by
     have e1:q+1=l.length+1+(z+1):=by have:=HQ.out;omega
     have e2:ze (l ++ 128 :: List.replicate (z+1) 0)=ze (l ++ 128 :: List.replicate z 0) ++ [.int .u8 0]:=by rw[List.replicate_succ',←List.cons_append,←List.append_assoc,zed];rfl
     rw[Hid,←e1,e2];exact hR3
    clear hg3 hR3
    go_roundw
    case rel=>exact⟨z+1,g3,cap3,by omega,by have:=HQ.out;simp;omega,HR3.out,hB3⟩
    case measure=>have:=HQ.out;simp[vlen];omega
  · have hzz:z=padZ l.length:=by omega
    subst hzz
    have hend:=zk0 l.length
    obtain⟨q,hq⟩:∃ q,q=l.length+1+padZ l.length:=⟨_,rfl⟩
    rw[←hq] at hend hR ⊢
    obtain⟨hd,hhd⟩:∃ hd,hd=l ++ 128 :: List.replicate (padZ l.length) 0:=⟨_,rfl⟩
    rw[←hhd] at hR
    have htm:(q:Int).tmod 64=56:=by rw[Int.tmod_eq_emod_of_nonneg (by omega)];omega
    have HF:Hid (padB l n=hd ++ bigB (8*n) 8):=by rw[Hid,hhd];rfl
    have HRR:Hid _:=hR
    have HBB:Hid _:=hbel
    have hq2:q≤1048640:=by omega
    obtain⟨N,hN⟩:∃ N,N=8*n:=⟨_,rfl⟩
    rw[←hN] at HF
    have HNN:Hid ((N:Int)=(n:Int)*8):=by rw[Hid,hN];omega
    clear hend hq hhd hR hbel hpz hlt hzl hN
    go_wp2
    go_loopw [5,7] (fun v i wx=>∃ j g cap:Nat,j≤8∧i=.int .i64 (56 - 8*(j:Int))∧v=.slice (some ⟨g,0,none⟩) (q+j) cap∧RowX wx w.heap.size g (q+j) cap (ze (hd ++ (bigB N 8).take j))∧Below w.heap.size w wx) (fun v _ _=>q+8 - vlen v)
    case atStart=>exact⟨0,g,cap,by omega,by simp,by simp,by simpa using HRR.out,HBB.out⟩
    case round =>
     clear HRR HBB
     obtain⟨j,g4,cap4,hj,rfl,rfl,hR,hbel⟩:=hrel
     have hsz:=hbel.size
     have HR4:Hid _:=hR
     by_cases hlt:j<8
     · have hsh:(56:Int) - 8*(j:Int)=((8*(8 - 1 - j):Nat):Int):=by omega
       rw[hsh]
       obtain⟨sh,hsh2⟩:∃ sh,sh=8*(8 - 1 - j):=⟨_,rfl⟩
       have hs64:sh≤56:=by omega
       have HSN:Hid ((bigB N 8).take (j+1)=(bigB N 8).take j ++ [UInt8.ofNat (N / 2 ^ sh)]):=by rw[Hid,hsh2];exact zpa N 8 j hlt
       rw[←hsh2]
       have HSH:Hid _:=hsh2
       have HBY:Hid ((n:Int)*8 / 2 ^ sh % 256=((UInt8.ofNat (N / 2 ^ sh)).toNat:Int)):=by rw[Hid,zpb,HNN.out]
       clear hsh hsh2 hR
       go_wp2_with (at_builtin;refine zfh _ rfl _ _ 150 rfl 5 i0 (.int .u8 0) 1 Tryz.underlying150 hi0 hz0 hz1 hz2 rfl w.heap.size g4 (q+j) cap4 (ze (hd ++ (bigB N 8).take j)) rfl (HR4.out.alloc _) ⟨wr.heap.size,0,none⟩ 1 1 [.int .u8 ((n:Int)*8 / 2 ^ sh % 256)] rfl rfl (World.news_of_block (cs:=#[.int .u8 ((n:Int)*8 / 2 ^ sh % 256)]) (t:=5) (fr:=(0,0)) (heap_alloc_new wr _)) (by simp[Value.oneCell']) (by omega) (by unfold maxLen;omega) (by omega) (by simp;omega) ?_;intro g5 cap5 w5 hR5 hg5)
       have hB5:Below w.heap.size w w5:=(hbel.alloc hsz _).grown hg5 (by simp;omega) (fun k hk=>by have:=HR4.out.low;simp at hk;omega)
       have HR5:Hid (RowX w5 w.heap.size g5 (q+(j+1)) cap5 (ze (hd ++ (bigB N 8).take (j+1)))):=by
        rw[Hid,HSN.out,←List.append_assoc,zed,←Nat.add_assoc]
        rw[HBY.out] at hR5
        exact hR5
       clear hg5 hR5 hbel
       go_roundw
       case rel=>exact⟨j+1,g5,cap5,by omega,by have:=HSH.out;go_num,by simp;omega,HR5.out,hB5⟩
       case measure=>simp[vlen];omega
     · have hj8:j=8:=by omega
       subst hj8
       have e8:(bigB N 8).take 8=bigB N 8:=List.take_of_length_le (by rw[zdt];omega)
       rw[e8] at HR4
       have hcv:=zzf (P:=Tryz.prog) Tryz.underlying150 Tryz.underlying5 Tryz.underlying9 HR4.out
       clear hR e8
       go_wp2
       go_ret
       exact⟨zcx HF.out.symm,hbel⟩
theorem za3r (l:List UInt8):stT (stAt (stAt zcw (l.take (64*(l.length / 64))) (l.length / 64)) (padB (l.drop (64*(l.length / 64))) l.length) ((padB (l.drop (64*(l.length / 64))) l.length).length / 64))=sumL l:=by
 have ha:(l.take (64*(l.length / 64))).length=64*(l.length / 64):=by rw[List.length_take];omega
 have hp:=zy7 (l.take (64*(l.length / 64))) (l.drop (64*(l.length / 64))) l.length (by omega)
 rw[List.take_append_drop] at hp
 unfold sumL
 rw[hp,←zy3 zcw _ _ _ _ ha]
 congr 2
 rw[List.length_append,ha]
 omega
theorem zin (l:List UInt8) (w:World) (hl:l.length≤1048576) (hT:Tab w) :
 Calls Tryz.prog 98 #[.string ⟨l.toArray⟩] w fun e w'=>e=.returned (.string ⟨(sumL l).toArray⟩)∧Below w.heap.size w w':=by
 rw[←za3r]
 obtain⟨m,hm⟩:∃ m,m=l.length / 64:=⟨_,rfl⟩
 rw[←hm]
 have hml:64*m≤l.length:=by omega
 have hmk:m≤16384:=by omega
 have hext1:=zdf l (64*m) hml
 have hext2:=zbg l (64*m) hml
 have hal:(l.take (64*m)).length=64*m:=by rw[List.length_take];omega
 have hel:(l.drop (64*m)).length<64:=by simp;omega
 have HT:Hid (Tab w):=hT
 clear hT
 have H1:=fun W hW=>zrw zcw (l.take (64*m)) m W hal (by omega) hW
 have H2:=fun W=>za3q (l.drop (64*m)) l.length W (by omega) hl
 have hpl:=zow (l.drop (64*m)) l.length
 have hpz:=zjz (l.drop (64*m)).length
 have H3:=fun W hW=>zrw (stAt zcw (l.take (64*m)) m) (padB (l.drop (64*m)) l.length) ((padB (l.drop (64*m)) l.length).length / 64) W (zy6 _ _) (by omega) hW
 obtain⟨S1,hS1⟩:∃ S1,S1=stAt zcw (l.take (64*m)) m:=⟨_,rfl⟩
 rw[←hS1] at H1 H3 ⊢
 obtain⟨pd,hpd⟩:∃ pd,pd=padB (l.drop (64*m)) l.length:=⟨_,rfl⟩
 rw[←hpd] at H2 H3 ⊢
 obtain⟨S2,hS2⟩:∃ S2,S2=stAt S1 pd (pd.length / 64):=⟨_,rfl⟩
 rw[←hS2] at H3 ⊢
 have H4:=fun W=>za3p S2 W
 obtain⟨c2,hc2⟩:∃ c2,c2=(zv S2.l).toArray:=⟨_,rfl⟩
 rw[←hc2] at H3 H4
 have hz2:c2.size=8:=by rw[hc2];rfl
 have h12:c2.all (·.oneCell')=true:=by rw[hc2];exact ze5 _
 obtain⟨out,hout⟩:∃ out,out=stT S2:=⟨_,rfl⟩
 rw[←hout] at H4 ⊢
 obtain⟨la,hla⟩:∃ la,la=l.take (64*m):=⟨_,rfl⟩
 obtain⟨le,hle⟩:∃ le,le=l.drop (64*m):=⟨_,rfl⟩
 rw[←hla] at H1 hext1
 rw[←hle] at H2 hext2
 clear hS1 hS2 hpd hc2 hout hpl hpz hal hel hla hle
 obtain⟨a,b,c,d,e,f,g,h⟩:=S1
 obtain⟨c1,hc1⟩:∃ c1,c1=(#[.int .u32 (num a),.int .u32 (num b),.int .u32 (num c),.int .u32 (num d),.int .u32 (num e),.int .u32 (num f),.int .u32 (num g),.int .u32 (num h)]:Array Value):=⟨_,rfl⟩
 have hz1:c1.size=8:=by rw[hc1];rfl
 have h11:c1.all (·.oneCell')=true:=by rw[hc1];exact ze5 (S8.l ⟨a,b,c,d,e,f,g,h⟩)
 have H1':∀ W,Tab W→Calls Tryz.prog 133 #[.agg #[.int .u32 1779033703,.int .u32 3144134277,.int .u32 1013904242,.int .u32 2773480762,.int .u32 1359893119,.int .u32 2600822924,.int .u32 528734635,.int .u32 1541459225],.string ⟨la.toArray⟩] W fun ee w'=>ee=.returned (.agg c1)∧Below W.heap.size W w':=by rw[hc1];exact H1
 have H3':=H3
 have hq1:(l.length:Int).tdiv 64=(m:Int):=by rw[Int.tdiv_eq_ediv_of_nonneg (by omega)];omega
 have hq2:(m:Int)*64=((64*m:Nat):Int):=by omega
 obtain⟨p,hp⟩:∃ p:Nat,p=64*m:=⟨_,rfl⟩
 rw[←hp] at hext1 hext2 hq2 hml
 have hpl:(p:Int)≤(l.length:Int):=by omega
 have hpk:p≤1048576:=by omega
 have hwl:(l.length:Int) % 18446744073709551616=(l.length:Int):=by omega
 have hwl2:IntKind.u64.wrap (l.length:Int)=(l.length:Int):=by rw[show IntKind.u64.wrap (l.length:Int)=(l.length:Int) % 18446744073709551616 by simp[IntKind.wrap,IntKind.bits,IntKind.signed]];exact hwl
 have HC1:Hid _:=hc1
 clear H1 H3 hp hm hc1
 go_enter Tryz.func98,Tryz.ntmps98
 go_wp2
 go_region_with (go_at_call 133;refine (H1' (w.alloc (.cells #[.int .u32 1779033703,.int .u32 3144134277,.int .u32 1013904242,.int .u32 2773480762,.int .u32 1359893119,.int .u32 2600822924,.int .u32 528734635,.int .u32 1541459225] 197)).drew ?_).mono ?_;exact HT.out.later ⟨rfl,rfl,rfl,by simp[heap_drew],fun k hk=>Below.heap_alloc _ _ _ hk⟩;rintro e' w1 ⟨rfl,hb1'⟩;have hb1:Below (w.heap.size+1) (w.alloc (.cells #[.int .u32 1779033703,.int .u32 3144134277,.int .u32 1013904242,.int .u32 2773480762,.int .u32 1359893119,.int .u32 2600822924,.int .u32 528734635,.int .u32 1541459225] 197)) w1:=⟨hb1'.os,hb1'.tape,hb1'.output,hb1'.size,fun k hk=>hb1'.block k (by simpa [heap_drew] using hk)⟩;have hw1:w1.heap[w.heap.size]? = some (.cells #[.int .u32 1779033703,.int .u32 3144134277,.int .u32 1013904242,.int .u32 2773480762,.int .u32 1359893119,.int .u32 2600822924,.int .u32 528734635,.int .u32 1541459225] 197 (0,0)):=(hb1.block _ (by omega)).trans (heap_alloc_new w _);have hst:=zjy (P:=Tryz.prog) w1 w.heap.size 197 _ c1 hw1 hz1.symm h11;have HW1:Hid (_∧_):=⟨hb1,hw1⟩;clear hb1 hw1 hb1')
 have hW2r:=setRow_heap w1 w.heap.size _ c1 197 (0,0) HW1.out.2
 have hW2b:Below w.heap.size w (w1.setRow w.heap.size c1):=below_setRow (((Below.refl _ _).alloc (Nat.le_refl _) _).trans (HW1.out.1.mono (by omega))) (Nat.le_refl _) c1
 have hW2s:w.heap.size+1≤(w1.setRow w.heap.size c1).heap.size:=by have:=HW1.out.1.size;simp at this ⊢;omega
 generalize w1.setRow w.heap.size c1=W2 at hW2r hW2b hW2s ⊢
 rw[HC1.out] at hW2r
 have HT2:Hid (Tab W2):=HT.out.later hW2b
 have HB2:Hid (_∧_):=⟨hW2b,hW2r⟩
 have q:=fun k=>cell_of_row W2 w.heap.size k _ _ _ hW2r
 have q0:=q 0
 have q1:=q 1
 have q2:=q 2
 have q3:=q 3
 have q4:=q 4
 have q5:=q 5
 have q6:=q 6
 have q7:=q 7
 clear q hW2r hW2b HW1 hst H1' hext1
 go_wp2
 go_region_with (first
  | (go_at_call 134
     refine (H2 W2.drew).mono ?_
     rintro e' w3 ⟨rfl,hb3'⟩
     have hb3:Below W2.heap.size W2 w3:=⟨hb3'.os,hb3'.tape,hb3'.output,hb3'.size,hb3'.block⟩
     clear hb3'
     have r0:=(hb3.cell (p:=⟨w.heap.size,0,none⟩) hW2s).trans q0
     have r1:=(hb3.cell (p:=⟨w.heap.size,1,none⟩) hW2s).trans q1
     have r2:=(hb3.cell (p:=⟨w.heap.size,2,none⟩) hW2s).trans q2
     have r3:=(hb3.cell (p:=⟨w.heap.size,3,none⟩) hW2s).trans q3
     have r4:=(hb3.cell (p:=⟨w.heap.size,4,none⟩) hW2s).trans q4
     have r5:=(hb3.cell (p:=⟨w.heap.size,5,none⟩) hW2s).trans q5
     have r6:=(hb3.cell (p:=⟨w.heap.size,6,none⟩) hW2s).trans q6
     have r7:=(hb3.cell (p:=⟨w.heap.size,7,none⟩) hW2s).trans q7)
  | (go_at_call 133
     refine (H3' w3 ?_).mono ?_
     · exact HT2.out.later hb3
     rintro e' w4 ⟨rfl,hb4⟩
     have hw4:w4.heap[w.heap.size]? = some (.cells #[.int .u32 (num a),.int .u32 (num b),.int .u32 (num c),.int .u32 (num d),.int .u32 (num e),.int .u32 (num f),.int .u32 (num g),.int .u32 (num h)] 197 (0,0)):=by
      rw[hb4.block _ (by have:=hb3.size;omega),hb3.block _ (by omega)];exact HB2.out.2
     have hst:=zjy (P:=Tryz.prog) w4 w.heap.size 197 _ c2 hw4 hz2.symm h12
     have HW4:Hid (_∧_):=⟨hb4,hw4⟩
     clear hw4 hb4))
 all_goals
  have hW5r:=setRow_heap w4 w.heap.size _ c2 197 (0,0) HW4.out.2
  have hW5b:Below w.heap.size w (w4.setRow w.heap.size c2):=below_setRow ((HB2.out.1.trans (hb3.mono (by omega))).trans (HW4.out.1.mono (by have:=hb3.size;omega))) (Nat.le_refl _) c2
  generalize w4.setRow w.heap.size c2=W5 at hW5r hW5b ⊢
  have hsz8:(Tryz.prog.info? 197).map (·.size)=some c2.size:=by rw[hz2];exact ziw
  have hs5:=hW5b.size
  clear hst q0 q1 q2 q3 q4 q5 q6 q7 r0 r1 r2 r3 r4 r5 r6 r7 H2 H3' hext2
  go_wp2_with (refine wpList_load_row rfl 197 _ rfl w.heap.size rfl 197 c2 (0,0) _ hW5r Tryz.underlying197 rfl hsz8 ?_)
  refine (H4 _).mono ?_
  rintro e' w6 ⟨rfl,hb6⟩
  have hB6:=hW5b.trans (hb6.mono hs5)
  clear H4 hb6 hW5b
  go_wp2
  go_ret
  exact⟨rfl,hB6⟩
end Go.Proofs.YtppljdnbhoeeoaaGreatDoor
