/-
 Contract: the model's block.
-/
import Derived.Test.YtppljdnbhoeeoaaGreatDoorTurnAll
namespace Go.Proofs.YtppljdnbhoeeoaaGreatDoor
open Go.RowKit
set_option linter.unusedVariables false
set_option maxHeartbeats 1000000
set_option maxRecDepth 100000
theorem za1m (W:World):(Instr.makeSlice 190 (.int .i64 64) (.int .i64 64)).run Tryz.prog W=.ok (.slice (some ⟨W.heap.size,0,none⟩) 64 64) (W.alloc (.cells (Array.replicate 64 (.int .u32 0)) 192)):=by kernel_rfl
theorem zqp (w:World) (b i j:Nat) (v u:Value) (h:i≠j) (hc:w.cell? ⟨b,j,none⟩=some u):(w.setCell ⟨b,i,none⟩ v).drew.cell? ⟨b,j,none⟩=some u :=
 (World.cell?_setCell_other _ _ _ _ (fun e=>h (by cases e;rfl))).trans hc
theorem zeb (w:World) (o:Obj) (a:Addr) (v:Value) (h:a.block<w.heap.size) (hc:w.cell? a=some v):(w.alloc o).drew.cell? a=some v :=
 (((Below.refl w.heap.size w).alloc (Nat.le_refl _) o).cell (p:=a) h).trans hc
theorem za1n (s : S8) (l : List UInt8) (hb kb bb bo c8 ck cb : Nat) (w : World) (hl : l.length = 64)
 (hhl:hb<w.heap.size) (hkl:kb<w.heap.size) (hbl:bb<w.heap.size)
 (hh:∀ i,i<8→w.cell? ⟨hb,i,none⟩=some (.int .u32 (num (s.l.getD i 0))))
 (hk:∀ i,i<64→w.cell? ⟨kb,i,none⟩=some (.int .u32 (num (kL.getD i 0))))
 (hbc:∀ i,i<64→w.cell? ⟨bb,bo+i,none⟩=some (.int .u8 ((l.getD i 0).toNat:Int))) :
 Calls Tryz.prog 126 #[.slice (some ⟨hb,0,none⟩) 8 c8,.slice (some ⟨kb,0,none⟩) 64 ck,.slice (some ⟨bb,bo,none⟩) 64 cb] w fun e w'=>∃ g,e=.returned (.slice (some ⟨g,0,none⟩) 8 8)∧w.heap.size≤g∧Arr w' g 192 (mix s (bl l)).l∧Below w.heap.size w w':=by
 have hbm:(bl l).length=16:=zfc _ _
 obtain⟨fin,hfin⟩:∃ fin,fin=plus (rnds kL (sch (bl l) 48) s 64) s:=⟨_,rfl⟩
 have hfm:mix s (bl l)=fin:=by rw[hfin];rfl
 rw[hfm]
 have hFl:(sch (bl l) 48).length=64:=by rw[zfd,hbm]
 have hF1:∀ i,i<16→(sch (bl l) 48).getD i 0=w4 (l.getD (4*i) 0) (l.getD (4*i+1) 0) (l.getD (4*i+2) 0) (l.getD (4*i+3) 0):=fun i hi=>by rw[zyf _ _ _ (by omega),zyl l hl i hi]
 have hF2:=fun n h1 h2=>zyg (bl l) 48 n hbm h1 h2
 obtain⟨F,hF⟩:∃ F,F=sch (bl l) 48:=⟨_,rfl⟩
 rw[←hF] at hFl hF1 hF2 hfin
 have HF:Hid (fin=plus (rnds kL F s 64) s):=hfin
 have hmk:=za1m
 clear hfin hfm hF hbm
 go_enter Tryz.func126,Tryz.ntmps126
 go_wp2
 go_loopw [8] (fun i wr=>∃ n:Nat,n≤64∧i=.int .i64 (n:Int)∧Arr wr w.heap.size 192 (part (F.take n) F.length)∧Below w.heap.size w wr) (fun i _=>64 - (intOf i).toNat)
 case atStart =>
  refine⟨0,by omega,rfl,?_,(Below.refl _ _).alloc (Nat.le_refl _) _⟩
  have e1:part (F.take 0) F.length=List.replicate 64 0:=by simp[part,hFl]
  unfold Arr
  rw[e1]
  exact heap_alloc_new _ _
 case round =>
  obtain⟨n,hn,rfl,hA,hbel⟩:=hrel
  have hsz:=hbel.size
  by_cases hlt:n<64
  · have cn:=hA.cell n (by rw[zga _ _ (by rw[List.length_take];omega)];omega)
    obtain⟨z,hz⟩:∃ z,z=(part (F.take n) F.length)[n]'(by rw[zga _ _ (by rw[List.length_take];omega)];omega):=⟨_,rfl⟩
    rw[←hz] at cn
    have f1:=hA.free n
    have hS:=hA.set n (F.getD n 0)
    rw[zyi F n (by omega)] at hS
    have hn64:(n:Int)<64:=by omega
    clear hz
    by_cases h16:n<16
    · have b0:=(hbel.cell (p:=⟨bb,bo+4*n,none⟩) hbl).trans (hbc (4*n) (by omega))
      have b1:=(hbel.cell (p:=⟨bb,bo+(4*n+1),none⟩) hbl).trans (hbc (4*n+1) (by omega))
      have b2:=(hbel.cell (p:=⟨bb,bo+(4*n+2),none⟩) hbl).trans (hbc (4*n+2) (by omega))
      have b3:=(hbel.cell (p:=⟨bb,bo+(4*n+3),none⟩) hbl).trans (hbc (4*n+3) (by omega))
      rw[hF1 n h16] at hS
      have ew:=e_w4 (l.getD (4*n) 0) (l.getD (4*n+1) 0) (l.getD (4*n+2) 0) (l.getD (4*n+3) 0)
      obtain⟨x0,hx0⟩:∃ x,x=l.getD (4*n) 0:=⟨_,rfl⟩
      obtain⟨x1,hx1⟩:∃ x,x=l.getD (4*n+1) 0:=⟨_,rfl⟩
      obtain⟨x2,hx2⟩:∃ x,x=l.getD (4*n+2) 0:=⟨_,rfl⟩
      obtain⟨x3,hx3⟩:∃ x,x=l.getD (4*n+3) 0:=⟨_,rfl⟩
      rw[←hx0,←hx1,←hx2,←hx3] at hS ew
      rw[←hx0] at b0
      rw[←hx1] at b1
      rw[←hx2] at b2
      rw[←hx3] at b3
      have hy0:(x0.toNat:Int) % 4294967296=(x0.toNat:Int):=by have:=x0.toNat_lt;omega
      have hy1:(x1.toNat:Int) % 4294967296=(x1.toNat:Int):=by have:=x1.toNat_lt;omega
      have hy2:(x2.toNat:Int) % 4294967296=(x2.toNat:Int):=by have:=x2.toNat_lt;omega
      have hy3:(x3.toNat:Int) % 4294967296=(x3.toNat:Int):=by have:=x3.toNat_lt;omega
      have hm0:(x0.toNat:Int)*16777216 % 4294967296=(x0.toNat:Int)*16777216:=by have:=x0.toNat_lt;omega
      have hm1:(x1.toNat:Int)*65536 % 4294967296=(x1.toNat:Int)*65536:=by have:=x1.toNat_lt;omega
      have hm2:(x2.toNat:Int)*256 % 4294967296=(x2.toNat:Int)*256:=by have:=x2.toNat_lt;omega
      have h16':(n:Int)<16:=by omega
      have HS:Hid (Arr _ _ _ _):=hS
      have HB:Hid (Below w.heap.size w wr):=hbel
      clear hx0 hx1 hx2 hx3 hF1 hF2 hbc hh hk hA hmk hS hbel HF
      go_wp2
      go_region
      go_wp2
      go_roundw
      case rel=>exact⟨n+1,by omega,by go_num,by have:=HS.out;exact this.kept rfl,⟨HB.out.os,HB.out.tape,HB.out.output,by have:=HB.out.size;simpa [World.setCell] using this,fun i hi=>(heap_setCell_other wr _ i _ (by simp;omega)).trans (HB.out.block i hi)⟩⟩
      case measure=>simp[intOf];omega
    · have c15:=zhn hA (n - 15) (by omega) (by omega)
      have c2:=zhn hA (n - 2) (by omega) (by omega)
      have c16:=zhn hA (n - 16) (by omega) (by omega)
      have c7:=zhn hA (n - 7) (by omega) (by omega)
      rw[hF2 n (by omega) (by omega),←zyh] at hS
      obtain⟨x,hx⟩:∃ x,x=F.getD (n - 15) 0:=⟨_,rfl⟩
      obtain⟨y,hy⟩:∃ y,y=F.getD (n - 2) 0:=⟨_,rfl⟩
      obtain⟨p,hp⟩:∃ p,p=F.getD (n - 16) 0:=⟨_,rfl⟩
      obtain⟨q,hq⟩:∃ q,q=F.getD (n - 7) 0:=⟨_,rfl⟩
      rw[←hx,←hy,←hp,←hq] at hS
      rw[←hx] at c15
      rw[←hy] at c2
      rw[←hp] at c16
      rw[←hq] at c7
      have i15:(n:Int) - 15=((n - 15:Nat):Int):=by omega
      have i2:(n:Int) - 2=((n - 2:Nat):Int):=by omega
      have i16:(n:Int) - 16=((n - 16:Nat):Int):=by omega
      have i7:(n:Int) - 7=((n - 7:Nat):Int):=by omega
      have w16:IntKind.i64.wrap ((n - 16:Nat):Int)=((n - 16:Nat):Int):=zag _ (by omega) (by omega)
      have w7:IntKind.i64.wrap ((n - 7:Nat):Int)=((n - 7:Nat):Int):=zag _ (by omega) (by omega)
      have l7:((n - 7:Nat):Int)<64:=by omega
      have l16:((n - 16:Nat):Int)<64:=by omega
      have g7:(0:Int)≤((n - 7:Nat):Int):=by omega
      have g16:(0:Int)≤((n - 16:Nat):Int):=by omega
      have H7:=fun W=>zdo x 7 7 W (by simp[zb3]) rfl
      have H18:=fun W=>zdo x 18 18 W (by simp[zb3]) rfl
      have H17:=fun W=>zdo y 17 17 W (by simp[zb3]) rfl
      have H19:=fun W=>zdo y 19 19 W (by simp[zb3]) rfl
      have hxo:=zhk
      have had:=zej
      have hadw:=zg9
      have h3:=zhl x 3 8 (by decide)
      have h10:=zhl y 10 1024 (by decide)
      have h16':¬ (n:Int)<16:=by omega
      have HS:Hid (Arr (wr.setCell ⟨w.heap.size,n,none⟩ (.int .u32 (num (ad (ad (ad (s1 y) q) (s0 x)) p)))) w.heap.size 192 (part (F.take (n+1)) F.length)):=hS
      have HB:Hid (Below w.heap.size w wr):=hbel
      clear hx hy hp hq hF1 hF2 hbc hh hk hA hmk hS hbel HF
      go_wp2
      go_region_held3 (fun w'=>w'.cell? ⟨w.heap.size,n - 7,none⟩=some (.int .u32 (num q))∧w'.cell? ⟨w.heap.size,n - 16,none⟩=some (.int .u32 (num p))) (first | exact⟨zqp _ _ _ _ _ _ (by omega) c7,zqp _ _ _ _ _ _ (by omega) c16⟩ | exact⟨c7,c16⟩ | go_keep) (first | (go_at_call_of 162 (Value.int .u64 17);refine (H17 _).mono ?_;rintro e w' ⟨rfl,rfl⟩) | (go_at_call_of 162 (Value.int .u64 19);refine (H19 _).mono ?_;rintro e w' ⟨rfl,rfl⟩) | (go_at_call_of 162 (Value.int .u64 7);refine (H7 _).mono ?_;rintro e w' ⟨rfl,rfl⟩) | (go_at_call_of 162 (Value.int .u64 18);refine (H18 _).mono ?_;rintro e w' ⟨rfl,rfl⟩))
      all_goals
       go_wp2
       go_roundw
       case rel=>exact⟨n+1,by omega,by go_num,by have:=HS.out;exact this.kept rfl,⟨HB.out.os,HB.out.tape,HB.out.output,by have:=HB.out.size;simpa [World.setCell] using this,fun i hi=>(heap_setCell_other wr _ i _ (by simp;omega)).trans (HB.out.block i hi)⟩⟩
       case measure=>simp[intOf];omega
  · have hn64:n=64:=by omega
    subst hn64
    have hAF:Arr wr w.heap.size 192 F:=by
     have:=hA
     rw[←hFl,List.take_length,zou F F.length rfl] at this
     exact this
    have q0:=(hbel.cell (p:=⟨hb,0,none⟩) hhl).trans (hh 0 (by omega))
    have q1:=(hbel.cell (p:=⟨hb,1,none⟩) hhl).trans (hh 1 (by omega))
    have q2:=(hbel.cell (p:=⟨hb,2,none⟩) hhl).trans (hh 2 (by omega))
    have q3:=(hbel.cell (p:=⟨hb,3,none⟩) hhl).trans (hh 3 (by omega))
    have q4:=(hbel.cell (p:=⟨hb,4,none⟩) hhl).trans (hh 4 (by omega))
    have q5:=(hbel.cell (p:=⟨hb,5,none⟩) hhl).trans (hh 5 (by omega))
    have q6:=(hbel.cell (p:=⟨hb,6,none⟩) hhl).trans (hh 6 (by omega))
    have q7:=(hbel.cell (p:=⟨hb,7,none⟩) hhl).trans (hh 7 (by omega))
    have hk2:=fun i hi=>(hbel.cell (p:=⟨kb,i,none⟩) hkl).trans (hk i hi)
    have HK2:Hid (∀ i,i<64→wr.cell? ⟨kb,i,none⟩=some (.int .u32 (num (kL.getD i 0)))):=hk2
    have HAF:Hid (Arr wr w.heap.size 192 F):=hAF
    have HB:Hid (Below w.heap.size w wr):=hbel
    obtain⟨a,b,c,d,e,f,g,h⟩:=s
    simp only[S8.l,List.getD,List.getElem?_cons_zero,List.getElem?_cons_succ,Option.getD_some] at q0 q1 q2 q3 q4 q5 q6 q7
    clear hF1 hF2 hbc hh hk hA hmk hbel hAF hk2
    obtain⟨V,hV⟩:∃ V,V=wr:=⟨_,rfl⟩
    subst hV
    go_wp2
    go_loopw [11,12,13,14,15,16,17,18,19,20,21] (fun xa xb xc xd xe xf xg xh i _ _ wx=>∃ n:Nat,∃ s:S8,n≤64∧i=.int .i64 (n:Int)∧Hid (s=rnds kL F ⟨a,b,c,d,e,f,g,h⟩ n)∧Same V wx∧xa=.int .u32 (num s.a)∧xb=.int .u32 (num s.b)∧xc=.int .u32 (num s.c)∧xd=.int .u32 (num s.d)∧xe=.int .u32 (num s.e)∧xf=.int .u32 (num s.f)∧xg=.int .u32 (num s.g)∧xh=.int .u32 (num s.h)) (fun _ _ _ _ _ _ _ _ i _ _ _=>64 - (intOf i).toNat)
    case atStart=>exact⟨0,⟨a,b,c,d,e,f,g,h⟩,by omega,rfl,rfl,Same.refl V,rfl,rfl,rfl,rfl,rfl,rfl,rfl,rfl⟩
    case round =>
     obtain⟨n,s,hn,rfl,HSS,hsame,rfl,rfl,rfl,rfl,rfl,rfl,rfl,rfl⟩:=hrel
     by_cases hlt:n<64
     · have hkc:=(hsame.cell _).trans (HK2.out n hlt)
       have hwd:=(hsame.cell _).trans (HAF.out.cell n (by omega))
       have hgd:F[n]'(by omega)=F.getD n 0:=by simp[List.getD,hFl,hlt]
       rw[hgd] at hwd
       have HN:Hid (rnd s (kL.getD n 0) (F.getD n 0)=rnds kL F ⟨a,b,c,d,e,f,g,h⟩ (n+1)):=by rw[Hid,HSS.out];rfl
       obtain⟨k,hk'⟩:∃ k,k=kL.getD n 0:=⟨_,rfl⟩
       obtain⟨x,hx'⟩:∃ x,x=F.getD n 0:=⟨_,rfl⟩
       rw[←hk',←hx'] at HN
       rw[←hk'] at hkc
       rw[←hx'] at hwd
       have hn64:(n:Int)<64:=by omega
       have h6:=fun W=>zdo s.e 6 6 W (by simp[zb3]) rfl
       have h11:=fun W=>zdo s.e 11 11 W (by simp[zb3]) rfl
       have h25:=fun W=>zdo s.e 25 25 W (by simp[zb3]) rfl
       have h2:=fun W=>zdo s.a 2 2 W (by simp[zb3]) rfl
       have h13:=fun W=>zdo s.a 13 13 W (by simp[zb3]) rfl
       have h22:=fun W=>zdo s.a 22 22 W (by simp[zb3]) rfl
       have hxo:=zhk
       have had:=zej
       have hadw:=zg9
       have han:=zoq
       have hno:=zos
       have hno2:=zxm
       clear hk' hx' hgd HAF HK2 HF HB HSS q0 q1 q2 q3 q4 q5 q6 q7 hFl
       go_wp2
       go_quiet (first | (go_at_call_of 162 (Value.int .u64 6);exact Calls.quiet_of_same (h6 _)) | (go_at_call_of 162 (Value.int .u64 11);exact Calls.quiet_of_same (h11 _)) | (go_at_call_of 162 (Value.int .u64 25);exact Calls.quiet_of_same (h25 _)))
       go_wp2_with fail
       refine (h2 _).mono ?_
       rintro e' w5 ⟨rfl,rfl⟩
       go_wp2_with fail
       refine (h13 _).mono ?_
       rintro e' w5 ⟨rfl,rfl⟩
       go_wp2_with fail
       refine (h22 _).mono ?_
       rintro e' w5 ⟨rfl,rfl⟩
       go_wp2
       go_roundw
       case rel=>first | exact⟨n+1,rnd s k x,by omega,by go_num,HN,hsame.drewN _,rfl,rfl,rfl,rfl,rfl,rfl,rfl,rfl⟩ | ((repeat apply Exists.intro);exact⟨⟨n+1,rnd s k x,by omega,by go_num,HN,hsame.drewN _,rfl,rfl,rfl,rfl,rfl,rfl,rfl,rfl⟩,rfl⟩)
       case measure=>simp[intOf];omega
     · have hn64:n=64:=by omega
       subst hn64
       have HFF:Hid (fin=plus s ⟨a,b,c,d,e,f,g,h⟩):=by rw[Hid,HF.out,HSS.out]
       have r0:=(hsame.cell _).trans q0
       have r1:=(hsame.cell _).trans q1
       have r2:=(hsame.cell _).trans q2
       have r3:=(hsame.cell _).trans q3
       have r4:=(hsame.cell _).trans q4
       have r5:=(hsame.cell _).trans q5
       have r6:=(hsame.cell _).trans q6
       have r7:=(hsame.cell _).trans q7
       have hB2:=hsame.below HB.out
       have HB2:Hid (Below w.heap.size w wr):=hB2
       have hs2:=hB2.size
       have had:=zej
       have hadw:=zg9
       clear HF HSS HAF HK2 HB hsame q0 q1 q2 q3 q4 q5 q6 q7 hB2 hFl
       have hhw:hb<wr.heap.size:=by omega
       go_wp2
       go_region_held3 (fun w'=>w'.cell? ⟨hb,0,none⟩=some (.int .u32 (num a))∧w'.cell? ⟨hb,1,none⟩=some (.int .u32 (num b))∧w'.cell? ⟨hb,2,none⟩=some (.int .u32 (num c))∧w'.cell? ⟨hb,3,none⟩=some (.int .u32 (num d))∧w'.cell? ⟨hb,4,none⟩=some (.int .u32 (num e))∧w'.cell? ⟨hb,5,none⟩=some (.int .u32 (num f))∧w'.cell? ⟨hb,6,none⟩=some (.int .u32 (num g))∧w'.cell? ⟨hb,7,none⟩=some (.int .u32 (num h))) (first | exact⟨r0,r1,r2,r3,r4,r5,r6,r7⟩ | exact⟨zeb _ _ ⟨hb,0,none⟩ _ hhw r0,zeb _ _ ⟨hb,1,none⟩ _ hhw r1,zeb _ _ ⟨hb,2,none⟩ _ hhw r2,zeb _ _ ⟨hb,3,none⟩ _ hhw r3,zeb _ _ ⟨hb,4,none⟩ _ hhw r4,zeb _ _ ⟨hb,5,none⟩ _ hhw r5,zeb _ _ ⟨hb,6,none⟩ _ hhw r6,zeb _ _ ⟨hb,7,none⟩ _ hhw r7⟩) (fail)
       all_goals
        go_wp2
        go_ret
        refine⟨wr.heap.size,rfl,hs2,?_,?_⟩
        · have e1:fin.l=[ad a s.a,ad b s.b,ad c s.c,ad d s.d,ad e s.e,ad f s.f,ad g s.g,ad h s.h]:=by
           rw[HFF.out,zd5 a,zd5 b,zd5 c,zd5 d,zd5 e,zd5 f,zd5 g,zd5 h]
           rfl
          unfold Arr
          rw[e1]
          exact heap_alloc_new wr _
        · exact⟨HB2.out.os,HB2.out.tape,HB2.out.output,by have:=HB2.out.size;simp[heap_drew];omega,fun i hi=>(Below.heap_alloc _ _ _ (by omega)).trans (HB2.out.block i hi)⟩
end Go.Proofs.YtppljdnbhoeeoaaGreatDoor
