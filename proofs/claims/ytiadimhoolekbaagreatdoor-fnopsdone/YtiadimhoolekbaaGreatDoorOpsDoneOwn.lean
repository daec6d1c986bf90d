/-
 At every code what a batch does on a drawn store is what its ops do, one after another, on the root's pairs; the new root is theirs, and has them in the new store: FnOpsDone answers true. No condition; the round words are laid as the program's text lays them.
-/
import Derived.Test.YtiadimhoolekbaaGreatDoorDrawOs
import Derived.Test.YtiadimhoolekbaaGreatDoorMathOs
import Derived.Test.YtiadimhoolekbaaGreatDoorSeatAll
namespace Go.Proofs.YtiadimhoolekbaaGreatDoor.fnOpsDone
open Go.ChangeShapes Go.WideShapes Go.ChangeAt Go.RowKit
open Go.ChangeMaps (open_string shut_string)
set_option linter.unusedVariables false
set_option maxHeartbeats 4000000
set_option maxRecDepth 100000
theorem own:ownKnob Tryz.prog.godebug=none:=by kernel_rfl
theorem zs7:laidOutB Tryz.prog=true:=by kernel_rfl
theorem gTab : Tryz.prog.globalNamed "loop.example/g00226/impl.roundWords" = some 1 := by kernel_rfl
theorem tTab:(Tryz.prog.globals[1]?).map (·.type)=some 185:=by kernel_rfl
theorem door_met (os:Os) (args:Array Value):laidMetH Tryz.prog Rows.fnOpsDoneRow.laid ((World.doorLaid Tryz.prog 400 os).forCall (fun _ _=>0) ⟨#[],args,[]⟩).memory :=
 laidMetH_of_parts3 (fuel:=8) (laidMet_of_run' 8 (by kernel_rfl) (by kernel_rfl)) (by kernel_rfl) (by kernel_rfl)
theorem za1r {W:World} (h:laidMetH Tryz.prog Rows.fnOpsDoneRow.laid W):Tab W:=by
 rw[MakeChecks.laidMetH_plain _ _ _ (by kernel_rfl)] at h
 have hT : Lib.TabIs Tryz.prog W "loop.example/g00226/impl.roundWords" .u32 (kL.map fun x => num x) := Lib.tabIs_of_head (rest := []) gTab tTab Tryz.underlying185 Tryz.underlying128 (by kernel_rfl) (by kernel_rfl) h
 have hc:∀ i,i<64→W.cell? ⟨1,i,none⟩=some (.int .u32 (num (kL.getD i 0))):=fun i hi=>by
  have hl:i<kL.length:=hi
  have:=hT.cell gTab i (by rw[List.length_map];exact hl)
  rw[this]
  simp[List.getD,hl]
 exact⟨block_lt_of_cell (hc 0 (by omega)),hc⟩
theorem za1s {os:List OpL} (h:zcq os):∀ p∈os,p.1.length≤1048576∧p.2.1.length≤1048576:=fun p hp=>by
 have:=h p hp
 exact⟨by omega,by omega⟩
theorem za5w (l:List za) (os:List OpL):za1 l (os.take os.length)=za1 l os:=by rw[List.take_length]
theorem walk (a0 : Option Addr) (len0 cap0 : Nat) (w : World) (w0 : Code w a0 len0) (hT : Tab w) :
 Calls Tryz.prog 3 #[.slice a0 len0 cap0] w fun e w'=>e=.returned (.bool true)∧Below w.heap.size w w':=by
 by_cases hb:len0≤1048576
 · have HB := zw4 len0 cap0 a0 w hb
   have HC:Hid (Code w a0 len0):=w0
   have HT:Hid (Tab w):=hT
   clear w0 hT
   go_enter Tryz.func3,Tryz.ntmps3
   go_wp2_with fail
   refine HB.mono ?_
   rintro e w ⟨rfl,rfl⟩
   clear HB
   have HD:=zvp len0 cap0 a0 w hb HC.out
   go_wp2_with fail
   refine HD.mono ?_
   rintro e w1 ⟨ps,a1,c1,rt,x,y,os,a2,c2,rfl,hpl,hrt,hps,hol,hso,o1,p1,B1⟩
   have hca:=zkg o1
   have I1:=(za8 o1).2.2
   have J1:=(zvb p1).2.2
   have hom:=za1s hso
   obtain⟨wa,hwa⟩:∃ W,W=w1.alloc (.cells #[.int .i64 x,.int .i64 y,.slice a2 os.length c2] 27):=⟨_,rfl⟩
   have A:Below w1.heap.size w1 wa:=by rw[hwa];exact (Below.refl _ _).alloc (Nat.le_refl _) _
   have hlt9:w1.heap.size<wa.heap.size:=by rw[hwa];simp
   have HLT:Hid (w1.heap.size<wa.heap.size):=hlt9
   clear hlt9
   have BA:=B1.trans (A.mono B1.size)
   have HQa:Hid (wa.heap[w1.heap.size]? = some (.cells #[.int .i64 x,.int .i64 y,.slice a2 os.length c2] 27 (0,0))):=by rw[hwa];exact heap_alloc_new w1 _
   have HCB:Hid (∀ W,Below wa.heap.size wa W→W.cell? ⟨w1.heap.size,0,none⟩=some (.int .i64 x)∧W.cell? ⟨w1.heap.size,1,none⟩=some (.int .i64 y)∧W.cell? ⟨w1.heap.size,2,none⟩=some (.slice a2 os.length c2)):=fun W hW=>by
    obtain⟨h1,h2,h3,_⟩:=zb7 ((hW.block _ (lt_of_block HQa.out)).trans HQa.out)
    exact⟨h1,h2,h3⟩
   have HJ:Hid (∀ W,Below wa.heap.size wa W→IsOps W a2 os):=fun W hW=>(J1.later A).later hW
   have HJC : Hid (os.length = 0 ∨ ∃ g, a2 = some ⟨g, 0, none⟩ ∧ g < w1.heap.size) := by
    rcases p1.2 with ⟨_,h0⟩ | ⟨g,cap',cur,h',h2,_⟩
    · exact .inl (by omega)
    · cases h'
      by_cases h0:os.length=0
      · exact .inl h0
      · rcases J1 with h | ⟨b,off,h,hc⟩
        · exact .inl (by rw[h];rfl)
        · cases h
          exact .inr ⟨_,rfl,World.block_lt_of_cell? w1 _ (hc 0 (by omega)).1⟩
   have K2:=za16 a1 c1 ps rt x y a2 c2 os wa (HT.out.later BA) (by omega) hps (I1.later A) hrt (by omega) hom (J1.later A)
   have HK3:Hid (∀ W,Below wa.heap.size wa W→_):=fun W hW=>za17 a1 c1 ps rt x y a2 c2 os W (by omega) hps ((I1.later A).later hW) (by omega) hom (HJ.out W hW) hca
   have HK4:Hid (∀ W,Below wa.heap.size wa W→Tab W→_):=fun W hW hT=>zmh a1 c1 ps rt W hT (by omega) hps ((I1.later A).later hW) hrt
   have HF:Hid (∀ T nx,stR ps rt x y os=some (T,nx)→_):=fun T nx h=>za1f (T:=T) (next:=nx) hps h
   have HOM:Hid (os.length≤4∧∀ p∈os,p.1.length≤1048576∧p.2.1.length≤1048576):=⟨hol,hom⟩
   obtain⟨R,hR⟩:∃ R,R=stR ps rt x y os:=⟨_,rfl⟩
   rw[←hR] at K2 HK3 HF
   unfold UPost at K2 HK3
   obtain⟨q0,q1,q2⟩:=HCB.out wa (Below.refl _ _)
   rw[hwa] at K2 q0 q1 q2
   clear HD o1 p1 I1 J1 hR hps hca hso hom hol A HQa hpl
   cases R with
   | none =>
     simp only[Option.map_none,Option.getD_none,Option.isSome_none] at K2 HK3
     clear HF HK4
     go_wp2_with fail
     refine K2.mono ?_
     rintro e w2 ⟨a3,m3,c3,rfl,o2,b2⟩
     rw[←hwa] at b2
     have B2:=BA.trans (b2.mono BA.size)
     have K3:=HK3.out w2 b2
     obtain⟨rfl,_,_⟩:=za8 o2
     clear K2 HK3 o2 hwa q0 q1 q2
     obtain⟨q0,q1,q2⟩:=HCB.out w2 b2
     clear b2
     go_wp2_with fail
     refine K3.mono ?_
     rintro e w3 ⟨a4,m4,c4,rfl,o3,b3⟩
     have B3:=B2.trans (b3.mono B2.size)
     clear K3 o3 b3
     go_wp2
     go_ret
     exact⟨rfl,B3⟩
   | some r =>
     obtain⟨T,nx⟩:=r
     obtain⟨l,hl,hap,hro,hnx,hnow,hT1,hT2⟩:=HF.out T nx rfl
     simp only[Option.map_some,Option.getD_some,Option.isSome_some] at K2 HK3
     rw[hl] at HK4
     unfold zf0 at HK4
     simp only[Option.getD_some,Option.isSome_some] at HK4
     have hlo:=znq hl
     have hlf:=zcy l hlo
     have hlm:∀ p∈l,p.1.length≤1048576∧p.2.length≤1048576:=fun p hp=>by have:=hlf.2 p hp;omega
     have hl60:=hlf.1
     have hall:∀ o∈os,opOk o=true:=by
      have h:=hap
      simp only[zat,zax,Bool.and_eq_true,List.all_eq_true] at h
      exact h.2.1.2
     have HST:Hid (∀ i (hi:i<os.length),zq (za1 l (os.take i))=true→zq (za1 l (os.take (i+1)))=false→60≤(za1 l (os.take i)).length):=fun i hi h1 h2=>by
      rw[zhu l os i hi] at h2
      exact za1g h1 (hall _ (List.getElem_mem _)) h2
     have HNX:Hid (∀ i (hi:i<os.length),setL (za1 l (os.take i)) os[i].1 os[i].2.1=za1 l (os.take (i+1))):=fun i hi=>(zhu l os i hi).symm
     have HSM:Hid (∀ i,∀ p∈za1 l (os.take i),p.1.length≤1048576∧p.2.length≤1048576):=fun i=>zkc _ _ hlm (fun o ho=>HOM.out.2 o (List.mem_of_mem_take ho))
     have HL60:Hid (l.length≤60∧(∀ p∈l,p.1.length≤1048576∧p.2.length≤1048576)∧zq l=true):=⟨hl60,hlm,hlo⟩
     have HM60:Hid (∀ i,(za1 l (os.take i)).length≤72):=fun i=>by
      have h1:=zhv (os.take i) l (zgr hlo)
      have h2:=HOM.out.1
      simp only[List.length_take] at h1
      have h3:=HL60.out.1
      omega
     have hnxl:nx.length≤1048576:=by rw[hnx];exact zqc (za1 l os)
     have HNL:Hid (nx.length≤1048576):=hnxl
     have hM72:=HM60.out os.length
     have hMsm:=HSM.out os.length
     rw[List.take_length] at hM72 hMsm
     obtain⟨M,hM⟩:∃ M,M=za1 l os:=⟨_,rfl⟩
     rw[←hM] at hM72 hMsm hro hnx hnow
     have HAP:Hid (zat l x y os=true∧zb6 l x y os=M):=⟨hap,(zgs hap).trans hM.symm⟩
     have HRO:Hid (zy M=true∧zab M=nx):=⟨hro,hnx.symm⟩
     have HNW:Hid (zag T nx=some M):=hnow
     have HMM:Hid (M=za1 l os∧M.length≤72∧∀ p∈M,p.1.length≤1048576∧p.2.length≤1048576):=⟨hM,hM72,hMsm⟩
     have HTS:Hid (T.length≤1048576∧∀ p∈T,p.1.length≤1048576∧p.2.length≤1048576):=⟨hT1,hT2⟩
     clear HF hl hap hro hnx hnow hT1 hT2 hlo hlf hlm hl60 hall hnxl hM72 hMsm hM
     go_wp2_with fail
     refine K2.mono ?_
     rintro e w2 ⟨a3,m3,c3,rfl,o2,b2⟩
     rw[←hwa] at b2
     have B2:=BA.trans (b2.mono BA.size)
     have K3:=HK3.out w2 b2
     obtain⟨rfl,_,i2⟩:=za8 o2
     have HI2:Hid (∀ W,Below w2.heap.size w2 W→IsPairs W a3 T):=fun W hW=>i2.later hW
     have D2:Hid (Below wa.heap.size wa w2):=b2
     clear K2 HK3 o2 i2 hwa q0 q1 q2
     obtain⟨q0,q1,q2⟩:=HCB.out w2 b2
     clear b2
     go_wp2_with fail
     refine K3.mono ?_
     rintro e w3 ⟨a4,m4,c4,rfl,o3,b3⟩
     have B3:=B2.trans (b3.mono B2.size)
     have D3:Hid (Below wa.heap.size wa w3):=D2.out.trans (b3.mono D2.out.size)
     have E3:Hid (Below w2.heap.size w2 w3):=b3
     have K4:=HK4.out w3 D3.out (HT.out.later B3)
     clear K3 o3 b3 HK4 q0 q1 q2 D2
     go_wp2_with fail
     refine K4.mono ?_
     rintro e w4 ⟨a5,m5,c5,rfl,o4,b4⟩
     have B4:=B3.trans (b4.mono B3.size)
     have D4:Hid (Below wa.heap.size wa w4):=D3.out.trans (b4.mono D3.out.size)
     have E4:Hid (Below w2.heap.size w2 w4):=E3.out.trans (b4.mono E3.out.size)
     obtain⟨rfl,_,i4⟩:=za8 o4
     have O4:Hid (w4.ownsRow w.heap.size 61 2 (.slice a5 l.length c5) l.length (zc l)):=o4.mono B3.size
     have K5:=zpb a5 c5 l x y a2 c2 os w4 (by have:=HL60.out.1;omega) HL60.out.2.1 i4 (by have:=HOM.out.1;omega) HOM.out.2 (HJ.out w4 D4.out)
     rw[HAP.out.1,HAP.out.2] at K5
     unfold zeh at K5
     obtain⟨q0,q1,q2⟩:=HCB.out w4 D4.out
     clear K4 o4 b4 i4 D3 E3
     go_wp2_with fail
     refine K5.mono ?_
     rintro e w5 ⟨a6,m6,c6,rfl,o5,b5⟩
     have B5:=B4.trans (b5.mono B4.size)
     have D5:Hid (Below wa.heap.size wa w5):=D4.out.trans (b5.mono D4.out.size)
     have E5:Hid (Below w2.heap.size w2 w5):=E4.out.trans (b5.mono E4.out.size)
     obtain⟨rfl,_,i5⟩:=za8 o5
     have HI5:Hid (∀ W,Below w5.heap.size w5 W→IsPairs W a6 M):=fun W hW=>i5.later hW
     have O5:Hid (w5.ownsRow w.heap.size 61 2 (.slice a5 l.length c5) l.length (zc l)):=zb4 O4.out b5
     have HB5:Hid (Below w.heap.size w w5):=B5
     clear K5 o5 b5 i5 D4 E4 O4 q0 q1 q2
     obtain⟨q0,q1,q2⟩:=HCB.out w5 D5.out
     obtain⟨n,hn⟩:∃ n,n=os.length:=⟨_,rfl⟩
     have HN:Hid (n=os.length):=hn
     have HWA:Hid (w1.heap.size<wa.heap.size):=HLT.out
     rw[←hn] at q2
     clear hn
     go_wp2
     go_loopw [12,16,17,18] (fun vl vi _ _ wr=>∃ (j:Nat) (L:List za) (aL:Option Addr) (cL:Nat),j≤n∧vi=.int .i64 (j:Int)∧vl=.slice aL L.length cL∧Hid (L=za1 l (os.take j)∧zq L=true)∧Hid (wr.ownsRow w.heap.size 61 2 (.slice aL L.length cL) L.length (zc L))∧Hid (Below w.heap.size w wr)∧Hid (Below w5.heap.size w5 wr)) (fun _ vi _ _ _=>n - (intOf vi).toNat)
     case atStart=>exact⟨0,l,a5,c5,Nat.zero_le _,rfl,rfl,⟨by simp[za1],HL60.out.2.2⟩,O5,HB5,Below.refl _ _⟩
     case round =>
      obtain⟨j,L,aL,cL,hj,rfl,rfl,HL,HOL,hbel,hb5⟩:=hrel
      have DR:Hid (Below wa.heap.size wa wr):=D5.out.trans (hb5.out.mono D5.out.size)
      have hLm:∀ p∈L,p.1.length≤1048576∧p.2.length≤1048576:=by rw[HL.out.1];exact HSM.out j
      have hLl:L.length≤72:=by rw[HL.out.1];exact HM60.out j
      clear B5 O5 HB5 q0 q1 q2
      by_cases hlt:j<n
      · have hjl : j < os.length := by have := HN.out; omega
        rcases HJC.out with h0 | ⟨g,rfl,hg⟩
        · omega
        obtain⟨q0,q1,q2⟩:=HCB.out wr DR.out
        rw[←HN.out] at q2
        obtain⟨x',hx⟩:∃ x',x'=os[j].1:=⟨_,rfl⟩
        obtain⟨y',hy⟩:∃ y',y'=os[j].2.1:=⟨_,rfl⟩
        obtain⟨d1,d2⟩:wr.cell? ⟨g,j*3,none⟩=some (.string ⟨x'.toArray⟩)∧wr.cell? ⟨g,j*3+1,none⟩=some (.string ⟨y'.toArray⟩):=by
         rcases HJ.out wr DR.out with h | ⟨b',off',e,h⟩
         · rw[h] at hjl;simp at hjl
         · cases e
           have:=h j hjl
           rw[hx,hy]
           exact⟨by simpa using this.1,by simpa using this.2.1⟩
        have hom9:=HOM.out.2 os[j] (List.getElem_mem _)
        rw[←hx,←hy] at hom9
        have BDr:Below wr.heap.size wr wr.drew:=⟨rfl,rfl,rfl,Nat.le_refl _,fun _ _=>rfl⟩
        have KA:=za5q aL L.length cL w.heap.size _ L x' y' wr.drew hLm (by omega) hom9.1 hom9.2 (zb4 HOL.out BDr)
        obtain⟨gd,hgd⟩:∃ gd,gd=zce L x' y':=⟨_,rfl⟩
        obtain⟨R,hR⟩:∃ R,R=setR L x' y':=⟨_,rfl⟩
        have HRES:Hid ((gd=false→60≤L.length)∧(gd=true→R=za1 l (os.take (j+1))∧zq R=true)):=by
         have e:=HNX.out j hjl
         rw[←HL.out.1,←hx,←hy] at e
         have hp:=HL.out.2
         refine⟨fun h=>?_,fun h=>?_⟩
         · rw[hgd,zce,hp,Bool.true_and,e] at h
           have:=HST.out j hjl (by rw[←HL.out.1];exact hp) h
           rwa [←HL.out.1] at this
         · rw[hgd] at h
           have h2:=h
           rw[zce,hp,Bool.true_and,e] at h2
           rw[hR,setR,if_pos h,e]
           exact⟨rfl,h2⟩
        rw[←hgd,←hR] at KA
        have HG:Hid (g<wr.heap.size∧w1.heap.size<wr.heap.size):=⟨by have:=DR.out.size;have:=HWA.out;omega,by have:=DR.out.size;have:=HWA.out;omega⟩
        have hS:wr.drew.cell? ⟨w1.heap.size,2,none⟩=some (.slice (some ⟨g,0,none⟩) n c2)∧wr.drew.cell? ⟨g,j*3,none⟩=some (.string ⟨x'.toArray⟩)∧wr.drew.cell? ⟨g,j*3+1,none⟩=some (.string ⟨y'.toArray⟩):=⟨q2,d1,d2⟩
        have hj0:(0:Int)≤(j:Int):=by omega
        have hj1:(j:Int)<(n:Int):=by omega
        have HL0:Hid (L.length≤72):=hLl
        clear hgd hR hx hy hom9 BDr hg hLm hLl q0 q1 hjl d1 d2 hlt
        go_wp2
        go_region_held3 (fun w'=>w'.cell? ⟨w1.heap.size,2,none⟩=some (.slice (some ⟨g,0,none⟩) n c2)∧w'.cell? ⟨g,j*3,none⟩=some (.string ⟨x'.toArray⟩)∧w'.cell? ⟨g,j*3+1,none⟩=some (.string ⟨y'.toArray⟩)) (first | with_reducible exact hS | with_reducible exact hS2)
         (first
          | (go_at_call 10
             with_reducible refine KA.mono ?_
             rintro e w6 ⟨xa,xm,xc,rfl,ox,b6'⟩
             have b6:Below wr.heap.size wr w6:=⟨b6'.os,b6'.tape,b6'.output,b6'.size,b6'.block⟩
             have hS2:w6.cell? ⟨w1.heap.size,2,none⟩=some (.slice (some ⟨g,0,none⟩) n c2)∧w6.cell? ⟨g,j*3,none⟩=some (.string ⟨x'.toArray⟩)∧w6.cell? ⟨g,j*3+1,none⟩=some (.string ⟨y'.toArray⟩):=⟨(b6.cell (p:=⟨w1.heap.size,2,none⟩) HG.out.2).trans hS.1,(b6.cell (p:=⟨g,j*3,none⟩) HG.out.1).trans hS.2.1,(b6.cell (p:=⟨g,j*3+1,none⟩) HG.out.1).trans hS.2.2⟩
             have HB6:Hid (Below wr.heap.size wr w6):=b6
             obtain⟨rfl,_,_⟩:=za8 ox
             have OX:=zf ox
             clear ox b6 b6'))
        all_goals
         have B6w:Hid (Below w.heap.size w w6):=hbel.out.trans (HB6.out.mono hbel.out.size)
         have E6:Hid (Below w5.heap.size w5 w6):=hb5.out.trans (HB6.out.mono hb5.out.size)
         have OX6:Hid (w6.ownsRow w.heap.size 61 2 (.slice xa R.length xc) R.length (zc R)):=OX.out.mono hbel.out.size
         clear hS hS2 KA OX HOL q2
         cases gd with
         | false =>
           have h60:=HRES.out.1 rfl
           have h60i:(60:Int)≤(L.length:Int):=by omega
           have h60d:decide ((60:Int)≤(L.length:Int))=true:=decide_eq_true h60i
           clear HRES h60
           go_wp2
           go_ret
           exact⟨rfl,B6w.out⟩
         | true =>
           have HL':Hid (R=za1 l (os.take (j+1))∧zq R=true):=HRES.out.2 rfl
           have hn4:n≤4:=by have:=HOM.out.1;have:=HN.out;omega
           clear HRES
           go_wp2
           go_roundw
           case rel=>exact⟨j+1,R,xa,xc,by omega,by go_num,rfl,HL',OX6,B6w,E6⟩
           case measure=>simp[intOf];omega
      · obtain rfl:j=n:=by omega
        have hLM:L=M:=by rw[HL.out.1,HMM.out.1,HN.out,List.take_length]
        subst hLM
        obtain⟨q0,q1,q2⟩:=HCB.out wr DR.out
        rw[←HN.out] at q2
        have K6:=zqa a6 c6 L wr (by omega) HMM.out.2.2 (HI5.out wr hb5.out) (HT.out.later hbel.out)
        rw[HRO.out.1,HRO.out.2] at K6
        clear hlt hLm hj HST HNX HSM HM60 HL q0 q1
        go_wp2_with fail
        refine K6.mono ?_
        rintro e w6 ⟨rfl,b6⟩
        have B6:=hbel.out.trans (b6.mono hbel.out.size)
        have E6:Hid (Below w5.heap.size w5 w6):=hb5.out.trans (b6.mono hb5.out.size)
        have G6:Hid (Below wr.heap.size wr w6):=b6
        have K7:=zmh a3 c3 T nx w6 (HT.out.later B6) HTS.out.1 HTS.out.2 (HI2.out w6 (E5.out.trans (E6.out.mono E5.out.size))) HNL.out
        rw[HNW.out] at K7
        unfold zf0 at K7
        simp only[Option.getD_some,Option.isSome_some] at K7
        clear K6 b6 q2
        go_wp2_with fail
        refine K7.mono ?_
        rintro e w7 ⟨a7,m7,c7,rfl,o7,b7⟩
        have B7:=B6.trans (b7.mono B6.size)
        have E7:Hid (Below w5.heap.size w5 w7):=E6.out.trans (b7.mono E6.out.size)
        have G7:Hid (Below wr.heap.size wr w7):=G6.out.trans (b7.mono G6.out.size)
        obtain⟨rfl,_,i7⟩:=za8 o7
        have HI7:Hid (∀ W,Below w7.heap.size w7 W→IsPairs W a7 L):=fun W hW=>i7.later hW
        have K8:=zoo L aL a6 cL c6 w7 (by omega) ((za8 HOL.out).2.2.later G7.out) (HI5.out w7 E7.out)
        clear K7 b7 o7 i7
        go_wp2_with fail
        refine K8.mono ?_
        rintro e w8 ⟨rfl,b8⟩
        have B8:=B7.trans (b8.mono B7.size)
        have K9:=zoo L a7 a6 c7 c6 w8 (by omega) (HI7.out w8 b8) (HI5.out w8 (E7.out.trans (b8.mono E7.out.size)))
        clear K8 b8
        go_wp2_with fail
        refine K9.mono ?_
        rintro e w9 ⟨rfl,b9⟩
        have B9:=B8.trans (b9.mono B8.size)
        clear K9 b9
        go_wp2
        go_ret
        exact⟨rfl,B9⟩
 · have HB:=zw5 len0 cap0 a0 w hb
   clear w0
   go_enter Tryz.func3,Tryz.ntmps3
   go_wp2_with fail
   refine HB.mono ?_
   rintro e w1 ⟨rfl,rfl⟩
   go_wp2
   go_ret
   exact⟨rfl,Below.refl _ _⟩
theorem lifted (os:Os) (started:os.Started) (H:Type) (enc:TypeId × Value→H) :
 ReturnsInHanded {} Tryz.checked os 3 .any (fun w args=>(Rows.fnOpsDoneSpec.pre enc Tryz.prog Tryz.f3 [] false w args∧laidMetH Tryz.prog Rows.fnOpsDoneRow.laid w)∧sizedMet enc Tryz.prog Tryz.f3 (OpenSpec.ofChange Rows.fnOpsDoneSpec) false w args)
  (Rows.fnOpsDoneSpec.post enc Tryz.prog Tryz.f3 false true false false):=by
 refine returnsInHanded_of_change_and (C:=Tryz.checked) (X:=fun w _=>laidMetH Tryz.prog Rows.fnOpsDoneRow.laid w) (fun _ _ _ hh h=>h.of_heap hh) own started (by kernel_rfl) Tryz.func3
  (ChangeSpec.witness_shaped (enc:=enc) (C:=Tryz.checked) (os:=os) (X:=fun w _=>laidMetH Tryz.prog Rows.fnOpsDoneRow.laid w) false (World.doorLaid Tryz.prog 400 os) #[.slice none 0 0] 8 rfl (World.shaped_of_RefB (by kernel_rfl) (by kernel_rfl)) (by kernel_rfl) (by kernel_rfl) (by kernel_rfl) (door_met os _)) ?_
 intro W base args ds gs before hval0 hW _ _ hL _
 have hval:∀ (j:Nat) t v,Tryz.f3.params[j]? = some t→args[j]? = some v→Value.okWide Tryz.prog W .any base t v:=hval0
 have hW':=hW
 obtain⟨p,q,hA0,hV0,rfl,hfz,hnd⟩:=hW
 have hA:DataW.TrodAll enc Tryz.prog W 0 (fun _=>true) true Tryz.f3.params.toList args.toList ds p:=hA0
 have hV : DataW.TrodVars enc Tryz.prog W (fun _ => true) ["loop.example/g00226/impl.roundWords"] gs q := hV0
 rw[Tryz.params3] at hA hval
 obtain⟨v0,vs0,d0,ds0,p0,q0,hargs,rfl,rfl,h0,r0⟩:=trodAll_cons hA
 obtain⟨rfl,rfl,rfl⟩:=trodAll_nil r0
 obtain rfl:args=#[v0]:=by cases args;simp_all
 obtain⟨a0,len0,cap0,rfl⟩:=okWide_slice Tryz.underlying22 (hval 0 22 v0 rfl rfl)
 have k0:=h0
 have lt0:∀ x∈p0,x.block<W.heap.size:=by obtain⟨m,hm⟩:=k0;exact DataW.trod_lt m _ _ _ hm
 have w0:Code W a0 len0:=by
  obtain⟨fuel,hf⟩:=h0
  rcases open_ints Tryz.underlying22 Tryz.underlying5 (by kernel_rfl) hf with ⟨hcs,_⟩ | ⟨x,l,c,zs,hcs,_,hl,hm,hz,_,hcell,hwz⟩
  · simp[Value.cells] at hcs
    obtain⟨rfl,rfl,rfl⟩:=hcs
    exact .inl rfl
  · simp[Value.cells] at hcs
    obtain⟨rfl,rfl,rfl⟩:=hcs
    exact codeOf W x _ _ zs hl (by simpa using hz) hcell hwz
 obtain⟨g,t,cs,fuel,d,p',rfl,hg,ht,hvar,hd,rfl⟩:=trodVars_one hV
 obtain rfl:=Option.some.inj (gTab.symm.trans hg)
 obtain rfl:=Option.some.inj (tTab.symm.trans ht)
 have hT:=za1r hL
 have hltv:∀ x∈p',x.block<W.heap.size:=fun x hx=>hW'.lt x (List.mem_append_right _ (List.mem_append_right _ hx))
 clear hA0 hV0 hval0 hA hV
 refine (walk a0 len0 cap0 W w0 hT).mono fun e W' ⟨he,hB⟩=>?_
 subst he
 obtain⟨fuel',hd'⟩:=Below.trod zs7 (by kernel_rfl) (of_decide_eq_true (by kernel_rfl)) (v:=.agg cs) (⟨fuel,by simpa [Value.cells] using hd⟩:DataW.Trod enc Tryz.prog W 0 (fun _=>true) true 185 (.agg cs) d p') hB hltv
 have hv':=trodVars_mk1 (enc:=enc) (spare:=fun b=>decide (b<W.heap.size)) hg ht (var?_below hB hg hT.1 hvar) (by simpa [Value.cells] using hd')
 exact⟨_,rfl,_,_,_,[],_,_,hW',trodAll_mk1 (shut_bool Tryz.underlying4 _),(trodAll_cons_mk (Below.trod zs7 (by kernel_rfl) (of_decide_eq_true (by kernel_rfl)) k0 hB lt0) trodAll_mk0),hv',hB.frame _,fun h=>by cases h⟩
theorem named0 : Tryz.prog.funcNamed "loop.example/g00226/laws.FnOpsDone" = some 3 := by kernel_rfl
theorem za1t:joinedFacts Tryz.prog 3 Tryz.f3 Rows.fnOpsDoneSpec Rows.fnOpsDoneRow=true:=by
 unfold joinedFacts
 rw[za3k,za3l,za3m]
 kernel_rfl
theorem za1u:Tryz.f3.isInstance Tryz.prog Rows.fnOpsDoneRow.origin Rows.fnOpsDoneRow.targs:=of_decide_eq_true (by kernel_rfl)
theorem za1v:Tryz.f3.isWrapper Tryz.prog Rows.fnOpsDoneRow.wrapper Rows.fnOpsDoneRow.mainSum:=by unfold Func.isWrapper;first | (rw[if_pos (by decide +kernel)];kernel_rfl) | (rw[if_neg (by decide +kernel)];exact⟨rfl,rfl⟩)
theorem over:Rows.fnOpsDoneRow.holds Tryz.pinned (OpenSpec.ofChange Rows.fnOpsDoneSpec) :=
 OpenClaim.holds_of_wide 3 Tryz.f3 rfl rfl rfl rfl rfl rfl rfl ⟨rfl,rfl,rfl,rfl,rfl⟩ rfl rfl rfl rfl rfl named0 Tryz.func3 za1t za1u za1v
  (fun os started H enc _=>lifted os started H enc)
theorem text0:Rows.fnOpsDoneRow.wfByText (OpenSpec.ofChange Rows.fnOpsDoneSpec)=true:=by kernel_rfl
theorem za1x:true=Tryz.prog.looks []:=by kernel_rfl
theorem za1y:false=Rows.fnOpsDoneRow.goesBy Tryz.prog:=by kernel_rfl
theorem za1z:([22].all fun u => !Tryz.prog.wantsStandIn u)=true:=by kernel_rfl
theorem card:Claim7.holds Tryz.pinned (.plain (OpenSpec.ofChange Rows.fnOpsDoneSpec)) Rows.fnOpsDoneCard :=
 Claim7.holds_tied_plain_at .later [] [.data] true (true,Rows.fnOpsDoneCard.stood.harness.2) true
  over (fun _ h=>by cases h) text0 (fun _ h=>by cases h) fnOpsDone_row_tie rfl ⟨rfl,rfl⟩ za3n rfl
  (fun f fn hf hfn => by
   obtain rfl:f=3:=Option.some.inj (named0.symm.trans hf) |>.symm
   obtain rfl:fn=Tryz.f3:=(Option.some.inj (Tryz.func3.symm.trans hfn)).symm
   exact⟨za1x,fun j t ht=>by
    rw[Tryz.params3] at ht
    have hm:t∈[22]:=by simpa using Array.mem_of_getElem? ht
    exact (show Tryz.prog.wantsStandIn t=false by simpa using List.all_eq_true.1 za1z t hm)⟩)
  za1y
end Go.Proofs.YtiadimhoolekbaaGreatDoor.fnOpsDone
namespace Go.Proofs.YtiadimhoolekbaaGreatDoor
theorem fnOpsDone_holds:Rows.FnOpsDoneCardSaid:=fnOpsDone.card
end Go.Proofs.YtiadimhoolekbaaGreatDoor
