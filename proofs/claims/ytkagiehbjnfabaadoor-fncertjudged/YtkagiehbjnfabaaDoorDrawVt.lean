/-
 Contract: drawn votes (written by mkdrawvt.py).
-/
import Derived.Test.YtkagiehbjnfabaaDoorDrawVs
import Derived.Test.YtkagiehbjnfabaaDoorDrawSd
import Derived.Test.YtkagiehbjnfabaaDoorDrawAll
import Derived.Deep.RegionHeld3
import Derived.Deep.CutRange
namespace Go.Proofs.YtkagiehbjnfabaaDoor
open Go.RowKit
set_option linter.unusedVariables false
theorem below_len (rd n cap m:Nat) (x:Int) (a:Option Addr) (w:World) (hx:x=(m:Int)) (hm:1≤m) (hm2:m≤256) (hn:n≤1048576) (h:Rd rd a n cap w) :
 Calls Tryd.prog 10 #[.pointer (some ⟨rd,0,none⟩),.int .i64 x] w fun e w'=>∃ x:Nat,x<m∧e=.returned (.int .i64 (x:Int))∧Rd rd a n cap w'∧w.grownBy w' (some rd):=by
 by_cases h1:m=1
 · subst hx h1
   have HR:Hid (Rd rd a n cap w):=h
   clear h
   go_enter Tryd.func10,Tryd.ntmps10
   go_wp2
   go_ret
   exact⟨0,by omega,rfl,HR.out,World.grownBy.refl _ _⟩
 · exact below_any rd n cap m x a w hx (by omega) hm2 hn h
theorem rd_drewV {rd n cap:Nat} {a:Option Addr} {w:World} (h:Rd rd a n cap w):Rd rd a n cap w.drew:=h.keptNone ⟨rfl,rfl,rfl,Nat.le_refl _,fun _ _=>rfl⟩
theorem rd_allocV {rd n cap:Nat} {a:Option Addr} {w:World} (o:Obj) (h:Rd rd a n cap w):Rd rd a n cap (w.alloc o):=h.keptNone ((Below.refl _ _).alloc (Nat.le_refl _) _)
theorem rd_setV {rd n cap b i lo:Nat} {a:Option Addr} {w:World} (y:Value) (h0:rd<lo∧∀ cb off,a=some ⟨cb,off,none⟩→n≠0→cb<lo) (hb:lo≤b) (h:Rd rd a n cap w):Rd rd a n cap (w.setCell ⟨b,i,none⟩ y) :=
 h.kept (row:=some b) ⟨rfl,rfl,rfl,by simp[World.setCell],fun k _ hk=>Below.heap_setCell _ _ _ _ (fun e=>hk (by rw[e]))⟩ (by simp;omega) (fun cb off e hn=>by have:=h0.2 cb off e hn;simp;omega)
theorem gr_drewV {w w':World} {row:Option Nat} (h:w.grownBy w' row):w.grownBy w'.drew row:=⟨h.os,h.tape,h.output,h.size,h.block⟩
theorem gr_allocV {w w':World} {row:Option Nat} (o:Obj) (h:w.grownBy w' row):w.grownBy (w'.alloc o) row:=h.trans (World.grownBy_alloc w' _ _)
theorem gr_setV {w w':World} {row:Option Nat} {b i:Nat} (y:Value) (hb:w.heap.size≤b) (h:w.grownBy w' row):w.grownBy (w'.setCell ⟨b,i,none⟩ y) row:=⟨h.os,h.tape,h.output,by simpa [World.setCell] using h.size,fun k hk hn=>(Below.heap_setCell _ _ _ _ (by simp;omega)).trans (h.block k hk hn)⟩
theorem str_allocV {w:World} {lo g:Nat} {a:Option Addr} {ls:List (List UInt8)} (o:Obj) (h:StrF w lo g a ls):StrF (w.alloc o) lo g a ls:=h.grown (World.grownBy_alloc w o none) (by simp) g (.inl rfl)
theorem str_setV {w:World} {lo g b i:Nat} {a:Option Addr} {ls:List (List UInt8)} (y:Value) (hb:∀ q off,a=some ⟨q,off,none⟩→q≠b) (h:StrF w lo g a ls):StrF (w.setCell ⟨b,i,none⟩ y) lo g a ls:=⟨strs_store h.1 hb y,fun q off e=>⟨(h.2 q off e).1,(h.2 q off e).2.1,by have:=(h.2 q off e).2.2;simpa [World.setCell] using this⟩⟩
theorem cell_allocV {w:World} {b i:Nat} {v:Value} (o:Obj) (h:w.cell? ⟨b,i,none⟩=some v):(w.alloc o).cell? ⟨b,i,none⟩=some v:=(World.cell?_of_block (a:=⟨b,i,none⟩) (Below.heap_alloc _ _ _ (World.block_lt_of_cell? w _ h))).trans h
theorem hp_alloc {w:World} {b:Nat} {x:Obj} (o:Obj) (h:w.heap[b]? = some x):(w.alloc o).heap[b]? = some x:=(Below.heap_alloc _ _ _ (lt_of_block h)).trans h
theorem hp_new2 (w:World) (o z:Obj):((w.alloc o).alloc z).heap[w.heap.size+1]? = some z:=by have h:=heap_alloc_new (w.alloc o) z;simpa using h
theorem hp_new2d (w:World) (o z:Obj):((w.alloc o).alloc z).drew.heap[w.heap.size+1]? = some z:=hp_new2 w o z
theorem hp_set {w:World} {b g i:Nat} {x:Obj} (y:Value) (hne:b≠g) (h:w.heap[b]? = some x):(w.setCell ⟨g,i,none⟩ y).heap[b]? = some x:=(Below.heap_setCell _ _ _ _ hne).trans h
set_option maxRecDepth 100000 in
set_option maxHeartbeats 8000000 in
theorem votes_any (rd n cap k : Nat) (a : Option Addr) (root : List UInt8) (w : World) (hn : n ≤ 1048576) (hk : k ≤ 1000) (hrl : root.length ≤ 1048576) (h : Rd rd a n cap w) :
 Calls Tryd.prog 14 #[.pointer (some ⟨rd,0,none⟩),.int .i64 (k:Int),.string ⟨root.toArray⟩] w fun e w'=>∃ (g c:Nat) (l:List VoteA),e=.returned (.slice (some ⟨g,0,none⟩) l.length c)∧l.length≤3∧w'.ownsRow w.heap.size 35 4 (.slice (some ⟨g,0,none⟩) l.length c) l.length (vas l)∧VAs w' w.heap.size g l∧Rd rd a n cap w'∧w.grownBy w' (some rd):=by
 obtain⟨i0,hi0,hz0,hz1,hz2⟩:=info_parts infoVt
 have hrd:=h.lt
 have hcd:=h.code
 have X0:Below w.heap.size w (w.alloc (.cells #[] 35)):=(Below.refl _ _).alloc (Nat.le_refl _) _
 have O0:(w.alloc (.cells #[] 35)).ownsRow w.heap.size 35 4 (.slice (some ⟨w.heap.size,0,none⟩) 0 0) 0 (vas []):=World.ownsRow_lit w #[] 0 (Nat.le_refl _) (Nat.zero_le _) rfl
 have K1:=spec_seeds (w.alloc (.cells #[] 35))
 have HX:Hid (Below w.heap.size w (w.alloc (.cells #[] 35))):=X0
 have HO:Hid ((w.alloc (.cells #[] 35)).ownsRow w.heap.size 35 4 (.slice (some ⟨w.heap.size,0,none⟩) 0 0) 0 (vas [])):=O0
 have HR0:Hid (Rd rd a n cap w):=h
 have HCD:Hid (rd<w.heap.size∧∀ cb off,a=some ⟨cb,off,none⟩→n≠0→cb<w.heap.size):=⟨hrd,hcd⟩
 clear X0 O0 h hcd
 go_enter Tryd.func14,Tryd.ntmps14
 go_wp2_with fail
 refine K1.mono ?_
 rintro e w1 ⟨gs,ss,rfl,hs3,hs32,os,b1⟩
 have B1:=HX.out.trans (b1.mono HX.out.size)
 have O1:Hid (w1.ownsRow w.heap.size 35 4 (.slice (some ⟨w.heap.size,0,none⟩) 0 0) 0 (vas [])):=keptV4 HO.out b1
 have hg0:gs≠w.heap.size∧w.heap.size<gs:=by have:=own_base os;simp at this;omega
 have hgl:=own_lt os
 have HC:Hid (∀ j (h:j<3),∃ s:List UInt8,s.length=32∧w1.cell? ⟨gs,j,none⟩=some (.string ⟨s.toArray⟩)):=fun j h=>by
  have h1:=os.cellAt j (by omega)
  exact⟨ss[j],hs32 _ (List.getElem_mem _),by rw[h1,scells_at ss j (by omega)]⟩
 have HR1:Hid (Rd rd a n cap w1):=HR0.out.keptNone B1
 have HG1:Hid (w.grownBy w1 (some rd)):=grown_of_below B1 _
 have HSZ:Hid (gs≠w.heap.size∧rd<w.heap.size∧gs<w1.heap.size∧w.heap.size<gs):=⟨hg0.1,hrd,hgl,hg0.2⟩
 clear K1 hs3 hs32 os b1 HX HO HR0 B1 hg0 hgl hrd
 go_wp2
 go_loopw [7,9] (fun v i wr=>∃ (j g c:Nat) (l:List VoteA),j≤3∧i=.int .i64 (j:Int)∧v=.slice (some ⟨g,0,none⟩) l.length c∧l.length≤j∧Hid (wr.ownsRow w.heap.size 35 4 (.slice (some ⟨g,0,none⟩) l.length c) l.length (vas l))∧Hid (VAs wr w.heap.size g l)∧Hid ((∀ o,wr.cell? ⟨gs,o,none⟩=w1.cell? ⟨gs,o,none⟩)∧gs≠g∧gs<wr.heap.size)∧Hid (Rd rd a n cap wr)∧Hid (w.grownBy wr (some rd))) (fun _ i _=>3 - (intOf i).toNat)
 case atStart=>exact⟨0,w.heap.size,0,[],by omega,rfl,rfl,Nat.le_refl _,O1,fun x hx=>by simp at hx,⟨fun _=>rfl,HSZ.out.1,HSZ.out.2.2.1⟩,HR1,HG1⟩
 case round =>
  obtain⟨j,g,c,l,hj,rfl,rfl,hlj,HOW,HVA,HCE,HRW,HGW⟩:=hrel
  by_cases hlt:j<3
  · obtain ⟨s, hs32, hsc⟩ := HC.out j hlt
    have hsc':=(HCE.out.1 j).trans hsc
    have hj0:(0:Int)≤(j:Int):=by omega
    have hj3:(j:Int)<3:=by omega
    have K2:=once_any rd n cap 4 4 a wr rfl (by omega) (by omega) hn HRW.out
    have HSC:Hid (wr.cell? ⟨gs,j,none⟩=some (.string ⟨s.toArray⟩)):=hsc'
    have HS32:Hid (s.length=32):=hs32
    have hroom:=HOW.out.lt g (by simp[Value.ownBlock])
    have HGL:Hid (w.heap.size≤g∧g<wr.heap.size):=hroom
    clear hsc hsc' hs32 hroom
    go_wp2_with fail
    refine K2.mono ?_
    rintro e w2 ⟨t2,rfl,R2,G2⟩
    have hR2:Hid (Rd rd a n cap w2):=R2
    have Ga2:Hid (w.grownBy w2 (some rd)):=HGW.out.trans G2
    have O2:Hid (w2.ownsRow w.heap.size 35 4 (.slice (some ⟨g,0,none⟩) l.length c) l.length (vas l)):=HOW.out.kept G2 (.inr (by simp[Value.ownBlock];have:=HSZ.out;have:=HGL.out;omega))
    have V2:Hid (VAs w2 w.heap.size g l):=HVA.out.grown G2 (fun b hb=>by simp at hb;have:=HSZ.out;omega) g (.inl rfl)
    have C2:Hid ((∀ o,w2.cell? ⟨gs,o,none⟩=w1.cell? ⟨gs,o,none⟩)∧gs≠g∧gs<w2.heap.size):=⟨fun o=>((G2).cell_far ⟨gs,o,none⟩ HCE.out.2.2 (by simp;have:=HSZ.out;omega)).trans (HCE.out.1 o),HCE.out.2.1,Nat.lt_of_lt_of_le HCE.out.2.2 (G2).size⟩
    have L2:Hid (w.heap.size≤g∧g<w2.heap.size):=⟨HGL.out.1,Nat.lt_of_lt_of_le HGL.out.2 (G2).size⟩
    have S2:Hid (w2.cell? ⟨gs,j,none⟩=some (.string ⟨s.toArray⟩)):=((G2).cell_far ⟨gs,j,none⟩ HCE.out.2.2 (by simp;have:=HSZ.out;omega)).trans HSC.out
    have G2':Hid (w.grownBy w2 (some rd)):=Ga2
    clear K2 R2 G2 HRW HGW HOW HVA HCE HGL HSC Ga2
    have G2:Hid (w.grownBy w2 (some rd)):=G2'
    clear G2'
    cases t2 with
    | true =>
      go_wp2
      first | go_roundw | (go_wp2;go_roundw)
      case rel=>exact⟨j+1,g,c,l,by omega,by go_num,rfl,by omega,O2,V2,C2,hR2,G2⟩
      case measure=>simp[intOf];omega
    | false =>
      have hwk:IntKind.i64.wrap ((k:Int)+1)=(k:Int)+1:=i64_wrap_small _ (by omega) (by omega)
      have K3:=once_any rd n cap 6 6 a w2 rfl (by omega) (by omega) hn hR2.out
      go_wp2_with fail
      refine K3.mono ?_
      rintro e w3 ⟨t3,rfl,R3,Gx⟩
      have hR3:Hid (Rd rd a n cap w3):=R3
      have hG3:Hid (w2.grownBy w3 (some rd)):=Gx
      clear K3 R3 Gx
      go_upto_if 25 with fail
      go_cut [10] from 24 to 47 (fun v10 wx=>∃ ct:Int,v10=.int .i64 ct∧wx=w3)
      case first =>
       cases t3 with
       | true =>
         go_wp2
         go_meet
         exact⟨_,rfl,rfl⟩
       | false =>
         go_wp2
         go_meet
         exact⟨_,rfl,rfl⟩
      case rest =>
      obtain⟨ct,rfl,hw⟩:=hcut
      rw[hw]
      clear hw
      have hG3':=hG3.out
      have G3:Hid (w.grownBy w3 (some rd)):=G2.out.trans hG3'
      have O3:Hid (w3.ownsRow w.heap.size 35 4 (.slice (some ⟨g,0,none⟩) l.length c) l.length (vas l)):=O2.out.kept hG3' (.inr (by simp[Value.ownBlock];have:=HSZ.out;have:=L2.out;omega))
      have V3:Hid (VAs w3 w.heap.size g l):=V2.out.grown hG3' (fun b hb=>by simp at hb;have:=HSZ.out;omega) g (.inl rfl)
      have C3:Hid ((∀ o,w3.cell? ⟨gs,o,none⟩=w1.cell? ⟨gs,o,none⟩)∧gs≠g∧gs<w3.heap.size):=⟨fun o=>((hG3').cell_far ⟨gs,o,none⟩ C2.out.2.2 (by simp;have:=HSZ.out;omega)).trans (C2.out.1 o),C2.out.2.1,Nat.lt_of_lt_of_le C2.out.2.2 (hG3').size⟩
      have L3:Hid (w.heap.size≤g∧g<w3.heap.size):=⟨L2.out.1,Nat.lt_of_lt_of_le L2.out.2 (hG3').size⟩
      have S3:Hid (w3.cell? ⟨gs,j,none⟩=some (.string ⟨s.toArray⟩)):=((hG3').cell_far ⟨gs,j,none⟩ C2.out.2.2 (by simp;have:=HSZ.out;omega)).trans S2.out
      clear hG3' hG3 O2 V2 C2 L2 S2 G2 hR2 hwk
      have s3c:=S3.out
      have HLO:Hid (rd<w3.heap.size∧∀ cb off,a=some ⟨cb,off,none⟩→n≠0→cb<w3.heap.size):=⟨by have:=HCD.out.1;have:=G3.out.size;omega,fun cb off e h0=>by have:=HCD.out.2 cb off e h0;have:=G3.out.size;omega⟩
      have HZ3:Hid (w.heap.size≤w3.heap.size∧gs<w3.heap.size∧g<w3.heap.size):=⟨G3.out.size,C3.out.2.2,L3.out.2⟩
      have s3S:(w3.alloc (.cells #[.string ⟨#[]⟩,.int .i64 0] 61)).cell? ⟨gs,j,none⟩=some (.string ⟨s.toArray⟩):=cell_allocV _ S3.out
      have s3V:(w3.alloc (.cells #[.int .i64 0,.int .i64 0,.slice none 0 0,.slice none 0 0] 35)).cell? ⟨gs,j,none⟩=some (.string ⟨s.toArray⟩):=cell_allocV _ S3.out
      have s3SV:((w3.alloc (.cells #[.string ⟨#[]⟩,.int .i64 0] 61)).alloc (.cells #[.int .i64 0,.int .i64 0,.slice none 0 0,.slice none 0 0] 35)).cell? ⟨gs,j,none⟩=some (.string ⟨s.toArray⟩):=cell_allocV _ (cell_allocV _ S3.out)
      have s3VS:((w3.alloc (.cells #[.int .i64 0,.int .i64 0,.slice none 0 0,.slice none 0 0] 35)).alloc (.cells #[.string ⟨#[]⟩,.int .i64 0] 61)).cell? ⟨gs,j,none⟩=some (.string ⟨s.toArray⟩):=cell_allocV _ (cell_allocV _ S3.out)
      go_wp2
      go_cut [11,12,13] from 28 to 47 (fun v11 v12 v13 wx=>∃ (p1 p2:Nat) (x:VoteA) (ok:Bool),v11=.pointer (some ⟨p1,0,none⟩)∧v12=.pointer (some ⟨p2,0,none⟩)∧v13=.bool ok∧Hid (goodV x.v)∧Hid (wx.heap[p2]? = some (.cells #[.int .i64 x.v.nd,.int .i64 x.v.i,.slice x.ao x.v.os.length x.co,.slice x.ap x.v.ps.length x.cp] 35 (0,0)))∧Hid (StrF wx w.heap.size g x.ao x.v.os∧StrF wx w.heap.size g x.ap x.v.ps)∧Hid (Rd rd a n cap wx)∧Hid (w3.grownBy wx (some rd)))
      case first =>
       go_region_with (first
        | (have h0 := HLO
           have h0:=NS1
           have h0:=NV0
           clear h0
           clear h0
           clear h0
           go_at_call 28
           with_reducible refine (vote_drawn s root _ _ _ w4 (by have:=HS32.out;omega) hrl).mono ?_
           rintro e w5 ⟨us,x,ok,rfl,gx,fx,b5⟩
           have PS:Hid (w5.heap[w3.heap.size+1]? = some (.cells #[.string ⟨#[]⟩,.int .i64 0] 61 (0,0))):=(b5.block (w3.heap.size+1) (by have:=Z4.out;(try simp);omega)).trans NS1.out
           have PV:Hid (w5.heap[w3.heap.size]? = some (.cells #[.int .i64 0,.int .i64 0,.slice none 0 0,.slice none 0 0] 35 (0,0))):=(b5.block (w3.heap.size) (by have:=Z4.out;(try simp);omega)).trans NV0.out
           have HGX:Hid (goodV x.v):=gx
           have G05:Hid (w3.grownBy w5 (some rd)):=by
            refine World.grownBy.trans ?_ (grown_of_below b5 _)
            repeat' first | exact G04.out | apply gr_drewV | apply gr_allocV
           have HR5:Hid (Rd rd a n cap w5):=by
            refine Rd.keptNone ?_ b5
            repeat' first | exact HR4.out | apply rd_drewV | apply rd_allocV
           have S5:Hid (w5.cell? ⟨gs,j,none⟩=some (.string ⟨s.toArray⟩)):=(G05.out.cell_far ⟨gs,j,none⟩ C3.out.2.2 (by simp;have:=HSZ.out;omega)).trans S3.out
           have Z5:Hid (w4.heap.size+0≤w5.heap.size):=by have h9:=b5.size;(try simp at h9);rw[Hid];omega
           have FX:Hid ((StrF w5 w.heap.size g x.ao x.v.os∧StrF w5 w.heap.size g x.ap x.v.ps)∧(∀ q off,x.ao=some ⟨q,off,none⟩→w4.heap.size+0≤q∧q<w5.heap.size)∧∀ q off,x.ap=some ⟨q,off,none⟩→w4.heap.size+0≤q∧q<w5.heap.size):=by
            have h3:=HZ3.out
            have h4:=Z4.out
            obtain⟨f1,f2⟩:=fx g (by (try simp);omega)
            refine⟨⟨⟨f1.1,fun q off e=>?_⟩,⟨f2.1,fun q off e=>?_⟩⟩,fun q off e=>?_,fun q off e=>?_⟩
            · have h9:=f1.2 q off e;(try simp at h9);omega
            · have h9:=f2.2 q off e;(try simp at h9);omega
            · have h9:=f1.2 q off e;(try simp at h9);omega
            · have h9:=f2.2 q off e;(try simp at h9);omega
           have s5c:=S5.out
           have hvs:w3.heap.size≠w3.heap.size+1:=by have h9:=Z4.out;omega
           have PW:Hid (((w5.setCell ⟨w3.heap.size+1,0,none⟩ (.string ⟨s.toArray⟩)).setCell ⟨w3.heap.size+1,1,none⟩ (.int .i64 us)).heap[w3.heap.size]? = some (.cells #[.int .i64 0,.int .i64 0,.slice none 0 0,.slice none 0 0] 35 (0,0))):=hp_set _ hvs (hp_set _ hvs PV.out)
           obtain⟨y0a,y1a,yfa⟩:=duo_row PS.out
           have yf0a:=yfa 0
           have yf1a:=yfa 1
           clear yfa
           obtain⟨v0a,v1a,v2a,v3a,vfa⟩:=vq_cells PW.out
           have vf0a:=vfa 0
           have vf1a:=vfa 1
           have vf2a:=vfa 2
           have vf3a:=vfa 3
           clear vfa
           clear hvs
           clear b5 fx gx)
        | (have h0 := HLO
           have h0:=NS0
           have h0:=NV1
           clear h0
           clear h0
           clear h0
           go_at_call 28
           with_reducible refine (vote_drawn s root _ _ _ w4 (by have:=HS32.out;omega) hrl).mono ?_
           rintro e w5 ⟨us,x,ok,rfl,gx,fx,b5⟩
           have PS:Hid (w5.heap[w3.heap.size]? = some (.cells #[.string ⟨#[]⟩,.int .i64 0] 61 (0,0))):=(b5.block (w3.heap.size) (by have:=Z4.out;(try simp);omega)).trans NS0.out
           have PV:Hid (w5.heap[w3.heap.size+1]? = some (.cells #[.int .i64 0,.int .i64 0,.slice none 0 0,.slice none 0 0] 35 (0,0))):=(b5.block (w3.heap.size+1) (by have:=Z4.out;(try simp);omega)).trans NV1.out
           have HGX:Hid (goodV x.v):=gx
           have G05:Hid (w3.grownBy w5 (some rd)):=by
            refine World.grownBy.trans ?_ (grown_of_below b5 _)
            repeat' first | exact G04.out | apply gr_drewV | apply gr_allocV
           have HR5:Hid (Rd rd a n cap w5):=by
            refine Rd.keptNone ?_ b5
            repeat' first | exact HR4.out | apply rd_drewV | apply rd_allocV
           have S5:Hid (w5.cell? ⟨gs,j,none⟩=some (.string ⟨s.toArray⟩)):=(G05.out.cell_far ⟨gs,j,none⟩ C3.out.2.2 (by simp;have:=HSZ.out;omega)).trans S3.out
           have Z5:Hid (w4.heap.size+0≤w5.heap.size):=by have h9:=b5.size;(try simp at h9);rw[Hid];omega
           have FX:Hid ((StrF w5 w.heap.size g x.ao x.v.os∧StrF w5 w.heap.size g x.ap x.v.ps)∧(∀ q off,x.ao=some ⟨q,off,none⟩→w4.heap.size+0≤q∧q<w5.heap.size)∧∀ q off,x.ap=some ⟨q,off,none⟩→w4.heap.size+0≤q∧q<w5.heap.size):=by
            have h3:=HZ3.out
            have h4:=Z4.out
            obtain⟨f1,f2⟩:=fx g (by (try simp);omega)
            refine⟨⟨⟨f1.1,fun q off e=>?_⟩,⟨f2.1,fun q off e=>?_⟩⟩,fun q off e=>?_,fun q off e=>?_⟩
            · have h9:=f1.2 q off e;(try simp at h9);omega
            · have h9:=f2.2 q off e;(try simp at h9);omega
            · have h9:=f1.2 q off e;(try simp at h9);omega
            · have h9:=f2.2 q off e;(try simp at h9);omega
           have s5c:=S5.out
           have hvs:w3.heap.size+1≠w3.heap.size:=by have h9:=Z4.out;omega
           have PW:Hid (((w5.setCell ⟨w3.heap.size,0,none⟩ (.string ⟨s.toArray⟩)).setCell ⟨w3.heap.size,1,none⟩ (.int .i64 us)).heap[w3.heap.size+1]? = some (.cells #[.int .i64 0,.int .i64 0,.slice none 0 0,.slice none 0 0] 35 (0,0))):=hp_set _ hvs (hp_set _ hvs PV.out)
           obtain⟨y0a,y1a,yfa⟩:=duo_row PS.out
           have yf0a:=yfa 0
           have yf1a:=yfa 1
           clear yfa
           obtain⟨v0a,v1a,v2a,v3a,vfa⟩:=vq_cells PW.out
           have vf0a:=vfa 0
           have vf1a:=vfa 1
           have vf2a:=vfa 2
           have vf3a:=vfa 3
           clear vfa
           clear hvs
           clear b5 fx gx)
        | (have h0 := HLO
           have h0:=NS0
           clear h0
           clear h0
           go_at_call 28
           with_reducible refine (vote_drawn s root _ _ _ (w4.alloc (.cells #[.int .i64 0,.int .i64 0,.slice none 0 0,.slice none 0 0] 35)) (by have:=HS32.out;omega) hrl).mono ?_
           rintro e w5 ⟨us,x,ok,rfl,gx,fx,b5⟩
           have PS:Hid (w5.heap[w3.heap.size]? = some (.cells #[.string ⟨#[]⟩,.int .i64 0] 61 (0,0))):=(b5.block (w3.heap.size) (by have:=Z4.out;(try simp);omega)).trans (hp_alloc _ NS0.out)
           have PV:Hid (w5.heap[w4.heap.size]? = some (.cells #[.int .i64 0,.int .i64 0,.slice none 0 0,.slice none 0 0] 35 (0,0))):=(b5.block (w4.heap.size) (by (try simp) <;> omega)).trans (heap_alloc_new w4 (.cells #[.int .i64 0,.int .i64 0,.slice none 0 0,.slice none 0 0] 35))
           have HGX:Hid (goodV x.v):=gx
           have G05:Hid (w3.grownBy w5 (some rd)):=by
            refine World.grownBy.trans ?_ (grown_of_below b5 _)
            repeat' first | exact G04.out | apply gr_drewV | apply gr_allocV
           have HR5:Hid (Rd rd a n cap w5):=by
            refine Rd.keptNone ?_ b5
            repeat' first | exact HR4.out | apply rd_drewV | apply rd_allocV
           have S5:Hid (w5.cell? ⟨gs,j,none⟩=some (.string ⟨s.toArray⟩)):=(G05.out.cell_far ⟨gs,j,none⟩ C3.out.2.2 (by simp;have:=HSZ.out;omega)).trans S3.out
           have Z5:Hid (w4.heap.size+1≤w5.heap.size):=by have h9:=b5.size;(try simp at h9);rw[Hid];omega
           have FX:Hid ((StrF w5 w.heap.size g x.ao x.v.os∧StrF w5 w.heap.size g x.ap x.v.ps)∧(∀ q off,x.ao=some ⟨q,off,none⟩→w4.heap.size+1≤q∧q<w5.heap.size)∧∀ q off,x.ap=some ⟨q,off,none⟩→w4.heap.size+1≤q∧q<w5.heap.size):=by
            have h3:=HZ3.out
            have h4:=Z4.out
            obtain⟨f1,f2⟩:=fx g (by (try simp);omega)
            refine⟨⟨⟨f1.1,fun q off e=>?_⟩,⟨f2.1,fun q off e=>?_⟩⟩,fun q off e=>?_,fun q off e=>?_⟩
            · have h9:=f1.2 q off e;(try simp at h9);omega
            · have h9:=f2.2 q off e;(try simp at h9);omega
            · have h9:=f1.2 q off e;(try simp at h9);omega
            · have h9:=f2.2 q off e;(try simp at h9);omega
           have s5c:=S5.out
           have hvs:w4.heap.size≠w3.heap.size:=by have h9:=Z4.out;omega
           have PW:Hid (((w5.setCell ⟨w3.heap.size,0,none⟩ (.string ⟨s.toArray⟩)).setCell ⟨w3.heap.size,1,none⟩ (.int .i64 us)).heap[w4.heap.size]? = some (.cells #[.int .i64 0,.int .i64 0,.slice none 0 0,.slice none 0 0] 35 (0,0))):=hp_set _ hvs (hp_set _ hvs PV.out)
           obtain⟨y0a,y1a,yfa⟩:=duo_row PS.out
           have yf0a:=yfa 0
           have yf1a:=yfa 1
           clear yfa
           obtain⟨v0a,v1a,v2a,v3a,vfa⟩:=vq_cells PW.out
           have vf0a:=vfa 0
           have vf1a:=vfa 1
           have vf2a:=vfa 2
           have vf3a:=vfa 3
           clear vfa
           clear hvs
           clear b5 fx gx)
        | (have h0 := HLO
           have h0:=NV0
           clear h0
           clear h0
           go_at_call 28
           with_reducible refine (vote_drawn s root _ _ _ (w4.alloc (.cells #[.string ⟨#[]⟩,.int .i64 0] 61)) (by have:=HS32.out;omega) hrl).mono ?_
           rintro e w5 ⟨us,x,ok,rfl,gx,fx,b5⟩
           have PV:Hid (w5.heap[w3.heap.size]? = some (.cells #[.int .i64 0,.int .i64 0,.slice none 0 0,.slice none 0 0] 35 (0,0))):=(b5.block (w3.heap.size) (by have:=Z4.out;(try simp);omega)).trans (hp_alloc _ NV0.out)
           have PS:Hid (w5.heap[w4.heap.size]? = some (.cells #[.string ⟨#[]⟩,.int .i64 0] 61 (0,0))):=(b5.block (w4.heap.size) (by (try simp) <;> omega)).trans (heap_alloc_new w4 (.cells #[.string ⟨#[]⟩,.int .i64 0] 61))
           have HGX:Hid (goodV x.v):=gx
           have G05:Hid (w3.grownBy w5 (some rd)):=by
            refine World.grownBy.trans ?_ (grown_of_below b5 _)
            repeat' first | exact G04.out | apply gr_drewV | apply gr_allocV
           have HR5:Hid (Rd rd a n cap w5):=by
            refine Rd.keptNone ?_ b5
            repeat' first | exact HR4.out | apply rd_drewV | apply rd_allocV
           have S5:Hid (w5.cell? ⟨gs,j,none⟩=some (.string ⟨s.toArray⟩)):=(G05.out.cell_far ⟨gs,j,none⟩ C3.out.2.2 (by simp;have:=HSZ.out;omega)).trans S3.out
           have Z5:Hid (w4.heap.size+1≤w5.heap.size):=by have h9:=b5.size;(try simp at h9);rw[Hid];omega
           have FX:Hid ((StrF w5 w.heap.size g x.ao x.v.os∧StrF w5 w.heap.size g x.ap x.v.ps)∧(∀ q off,x.ao=some ⟨q,off,none⟩→w4.heap.size+1≤q∧q<w5.heap.size)∧∀ q off,x.ap=some ⟨q,off,none⟩→w4.heap.size+1≤q∧q<w5.heap.size):=by
            have h3:=HZ3.out
            have h4:=Z4.out
            obtain⟨f1,f2⟩:=fx g (by (try simp);omega)
            refine⟨⟨⟨f1.1,fun q off e=>?_⟩,⟨f2.1,fun q off e=>?_⟩⟩,fun q off e=>?_,fun q off e=>?_⟩
            · have h9:=f1.2 q off e;(try simp at h9);omega
            · have h9:=f2.2 q off e;(try simp at h9);omega
            · have h9:=f1.2 q off e;(try simp at h9);omega
            · have h9:=f2.2 q off e;(try simp at h9);omega
           have s5c:=S5.out
           have hvs:w3.heap.size≠w4.heap.size:=by have h9:=Z4.out;omega
           have PW:Hid (((w5.setCell ⟨w4.heap.size,0,none⟩ (.string ⟨s.toArray⟩)).setCell ⟨w4.heap.size,1,none⟩ (.int .i64 us)).heap[w3.heap.size]? = some (.cells #[.int .i64 0,.int .i64 0,.slice none 0 0,.slice none 0 0] 35 (0,0))):=hp_set _ hvs (hp_set _ hvs PV.out)
           obtain⟨y0a,y1a,yfa⟩:=duo_row PS.out
           have yf0a:=yfa 0
           have yf1a:=yfa 1
           clear yfa
           obtain⟨v0a,v1a,v2a,v3a,vfa⟩:=vq_cells PW.out
           have vf0a:=vfa 0
           have vf1a:=vfa 1
           have vf2a:=vfa 2
           have vf3a:=vfa 3
           clear vfa
           clear hvs
           clear b5 fx gx)
        | (have h0 := HLO
           have h0:=NS0
           clear h0
           clear h0
           go_at_call 28
           with_reducible refine (vote_drawn s root _ _ _ w4 (by have:=HS32.out;omega) hrl).mono ?_
           rintro e w5 ⟨us,x,ok,rfl,gx,fx,b5⟩
           have PS:Hid (w5.heap[w3.heap.size]? = some (.cells #[.string ⟨#[]⟩,.int .i64 0] 61 (0,0))):=(b5.block (w3.heap.size) (by have:=Z4.out;(try simp);omega)).trans NS0.out
           have HGX:Hid (goodV x.v):=gx
           have G05:Hid (w3.grownBy w5 (some rd)):=by
            refine World.grownBy.trans ?_ (grown_of_below b5 _)
            repeat' first | exact G04.out | apply gr_drewV | apply gr_allocV
           have HR5:Hid (Rd rd a n cap w5):=by
            refine Rd.keptNone ?_ b5
            repeat' first | exact HR4.out | apply rd_drewV | apply rd_allocV
           have S5:Hid (w5.cell? ⟨gs,j,none⟩=some (.string ⟨s.toArray⟩)):=(G05.out.cell_far ⟨gs,j,none⟩ C3.out.2.2 (by simp;have:=HSZ.out;omega)).trans S3.out
           have Z5:Hid (w4.heap.size+0≤w5.heap.size):=by have h9:=b5.size;(try simp at h9);rw[Hid];omega
           have FX:Hid ((StrF w5 w.heap.size g x.ao x.v.os∧StrF w5 w.heap.size g x.ap x.v.ps)∧(∀ q off,x.ao=some ⟨q,off,none⟩→w4.heap.size+0≤q∧q<w5.heap.size)∧∀ q off,x.ap=some ⟨q,off,none⟩→w4.heap.size+0≤q∧q<w5.heap.size):=by
            have h3:=HZ3.out
            have h4:=Z4.out
            obtain⟨f1,f2⟩:=fx g (by (try simp);omega)
            refine⟨⟨⟨f1.1,fun q off e=>?_⟩,⟨f2.1,fun q off e=>?_⟩⟩,fun q off e=>?_,fun q off e=>?_⟩
            · have h9:=f1.2 q off e;(try simp at h9);omega
            · have h9:=f2.2 q off e;(try simp at h9);omega
            · have h9:=f1.2 q off e;(try simp at h9);omega
            · have h9:=f2.2 q off e;(try simp at h9);omega
           have s5c:=S5.out
           have hvs:w5.heap.size≠w3.heap.size:=by have h9:=lt_of_block PS.out;omega
           have PA:Hid ((w5.alloc (.cells #[.int .i64 0,.int .i64 0,.slice none 0 0,.slice none 0 0] 35)).heap[w3.heap.size]? = some (.cells #[.string ⟨#[]⟩,.int .i64 0] 61 (0,0))):=hp_alloc _ PS.out
           have PW:Hid ((((w5.alloc (.cells #[.int .i64 0,.int .i64 0,.slice none 0 0,.slice none 0 0] 35)).setCell ⟨w3.heap.size,0,none⟩ (.string ⟨s.toArray⟩)).setCell ⟨w3.heap.size,1,none⟩ (.int .i64 us)).heap[w5.heap.size]? = some (.cells #[.int .i64 0,.int .i64 0,.slice none 0 0,.slice none 0 0] 35 (0,0))):=hp_set _ hvs (hp_set _ hvs (heap_alloc_new w5 (.cells #[.int .i64 0,.int .i64 0,.slice none 0 0,.slice none 0 0] 35)))
           obtain⟨y0a,y1a,yfa⟩:=duo_row PA.out
           have yf0a:=yfa 0
           have yf1a:=yfa 1
           clear yfa
           obtain⟨v0a,v1a,v2a,v3a,vfa⟩:=vq_cells PW.out
           have vf0a:=vfa 0
           have vf1a:=vfa 1
           have vf2a:=vfa 2
           have vf3a:=vfa 3
           clear vfa
           clear hvs
           clear b5 fx gx)
        | (have h0 := HLO
           have h0:=NV0
           clear h0
           clear h0
           go_at_call 28
           with_reducible refine (vote_drawn s root _ _ _ w4 (by have:=HS32.out;omega) hrl).mono ?_
           rintro e w5 ⟨us,x,ok,rfl,gx,fx,b5⟩
           have PV:Hid (w5.heap[w3.heap.size]? = some (.cells #[.int .i64 0,.int .i64 0,.slice none 0 0,.slice none 0 0] 35 (0,0))):=(b5.block (w3.heap.size) (by have:=Z4.out;(try simp);omega)).trans NV0.out
           have HGX:Hid (goodV x.v):=gx
           have G05:Hid (w3.grownBy w5 (some rd)):=by
            refine World.grownBy.trans ?_ (grown_of_below b5 _)
            repeat' first | exact G04.out | apply gr_drewV | apply gr_allocV
           have HR5:Hid (Rd rd a n cap w5):=by
            refine Rd.keptNone ?_ b5
            repeat' first | exact HR4.out | apply rd_drewV | apply rd_allocV
           have S5:Hid (w5.cell? ⟨gs,j,none⟩=some (.string ⟨s.toArray⟩)):=(G05.out.cell_far ⟨gs,j,none⟩ C3.out.2.2 (by simp;have:=HSZ.out;omega)).trans S3.out
           have Z5:Hid (w4.heap.size+0≤w5.heap.size):=by have h9:=b5.size;(try simp at h9);rw[Hid];omega
           have FX:Hid ((StrF w5 w.heap.size g x.ao x.v.os∧StrF w5 w.heap.size g x.ap x.v.ps)∧(∀ q off,x.ao=some ⟨q,off,none⟩→w4.heap.size+0≤q∧q<w5.heap.size)∧∀ q off,x.ap=some ⟨q,off,none⟩→w4.heap.size+0≤q∧q<w5.heap.size):=by
            have h3:=HZ3.out
            have h4:=Z4.out
            obtain⟨f1,f2⟩:=fx g (by (try simp);omega)
            refine⟨⟨⟨f1.1,fun q off e=>?_⟩,⟨f2.1,fun q off e=>?_⟩⟩,fun q off e=>?_,fun q off e=>?_⟩
            · have h9:=f1.2 q off e;(try simp at h9);omega
            · have h9:=f2.2 q off e;(try simp at h9);omega
            · have h9:=f1.2 q off e;(try simp at h9);omega
            · have h9:=f2.2 q off e;(try simp at h9);omega
           have s5c:=S5.out
           have PA:Hid ((w5.alloc (.cells #[.string ⟨s.toArray⟩,.int .i64 us] 61)).heap[w3.heap.size]? = some (.cells #[.int .i64 0,.int .i64 0,.slice none 0 0,.slice none 0 0] 35 (0,0))):=hp_alloc _ PV.out
           obtain⟨v0a,v1a,v2a,v3a,vfa⟩:=vq_cells PA.out
           have vf0a:=vfa 0
           have vf1a:=vfa 1
           have vf2a:=vfa 2
           have vf3a:=vfa 3
           clear vfa
           clear b5 fx gx)
        | (have h0 := HLO
           clear h0
           go_at_call 28
           with_reducible refine (vote_drawn s root _ _ _ ((w4.alloc (.cells #[.string ⟨#[]⟩,.int .i64 0] 61)).alloc (.cells #[.int .i64 0,.int .i64 0,.slice none 0 0,.slice none 0 0] 35)) (by have:=HS32.out;omega) hrl).mono ?_
           rintro e w5 ⟨us,x,ok,rfl,gx,fx,b5⟩
           have PS:Hid (w5.heap[w4.heap.size]? = some (.cells #[.string ⟨#[]⟩,.int .i64 0] 61 (0,0))):=(b5.block (w4.heap.size) (by (try simp) <;> omega)).trans (hp_alloc _ (heap_alloc_new w4 (.cells #[.string ⟨#[]⟩,.int .i64 0] 61)))
           have PV:Hid (w5.heap[w4.heap.size+1]? = some (.cells #[.int .i64 0,.int .i64 0,.slice none 0 0,.slice none 0 0] 35 (0,0))):=(b5.block (w4.heap.size+1) (by (try simp) <;> omega)).trans (by have h9:=heap_alloc_new (w4.alloc (.cells #[.string ⟨#[]⟩,.int .i64 0] 61)) (.cells #[.int .i64 0,.int .i64 0,.slice none 0 0,.slice none 0 0] 35);simpa using h9)
           have HGX:Hid (goodV x.v):=gx
           have G05:Hid (w3.grownBy w5 (some rd)):=by
            refine World.grownBy.trans ?_ (grown_of_below b5 _)
            repeat' first | exact G04.out | apply gr_drewV | apply gr_allocV
           have HR5:Hid (Rd rd a n cap w5):=by
            refine Rd.keptNone ?_ b5
            repeat' first | exact HR4.out | apply rd_drewV | apply rd_allocV
           have S5:Hid (w5.cell? ⟨gs,j,none⟩=some (.string ⟨s.toArray⟩)):=(G05.out.cell_far ⟨gs,j,none⟩ C3.out.2.2 (by simp;have:=HSZ.out;omega)).trans S3.out
           have Z5:Hid (w4.heap.size+2≤w5.heap.size):=by have h9:=b5.size;(try simp at h9);rw[Hid];omega
           have FX:Hid ((StrF w5 w.heap.size g x.ao x.v.os∧StrF w5 w.heap.size g x.ap x.v.ps)∧(∀ q off,x.ao=some ⟨q,off,none⟩→w4.heap.size+2≤q∧q<w5.heap.size)∧∀ q off,x.ap=some ⟨q,off,none⟩→w4.heap.size+2≤q∧q<w5.heap.size):=by
            have h3:=HZ3.out
            have h4:=Z4.out
            obtain⟨f1,f2⟩:=fx g (by (try simp);omega)
            refine⟨⟨⟨f1.1,fun q off e=>?_⟩,⟨f2.1,fun q off e=>?_⟩⟩,fun q off e=>?_,fun q off e=>?_⟩
            · have h9:=f1.2 q off e;(try simp at h9);omega
            · have h9:=f2.2 q off e;(try simp at h9);omega
            · have h9:=f1.2 q off e;(try simp at h9);omega
            · have h9:=f2.2 q off e;(try simp at h9);omega
           have s5c:=S5.out
           have hvs:w4.heap.size+1≠w4.heap.size:=by have h9:=Z4.out;omega
           have PW:Hid (((w5.setCell ⟨w4.heap.size,0,none⟩ (.string ⟨s.toArray⟩)).setCell ⟨w4.heap.size,1,none⟩ (.int .i64 us)).heap[w4.heap.size+1]? = some (.cells #[.int .i64 0,.int .i64 0,.slice none 0 0,.slice none 0 0] 35 (0,0))):=hp_set _ hvs (hp_set _ hvs PV.out)
           obtain⟨y0a,y1a,yfa⟩:=duo_row PS.out
           have yf0a:=yfa 0
           have yf1a:=yfa 1
           clear yfa
           obtain⟨v0a,v1a,v2a,v3a,vfa⟩:=vq_cells PW.out
           have vf0a:=vfa 0
           have vf1a:=vfa 1
           have vf2a:=vfa 2
           have vf3a:=vfa 3
           clear vfa
           clear hvs
           clear b5 fx gx)
        | (have h0 := HLO
           clear h0
           go_at_call 28
           with_reducible refine (vote_drawn s root _ _ _ ((w4.alloc (.cells #[.int .i64 0,.int .i64 0,.slice none 0 0,.slice none 0 0] 35)).alloc (.cells #[.string ⟨#[]⟩,.int .i64 0] 61)) (by have:=HS32.out;omega) hrl).mono ?_
           rintro e w5 ⟨us,x,ok,rfl,gx,fx,b5⟩
           have PV:Hid (w5.heap[w4.heap.size]? = some (.cells #[.int .i64 0,.int .i64 0,.slice none 0 0,.slice none 0 0] 35 (0,0))):=(b5.block (w4.heap.size) (by (try simp) <;> omega)).trans (hp_alloc _ (heap_alloc_new w4 (.cells #[.int .i64 0,.int .i64 0,.slice none 0 0,.slice none 0 0] 35)))
           have PS:Hid (w5.heap[w4.heap.size+1]? = some (.cells #[.string ⟨#[]⟩,.int .i64 0] 61 (0,0))):=(b5.block (w4.heap.size+1) (by (try simp) <;> omega)).trans (by have h9:=heap_alloc_new (w4.alloc (.cells #[.int .i64 0,.int .i64 0,.slice none 0 0,.slice none 0 0] 35)) (.cells #[.string ⟨#[]⟩,.int .i64 0] 61);simpa using h9)
           have HGX:Hid (goodV x.v):=gx
           have G05:Hid (w3.grownBy w5 (some rd)):=by
            refine World.grownBy.trans ?_ (grown_of_below b5 _)
            repeat' first | exact G04.out | apply gr_drewV | apply gr_allocV
           have HR5:Hid (Rd rd a n cap w5):=by
            refine Rd.keptNone ?_ b5
            repeat' first | exact HR4.out | apply rd_drewV | apply rd_allocV
           have S5:Hid (w5.cell? ⟨gs,j,none⟩=some (.string ⟨s.toArray⟩)):=(G05.out.cell_far ⟨gs,j,none⟩ C3.out.2.2 (by simp;have:=HSZ.out;omega)).trans S3.out
           have Z5:Hid (w4.heap.size+2≤w5.heap.size):=by have h9:=b5.size;(try simp at h9);rw[Hid];omega
           have FX:Hid ((StrF w5 w.heap.size g x.ao x.v.os∧StrF w5 w.heap.size g x.ap x.v.ps)∧(∀ q off,x.ao=some ⟨q,off,none⟩→w4.heap.size+2≤q∧q<w5.heap.size)∧∀ q off,x.ap=some ⟨q,off,none⟩→w4.heap.size+2≤q∧q<w5.heap.size):=by
            have h3:=HZ3.out
            have h4:=Z4.out
            obtain⟨f1,f2⟩:=fx g (by (try simp);omega)
            refine⟨⟨⟨f1.1,fun q off e=>?_⟩,⟨f2.1,fun q off e=>?_⟩⟩,fun q off e=>?_,fun q off e=>?_⟩
            · have h9:=f1.2 q off e;(try simp at h9);omega
            · have h9:=f2.2 q off e;(try simp at h9);omega
            · have h9:=f1.2 q off e;(try simp at h9);omega
            · have h9:=f2.2 q off e;(try simp at h9);omega
           have s5c:=S5.out
           have hvs:w4.heap.size≠w4.heap.size+1:=by have h9:=Z4.out;omega
           have PW:Hid (((w5.setCell ⟨w4.heap.size+1,0,none⟩ (.string ⟨s.toArray⟩)).setCell ⟨w4.heap.size+1,1,none⟩ (.int .i64 us)).heap[w4.heap.size]? = some (.cells #[.int .i64 0,.int .i64 0,.slice none 0 0,.slice none 0 0] 35 (0,0))):=hp_set _ hvs (hp_set _ hvs PV.out)
           obtain⟨y0a,y1a,yfa⟩:=duo_row PS.out
           have yf0a:=yfa 0
           have yf1a:=yfa 1
           clear yfa
           obtain⟨v0a,v1a,v2a,v3a,vfa⟩:=vq_cells PW.out
           have vf0a:=vfa 0
           have vf1a:=vfa 1
           have vf2a:=vfa 2
           have vf3a:=vfa 3
           clear vfa
           clear hvs
           clear b5 fx gx)
        | (have h0 := HLO
           clear h0
           go_at_call 28
           with_reducible refine (vote_drawn s root _ _ _ (w4.alloc (.cells #[.string ⟨#[]⟩,.int .i64 0] 61)) (by have:=HS32.out;omega) hrl).mono ?_
           rintro e w5 ⟨us,x,ok,rfl,gx,fx,b5⟩
           have PS:Hid (w5.heap[w4.heap.size]? = some (.cells #[.string ⟨#[]⟩,.int .i64 0] 61 (0,0))):=(b5.block (w4.heap.size) (by (try simp) <;> omega)).trans (heap_alloc_new w4 (.cells #[.string ⟨#[]⟩,.int .i64 0] 61))
           have HGX:Hid (goodV x.v):=gx
           have G05:Hid (w3.grownBy w5 (some rd)):=by
            refine World.grownBy.trans ?_ (grown_of_below b5 _)
            repeat' first | exact G04.out | apply gr_drewV | apply gr_allocV
           have HR5:Hid (Rd rd a n cap w5):=by
            refine Rd.keptNone ?_ b5
            repeat' first | exact HR4.out | apply rd_drewV | apply rd_allocV
           have S5:Hid (w5.cell? ⟨gs,j,none⟩=some (.string ⟨s.toArray⟩)):=(G05.out.cell_far ⟨gs,j,none⟩ C3.out.2.2 (by simp;have:=HSZ.out;omega)).trans S3.out
           have Z5:Hid (w4.heap.size+1≤w5.heap.size):=by have h9:=b5.size;(try simp at h9);rw[Hid];omega
           have FX:Hid ((StrF w5 w.heap.size g x.ao x.v.os∧StrF w5 w.heap.size g x.ap x.v.ps)∧(∀ q off,x.ao=some ⟨q,off,none⟩→w4.heap.size+1≤q∧q<w5.heap.size)∧∀ q off,x.ap=some ⟨q,off,none⟩→w4.heap.size+1≤q∧q<w5.heap.size):=by
            have h3:=HZ3.out
            have h4:=Z4.out
            obtain⟨f1,f2⟩:=fx g (by (try simp);omega)
            refine⟨⟨⟨f1.1,fun q off e=>?_⟩,⟨f2.1,fun q off e=>?_⟩⟩,fun q off e=>?_,fun q off e=>?_⟩
            · have h9:=f1.2 q off e;(try simp at h9);omega
            · have h9:=f2.2 q off e;(try simp at h9);omega
            · have h9:=f1.2 q off e;(try simp at h9);omega
            · have h9:=f2.2 q off e;(try simp at h9);omega
           have s5c:=S5.out
           have hvs:w5.heap.size≠w4.heap.size:=by have h9:=lt_of_block PS.out;omega
           have PA:Hid ((w5.alloc (.cells #[.int .i64 0,.int .i64 0,.slice none 0 0,.slice none 0 0] 35)).heap[w4.heap.size]? = some (.cells #[.string ⟨#[]⟩,.int .i64 0] 61 (0,0))):=hp_alloc _ PS.out
           have PW:Hid ((((w5.alloc (.cells #[.int .i64 0,.int .i64 0,.slice none 0 0,.slice none 0 0] 35)).setCell ⟨w4.heap.size,0,none⟩ (.string ⟨s.toArray⟩)).setCell ⟨w4.heap.size,1,none⟩ (.int .i64 us)).heap[w5.heap.size]? = some (.cells #[.int .i64 0,.int .i64 0,.slice none 0 0,.slice none 0 0] 35 (0,0))):=hp_set _ hvs (hp_set _ hvs (heap_alloc_new w5 (.cells #[.int .i64 0,.int .i64 0,.slice none 0 0,.slice none 0 0] 35)))
           obtain⟨y0a,y1a,yfa⟩:=duo_row PA.out
           have yf0a:=yfa 0
           have yf1a:=yfa 1
           clear yfa
           obtain⟨v0a,v1a,v2a,v3a,vfa⟩:=vq_cells PW.out
           have vf0a:=vfa 0
           have vf1a:=vfa 1
           have vf2a:=vfa 2
           have vf3a:=vfa 3
           clear vfa
           clear hvs
           clear b5 fx gx)
        | (have h0 := HLO
           clear h0
           go_at_call 28
           with_reducible refine (vote_drawn s root _ _ _ (w4.alloc (.cells #[.int .i64 0,.int .i64 0,.slice none 0 0,.slice none 0 0] 35)) (by have:=HS32.out;omega) hrl).mono ?_
           rintro e w5 ⟨us,x,ok,rfl,gx,fx,b5⟩
           have PV:Hid (w5.heap[w4.heap.size]? = some (.cells #[.int .i64 0,.int .i64 0,.slice none 0 0,.slice none 0 0] 35 (0,0))):=(b5.block (w4.heap.size) (by (try simp) <;> omega)).trans (heap_alloc_new w4 (.cells #[.int .i64 0,.int .i64 0,.slice none 0 0,.slice none 0 0] 35))
           have HGX:Hid (goodV x.v):=gx
           have G05:Hid (w3.grownBy w5 (some rd)):=by
            refine World.grownBy.trans ?_ (grown_of_below b5 _)
            repeat' first | exact G04.out | apply gr_drewV | apply gr_allocV
           have HR5:Hid (Rd rd a n cap w5):=by
            refine Rd.keptNone ?_ b5
            repeat' first | exact HR4.out | apply rd_drewV | apply rd_allocV
           have S5:Hid (w5.cell? ⟨gs,j,none⟩=some (.string ⟨s.toArray⟩)):=(G05.out.cell_far ⟨gs,j,none⟩ C3.out.2.2 (by simp;have:=HSZ.out;omega)).trans S3.out
           have Z5:Hid (w4.heap.size+1≤w5.heap.size):=by have h9:=b5.size;(try simp at h9);rw[Hid];omega
           have FX:Hid ((StrF w5 w.heap.size g x.ao x.v.os∧StrF w5 w.heap.size g x.ap x.v.ps)∧(∀ q off,x.ao=some ⟨q,off,none⟩→w4.heap.size+1≤q∧q<w5.heap.size)∧∀ q off,x.ap=some ⟨q,off,none⟩→w4.heap.size+1≤q∧q<w5.heap.size):=by
            have h3:=HZ3.out
            have h4:=Z4.out
            obtain⟨f1,f2⟩:=fx g (by (try simp);omega)
            refine⟨⟨⟨f1.1,fun q off e=>?_⟩,⟨f2.1,fun q off e=>?_⟩⟩,fun q off e=>?_,fun q off e=>?_⟩
            · have h9:=f1.2 q off e;(try simp at h9);omega
            · have h9:=f2.2 q off e;(try simp at h9);omega
            · have h9:=f1.2 q off e;(try simp at h9);omega
            · have h9:=f2.2 q off e;(try simp at h9);omega
           have s5c:=S5.out
           have PA:Hid ((w5.alloc (.cells #[.string ⟨s.toArray⟩,.int .i64 us] 61)).heap[w4.heap.size]? = some (.cells #[.int .i64 0,.int .i64 0,.slice none 0 0,.slice none 0 0] 35 (0,0))):=hp_alloc _ PV.out
           obtain⟨v0a,v1a,v2a,v3a,vfa⟩:=vq_cells PA.out
           have vf0a:=vfa 0
           have vf1a:=vfa 1
           have vf2a:=vfa 2
           have vf3a:=vfa 3
           clear vfa
           clear b5 fx gx)
        | (have h0 := HLO
           clear h0
           go_at_call 28
           with_reducible refine (vote_drawn s root _ _ _ w4 (by have:=HS32.out;omega) hrl).mono ?_
           rintro e w5 ⟨us,x,ok,rfl,gx,fx,b5⟩
           have HGX:Hid (goodV x.v):=gx
           have G05:Hid (w3.grownBy w5 (some rd)):=by
            refine World.grownBy.trans ?_ (grown_of_below b5 _)
            repeat' first | exact G04.out | apply gr_drewV | apply gr_allocV
           have HR5:Hid (Rd rd a n cap w5):=by
            refine Rd.keptNone ?_ b5
            repeat' first | exact HR4.out | apply rd_drewV | apply rd_allocV
           have S5:Hid (w5.cell? ⟨gs,j,none⟩=some (.string ⟨s.toArray⟩)):=(G05.out.cell_far ⟨gs,j,none⟩ C3.out.2.2 (by simp;have:=HSZ.out;omega)).trans S3.out
           have Z5:Hid (w4.heap.size+0≤w5.heap.size):=by have h9:=b5.size;(try simp at h9);rw[Hid];omega
           have FX:Hid ((StrF w5 w.heap.size g x.ao x.v.os∧StrF w5 w.heap.size g x.ap x.v.ps)∧(∀ q off,x.ao=some ⟨q,off,none⟩→w4.heap.size+0≤q∧q<w5.heap.size)∧∀ q off,x.ap=some ⟨q,off,none⟩→w4.heap.size+0≤q∧q<w5.heap.size):=by
            have h3:=HZ3.out
            have h4:=Z4.out
            obtain⟨f1,f2⟩:=fx g (by (try simp);omega)
            refine⟨⟨⟨f1.1,fun q off e=>?_⟩,⟨f2.1,fun q off e=>?_⟩⟩,fun q off e=>?_,fun q off e=>?_⟩
            · have h9:=f1.2 q off e;(try simp at h9);omega
            · have h9:=f2.2 q off e;(try simp at h9);omega
            · have h9:=f1.2 q off e;(try simp at h9);omega
            · have h9:=f2.2 q off e;(try simp at h9);omega
           have s5c:=S5.out
           clear b5 fx gx)
        | (go_at_call 10
           with_reducible refine (below_any rd n cap 4 4 a ((w3.alloc (.cells #[.int .i64 0,.int .i64 0,.slice none 0 0,.slice none 0 0] 35)).alloc (.cells #[.string ⟨#[]⟩,.int .i64 0] 61)).drew rfl (by omega) (by omega) hn (by repeat' first | exact hR3.out | apply rd_drewV | apply rd_allocV)).mono ?_
           rintro e w4 ⟨y,hy,rfl,R4,G4⟩
           have NS1:Hid (w4.heap[w3.heap.size+1]? = some (.cells #[.string ⟨#[]⟩,.int .i64 0] 61 (0,0))):=(G4.block (w3.heap.size+1) (by (try simp) <;> omega) (by have:=HLO.out.1;simp;omega)).trans (by first | exact hp_new2 w3 (.cells #[.int .i64 0,.int .i64 0,.slice none 0 0,.slice none 0 0] 35) (.cells #[.string ⟨#[]⟩,.int .i64 0] 61) | exact hp_new2d w3 (.cells #[.int .i64 0,.int .i64 0,.slice none 0 0,.slice none 0 0] 35) (.cells #[.string ⟨#[]⟩,.int .i64 0] 61))
           have NV0:Hid (w4.heap[w3.heap.size]? = some (.cells #[.int .i64 0,.int .i64 0,.slice none 0 0,.slice none 0 0] 35 (0,0))):=(G4.block (w3.heap.size) (by (try simp) <;> omega) (by have:=HLO.out.1;simp;omega)).trans (by first | exact hp_alloc _ (heap_alloc_new w3 (.cells #[.int .i64 0,.int .i64 0,.slice none 0 0,.slice none 0 0] 35)) | exact hp_alloc _ (heap_alloc_new w3.drew (.cells #[.int .i64 0,.int .i64 0,.slice none 0 0,.slice none 0 0] 35)))
           have HR4:Hid (Rd rd a n cap w4):=R4
           have G04:Hid (w3.grownBy w4 (some rd)):=by
            refine World.grownBy.trans ?_ G4
            repeat' first | exact World.grownBy.refl _ _ | apply gr_drewV | apply gr_allocV
           have S4:Hid (w4.cell? ⟨gs,j,none⟩=some (.string ⟨s.toArray⟩)):=(G04.out.cell_far ⟨gs,j,none⟩ C3.out.2.2 (by simp;have:=HSZ.out;omega)).trans S3.out
           have Z4:Hid (w3.heap.size+2≤w4.heap.size):=by have h9:=G4.size;(try simp at h9);rw[Hid];omega
           have s4c:=S4.out
           clear R4 G4)
        | (go_at_call 10
           with_reducible refine (below_any rd n cap 4 4 a ((w3.alloc (.cells #[.string ⟨#[]⟩,.int .i64 0] 61)).alloc (.cells #[.int .i64 0,.int .i64 0,.slice none 0 0,.slice none 0 0] 35)).drew rfl (by omega) (by omega) hn (by repeat' first | exact hR3.out | apply rd_drewV | apply rd_allocV)).mono ?_
           rintro e w4 ⟨y,hy,rfl,R4,G4⟩
           have NS0:Hid (w4.heap[w3.heap.size]? = some (.cells #[.string ⟨#[]⟩,.int .i64 0] 61 (0,0))):=(G4.block (w3.heap.size) (by (try simp) <;> omega) (by have:=HLO.out.1;simp;omega)).trans (by first | exact hp_alloc _ (heap_alloc_new w3 (.cells #[.string ⟨#[]⟩,.int .i64 0] 61)) | exact hp_alloc _ (heap_alloc_new w3.drew (.cells #[.string ⟨#[]⟩,.int .i64 0] 61)))
           have NV1:Hid (w4.heap[w3.heap.size+1]? = some (.cells #[.int .i64 0,.int .i64 0,.slice none 0 0,.slice none 0 0] 35 (0,0))):=(G4.block (w3.heap.size+1) (by (try simp) <;> omega) (by have:=HLO.out.1;simp;omega)).trans (by first | exact hp_new2 w3 (.cells #[.string ⟨#[]⟩,.int .i64 0] 61) (.cells #[.int .i64 0,.int .i64 0,.slice none 0 0,.slice none 0 0] 35) | exact hp_new2d w3 (.cells #[.string ⟨#[]⟩,.int .i64 0] 61) (.cells #[.int .i64 0,.int .i64 0,.slice none 0 0,.slice none 0 0] 35))
           have HR4:Hid (Rd rd a n cap w4):=R4
           have G04:Hid (w3.grownBy w4 (some rd)):=by
            refine World.grownBy.trans ?_ G4
            repeat' first | exact World.grownBy.refl _ _ | apply gr_drewV | apply gr_allocV
           have S4:Hid (w4.cell? ⟨gs,j,none⟩=some (.string ⟨s.toArray⟩)):=(G04.out.cell_far ⟨gs,j,none⟩ C3.out.2.2 (by simp;have:=HSZ.out;omega)).trans S3.out
           have Z4:Hid (w3.heap.size+2≤w4.heap.size):=by have h9:=G4.size;(try simp at h9);rw[Hid];omega
           have s4c:=S4.out
           clear R4 G4)
        | (go_at_call 10
           with_reducible refine (below_any rd n cap 4 4 a (w3.alloc (.cells #[.string ⟨#[]⟩,.int .i64 0] 61)).drew rfl (by omega) (by omega) hn (by repeat' first | exact hR3.out | apply rd_drewV | apply rd_allocV)).mono ?_
           rintro e w4 ⟨y,hy,rfl,R4,G4⟩
           have NS0:Hid (w4.heap[w3.heap.size]? = some (.cells #[.string ⟨#[]⟩,.int .i64 0] 61 (0,0))):=(G4.block (w3.heap.size) (by (try simp) <;> omega) (by have:=HLO.out.1;simp;omega)).trans (by first | exact heap_alloc_new w3 (.cells #[.string ⟨#[]⟩,.int .i64 0] 61) | exact heap_alloc_new w3.drew (.cells #[.string ⟨#[]⟩,.int .i64 0] 61))
           have HR4:Hid (Rd rd a n cap w4):=R4
           have G04:Hid (w3.grownBy w4 (some rd)):=by
            refine World.grownBy.trans ?_ G4
            repeat' first | exact World.grownBy.refl _ _ | apply gr_drewV | apply gr_allocV
           have S4:Hid (w4.cell? ⟨gs,j,none⟩=some (.string ⟨s.toArray⟩)):=(G04.out.cell_far ⟨gs,j,none⟩ C3.out.2.2 (by simp;have:=HSZ.out;omega)).trans S3.out
           have Z4:Hid (w3.heap.size+1≤w4.heap.size):=by have h9:=G4.size;(try simp at h9);rw[Hid];omega
           have s4c:=S4.out
           have s4V:(w4.alloc (.cells #[.int .i64 0,.int .i64 0,.slice none 0 0,.slice none 0 0] 35)).cell? ⟨gs,j,none⟩=some (.string ⟨s.toArray⟩):=cell_allocV _ S4.out
           clear R4 G4)
        | (go_at_call 10
           with_reducible refine (below_any rd n cap 4 4 a (w3.alloc (.cells #[.int .i64 0,.int .i64 0,.slice none 0 0,.slice none 0 0] 35)).drew rfl (by omega) (by omega) hn (by repeat' first | exact hR3.out | apply rd_drewV | apply rd_allocV)).mono ?_
           rintro e w4 ⟨y,hy,rfl,R4,G4⟩
           have NV0:Hid (w4.heap[w3.heap.size]? = some (.cells #[.int .i64 0,.int .i64 0,.slice none 0 0,.slice none 0 0] 35 (0,0))):=(G4.block (w3.heap.size) (by (try simp) <;> omega) (by have:=HLO.out.1;simp;omega)).trans (by first | exact heap_alloc_new w3 (.cells #[.int .i64 0,.int .i64 0,.slice none 0 0,.slice none 0 0] 35) | exact heap_alloc_new w3.drew (.cells #[.int .i64 0,.int .i64 0,.slice none 0 0,.slice none 0 0] 35))
           have HR4:Hid (Rd rd a n cap w4):=R4
           have G04:Hid (w3.grownBy w4 (some rd)):=by
            refine World.grownBy.trans ?_ G4
            repeat' first | exact World.grownBy.refl _ _ | apply gr_drewV | apply gr_allocV
           have S4:Hid (w4.cell? ⟨gs,j,none⟩=some (.string ⟨s.toArray⟩)):=(G04.out.cell_far ⟨gs,j,none⟩ C3.out.2.2 (by simp;have:=HSZ.out;omega)).trans S3.out
           have Z4:Hid (w3.heap.size+1≤w4.heap.size):=by have h9:=G4.size;(try simp at h9);rw[Hid];omega
           have s4c:=S4.out
           have s4S:(w4.alloc (.cells #[.string ⟨#[]⟩,.int .i64 0] 61)).cell? ⟨gs,j,none⟩=some (.string ⟨s.toArray⟩):=cell_allocV _ S4.out
           clear R4 G4)
        | (go_at_call 10
           with_reducible refine (below_any rd n cap 4 4 a w3.drew rfl (by omega) (by omega) hn (by repeat' first | exact hR3.out | apply rd_drewV | apply rd_allocV)).mono ?_
           rintro e w4 ⟨y,hy,rfl,R4,G4⟩
           have HR4:Hid (Rd rd a n cap w4):=R4
           have G04:Hid (w3.grownBy w4 (some rd)):=by
            refine World.grownBy.trans ?_ G4
            repeat' first | exact World.grownBy.refl _ _ | apply gr_drewV | apply gr_allocV
           have S4:Hid (w4.cell? ⟨gs,j,none⟩=some (.string ⟨s.toArray⟩)):=(G04.out.cell_far ⟨gs,j,none⟩ C3.out.2.2 (by simp;have:=HSZ.out;omega)).trans S3.out
           have Z4:Hid (w3.heap.size+0≤w4.heap.size):=by have h9:=G4.size;(try simp at h9);rw[Hid];omega
           have s4c:=S4.out
           have s4S:(w4.alloc (.cells #[.string ⟨#[]⟩,.int .i64 0] 61)).cell? ⟨gs,j,none⟩=some (.string ⟨s.toArray⟩):=cell_allocV _ S4.out
           have s4V:(w4.alloc (.cells #[.int .i64 0,.int .i64 0,.slice none 0 0,.slice none 0 0] 35)).cell? ⟨gs,j,none⟩=some (.string ⟨s.toArray⟩):=cell_allocV _ S4.out
           have s4SV:((w4.alloc (.cells #[.string ⟨#[]⟩,.int .i64 0] 61)).alloc (.cells #[.int .i64 0,.int .i64 0,.slice none 0 0,.slice none 0 0] 35)).cell? ⟨gs,j,none⟩=some (.string ⟨s.toArray⟩):=cell_allocV _ (cell_allocV _ S4.out)
           have s4VS:((w4.alloc (.cells #[.int .i64 0,.int .i64 0,.slice none 0 0,.slice none 0 0] 35)).alloc (.cells #[.string ⟨#[]⟩,.int .i64 0] 61)).cell? ⟨gs,j,none⟩=some (.string ⟨s.toArray⟩):=cell_allocV _ (cell_allocV _ S4.out)
           clear R4 G4))
       all_goals go_wp2_with fail
       all_goals go_meet
       all_goals
        refine⟨_,_,x,ok,rfl,rfl,rfl,HGX,?_,?_,?_,?_⟩
        · unfold Hid
          first
           | with_reducible exact heap_alloc_new _ _
           | with_reducible exact hp_new2 _ _ _
           | with_reducible exact hp_alloc _ (heap_alloc_new _ _)
           | exact vq_set (j:=3) (vq_set (j:=2) (vq_set (j:=1) (vq_set (j:=0) PW.out)))
           | exact vq_set (j:=3) (vq_set (j:=2) (vq_set (j:=1) (vq_set (j:=0) PA.out)))
        · unfold Hid
          refine⟨?_,?_⟩ <;> (repeat' first | with_reducible exact FX.out.1.1 | with_reducible exact FX.out.1.2 | with_reducible refine str_allocV _ ?_ | with_reducible refine str_setV _ (fun q off e=>by have h1:=FX.out.2.1 q off e;have h4:=Z4.out;omega) ?_ | with_reducible refine str_setV _ (fun q off e=>by have h1:=FX.out.2.2 q off e;have h4:=Z4.out;omega) ?_)
        · unfold Hid
          repeat' first | with_reducible exact HR5.out | with_reducible apply rd_drewV | with_reducible apply rd_allocV | with_reducible refine rd_setV _ HLO.out (by have h3:=HZ3.out;have h4:=Z4.out;have h5:=Z5.out;omega) ?_
        · unfold Hid
          repeat' first | with_reducible exact G05.out | with_reducible apply gr_drewV | with_reducible apply gr_allocV | with_reducible refine gr_setV _ (by have h3:=HZ3.out;have h4:=Z4.out;have h5:=Z5.out;omega) ?_
      case rest =>
       obtain⟨p1,p2,x,ok,rfl,rfl,rfl,HGX,HPV,HFX,HRX,HG36⟩:=hcut
       obtain⟨w6,hw6⟩:∃ W,W=wc:=⟨_,rfl⟩
       rw[←hw6] at HPV HFX HRX HG36 ⊢
       clear hw6
       have hG6:=HG36.out
       have G6:Hid (w.grownBy w6 (some rd)):=G3.out.trans hG6
       have O6:Hid (w6.ownsRow w.heap.size 35 4 (.slice (some ⟨g,0,none⟩) l.length c) l.length (vas l)):=O3.out.kept hG6 (.inr (by simp[Value.ownBlock];have:=HSZ.out;have:=L3.out;omega))
       have V6:Hid (VAs w6 w.heap.size g l):=V3.out.grown hG6 (fun b hb=>by simp at hb;have:=HSZ.out;omega) g (.inl rfl)
       have C6:Hid ((∀ o,w6.cell? ⟨gs,o,none⟩=w1.cell? ⟨gs,o,none⟩)∧gs≠g∧gs<w6.heap.size):=⟨fun o=>((hG6).cell_far ⟨gs,o,none⟩ C3.out.2.2 (by simp;have:=HSZ.out;omega)).trans (C3.out.1 o),C3.out.2.1,Nat.lt_of_lt_of_le C3.out.2.2 (hG6).size⟩
       have L6:Hid (w.heap.size≤g∧g<w6.heap.size):=⟨L3.out.1,Nat.lt_of_lt_of_le L3.out.2 (hG6).size⟩
       have S6:Hid (w6.cell? ⟨gs,j,none⟩=some (.string ⟨s.toArray⟩)):=((hG6).cell_far ⟨gs,j,none⟩ C3.out.2.2 (by simp;have:=HSZ.out;omega)).trans S3.out
       clear hG6 HG36 O3 V3 L3 S3 G3 hR3 s3c HLO
       have hrw0:w.heap.size≤w6.heap.size:=G6.out.size
       cases ok with
       | false =>
         go_wp2
         first | go_roundw | (go_wp2;go_roundw)
         case rel =>
          first | exact⟨j+1,g,c,l,by omega,by go_num,rfl,by omega,O6,V6,C6,HRX,G6⟩ | exact⟨_,j+1,g,c,l,by omega,by go_num,rfl,by omega,O6,V6,C6,HRX,G6⟩ | exact⟨_,_,_,_,j+1,g,c,l,by omega,by go_num,rfl,by omega,O6,V6,C6,HRX,G6⟩
         case measure=>simp[intOf];omega
       | true =>
         obtain⟨d0,d1,d2,d3,_⟩:=vq_cells HPV.out
         have OA:Hid ((w6.alloc (.cells #[.int .i64 x.v.nd,.int .i64 x.v.i,.slice x.ao x.v.os.length x.co,.slice x.ap x.v.ps.length x.cp] 35)).ownsRow w.heap.size 35 4 (.slice (some ⟨g,0,none⟩) l.length c) l.length (vas l)):=O6.out.alloc _
         go_wp2_with (at_builtin;refine wpList_append_lies _ rfl _ _ 25 rfl w.heap.size 35 i0 (.agg #[.int .i64 0,.int .i64 0,.slice none 0 0,.slice none 0 0]) 4 64 Tryd.underlying25 hi0 hz0 hz1 hz2 rfl (by decide) (.slice (some ⟨g,0,none⟩) l.length c) l.length _ rfl OA.out ⟨w6.heap.size,0,none⟩ 1 1 x.cs rfl rfl (World.news_of_block (cs:=#[.int .i64 x.v.nd,.int .i64 x.v.i,.slice x.ao x.v.os.length x.co,.slice x.ap x.v.ps.length x.cp]) (t:=35) (fr:=(0,0)) (heap_alloc_new w6 _)) (by simp[Value.oneCell',VoteA.cs]) (by omega) (by unfold maxLen;omega) (by omega) (by simp;omega) (w6.heap.size+1) (by simp) ?_;intro g2 c2 w7 hown7 hgrow7 hat7 hlt7)
         have hgl:=L6.out
         have hgg:g2=g∨w6.heap.size+1≤g2:=by
          rcases hat7 with h | h
          · exact .inl (by simp[Value.ownBlock] at h;exact h.symm)
          · exact .inr (by omega)
         have O7:Hid (w7.ownsRow w.heap.size 35 4 (.slice (some ⟨g2,0,none⟩) (l ++ [x]).length c2) (l ++ [x]).length (vas (l ++ [x]))):=by rw[Hid,vas_app,List.length_append];exact hown7
         have VA:VAs (w6.alloc (.cells #[.int .i64 x.v.nd,.int .i64 x.v.i,.slice x.ao x.v.os.length x.co,.slice x.ap x.v.ps.length x.cp] 35)) w.heap.size g (l ++ [x]):=(V6.out.grown (World.grownBy_alloc w6 _ none) (by simp) g (.inl rfl)).snoc HGX.out (str_allocV _ HFX.out.1) (str_allocV _ HFX.out.2)
         have V7:Hid (VAs w7 w.heap.size g2 (l ++ [x])):=VA.grown hgrow7 (fun b hb=>by simp[Value.ownBlock] at hb;omega) g2 (by rcases hgg with h | h;exact .inl h;exact .inr (by simp;exact h))
         have G7:Hid (w.grownBy w7 (some rd)):=grown_more (gr_allocV _ G6.out) hgrow7 (fun b hb=>by simp[Value.ownBlock] at hb;left;omega)
         have R7:Hid (Rd rd a n cap w7):=(rd_allocV _ HRX.out).kept hgrow7 (by have:=HCD.out.1;simp[Value.ownBlock];omega) (fun cb off e h0=>by have:=HCD.out.2 cb off e h0;simp[Value.ownBlock];omega)
         have C7:Hid ((∀ o,w7.cell? ⟨gs,o,none⟩=w1.cell? ⟨gs,o,none⟩)∧gs≠g2∧gs<w7.heap.size):=by
          obtain⟨h1,h2,h3⟩:=C6.out
          have hb:w7.heap[gs]? = w6.heap[gs]? := (hgrow7.block gs (by simp;omega) (by simp[Value.ownBlock];omega)).trans (Below.heap_alloc _ _ _ h3)
          exact⟨fun o=>(World.cell?_of_block (a:=⟨gs,o,none⟩) hb).trans (h1 o),by omega,by have:=hgrow7.size;simp at this;omega⟩
         have hl7:(l ++ [x]).length=l.length+1:=by simp
         clear hown7 hgrow7 hat7 hlt7 VA hgl hgg OA d0 d1 d2 d3
         go_wp2
         first | go_roundw | (go_wp2;go_roundw)
         case rel=>first | exact⟨j+1,g2,c2,l ++ [x],by omega,by go_num,by rw[hl7],by omega,O7,V7,C7,R7,G7⟩ | exact⟨_,j+1,g2,c2,l ++ [x],by omega,by go_num,by rw[hl7],by omega,O7,V7,C7,R7,G7⟩ | exact⟨_,_,_,_,j+1,g2,c2,l ++ [x],by omega,by go_num,by rw[hl7],by omega,O7,V7,C7,R7,G7⟩
         case measure=>simp[intOf];omega
  · have hj3 : j = 3 := by omega
    subst hj3
    clear hlt HC HR1 HG1 O1 HCE
    have hgL:=HOW.out.lt g (by simp[Value.ownBlock])
    have HGL:Hid (w.heap.size≤g∧g<wr.heap.size):=hgL
    clear hgL hj
    by_cases h0:l.length=0
    · have hl0:l=[]:=List.length_eq_zero_iff.1 h0
      subst hl0
      clear h0 hlj HGL
      go_wp2
      go_ret
      exact⟨g,c,[],rfl,by simp,HOW.out,HVA.out,HRW.out,HGW.out⟩
    · have hlp : (0 : Int) < (l.length : Int) := by omega
      have K8:=once_any rd n cap 8 8 a wr rfl (by omega) (by omega) hn HRW.out
      go_wp2_with fail
      refine K8.mono ?_
      rintro e w2 ⟨t8,rfl,R,G⟩
      have R2:Hid (Rd rd a n cap w2):=R
      have O2:Hid (w2.ownsRow w.heap.size 35 4 (.slice (some ⟨g,0,none⟩) l.length c) l.length (vas l)):=HOW.out.kept G (.inr (by simp[Value.ownBlock];have:=HSZ.out;have:=HGL.out;omega))
      have V2:Hid (VAs w2 w.heap.size g l):=HVA.out.grown G (fun b hb=>by simp at hb;have:=HSZ.out;omega) g (.inl rfl)
      have L2:Hid (w.heap.size≤g∧g<w2.heap.size):=⟨HGL.out.1,Nat.lt_of_lt_of_le HGL.out.2 (G).size⟩
      have E2:Hid (w.grownBy w2 (some rd)):=HGW.out.trans G
      clear HOW HVA HGL HGW
      clear K8 R G HRW
      go_upto_if 54 with fail
      go_cut [7] from 48 (fun v7 wx=>∃ l':List VoteA,Hid (l'.length=l.length)∧v7=.slice (some ⟨g,0,none⟩) l'.length c∧Hid (wx.ownsRow w.heap.size 35 4 (.slice (some ⟨g,0,none⟩) l'.length c) l'.length (vas l'))∧Hid (VAs wx w.heap.size g l')∧Hid (Rd rd a n cap wx)∧Hid (w.grownBy wx (some rd))∧Hid (g<wx.heap.size))
      case first =>
       cases t8 with
       | false =>
         go_wp2
         go_meet
         exact⟨l,rfl,rfl,O2,V2,R2,E2,L2.out.2⟩
       | true =>
         have K9:=below_len rd n cap l.length l.length a w2 rfl (by omega) (by omega) hn R2.out
         go_wp2_with fail
         refine K9.mono ?_
         rintro e w3 ⟨q,hq,rfl,R,G⟩
         have R3:Hid (Rd rd a n cap w3):=R
         have O3:Hid (w3.ownsRow w.heap.size 35 4 (.slice (some ⟨g,0,none⟩) l.length c) l.length (vas l)):=O2.out.kept G (.inr (by simp[Value.ownBlock];have:=HSZ.out;have:=L2.out;omega))
         have V3:Hid (VAs w3 w.heap.size g l):=V2.out.grown G (fun b hb=>by simp at hb;have:=HSZ.out;omega) g (.inl rfl)
         have L3:Hid (w.heap.size≤g∧g<w3.heap.size):=⟨L2.out.1,Nat.lt_of_lt_of_le L2.out.2 (G).size⟩
         have E3:Hid (w.grownBy w3 (some rd)):=E2.out.trans G
         clear O2 V2 L2 E2
         clear K9 R G R2
         have K10:=off_any rd n cap 2 2 a w3 rfl (by omega) hn R3.out
         go_wp2_with fail
         refine K10.mono ?_
         rintro e w4 ⟨nd,rfl,R,G⟩
         have R4:Hid (Rd rd a n cap w4):=R
         have O4:Hid (w4.ownsRow w.heap.size 35 4 (.slice (some ⟨g,0,none⟩) l.length c) l.length (vas l)):=O3.out.kept G (.inr (by simp[Value.ownBlock];have:=HSZ.out;have:=L3.out;omega))
         have V4:Hid (VAs w4 w.heap.size g l):=V3.out.grown G (fun b hb=>by simp at hb;have:=HSZ.out;omega) g (.inl rfl)
         have L4:Hid (w.heap.size≤g∧g<w4.heap.size):=⟨L3.out.1,Nat.lt_of_lt_of_le L3.out.2 (G).size⟩
         have E4:Hid (w.grownBy w4 (some rd)):=E3.out.trans G
         clear O3 V3 L3 E3
         clear K10 R G R3
         have hcell:w4.cell? ⟨g,q*4,none⟩=some (.int .i64 l[q].v.nd):=(O4.out.cellAt (q*4) (by omega)).trans (vas_at l q hq).1
         have hfr:=O4.out.frozenAt (q*4)
         have hq0:(0:Int)≤(q:Int):=by omega
         have hq1:(q:Int)<(l.length:Int):=by omega
         have O5:Hid ((w4.setCell ⟨g,q*4,none⟩ (.int .i64 nd)).ownsRow w.heap.size 35 4 (.slice (some ⟨g,0,none⟩) (l.set q (l[q].withNd nd)).length c) (l.set q (l[q].withNd nd)).length (vas (l.set q (l[q].withNd nd)))):=by
          rw[Hid,List.length_set,←vas_node l q hq nd]
          exact (O4.out.stored (q*4) (.int .i64 nd)).1
         have V5:Hid (VAs (w4.setCell ⟨g,q*4,none⟩ (.int .i64 nd)) w.heap.size g (l.set q (l[q].withNd nd))):=(V4.out.set _).node q hq nd
         have R5:Hid (Rd rd a n cap (w4.setCell ⟨g,q*4,none⟩ (.int .i64 nd))):=rd_setV _ HCD.out L4.out.1 R4.out
         have E5:Hid (w.grownBy (w4.setCell ⟨g,q*4,none⟩ (.int .i64 nd)) (some rd)):=gr_setV _ L4.out.1 E4.out
         have L5:Hid (g<(w4.setCell ⟨g,q*4,none⟩ (.int .i64 nd)).heap.size):=by rw[Hid];simpa [World.setCell] using L4.out.2
         go_wp2
         go_meet
         exact⟨_,List.length_set,by rw[List.length_set],O5,V5,R5,E5,L5⟩
      case rest =>
      obtain⟨l',hl',rfl,O5,V5,R5,E5,L5g⟩:=hcut
      obtain⟨w5,hw5⟩:∃ W,W=wc:=⟨_,rfl⟩
      rw[←hw5] at O5 V5 R5 E5 L5g ⊢
      have L5:Hid (w.heap.size≤g∧g<w5.heap.size):=⟨L2.out.1,L5g.out⟩
      clear hw5 O2 V2 L2 E2 R2 L5g hlp h0
      by_cases h1:l'.length≤1
      · have hl1:¬ (1:Int)<(l'.length:Int):=by omega
        clear L5
        go_wp2
        go_ret
        exact⟨g,c,l',rfl,by have:=hl'.out;omega,O5.out,V5.out,R5.out,E5.out⟩
      · have hl1:(1:Int)<(l'.length:Int):=by omega
        have K11:=once_any rd n cap 6 6 a w5 rfl (by omega) (by omega) hn R5.out
        go_wp2_with fail
        refine K11.mono ?_
        rintro e w6 ⟨t6,rfl,R,G⟩
        have R6:Hid (Rd rd a n cap w6):=R
        have O6:Hid (w6.ownsRow w.heap.size 35 4 (.slice (some ⟨g,0,none⟩) l'.length c) l'.length (vas l')):=O5.out.kept G (.inr (by simp[Value.ownBlock];have:=HSZ.out;have:=L5.out;omega))
        have V6:Hid (VAs w6 w.heap.size g l'):=V5.out.grown G (fun b hb=>by simp at hb;have:=HSZ.out;omega) g (.inl rfl)
        have L6:Hid (w.heap.size≤g∧g<w6.heap.size):=⟨L5.out.1,Nat.lt_of_lt_of_le L5.out.2 (G).size⟩
        have E6:Hid (w.grownBy w6 (some rd)):=E5.out.trans G
        clear O5 V5 L5 E5
        clear K11 R G R5
        cases t6 with
        | false =>
          clear L6
          go_wp2
          go_ret
          exact⟨g,c,l',rfl,by have:=hl'.out;omega,O6.out,V6.out,R6.out,E6.out⟩
        | true =>
          obtain⟨x,y,r,rfl⟩:∃ x y r,l'=x :: y :: r:=by
           match l',h1 with
           | x :: y :: r,_=>exact⟨x,y,r,rfl⟩
           | [_],h=>exact absurd (Nat.le_refl _) h
           | [],h=>exact absurd (Nat.zero_le _) h
          have hgn:g≠w6.heap.size:=by have:=L6.out.2;omega
          have OA:(w6.alloc (.cells #[.int .i64 x.v.nd,.int .i64 x.v.i,.slice x.ao x.v.os.length x.co,.slice x.ap x.v.ps.length x.cp] 35)).ownsRow w.heap.size 35 4 (.slice (some ⟨g,0,none⟩) (x :: y :: r).length c) (x :: y :: r).length (vas (x :: y :: r)):=O6.out.alloc _
          have a0:w6.cell? ⟨g,0,none⟩=some (.int .i64 x.v.nd):=O6.out.cellAt 0 (by simp only[List.length_cons];omega)
          have a1:w6.cell? ⟨g,1,none⟩=some (.int .i64 x.v.i):=O6.out.cellAt 1 (by simp only[List.length_cons];omega)
          have a2:w6.cell? ⟨g,2,none⟩=some (.slice x.ao x.v.os.length x.co):=O6.out.cellAt 2 (by simp only[List.length_cons];omega)
          have a3:w6.cell? ⟨g,3,none⟩=some (.slice x.ap x.v.ps.length x.cp):=O6.out.cellAt 3 (by simp only[List.length_cons];omega)
          have b0:(w6.alloc (.cells #[.int .i64 x.v.nd,.int .i64 x.v.i,.slice x.ao x.v.os.length x.co,.slice x.ap x.v.ps.length x.cp] 35)).cell? ⟨g,4,none⟩=some (.int .i64 y.v.nd):=OA.cellAt 4 (by simp only[List.length_cons];omega)
          have b1:(w6.alloc (.cells #[.int .i64 x.v.nd,.int .i64 x.v.i,.slice x.ao x.v.os.length x.co,.slice x.ap x.v.ps.length x.cp] 35)).cell? ⟨g,5,none⟩=some (.int .i64 y.v.i):=OA.cellAt 5 (by simp only[List.length_cons];omega)
          have b2:(w6.alloc (.cells #[.int .i64 x.v.nd,.int .i64 x.v.i,.slice x.ao x.v.os.length x.co,.slice x.ap x.v.ps.length x.cp] 35)).cell? ⟨g,6,none⟩=some (.slice y.ao y.v.os.length y.co):=OA.cellAt 6 (by simp only[List.length_cons];omega)
          have b3:(w6.alloc (.cells #[.int .i64 x.v.nd,.int .i64 x.v.i,.slice x.ao x.v.os.length x.co,.slice x.ap x.v.ps.length x.cp] 35)).cell? ⟨g,7,none⟩=some (.slice y.ap y.v.ps.length y.cp):=OA.cellAt 7 (by simp only[List.length_cons];omega)
          have e0:(w6.alloc (.cells #[.int .i64 x.v.nd,.int .i64 x.v.i,.slice x.ao x.v.os.length x.co,.slice x.ap x.v.ps.length x.cp] 35)).cell? ⟨g,0,none⟩=some (.int .i64 x.v.nd):=OA.cellAt 0 (by simp only[List.length_cons];omega)
          have e1:(w6.alloc (.cells #[.int .i64 x.v.nd,.int .i64 x.v.i,.slice x.ao x.v.os.length x.co,.slice x.ap x.v.ps.length x.cp] 35)).cell? ⟨g,1,none⟩=some (.int .i64 x.v.i):=OA.cellAt 1 (by simp only[List.length_cons];omega)
          have e2:(w6.alloc (.cells #[.int .i64 x.v.nd,.int .i64 x.v.i,.slice x.ao x.v.os.length x.co,.slice x.ap x.v.ps.length x.cp] 35)).cell? ⟨g,2,none⟩=some (.slice x.ao x.v.os.length x.co):=OA.cellAt 2 (by simp only[List.length_cons];omega)
          have e3:(w6.alloc (.cells #[.int .i64 x.v.nd,.int .i64 x.v.i,.slice x.ao x.v.os.length x.co,.slice x.ap x.v.ps.length x.cp] 35)).cell? ⟨g,3,none⟩=some (.slice x.ap x.v.ps.length x.cp):=OA.cellAt 3 (by simp only[List.length_cons];omega)
          have f0:=OA.frozenAt 0
          have f1:=OA.frozenAt 1
          have f2:=OA.frozenAt 2
          have f3:=OA.frozenAt 3
          have O4:=((((OA.stored 0 (.int .i64 y.v.nd)).1.stored 1 (.int .i64 y.v.i)).1.stored 2 (.slice y.ao y.v.os.length y.co)).1.stored 3 (.slice y.ap y.v.ps.length y.cp)).1
          have d0:(((((w6.alloc (.cells #[.int .i64 x.v.nd,.int .i64 x.v.i,.slice x.ao x.v.os.length x.co,.slice x.ap x.v.ps.length x.cp] 35)).setCell ⟨g,0,none⟩ (.int .i64 y.v.nd)).setCell ⟨g,1,none⟩ (.int .i64 y.v.i)).setCell ⟨g,2,none⟩ (.slice y.ao y.v.os.length y.co)).setCell ⟨g,3,none⟩ (.slice y.ap y.v.ps.length y.cp)).cell? ⟨g,4,none⟩=some (.int .i64 y.v.nd):=O4.cellAt 4 (by simp only[List.length_cons];omega)
          have d1:(((((w6.alloc (.cells #[.int .i64 x.v.nd,.int .i64 x.v.i,.slice x.ao x.v.os.length x.co,.slice x.ap x.v.ps.length x.cp] 35)).setCell ⟨g,0,none⟩ (.int .i64 y.v.nd)).setCell ⟨g,1,none⟩ (.int .i64 y.v.i)).setCell ⟨g,2,none⟩ (.slice y.ao y.v.os.length y.co)).setCell ⟨g,3,none⟩ (.slice y.ap y.v.ps.length y.cp)).cell? ⟨g,5,none⟩=some (.int .i64 y.v.i):=O4.cellAt 5 (by simp only[List.length_cons];omega)
          have d2:(((((w6.alloc (.cells #[.int .i64 x.v.nd,.int .i64 x.v.i,.slice x.ao x.v.os.length x.co,.slice x.ap x.v.ps.length x.cp] 35)).setCell ⟨g,0,none⟩ (.int .i64 y.v.nd)).setCell ⟨g,1,none⟩ (.int .i64 y.v.i)).setCell ⟨g,2,none⟩ (.slice y.ao y.v.os.length y.co)).setCell ⟨g,3,none⟩ (.slice y.ap y.v.ps.length y.cp)).cell? ⟨g,6,none⟩=some (.slice y.ao y.v.os.length y.co):=O4.cellAt 6 (by simp only[List.length_cons];omega)
          have d3:(((((w6.alloc (.cells #[.int .i64 x.v.nd,.int .i64 x.v.i,.slice x.ao x.v.os.length x.co,.slice x.ap x.v.ps.length x.cp] 35)).setCell ⟨g,0,none⟩ (.int .i64 y.v.nd)).setCell ⟨g,1,none⟩ (.int .i64 y.v.i)).setCell ⟨g,2,none⟩ (.slice y.ao y.v.os.length y.co)).setCell ⟨g,3,none⟩ (.slice y.ap y.v.ps.length y.cp)).cell? ⟨g,7,none⟩=some (.slice y.ap y.v.ps.length y.cp):=O4.cellAt 7 (by simp only[List.length_cons];omega)
          have h0f:=O4.frozenAt 4
          have h1f:=O4.frozenAt 5
          have h2f:=O4.frozenAt 6
          have h3f:=O4.frozenAt 7
          obtain⟨p0,p1,p2,p3,_⟩:=vq_cells (hp_set (.slice y.ap y.v.ps.length y.cp) (Ne.symm hgn) (hp_set (.slice y.ao y.v.os.length y.co) (Ne.symm hgn) (hp_set (.int .i64 y.v.i) (Ne.symm hgn) (hp_set (.int .i64 y.v.nd) (Ne.symm hgn) (heap_alloc_new w6 (.cells #[.int .i64 x.v.nd,.int .i64 x.v.i,.slice x.ao x.v.os.length x.co,.slice x.ap x.v.ps.length x.cp] 35)) (i:=0)) (i:=1)) (i:=2)) (i:=3))
          have O8:Hid ((((((((((w6.alloc (.cells #[.int .i64 x.v.nd,.int .i64 x.v.i,.slice x.ao x.v.os.length x.co,.slice x.ap x.v.ps.length x.cp] 35)).setCell ⟨g,0,none⟩ (.int .i64 y.v.nd)).setCell ⟨g,1,none⟩ (.int .i64 y.v.i)).setCell ⟨g,2,none⟩ (.slice y.ao y.v.os.length y.co)).setCell ⟨g,3,none⟩ (.slice y.ap y.v.ps.length y.cp)).setCell ⟨g,4,none⟩ (.int .i64 x.v.nd)).setCell ⟨g,5,none⟩ (.int .i64 x.v.i)).setCell ⟨g,6,none⟩ (.slice x.ao x.v.os.length x.co)).setCell ⟨g,7,none⟩ (.slice x.ap x.v.ps.length x.cp)).ownsRow w.heap.size 35 4 (.slice (some ⟨g,0,none⟩) (y :: x :: r).length c) (y :: x :: r).length (vas (y :: x :: r))):=by
           rw[Hid,←vas_swap x y r]
           exact ((((O4.stored 4 (.int .i64 x.v.nd)).1.stored 5 (.int .i64 x.v.i)).1.stored 6 (.slice x.ao x.v.os.length x.co)).1.stored 7 (.slice x.ap x.v.ps.length x.cp)).1
          have V8:Hid (VAs (((((((((w6.alloc (.cells #[.int .i64 x.v.nd,.int .i64 x.v.i,.slice x.ao x.v.os.length x.co,.slice x.ap x.v.ps.length x.cp] 35)).setCell ⟨g,0,none⟩ (.int .i64 y.v.nd)).setCell ⟨g,1,none⟩ (.int .i64 y.v.i)).setCell ⟨g,2,none⟩ (.slice y.ao y.v.os.length y.co)).setCell ⟨g,3,none⟩ (.slice y.ap y.v.ps.length y.cp)).setCell ⟨g,4,none⟩ (.int .i64 x.v.nd)).setCell ⟨g,5,none⟩ (.int .i64 x.v.i)).setCell ⟨g,6,none⟩ (.slice x.ao x.v.os.length x.co)).setCell ⟨g,7,none⟩ (.slice x.ap x.v.ps.length x.cp)) w.heap.size g (y :: x :: r)):=((((((((V6.out.later ((Below.refl _ _).alloc (Nat.le_refl _) _)).set _).set _).set _).set _).set _).set _).set _).set _ |>.swap
          have R8:Hid (Rd rd a n cap (((((((((w6.alloc (.cells #[.int .i64 x.v.nd,.int .i64 x.v.i,.slice x.ao x.v.os.length x.co,.slice x.ap x.v.ps.length x.cp] 35)).setCell ⟨g,0,none⟩ (.int .i64 y.v.nd)).setCell ⟨g,1,none⟩ (.int .i64 y.v.i)).setCell ⟨g,2,none⟩ (.slice y.ao y.v.os.length y.co)).setCell ⟨g,3,none⟩ (.slice y.ap y.v.ps.length y.cp)).setCell ⟨g,4,none⟩ (.int .i64 x.v.nd)).setCell ⟨g,5,none⟩ (.int .i64 x.v.i)).setCell ⟨g,6,none⟩ (.slice x.ao x.v.os.length x.co)).setCell ⟨g,7,none⟩ (.slice x.ap x.v.ps.length x.cp))):=(rd_setV _ HCD.out L6.out.1 (rd_setV _ HCD.out L6.out.1 (rd_setV _ HCD.out L6.out.1 (rd_setV _ HCD.out L6.out.1 (rd_setV _ HCD.out L6.out.1 (rd_setV _ HCD.out L6.out.1 (rd_setV _ HCD.out L6.out.1 (rd_setV _ HCD.out L6.out.1 (rd_allocV _ R6.out)))))))))
          have E8:Hid (w.grownBy (((((((((w6.alloc (.cells #[.int .i64 x.v.nd,.int .i64 x.v.i,.slice x.ao x.v.os.length x.co,.slice x.ap x.v.ps.length x.cp] 35)).setCell ⟨g,0,none⟩ (.int .i64 y.v.nd)).setCell ⟨g,1,none⟩ (.int .i64 y.v.i)).setCell ⟨g,2,none⟩ (.slice y.ao y.v.os.length y.co)).setCell ⟨g,3,none⟩ (.slice y.ap y.v.ps.length y.cp)).setCell ⟨g,4,none⟩ (.int .i64 x.v.nd)).setCell ⟨g,5,none⟩ (.int .i64 x.v.i)).setCell ⟨g,6,none⟩ (.slice x.ao x.v.os.length x.co)).setCell ⟨g,7,none⟩ (.slice x.ap x.v.ps.length x.cp)) (some rd)):=(gr_setV _ L6.out.1 (gr_setV _ L6.out.1 (gr_setV _ L6.out.1 (gr_setV _ L6.out.1 (gr_setV _ L6.out.1 (gr_setV _ L6.out.1 (gr_setV _ L6.out.1 (gr_setV _ L6.out.1 (gr_allocV _ E6.out)))))))))
          have hl2:(y :: x :: r).length≤3:=by have:=hl'.out;simp at this ⊢;omega
          clear O4 OA O6 V6 R6 E6 L6 hgn
          go_wp2
          go_ret
          exact⟨g,c,y :: x :: r,rfl,hl2,O8.out,V8.out,R8.out,E8.out⟩
end Go.Proofs.YtkagiehbjnfabaaDoor
