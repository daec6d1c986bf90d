/-
 At every code the batches that a drawn client asks for have numbers that follow one another: FnAsked answers true. No condition; the three errors are laid as the program's text lays them.
-/
import Derived.Test.YtgjddhlmmljabaaDoorDrawCl
import Derived.Test.YtgjddhlmmljabaaDoorNbA
import Derived.Test.YtgjddhlmmljabaaDoorNbY
import Derived.Test.YtgjddhlmmljabaaDoorSameO
import Derived.Test.YtgjddhlmmljabaaDoorDrawHs
import Derived.Test.YtgjddhlmmljabaaDoorSeatAll
import Derived.Test.YtgjddhlmmljabaaDoorTie
import Derived.Test.YtgjddhlmmljabaaDoorCards
import Derived.ProofKit
import Derived.Lib.LaidTab
import Derived.SliceStrings
import Derived.LaidMore
import Derived.OpenShut
import Derived.ShutString
import Derived.ChangeOld
import Derived.Below
import Derived.Stop.Joined
import Derived.Stop.LaidErr
import Derived.SevenTiedAt
import Derived.Lib.SmallJoins
namespace Go.Proofs.YtgjddhlmmljabaaDoor.fnAsked
open Go.ChangeShapes Go.WideShapes Go.ChangeAt Go.RowKit
open Go.ChangeMaps (open_string shut_string)
set_option linter.unusedVariables false
theorem nb_yes {ks:List (List UInt8)} {sn nx id:Int} {os:List OpL} {rk:List (List UInt8)} {rs rn rc rm:Int} {ro:List OpL} (h:(rk,rs,rn,rc,rm,ro,true)=nbR ks sn nx id os):(rk=ks∧rs=sn∧rn=nx+1∧rc=id∧rm=nx∧ro=os)∧batchOk id nx os=true∧1≤nx∧nx<1000000000000:=by
 unfold nbR at h
 split at h
 · rename_i h0
   simp only[Prod.mk.injEq,and_true] at h
   refine⟨h,?_⟩
   unfold nbCode at h0
   split at h0
   · cases h0
   · rename_i h1
     split at h0
     · cases h0
     · rename_i h2
       split at h0
       · cases h0
       · rename_i h3
         have h4:clientOk ks sn nx=true:=by simpa using h1
         simp only[clientOk,numIn,Bool.and_eq_true,decide_eq_true_eq] at h4
         exact⟨by simpa using h2,by omega,by omega⟩
 · split at h <;> simp at h
theorem strsA {w:World} {base e n m cap:Nat} {a:Option Addr} {ls:List (List UInt8)} (h:w.ownsRow base e 1 (.slice a m cap) n (scells ls)):IsStrs w a ls:=by
 have hn:n=ls.length:=by have:=h.1;rw[scells_length] at this;omega
 rcases own_cases h with ⟨hv,h0,hx⟩ | ⟨g,cap',hv,hg1,hg2,hc,hf⟩
 · exact .inl (List.length_eq_zero_iff.1 (by omega))
 · simp only[Value.slice.injEq] at hv
   rw[hv.1]
   exact .inr ⟨g,0,rfl,fun j hj=>by rw[Nat.zero_add,hc j (by omega),scells_at ls j hj]⟩
set_option maxRecDepth 100000 in
set_option maxHeartbeats 4000000 in
theorem walk (a0:Option Addr) (len0 cap0:Nat) (w:World) (e0 e1 e2:Addr) (w0:Code w a0 len0) (hE:Errs w e0 e1 e2) :
 Calls Tryd.prog 3 #[.slice a0 len0 cap0] w fun e w'=>e=.returned (.bool true)∧Below w.heap.size w w':=by
 by_cases hb:len0≤1048576
 · have HB:=bigNo len0 cap0 a0 w hb
   have HC:Hid (Code w a0 len0):=w0
   have HE:Hid (∀ W,Below w.heap.size w W→Errs W e0 e1 e2):=fun W hW=>hE.later hW
   clear w0 hE
   go_enter Tryd.func3,Tryd.ntmps3
   go_wp2_with fail
   refine HB.mono ?_
   rintro e w ⟨rfl,rfl⟩
   clear HB
   have HD:=drawNextBatch len0 cap0 a0 w hb HC.out
   go_wp2_with fail
   refine HD.mono ?_
   rintro e w1 ⟨lk,g,c,sn,nx,id,os,a2,c2,rfl,hlk,hl32,hol,hso,i1,i2,hcb,hbb,b1⟩
   clear HD HC
   have hlm:∀ l∈lk,l.length≤1048576:=fun l hl=>by rw[hl32 l hl];omega
   have hom:∀ p∈os,p.1.length≤1048576∧p.2.1.length≤1048576:=fun p hp=>by have:=hso p hp;omega
   obtain⟨wa,hwa⟩:∃ W,W=w1.alloc (.cells #[.slice (some ⟨g,0,none⟩) lk.length c,.int .i64 sn,.int .i64 nx] 26):=⟨_,rfl⟩
   have A:Below w1.heap.size w1 wa:=by rw[hwa];exact (Below.refl _ _).alloc (Nat.le_refl _) _
   have BA:=b1.trans (A.mono b1.size)
   have Hca:Hid (wa.heap[w1.heap.size]? = some (.cells #[.slice (some ⟨g,0,none⟩) lk.length c,.int .i64 sn,.int .i64 nx] 26 (0,0))):=by rw[hwa];exact heap_alloc_new w1 _
   have HI:Hid (IsStrs wa (some ⟨g,0,none⟩) lk∧IsOps wa a2 os):=⟨strs_later i1 A,i2.later A⟩
   have HKI:Hid (∀ (x:Option Addr) (cx:Nat) (n:Int) W,Below w.heap.size w W→(x=none→cx=0)→(x=none∨∃ g off,x=some ⟨g,off,none⟩)→IsStrs W x lk→IsOps W a2 os→Calls Tryd.prog 6 #[.agg #[.slice x lk.length cx,.int .i64 sn,.int .i64 n],.int .i64 id,.slice a2 os.length c2] W fun e w'=>NnPost W w' e (nbR lk sn n id os)):=fun x cx n W hW h1 h2 h3 h4=>impl_nextBatch x cx lk sn n id a2 c2 os W e0 e1 e2 (HE.out W hW) (by omega) hlm h1 h2 h3 (by omega) hom hcb hbb h4
   have HKS:Hid (∀ W,IsStrs W (some ⟨g,0,none⟩) lk→IsOps W a2 os→Calls Tryd.prog 7 #[.agg #[.slice (some ⟨g,0,none⟩) lk.length c,.int .i64 sn,.int .i64 nx],.int .i64 id,.slice a2 os.length c2] W fun e w'=>MnPost W w' e (nbR lk sn nx id os)):=fun W h3 h4=>spec_nextBatch (some ⟨g,0,none⟩) c lk sn nx id a2 c2 os W (by omega) hlm (by simp) h3 (by omega) hom h4
   have HOM:Hid (os.length≤4∧∀ p∈os,p.1.length≤1048576∧p.2.1.length≤1048576):=⟨hol,hom⟩
   have K1:=HKI.out (some ⟨g,0,none⟩) c nx wa BA (by simp) (.inr ⟨g,0,rfl⟩) HI.out.1 HI.out.2
   unfold NnPost at K1
   unfold MnPost at HKS
   obtain⟨⟨rk,rs,rn,rc,rm,ro,rb⟩,hr⟩:∃ r,r=nbR lk sn nx id os:=⟨_,rfl⟩
   have HR:Hid ((rk,rs,rn,rc,rm,ro,rb)=nbR lk sn nx id os):=hr
   rw[←hr] at K1 HKS
   dsimp only at K1 HKS
   obtain⟨c0,c1,c2',_⟩:=cl_cells Hca.out
   rw[hwa] at K1 c0 c1 c2'
   clear hr hlm hom hl32 hlk hso i1 i2 hcb hbb hol
   go_wp2_with fail
   refine K1.mono ?_
   rintro e w2 ⟨x,cx,y,d,rfl,ox,oy,_,b2⟩
   rw[←hwa] at b2
   clear K1 hwa c0 c1 c2'
   have B2:=BA.trans (b2.mono BA.size)
   have Hc2:Hid (w2.heap[w1.heap.size]? = some (.cells #[.slice (some ⟨g,0,none⟩) lk.length c,.int .i64 sn,.int .i64 nx] 26 (0,0))):=(b2.block _ (lt_of_block Hca.out)).trans Hca.out
   have HI2:Hid (IsStrs w2 (some ⟨g,0,none⟩) lk∧IsOps w2 a2 os):=⟨strs_later HI.out.1 b2,HI.out.2.later b2⟩
   have HX:Hid ((x=none→cx=0)∧(x=none∨∃ g off,x=some ⟨g,off,none⟩)):=by
    rcases own_cases ox with ⟨hv,_,_⟩ | ⟨g9,c9,hv,_⟩ <;> simp only[Value.slice.injEq] at hv
    · exact⟨fun _=>hv.2.2,.inl hv.1⟩
    · exact⟨by rw[hv.1];simp,.inr ⟨_,_,hv.1⟩⟩
   have HJ2:Hid (IsStrs w2 x rk∧IsOps w2 y ro):=⟨strsA ox,(isOps_own oy).2.2⟩
   clear ox oy b2 A BA b1 Hca HI
   obtain⟨wb,hwb⟩:∃ X,X=((w2.alloc (.cells #[.slice x rk.length cx,.int .i64 rs,.int .i64 rn] 26)).alloc (.cells #[.int .i64 rc,.int .i64 rm,.slice y ro.length d] 31)):=⟨_,rfl⟩
   have Awb:Below w2.heap.size w2 wb:=by rw[hwb];exact ((Below.refl _ _).alloc (Nat.le_refl _) _).alloc (by simp) _
   have Heb:Hid (wb.heap[w2.heap.size]? = some (.cells #[.slice x rk.length cx,.int .i64 rs,.int .i64 rn] 26 (0,0))∧wb.heap[w2.heap.size+1]? = some (.cells #[.int .i64 rc,.int .i64 rm,.slice y ro.length d] 31 (0,0))):=⟨by rw[hwb,Below.heap_alloc _ _ _ (by simp)];exact heap_alloc_new w2 _,by rw[hwb];exact alloc2_new _ _ _⟩
   have Bb:=B2.trans (Awb.mono B2.size)
   have Hcb:Hid (wb.heap[w1.heap.size]? = some (.cells #[.slice (some ⟨g,0,none⟩) lk.length c,.int .i64 sn,.int .i64 nx] 26 (0,0))):=(Awb.block _ (lt_of_block Hc2.out)).trans Hc2.out
   have HIb:Hid (IsStrs wb (some ⟨g,0,none⟩) lk∧IsOps wb a2 os):=⟨strs_later HI2.out.1 Awb,HI2.out.2.later Awb⟩
   have HJb:Hid (IsStrs wb x rk∧IsOps wb y ro):=⟨strs_later HJ2.out.1 Awb,HJ2.out.2.later Awb⟩
   have K2:=HKS.out wb HIb.out.1 HIb.out.2
   obtain⟨c0,c1,c2',_⟩:=cl_cells Hcb.out
   rw[hwb] at K2 c0 c1 c2'
   clear Awb Hc2 HI2 HJ2 B2
   go_wp2_with fail
   refine K2.mono ?_
   rintro e w3 ⟨x3,cx3,y3,d3,rfl,_,_,b3⟩
   rw[←hwb] at b3
   clear K2 HKS hwb c0 c1 c2'
   have B3:=Bb.trans (b3.mono Bb.size)
   have Hc3:Hid (w3.heap[w1.heap.size]? = some (.cells #[.slice (some ⟨g,0,none⟩) lk.length c,.int .i64 sn,.int .i64 nx] 26 (0,0))):=(b3.block _ (lt_of_block Hcb.out)).trans Hcb.out
   have He3:Hid (w3.heap[w2.heap.size]? = some (.cells #[.slice x rk.length cx,.int .i64 rs,.int .i64 rn] 26 (0,0))∧w3.heap[w2.heap.size+1]? = some (.cells #[.int .i64 rc,.int .i64 rm,.slice y ro.length d] 31 (0,0))):=⟨(b3.block _ (lt_of_block Heb.out.1)).trans Heb.out.1,(b3.block _ (lt_of_block Heb.out.2)).trans Heb.out.2⟩
   have HI3:Hid (IsStrs w3 (some ⟨g,0,none⟩) lk∧IsOps w3 a2 os):=⟨strs_later HIb.out.1 b3,HIb.out.2.later b3⟩
   have HJ3:Hid (IsStrs w3 x rk∧IsOps w3 y ro):=⟨strs_later HJb.out.1 b3,HJb.out.2.later b3⟩
   clear b3 Bb Hcb Heb HIb HJb
   obtain⟨wc,hwc⟩:∃ X,X=((w3.alloc (.cells #[.slice x3 rk.length cx3,.int .i64 rs,.int .i64 rn] 26)).alloc (.cells #[.int .i64 rc,.int .i64 rm,.slice y3 ro.length d3] 31)):=⟨_,rfl⟩
   have Awc:Below w3.heap.size w3 wc:=by rw[hwc];exact ((Below.refl _ _).alloc (Nat.le_refl _) _).alloc (by simp) _
   have Bc:=B3.trans (Awc.mono B3.size)
   have Hcc:Hid (wc.heap[w1.heap.size]? = some (.cells #[.slice (some ⟨g,0,none⟩) lk.length c,.int .i64 sn,.int .i64 nx] 26 (0,0))):=(Awc.block _ (lt_of_block Hc3.out)).trans Hc3.out
   have Hec:Hid (wc.heap[w2.heap.size]? = some (.cells #[.slice x rk.length cx,.int .i64 rs,.int .i64 rn] 26 (0,0))∧wc.heap[w2.heap.size+1]? = some (.cells #[.int .i64 rc,.int .i64 rm,.slice y ro.length d] 31 (0,0))):=⟨(Awc.block _ (lt_of_block He3.out.1)).trans He3.out.1,(Awc.block _ (lt_of_block He3.out.2)).trans He3.out.2⟩
   have HIc:Hid (IsStrs wc (some ⟨g,0,none⟩) lk∧IsOps wc a2 os):=⟨strs_later HI3.out.1 Awc,HI3.out.2.later Awc⟩
   have HJc:Hid (IsStrs wc x rk∧IsOps wc y ro):=⟨strs_later HJ3.out.1 Awc,HJ3.out.2.later Awc⟩
   clear Awc B3 Hc3 He3 HI3 HJ3
   cases rb with
   | false =>
     have BE:Hid (Below w.heap.size w wc):=Bc
     rw[hwc] at BE
     clear Hcc Hec HIc HJc Bc HKI HR hwc HX HOM HE
     go_wp2
     go_ret
     exact⟨rfl,BE.out⟩
   | true =>
     obtain⟨⟨hrk,hrs,hrn,hrc,hrm,hro⟩,hbo,hn1,hn2⟩:=nb_yes HR.out
     subst hrk hrs hrn hrc hrm hro
     clear HR
     have K3:=HKI.out x cx (rm+1) wc Bc HX.out.1 HX.out.2 HJc.out.1 HIc.out.2
     unfold NnPost at K3
     obtain⟨⟨qk,qs,qn,qc,qm,qo,qb⟩,hr⟩:∃ r,r=nbR rk rs (rm+1) rc ro:=⟨_,rfl⟩
     have HR:Hid ((qk,qs,qn,qc,qm,qo,qb)=nbR rk rs (rm+1) rc ro):=hr
     rw[←hr] at K3
     dsimp only at K3
     have HBO:Hid (batchOk rc rm ro=true):=hbo
     have HN:Hid (1≤rm∧rm<1000000000000):=⟨hn1,hn2⟩
     obtain⟨c0,c1,c2',_⟩:=cl_cells Hec.out.1
     rw[hwc] at K3 c0 c1 c2'
     clear hr hbo hn1 hn2 HKI
     go_wp2_with fail
     refine K3.mono ?_
     rintro e w4 ⟨x4,cx4,y4,d4,rfl,_,_,_,b4⟩
     rw[←hwc] at b4
     clear K3 hwc c0 c1 c2'
     have B4:=Bc.trans (b4.mono Bc.size)
     obtain⟨wd,hwd⟩:∃ X,X=((w4.alloc (.cells #[.slice x4 qk.length cx4,.int .i64 qs,.int .i64 qn] 26)).alloc (.cells #[.int .i64 qc,.int .i64 qm,.slice y4 qo.length d4] 31)):=⟨_,rfl⟩
     have Awd:Below w4.heap.size w4 wd:=by rw[hwd];exact ((Below.refl _ _).alloc (Nat.le_refl _) _).alloc (by simp) _
     have Bd:=B4.trans (Awd.mono B4.size)
     have g1:=(b4.block _ (lt_of_block Hcc.out)).trans Hcc.out
     have g2:=(b4.block _ (lt_of_block Hec.out.1)).trans Hec.out.1
     have g3:=(b4.block _ (lt_of_block Hec.out.2)).trans Hec.out.2
     have H5:Hid (wd.heap[w1.heap.size]? = some (.cells #[.slice (some ⟨g,0,none⟩) rk.length c,.int .i64 rs,.int .i64 rm] 26 (0,0))∧wd.heap[w2.heap.size]? = some (.cells #[.slice x rk.length cx,.int .i64 rs,.int .i64 (rm+1)] 26 (0,0))∧wd.heap[w2.heap.size+1]? = some (.cells #[.int .i64 rc,.int .i64 rm,.slice y ro.length d] 31 (0,0))∧wd.heap[w4.heap.size]? = some (.cells #[.slice x4 qk.length cx4,.int .i64 qs,.int .i64 qn] 26 (0,0))∧wd.heap[w4.heap.size+1]? = some (.cells #[.int .i64 qc,.int .i64 qm,.slice y4 qo.length d4] 31 (0,0))):=⟨(Awd.block _ (lt_of_block g1)).trans g1,(Awd.block _ (lt_of_block g2)).trans g2,(Awd.block _ (lt_of_block g3)).trans g3,by rw[hwd,Below.heap_alloc _ _ _ (by simp)];exact heap_alloc_new w4 _,by rw[hwd];exact alloc2_new _ _ _⟩
     have HO:Hid (IsOps wd a2 ro∧IsOps wd y ro):=⟨(HIc.out.2.later b4).later Awd,(HJc.out.2.later b4).later Awd⟩
     have K5:=impl_batchOk rc rm y d ro wd (by have:=HOM.out.1;omega) HOM.out.2 HO.out.2
     rw[HBO.out] at K5
     obtain⟨r0,r1,r2,_⟩:=cl_cells H5.out.2.2.1
     rw[hwd] at K5 r0 r1 r2
     clear Awd B4 b4 Hcc Hec HIc HJc Bc HE HX g1 g2 g3
     go_wp2_with fail
     refine K5.mono ?_
     rintro e w5 ⟨rfl,b5⟩
     rw[←hwd] at b5
     clear K5 hwd r0 r1 r2
     have B5:=Bd.trans (b5.mono Bd.size)
     have H6:Hid (w5.heap[w1.heap.size]? = some (.cells #[.slice (some ⟨g,0,none⟩) rk.length c,.int .i64 rs,.int .i64 rm] 26 (0,0))∧w5.heap[w2.heap.size]? = some (.cells #[.slice x rk.length cx,.int .i64 rs,.int .i64 (rm+1)] 26 (0,0))∧w5.heap[w2.heap.size+1]? = some (.cells #[.int .i64 rc,.int .i64 rm,.slice y ro.length d] 31 (0,0))∧w5.heap[w4.heap.size]? = some (.cells #[.slice x4 qk.length cx4,.int .i64 qs,.int .i64 qn] 26 (0,0))∧w5.heap[w4.heap.size+1]? = some (.cells #[.int .i64 qc,.int .i64 qm,.slice y4 qo.length d4] 31 (0,0))):=⟨(b5.block _ (lt_of_block H5.out.1)).trans H5.out.1,(b5.block _ (lt_of_block H5.out.2.1)).trans H5.out.2.1,(b5.block _ (lt_of_block H5.out.2.2.1)).trans H5.out.2.2.1,(b5.block _ (lt_of_block H5.out.2.2.2.1)).trans H5.out.2.2.2.1,(b5.block _ (lt_of_block H5.out.2.2.2.2)).trans H5.out.2.2.2.2⟩
     have K6:=sameOps_same ro y a2 d c2 w5 (by have:=HOM.out.1;omega) (HO.out.2.later b5) (HO.out.1.later b5)
     clear H5 HO b5 Bd
     obtain⟨p0,p1,p2,_⟩:=cl_cells H6.out.1
     obtain⟨q0,q1,q2,_⟩:=cl_cells H6.out.2.1
     obtain⟨r0,r1,r2,_⟩:=cl_cells H6.out.2.2.1
     obtain⟨s0,s1,s2,_⟩:=cl_cells H6.out.2.2.2.1
     obtain⟨t0,t1,t2,_⟩:=cl_cells H6.out.2.2.2.2
     go_wp2_with fail
     refine K6.mono ?_
     rintro e w6 ⟨rfl,b6⟩
     have B6:=B5.trans (b6.mono B5.size)
     have H7:Hid (w6.heap[w1.heap.size]? = some (.cells #[.slice (some ⟨g,0,none⟩) rk.length c,.int .i64 rs,.int .i64 rm] 26 (0,0))∧w6.heap[w2.heap.size]? = some (.cells #[.slice x rk.length cx,.int .i64 rs,.int .i64 (rm+1)] 26 (0,0))∧w6.heap[w2.heap.size+1]? = some (.cells #[.int .i64 rc,.int .i64 rm,.slice y ro.length d] 31 (0,0))∧w6.heap[w4.heap.size]? = some (.cells #[.slice x4 qk.length cx4,.int .i64 qs,.int .i64 qn] 26 (0,0))∧w6.heap[w4.heap.size+1]? = some (.cells #[.int .i64 qc,.int .i64 qm,.slice y4 qo.length d4] 31 (0,0))):=⟨(b6.block _ (lt_of_block H6.out.1)).trans H6.out.1,(b6.block _ (lt_of_block H6.out.2.1)).trans H6.out.2.1,(b6.block _ (lt_of_block H6.out.2.2.1)).trans H6.out.2.2.1,(b6.block _ (lt_of_block H6.out.2.2.2.1)).trans H6.out.2.2.2.1,(b6.block _ (lt_of_block H6.out.2.2.2.2)).trans H6.out.2.2.2.2⟩
     clear K6 b6 B5 H6 p0 p1 p2 q0 q1 q2 r0 r1 r2 s0 s1 s2 t0 t1 t2
     obtain⟨p0,p1,p2,_⟩:=cl_cells H7.out.1
     obtain⟨q0,q1,q2,_⟩:=cl_cells H7.out.2.1
     obtain⟨r0,r1,r2,_⟩:=cl_cells H7.out.2.2.1
     obtain⟨s0,s1,s2,_⟩:=cl_cells H7.out.2.2.2.1
     obtain⟨t0,t1,t2,_⟩:=cl_cells H7.out.2.2.2.2
     obtain⟨hn1,hn2⟩:=HN.out
     have hw1:IntKind.i64.wrap (rm+1)=rm+1:=i64_wrap_small _ (by omega) (by omega)
     cases qb with
     | false =>
       clear HR
       go_wp2
       go_ret
       exact⟨rfl,B6⟩
     | true =>
       obtain⟨⟨h1,h2,h3,h4,h5,h6⟩,_,_,_⟩:=nb_yes HR.out
       clear HR
       subst h1 h2 h3 h4 h5 h6
       have hw2:IntKind.i64.wrap (rm+1+1)=rm+1+1:=i64_wrap_small _ (by omega) (by omega)
       go_wp2
       go_ret
       exact⟨rfl,B6⟩
 · have HB:=bigYes len0 cap0 a0 w hb
   clear w0 hE
   go_enter Tryd.func3,Tryd.ntmps3
   go_wp2_with fail
   refine HB.mono ?_
   rintro e w1 ⟨rfl,rfl⟩
   go_wp2
   go_ret
   exact⟨rfl,Below.refl _ _⟩
theorem own:ownKnob Tryd.prog.godebug=none:=by kernel_rfl
theorem laidOut0:laidOutB Tryd.prog=true:=by kernel_rfl
theorem gN0 : Tryd.prog.globalNamed "loop.example/g00226/impl.errClient" = some 0 := by kernel_rfl
theorem gT0:(Tryd.prog.globals[0]?).map (·.type)=some 42:=by kernel_rfl
theorem gN1 : Tryd.prog.globalNamed "loop.example/g00226/impl.errBatch" = some 1 := by kernel_rfl
theorem gT1:(Tryd.prog.globals[1]?).map (·.type)=some 42:=by kernel_rfl
theorem gN2 : Tryd.prog.globalNamed "loop.example/g00226/impl.errLast" = some 2 := by kernel_rfl
theorem gT2:(Tryd.prog.globals[2]?).map (·.type)=some 42:=by kernel_rfl
theorem door_met (os:Os) (args:Array Value):laidMetH Tryd.prog Rows.fnAskedRow.laid ((World.doorLaid Tryd.prog 400 os).forCall (fun _ _=>0) ⟨#[],args,[]⟩).memory :=
 laidMetH_of_parts3 (fuel:=8) (laidMet_of_run' 8 (by kernel_rfl) (by kernel_rfl)) (by kernel_rfl) (by kernel_rfl)
theorem vars_read3 {H:Type} (enc:TypeId × Value→H) {W:World} {x0 x1 x2:Value}
 (h0 : W.var? Tryd.prog "loop.example/g00226/impl.errClient" = some #[x0]) (i0 : IsIface x0) (h1 : W.var? Tryd.prog "loop.example/g00226/impl.errBatch" = some #[x1]) (i1 : IsIface x1) (h2 : W.var? Tryd.prog "loop.example/g00226/impl.errLast" = some #[x2]) (i2 : IsIface x2) (sp : Nat → Bool) :
 DataW.TrodVars enc Tryd.prog W sp ["loop.example/g00226/impl.errClient", "loop.example/g00226/impl.errBatch", "loop.example/g00226/impl.errLast"] [tok enc x0, tok enc x1, tok enc x2] [.cell 0 0, .cell 1 0, .cell 2 0] :=
 ⟨0,42,#[x0],1,[],[.cell 1 0,.cell 2 0],gN0,gT0,h0,trod_held Tryd.underlying42 i0 0,⟨1,42,#[x1],1,[],[.cell 2 0],gN1,gT1,h1,trod_held Tryd.underlying42 i1 0,⟨2,42,#[x2],1,[],[],gN2,gT2,h2,trod_held Tryd.underlying42 i2 0,rfl,rfl⟩,rfl⟩,rfl⟩
theorem var?_belowN {g:Nat} {W W':World} {n:String} {cs:Array Value} (h:Below W.heap.size W W') (hg:Tryd.prog.globalNamed n=some g) (hv:W.var? Tryd.prog n=some cs) (hgB:g<W.heap.size):W'.var? Tryd.prog n=some cs:=by
 unfold World.var? at hv ⊢
 simp only[hg,Option.bind_some] at hv ⊢
 rw[h.block g hgB]
 exact hv
set_option maxRecDepth 100000 in
theorem lifted (os:Os) (started:os.Started) (H:Type) (enc:TypeId × Value→H) :
 ReturnsInHanded {} Tryd.checked os 3 .any (fun w args=>(Rows.fnAskedSpec.pre enc Tryd.prog Tryd.f3 [] false w args∧laidMetH Tryd.prog Rows.fnAskedRow.laid w)∧sizedMet enc Tryd.prog Tryd.f3 (OpenSpec.ofChange Rows.fnAskedSpec) false w args)
  (Rows.fnAskedSpec.post enc Tryd.prog Tryd.f3 false true false false):=by
 refine returnsInHanded_of_change_and (C:=Tryd.checked) (X:=fun w _=>laidMetH Tryd.prog Rows.fnAskedRow.laid w) (fun _ _ _ hh h=>h.of_heap hh) own started (by kernel_rfl) Tryd.func3
  (ChangeSpec.witness_shaped (enc:=enc) (C:=Tryd.checked) (os:=os) (X:=fun w _=>laidMetH Tryd.prog Rows.fnAskedRow.laid w) false (World.doorLaid Tryd.prog 400 os) #[.slice none 0 0] 8 rfl (World.shaped_of_RefB (by kernel_rfl) (by kernel_rfl)) (by kernel_rfl) (by kernel_rfl) (by kernel_rfl) (door_met os _)) ?_
 intro W base args ds gs before hval0 hW _ _ hL _
 have hval:∀ (j:Nat) t v,Tryd.f3.params[j]? = some t→args[j]? = some v→Value.okWide Tryd.prog W .any base t v:=hval0
 have hW':=hW
 obtain⟨p,q,hA0,hV0,rfl,hfz,hnd⟩:=hW
 have hA:DataW.TrodAll enc Tryd.prog W 0 (fun _=>true) true Tryd.f3.params.toList args.toList ds p:=hA0
 have hV : DataW.TrodVars enc Tryd.prog W (fun _ => true) ["loop.example/g00226/impl.errClient", "loop.example/g00226/impl.errBatch", "loop.example/g00226/impl.errLast"] gs q := hV0
 rw[Tryd.params3] at hA hval
 obtain⟨v0,vs0,d0,ds0,p0,q0,hargs,rfl,rfl,h0,r0⟩:=trodAll_cons hA
 obtain⟨rfl,rfl,rfl⟩:=trodAll_nil r0
 obtain rfl:args=#[v0]:=by cases args;simp_all
 obtain⟨a0,len0,cap0,rfl⟩:=okWide_slice Tryd.underlying22 (hval 0 22 v0 rfl rfl)
 have k0:=h0
 have lt0:∀ x∈p0,x.block<W.heap.size:=by obtain⟨m,hm⟩:=k0;exact DataW.trod_lt m _ _ _ hm
 have w0:Code W a0 len0:=by
  obtain⟨fuel,hf⟩:=h0
  rcases open_ints Tryd.underlying22 Tryd.underlying5 (by kernel_rfl) hf with ⟨hcs,_⟩ | ⟨x,l,c,zs,hcs,_,hl,hm,hz,_,hcell,hwz⟩
  · simp[Value.cells] at hcs
    obtain⟨rfl,rfl,rfl⟩:=hcs
    exact .inl rfl
  · simp[Value.cells] at hcs
    obtain⟨rfl,rfl,rfl⟩:=hcs
    exact codeOf W x _ _ zs hl (by simpa using hz) hcell hwz
 obtain⟨e0,e1,e2,hE,x0,x1,x2⟩:=errs_of hL
 obtain⟨rfl,rfl⟩:=hV.unique (vars_read3 enc x0 trivial x1 trivial x2 trivial _)
 have y0:0<W.heap.size:=World.block_lt_of_cell? W _ hE.g0
 have y1:1<W.heap.size:=World.block_lt_of_cell? W _ hE.g1
 have y2:2<W.heap.size:=World.block_lt_of_cell? W _ hE.g2
 clear hA0 hV0 hval0 hA hV hL
 simp only[List.append_nil] at hW'
 refine (walk a0 len0 cap0 W e0 e1 e2 w0 hE).mono fun e W' ⟨he,hB⟩=>?_
 subst he
 have hv':=vars_read3 enc (var?_belowN hB gN0 x0 y0) trivial (var?_belowN hB gN1 x1 y1) trivial (var?_belowN hB gN2 x2 y2) trivial (fun b=>decide (b<W.heap.size))
 exact⟨_,rfl,_,_,_,[],_,_,hW',trodAll_mk1 (shut_bool Tryd.underlying4 _),(trodAll_cons_mk (Below.trod laidOut0 (by kernel_rfl) (of_decide_eq_true (by kernel_rfl)) k0 hB lt0) trodAll_mk0),hv',hB.frame _,fun h=>by cases h⟩
theorem named0 : Tryd.prog.funcNamed "loop.example/g00226/laws.FnAsked" = some 3 := by kernel_rfl
theorem closed0:joinedFacts Tryd.prog 3 Tryd.f3 Rows.fnAskedSpec Rows.fnAskedRow=true:=by
 unfold joinedFacts
 rw[seat_may,seat_lifts,seat_make]
 kernel_rfl
theorem inst0:Tryd.f3.isInstance Tryd.prog Rows.fnAskedRow.origin Rows.fnAskedRow.targs:=of_decide_eq_true (by kernel_rfl)
theorem wrap0:Tryd.f3.isWrapper Tryd.prog Rows.fnAskedRow.wrapper Rows.fnAskedRow.mainSum:=by unfold Func.isWrapper;first | (rw[if_pos (by decide +kernel)];kernel_rfl) | (rw[if_neg (by decide +kernel)];exact⟨rfl,rfl⟩)
theorem over:Rows.fnAskedRow.holds Tryd.pinned (OpenSpec.ofChange Rows.fnAskedSpec) :=
 OpenClaim.holds_of_wide 3 Tryd.f3 rfl rfl rfl rfl rfl rfl rfl ⟨rfl,rfl,rfl,rfl,rfl⟩ rfl rfl rfl rfl rfl named0 Tryd.func3 closed0 inst0 wrap0
  (fun os started H enc _=>lifted os started H enc)
theorem text0:Rows.fnAskedRow.wfByText (OpenSpec.ofChange Rows.fnAskedSpec)=true:=by kernel_rfl
theorem looks0:true=Tryd.prog.looks []:=by kernel_rfl
theorem goes0:false=Rows.fnAskedRow.goesBy Tryd.prog:=by kernel_rfl
theorem wants0:([22].all fun u => !Tryd.prog.wantsStandIn u)=true:=by kernel_rfl
theorem card:Claim7.holds Tryd.pinned (.plain (OpenSpec.ofChange Rows.fnAskedSpec)) Rows.fnAskedCard :=
 Claim7.holds_tied_plain_at .later [] [.sentinel,.sentinel,.sentinel] true (true,Rows.fnAskedCard.stood.harness.2) true
  over (fun _ h=>by cases h) text0 (fun _ h=>by cases h) fnAsked_row_tie rfl ⟨rfl,rfl⟩ seat_main rfl
  (fun f fn hf hfn => by
   obtain rfl:f=3:=Option.some.inj (named0.symm.trans hf) |>.symm
   obtain rfl:fn=Tryd.f3:=(Option.some.inj (Tryd.func3.symm.trans hfn)).symm
   exact⟨looks0,fun j t ht=>by
    rw[Tryd.params3] at ht
    have hm:t∈[22]:=by simpa using Array.mem_of_getElem? ht
    exact (show Tryd.prog.wantsStandIn t=false by simpa using List.all_eq_true.1 wants0 t hm)⟩)
  goes0
end Go.Proofs.YtgjddhlmmljabaaDoor.fnAsked
namespace Go.Proofs.YtgjddhlmmljabaaDoor
theorem fnAsked_holds:Rows.FnAskedCardSaid:=fnAsked.card
end Go.Proofs.YtgjddhlmmljabaaDoor
