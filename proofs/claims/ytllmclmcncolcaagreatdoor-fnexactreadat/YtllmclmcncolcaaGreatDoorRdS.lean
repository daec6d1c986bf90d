/-
 Contract: ReadAt of the model (written by mkrds.py).
-/
import Derived.Test.YtllmclmcncolcaaGreatDoorRdI
import Derived.Test.YtllmclmcncolcaaGreatDoorSCert
import Derived.Test.YtllmclmcncolcaaGreatDoorSChk
import Derived.Test.YtllmclmcncolcaaGreatDoorClis
namespace Go.Proofs.YtllmclmcncolcaaGreatDoor
open Go.RowKit
set_option linter.unusedVariables false
theorem chkP_code:∀ (ts:List (List UInt8)) (root path:List UInt8),(chkP ts root path).1=0∨(chkP ts root path).1=1∨(chkP ts root path).1=2
 | [],_,_=>.inl rfl
 | t :: ts, root, path => by
   rw[chkP]
   split
   · split
     · split
       · split
         · exact .inr (.inr rfl)
         · exact .inr (.inl rfl)
       · exact .inl rfl
     · exact chkP_code ts _ _
   · exact .inl rfl
theorem chkR_code (root key:List UInt8) (ts:List (List UInt8)):(chkR root key ts).1=0∨(chkR root key ts).1=1∨(chkR root key ts).1=2:=by
 unfold chkR
 split
 · split
   · split
     · exact .inr (.inl rfl)
     · exact .inl rfl
   · exact chkP_code _ _ _
 · exact .inl rfl
theorem rdR_is (ks:List (List UInt8)) (sn nx n:Int) (root:List UInt8) (vs:List VoteV) (key:List UInt8) (ts:List (List UInt8)):rdR ks sn nx n root vs key ts=if clientOk ks sn nx=false then ([],0,0,0,[]) else if certOk ks n root vs=false then (ks,sn,nx,0,[]) else if n<sn then (ks,sn,nx,1,[]) else if (chkR root key ts).1=2 then (ks,n,nx,3,(chkR root key ts).2) else if (chkR root key ts).1=1 then (ks,n,nx,2,[]) else (ks,sn,nx,0,[]):=by
 unfold rdR rdCode
 by_cases h1:clientOk ks sn nx=false
 · simp[h1]
 · by_cases h2:certOk ks n root vs=false
   · simp[h1,h2]
   · by_cases h3:n<sn
     · simp[h1,h2,h3]
     · by_cases h4:(chkR root key ts).1=2
       · simp[h1,h2,h3,h4]
       · by_cases h5:(chkR root key ts).1=1
         · simp[h1,h2,h3,h5]
         · simp[h1,h2,h3,h4,h5]
set_option maxRecDepth 100000 in
set_option maxHeartbeats 2000000 in
theorem spec_readAt (a : Option Addr) (cap : Nat) (ks : List (List UInt8)) (sn nx n : Int) (root : List UInt8) (b : Option Addr) (cb : Nat) (vs : List VoteV) (key : List UInt8) (bp : Option Addr) (cp : Nat) (ts : List (List UInt8)) (w : World) (hl : ks.length ≤ 1048576) (hm : ∀ l ∈ ks, l.length ≤ 1048576) (hs : IsStrs w a ks) (hr : root.length ≤ 1048576) (hvl : vs.length ≤ 1048576) (hvm : ∀ v ∈ vs, smallV v ∧ (∀ l ∈ v.os, l.length ≤ 1048576) ∧ (∀ l ∈ v.ps, l.length ≤ 1048576)) (hv : IsVotes w b vs) (hk : key.length ≤ 1048576) (htl : ts.length ≤ 1048576) (htm : ∀ l ∈ ts, l.length ≤ 1048576) (hts : IsStrs w bp ts) (hca : a = none → cap = 0) :
 Calls Tryz.prog 7 #[.agg #[.slice a ks.length cap,.int .i64 sn,.int .i64 nx],.agg #[.int .i64 n,.string ⟨root.toArray⟩,.slice b vs.length cb],.string ⟨key.toArray⟩,.slice bp ts.length cp] w fun e w'=>RaPost w w' e (rdR ks sn nx n root vs key ts):=by
 obtain⟨wa,hwa⟩:∃ wa,wa=(((w.alloc (.cells #[.slice a ks.length cap,.int .i64 sn,.int .i64 nx] 31)).alloc (.cells #[.int .i64 n,.string ⟨root.toArray⟩,.slice b vs.length cb] 37)).alloc (.cells #[.slice none 0 0,.int .i64 0,.int .i64 0] 31)):=⟨_,rfl⟩
 have B0:Below w.heap.size w wa:=by rw[hwa];exact (((Below.refl _ _).alloc (Nat.le_refl _) _).alloc (by simp) _).alloc (by simp <;> omega) _
 have Ha:Hid (wa.heap[w.heap.size]? = some (.cells #[.slice a ks.length cap,.int .i64 sn,.int .i64 nx] 31 (0,0))):=by rw[hwa,Hid,Below.heap_alloc _ _ _ (by simp <;> omega),Below.heap_alloc _ _ _ (by simp)];exact heap_alloc_new w _
 have Ra:Hid (wa.heap[w.heap.size+1]? = some (.cells #[.int .i64 n,.string ⟨root.toArray⟩,.slice b vs.length cb] 37 (0,0))):=by
  rw[hwa,Hid,Below.heap_alloc _ _ _ (by simp)]
  have:=heap_alloc_new (w.alloc (.cells #[.slice a ks.length cap,.int .i64 sn,.int .i64 nx] 31)) (.cells #[.int .i64 n,.string ⟨root.toArray⟩,.slice b vs.length cb] 37)
  simpa using this
 have Qa:Hid (wa.heap[w.heap.size+1+1]? = some (.cells #[.slice none 0 0,.int .i64 0,.int .i64 0] 31 (0,0))):=by
  rw[hwa,Hid]
  have:=heap_alloc_new ((w.alloc (.cells #[.slice a ks.length cap,.int .i64 sn,.int .i64 nx] 31)).alloc (.cells #[.int .i64 n,.string ⟨root.toArray⟩,.slice b vs.length cb] 37)) (.cells #[.slice none 0 0,.int .i64 0,.int .i64 0] 31)
  simpa using this
 obtain⟨p0,p1,p2,_⟩:=cli_cells Ha.out
 have K1:=spec_clientOk a cap ks sn nx wa hl hm (strs_later hs B0)
 have HKC:Hid (∀ W,Below w.heap.size w W→_):=fun W hW=>spec_l12Copy a cap ks sn nx W hl hca (strs_later hs hW)
 have HK2:Hid (∀ W,Below w.heap.size w W→_):=fun W hW=>spec_certOk a cap ks n root b cb vs W hl hm hr hvl hvm (strs_later hs hW) (hv.later hW)
 have HK3:Hid (∀ W,Below w.heap.size w W→_):=fun W hW=>spec_checkProof root key bp cp ts W hr hk htl htm (strs_later hts hW)
 have HP:Hid ((chkR root key ts).1=0∨(chkR root key ts).1=1∨(chkR root key ts).1=2):=chkR_code root key ts
 obtain⟨rr,hrr⟩:∃ x,x=rdR ks sn nx n root vs key ts:=⟨_,rfl⟩
 have HR0:Hid (rr=if clientOk ks sn nx=false then ([],0,0,0,[]) else if certOk ks n root vs=false then (ks,sn,nx,0,[]) else if n<sn then (ks,sn,nx,1,[]) else if (chkR root key ts).1=2 then (ks,n,nx,3,(chkR root key ts).2) else if (chkR root key ts).1=1 then (ks,n,nx,2,[]) else (ks,sn,nx,0,[])):=hrr.trans (rdR_is ks sn nx n root vs key ts)
 rw[←hrr]
 obtain⟨ck,hck⟩:∃ x,x=clientOk ks sn nx:=⟨_,rfl⟩
 rw[←hck] at HR0 K1
 obtain⟨bk,hbk⟩:∃ x,x=certOk ks n root vs:=⟨_,rfl⟩
 rw[←hbk] at HR0 HK2
 obtain⟨⟨pc,pv⟩,hpr⟩:∃ x,x=chkR root key ts:=⟨_,rfl⟩
 rw[←hpr] at HR0 HK3 HP
 dsimp only at HR0 HK3 HP
 clear hrr hck hbk hpr hs hm hvm hv htm hts hl hr hvl hk htl hca
 rw[hwa] at K1 p0 p1 p2
 go_enter Tryz.func7,Tryz.ntmps7
 go_wp2_with fail
 refine K1.mono ?_
 rintro e w1 ⟨rfl,b1⟩
 rw[←hwa] at b1
 have Ba:Hid (Below w.heap.size w wa):=B0
 have B1:Hid (Below w.heap.size w w1):=Ba.out.trans (b1.mono Ba.out.size)
 have H1:Hid (w1.heap[w.heap.size]? = some (.cells #[.slice a ks.length cap,.int .i64 sn,.int .i64 nx] 31 (0,0))):=(b1.block _ (lt_of_block Ha.out)).trans Ha.out
 have R1:Hid (w1.heap[w.heap.size+1]? = some (.cells #[.int .i64 n,.string ⟨root.toArray⟩,.slice b vs.length cb] 37 (0,0))):=(b1.block _ (lt_of_block Ra.out)).trans Ra.out
 have Q1:Hid (w1.heap[w.heap.size+1+1]? = some (.cells #[.slice none 0 0,.int .i64 0,.int .i64 0] 31 (0,0))):=(b1.block _ (lt_of_block Qa.out)).trans Qa.out
 clear p0 p1 p2 K1 b1 Ha Ra Qa Ba B0 hwa
 cases ck with
 | false =>
   have HC:Hid (rr=([],0,0,0,[])):=by rw[Hid,HR0.out];rfl
   clear HKC HK2 HK3 HR0 H1 R1 HP
   obtain⟨z0,z1,z2,zf⟩:=cli_cells4 Q1.out
   have zf0:=zf 0
   have zf1:=zf 1
   have zf2:=zf 2
   have F7:Hid ((((w1.setCell ⟨w.heap.size+1+1,0,none⟩ (.slice none 0 0)).setCell ⟨w.heap.size+1+1,1,none⟩ (.int .i64 0)).setCell ⟨w.heap.size+1+1,2,none⟩ (.int .i64 0)).heap[w.heap.size+1+1]? = some (.cells #[.slice none 0 0,.int .i64 0,.int .i64 0] 31 (0,0))):=cli_set (j:=2) (cli_set (j:=1) (cli_set (j:=0) Q1.out))
   have B7:Hid (Below w.heap.size w (((w1.setCell ⟨w.heap.size+1+1,0,none⟩ (.slice none 0 0)).setCell ⟨w.heap.size+1+1,1,none⟩ (.int .i64 0)).setCell ⟨w.heap.size+1+1,2,none⟩ (.int .i64 0))):=(((B1.out.setCell (by simp only;omega) _).setCell (by simp only;omega) _).setCell (by simp only;omega) _)
   clear zf
   go_wp2
   refine bodyPost_ret (v:=.tuple #[.agg #[.slice none 0 0,.int .i64 0,.int .i64 0],.int .i64 0,.string ⟨#[]⟩]) (results_c2 rfl _ _ (w.heap.size+1+1) 31 _ _ rfl F7.out Tryz.underlying31 rfl (by kernel_rfl) _ _ rfl rfl) rfl ?_
   rw[HC.out]
   exact⟨none,0,rfl,World.ownsRow_nil _ _ _ _,B7.out⟩
 | true =>
   replace HR0:Hid (rr=if bk=false then (ks,sn,nx,0,[]) else if n<sn then (ks,sn,nx,1,[]) else if pc=2 then (ks,n,nx,3,pv) else if pc=1 then (ks,n,nx,2,[]) else (ks,sn,nx,0,[])):=HR0
   obtain⟨p0,p1,p2,_⟩:=cli_cells H1.out
   have KC:=HKC.out w1 B1.out
   clear HKC
   go_wp2_with fail
   refine KC.mono ?_
   rintro e w2 ⟨x,c,rfl,o2,b2⟩
   have bn:Below w2.heap.size w2 (w2.alloc (.cells #[.slice x ks.length c,.int .i64 sn,.int .i64 nx] 31)):=(Below.refl _ _).alloc (Nat.le_refl _) _
   have L1:Hid (w.heap.size+1+1<w1.heap.size∧w1.heap.size≤w2.heap.size):=⟨lt_of_block Q1.out,b2.size⟩
   have OL:Hid (∀ q,(Value.slice x ks.length c).ownBlock=some q→w1.heap.size≤q∧q<w2.heap.size):=fun q hq=>o2.lt q hq
   have B2:Hid (Below w.heap.size w w2):=B1.out.trans (b2.mono B1.out.size)
   have H2:Hid (w2.heap[w.heap.size]? = some (.cells #[.slice a ks.length cap,.int .i64 sn,.int .i64 nx] 31 (0,0))):=(b2.block _ (lt_of_block H1.out)).trans H1.out
   have R2:Hid (w2.heap[w.heap.size+1]? = some (.cells #[.int .i64 n,.string ⟨root.toArray⟩,.slice b vs.length cb] 37 (0,0))):=(b2.block _ (lt_of_block R1.out)).trans R1.out
   have Q2:Hid (w2.heap[w.heap.size+1+1]? = some (.cells #[.slice none 0 0,.int .i64 0,.int .i64 0] 31 (0,0))):=(b2.block _ (lt_of_block Q1.out)).trans Q1.out
   clear p0 p1 p2 KC b2 H1 R1 Q1 B1
   obtain⟨w3,hw3⟩:∃ W,W=w2.alloc (.cells #[.slice x ks.length c,.int .i64 sn,.int .i64 nx] 31):=⟨_,rfl⟩
   rw[←hw3] at bn
   have B3:Hid (Below w.heap.size w w3):=B2.out.trans (bn.mono B2.out.size)
   have H3:Hid (w3.heap[w.heap.size]? = some (.cells #[.slice a ks.length cap,.int .i64 sn,.int .i64 nx] 31 (0,0))):=(bn.block _ (lt_of_block H2.out)).trans H2.out
   have R3:Hid (w3.heap[w.heap.size+1]? = some (.cells #[.int .i64 n,.string ⟨root.toArray⟩,.slice b vs.length cb] 37 (0,0))):=(bn.block _ (lt_of_block R2.out)).trans R2.out
   have Q3:Hid (w3.heap[w.heap.size+1+1]? = some (.cells #[.slice none 0 0,.int .i64 0,.int .i64 0] 31 (0,0))):=(bn.block _ (lt_of_block Q2.out)).trans Q2.out
   have D3:Hid (w3.heap[w2.heap.size]? = some (.cells #[.slice x ks.length c,.int .i64 sn,.int .i64 nx] 31 (0,0))):=by rw[hw3];exact heap_alloc_new w2 _
   have O3:Hid (w3.ownsRow w1.heap.size 9 1 (.slice x ks.length c) ks.length (scells ks)):=by rw[hw3];exact o2.alloc _
   obtain⟨p0,p1,p2,_⟩:=cli_cells H3.out
   obtain⟨q0,q1,q2,_⟩:=cli_cells R3.out
   have K2:=HK2.out w3 B3.out
   rw[hw3] at K2 p0 p1 p2 q0 q1 q2
   clear HK2 bn o2 H2 R2 Q2 B2
   go_wp2_with fail
   refine K2.mono ?_
   rintro e w4 ⟨rfl,b4⟩
   rw[←hw3] at b4
   have B4:Hid (Below w.heap.size w w4):=B3.out.trans (b4.mono B3.out.size)
   have H4:Hid (w4.heap[w.heap.size]? = some (.cells #[.slice a ks.length cap,.int .i64 sn,.int .i64 nx] 31 (0,0))):=(b4.block _ (lt_of_block H3.out)).trans H3.out
   have R4:Hid (w4.heap[w.heap.size+1]? = some (.cells #[.int .i64 n,.string ⟨root.toArray⟩,.slice b vs.length cb] 37 (0,0))):=(b4.block _ (lt_of_block R3.out)).trans R3.out
   have Q4:Hid (w4.heap[w.heap.size+1+1]? = some (.cells #[.slice none 0 0,.int .i64 0,.int .i64 0] 31 (0,0))):=(b4.block _ (lt_of_block Q3.out)).trans Q3.out
   have D4:Hid (w4.heap[w2.heap.size]? = some (.cells #[.slice x ks.length c,.int .i64 sn,.int .i64 nx] 31 (0,0))):=(b4.block _ (lt_of_block D3.out)).trans D3.out
   have O4:Hid (w4.ownsRow w1.heap.size 9 1 (.slice x ks.length c) ks.length (scells ks)):=own_atQ O3.out fun q hq=>b4.block q (O3.out.lt q hq).2
   have L4:Hid (w2.heap.size<w4.heap.size):=lt_of_block D4.out
   clear p0 p1 p2 q0 q1 q2 K2 b4 hw3 H3 R3 Q3 B3 D3 O3
   cases bk with
   | false =>
     have HC:Hid (rr=(ks,sn,nx,0,[])):=by rw[Hid,HR0.out];rfl
     obtain⟨s0,s1,s2,_⟩:=cli_cells D4.out
     clear HK3 HR0 H4 R4 HP
     obtain⟨z0,z1,z2,zf⟩:=cli_cells4 Q4.out
     have zf0:=zf 0
     have zf1:=zf 1
     have zf2:=zf 2
     have F7:Hid ((((w4.setCell ⟨w.heap.size+1+1,0,none⟩ (.slice x ks.length c)).setCell ⟨w.heap.size+1+1,1,none⟩ (.int .i64 sn)).setCell ⟨w.heap.size+1+1,2,none⟩ (.int .i64 nx)).heap[w.heap.size+1+1]? = some (.cells #[.slice x ks.length c,.int .i64 sn,.int .i64 nx] 31 (0,0))):=cli_set (j:=2) (cli_set (j:=1) (cli_set (j:=0) Q4.out))
     have B7:Hid (Below w.heap.size w (((w4.setCell ⟨w.heap.size+1+1,0,none⟩ (.slice x ks.length c)).setCell ⟨w.heap.size+1+1,1,none⟩ (.int .i64 sn)).setCell ⟨w.heap.size+1+1,2,none⟩ (.int .i64 nx))):=(((B4.out.setCell (by simp only;omega) _).setCell (by simp only;omega) _).setCell (by simp only;omega) _)
     have HO:Hid ((((w4.setCell ⟨w.heap.size+1+1,0,none⟩ (.slice x ks.length c)).setCell ⟨w.heap.size+1+1,1,none⟩ (.int .i64 sn)).setCell ⟨w.heap.size+1+1,2,none⟩ (.int .i64 nx)).ownsRow w.heap.size 9 1 (.slice x ks.length c) ks.length (scells ks)):=by
      have h1:=L1.out
      have h2:=OL.out
      exact (own_far (own_far (own_far O4.out _ (fun e=>by have:=h2 _ e;have:=h1;dsimp only at *;omega) _) _ (fun e=>by have:=h2 _ e;have:=h1;dsimp only at *;omega) _) _ (fun e=>by have:=h2 _ e;have:=h1;dsimp only at *;omega) _).mono (by omega)
     clear zf
     go_wp2
     refine bodyPost_ret (v:=.tuple #[.agg #[.slice x ks.length c,.int .i64 sn,.int .i64 nx],.int .i64 0,.string ⟨#[]⟩]) (results_c2 rfl _ _ (w.heap.size+1+1) 31 _ _ rfl F7.out Tryz.underlying31 rfl (by kernel_rfl) _ _ rfl rfl) rfl ?_
     rw[HC.out]
     exact⟨x,c,rfl,HO.out,B7.out⟩
   | true =>
     replace HR0:Hid (rr=if n<sn then (ks,sn,nx,1,[]) else if pc=2 then (ks,n,nx,3,pv) else if pc=1 then (ks,n,nx,2,[]) else (ks,sn,nx,0,[])):=HR0
     obtain⟨p0,p1,p2,_⟩:=cli_cells H4.out
     obtain⟨q0,q1,q2,_⟩:=cli_cells R4.out
     by_cases hn:n<sn
     · have HC:Hid (rr=(ks,sn,nx,1,[])):=by rw[Hid,HR0.out,if_pos hn]
       obtain⟨s0,s1,s2,_⟩:=cli_cells D4.out
       clear HK3 HR0 HP
       obtain⟨z0,z1,z2,zf⟩:=cli_cells4 Q4.out
       have zf0:=zf 0
       have zf1:=zf 1
       have zf2:=zf 2
       have F7:Hid ((((w4.setCell ⟨w.heap.size+1+1,0,none⟩ (.slice x ks.length c)).setCell ⟨w.heap.size+1+1,1,none⟩ (.int .i64 sn)).setCell ⟨w.heap.size+1+1,2,none⟩ (.int .i64 nx)).heap[w.heap.size+1+1]? = some (.cells #[.slice x ks.length c,.int .i64 sn,.int .i64 nx] 31 (0,0))):=cli_set (j:=2) (cli_set (j:=1) (cli_set (j:=0) Q4.out))
       have B7:Hid (Below w.heap.size w (((w4.setCell ⟨w.heap.size+1+1,0,none⟩ (.slice x ks.length c)).setCell ⟨w.heap.size+1+1,1,none⟩ (.int .i64 sn)).setCell ⟨w.heap.size+1+1,2,none⟩ (.int .i64 nx))):=(((B4.out.setCell (by simp only;omega) _).setCell (by simp only;omega) _).setCell (by simp only;omega) _)
       have HO:Hid ((((w4.setCell ⟨w.heap.size+1+1,0,none⟩ (.slice x ks.length c)).setCell ⟨w.heap.size+1+1,1,none⟩ (.int .i64 sn)).setCell ⟨w.heap.size+1+1,2,none⟩ (.int .i64 nx)).ownsRow w.heap.size 9 1 (.slice x ks.length c) ks.length (scells ks)):=by
        have h1:=L1.out
        have h2:=OL.out
        exact (own_far (own_far (own_far O4.out _ (fun e=>by have:=h2 _ e;have:=h1;dsimp only at *;omega) _) _ (fun e=>by have:=h2 _ e;have:=h1;dsimp only at *;omega) _) _ (fun e=>by have:=h2 _ e;have:=h1;dsimp only at *;omega) _).mono (by omega)
       clear zf
       go_wp2
       refine bodyPost_ret (v:=.tuple #[.agg #[.slice x ks.length c,.int .i64 sn,.int .i64 nx],.int .i64 1,.string ⟨#[]⟩]) (results_c2 rfl _ _ (w.heap.size+1+1) 31 _ _ rfl F7.out Tryz.underlying31 rfl (by kernel_rfl) _ _ rfl rfl) rfl ?_
       rw[HC.out]
       exact⟨x,c,rfl,HO.out,B7.out⟩
     · replace HR0:Hid (rr=if pc=2 then (ks,n,nx,3,pv) else if pc=1 then (ks,n,nx,2,[]) else (ks,sn,nx,0,[])):=by rw[Hid,HR0.out,if_neg hn]
       have K3:=HK3.out w4 B4.out
       clear HK3
       go_wp2_with fail
       refine K3.mono ?_
       rintro e w5 ⟨rfl,b5⟩
       have B5:Hid (Below w.heap.size w w5):=B4.out.trans (b5.mono B4.out.size)
       have R5:Hid (w5.heap[w.heap.size+1]? = some (.cells #[.int .i64 n,.string ⟨root.toArray⟩,.slice b vs.length cb] 37 (0,0))):=(b5.block _ (lt_of_block R4.out)).trans R4.out
       have Q5:Hid (w5.heap[w.heap.size+1+1]? = some (.cells #[.slice none 0 0,.int .i64 0,.int .i64 0] 31 (0,0))):=(b5.block _ (lt_of_block Q4.out)).trans Q4.out
       have D5:Hid (w5.heap[w2.heap.size]? = some (.cells #[.slice x ks.length c,.int .i64 sn,.int .i64 nx] 31 (0,0))):=(b5.block _ (lt_of_block D4.out)).trans D4.out
       have O5:Hid (w5.ownsRow w1.heap.size 9 1 (.slice x ks.length c) ks.length (scells ks)):=own_atQ O4.out fun q hq=>b5.block q (O4.out.lt q hq).2
       have L5:Hid (w2.heap.size<w5.heap.size):=lt_of_block D5.out
       clear p0 p1 p2 q0 q1 q2 K3 b5 H4 R4 Q4 B4 D4 O4 hn
       by_cases h0:pc=0
       · have HC:Hid (rr=(ks,sn,nx,0,[])):=by rw[Hid,HR0.out,if_neg (by omega),if_neg (by omega)]
         subst h0
         obtain⟨s0,s1,s2,_⟩:=cli_cells D5.out
         clear HR0 R5 HP
         obtain⟨z0,z1,z2,zf⟩:=cli_cells4 Q5.out
         have zf0:=zf 0
         have zf1:=zf 1
         have zf2:=zf 2
         have F7:Hid ((((w5.setCell ⟨w.heap.size+1+1,0,none⟩ (.slice x ks.length c)).setCell ⟨w.heap.size+1+1,1,none⟩ (.int .i64 sn)).setCell ⟨w.heap.size+1+1,2,none⟩ (.int .i64 nx)).heap[w.heap.size+1+1]? = some (.cells #[.slice x ks.length c,.int .i64 sn,.int .i64 nx] 31 (0,0))):=cli_set (j:=2) (cli_set (j:=1) (cli_set (j:=0) Q5.out))
         have B7:Hid (Below w.heap.size w (((w5.setCell ⟨w.heap.size+1+1,0,none⟩ (.slice x ks.length c)).setCell ⟨w.heap.size+1+1,1,none⟩ (.int .i64 sn)).setCell ⟨w.heap.size+1+1,2,none⟩ (.int .i64 nx))):=(((B5.out.setCell (by simp only;omega) _).setCell (by simp only;omega) _).setCell (by simp only;omega) _)
         have HO:Hid ((((w5.setCell ⟨w.heap.size+1+1,0,none⟩ (.slice x ks.length c)).setCell ⟨w.heap.size+1+1,1,none⟩ (.int .i64 sn)).setCell ⟨w.heap.size+1+1,2,none⟩ (.int .i64 nx)).ownsRow w.heap.size 9 1 (.slice x ks.length c) ks.length (scells ks)):=by
          have h1:=L1.out
          have h2:=OL.out
          exact (own_far (own_far (own_far O5.out _ (fun e=>by have:=h2 _ e;have:=h1;dsimp only at *;omega) _) _ (fun e=>by have:=h2 _ e;have:=h1;dsimp only at *;omega) _) _ (fun e=>by have:=h2 _ e;have:=h1;dsimp only at *;omega) _).mono (by omega)
         clear zf
         go_wp2
         refine bodyPost_ret (v:=.tuple #[.agg #[.slice x ks.length c,.int .i64 sn,.int .i64 nx],.int .i64 0,.string ⟨#[]⟩]) (results_c2 rfl _ _ (w.heap.size+1+1) 31 _ _ rfl F7.out Tryz.underlying31 rfl (by kernel_rfl) _ _ rfl rfl) rfl ?_
         rw[HC.out]
         exact⟨x,c,rfl,HO.out,B7.out⟩
       · have h0b:(pc == 0)=false:=beq_eq_false_iff_ne.2 h0
         obtain⟨q0,q1,q2,_⟩:=cli_cells R5.out
         obtain⟨d0,d1,d2,df⟩:=cli_cells4 D5.out
         have df1:=df 1
         have DT:=cli_set (j:=1) (y:=.int .i64 n) D5.out
         obtain⟨s0,s1,s2,_⟩:=cli_cells (show (w5.setCell ⟨w2.heap.size,1,none⟩ (.int .i64 n)).heap[w2.heap.size]? = some (.cells #[.slice x ks.length c,.int .i64 n,.int .i64 nx] 31 (0,0)) from DT)
         have QT:Hid ((w5.setCell ⟨w2.heap.size,1,none⟩ (.int .i64 n)).heap[w.heap.size+1+1]? = some (.cells #[.slice none 0 0,.int .i64 0,.int .i64 0] 31 (0,0))):=(Below.heap_setCell _ _ _ _ (by have:=L1.out;simp;omega)).trans Q5.out
         have BT:Hid (Below w.heap.size w (w5.setCell ⟨w2.heap.size,1,none⟩ (.int .i64 n))):=B5.out.setCell (by have:=L1.out;simp only;omega) _
         have H12:pc=1∨pc=2:=by have:=HP.out;omega
         clear DT df HP
         by_cases h1:pc=1
         · have HC:Hid (rr=(ks,n,nx,2,[])):=by rw[Hid,HR0.out,if_neg (by omega),if_pos h1]
           subst h1
           clear HR0 H12 h0 h0b
           obtain⟨z0,z1,z2,zf⟩:=cli_cells4 QT.out
           have zf0:=zf 0
           have zf1:=zf 1
           have zf2:=zf 2
           have F7:Hid (((((w5.setCell ⟨w2.heap.size,1,none⟩ (.int .i64 n)).setCell ⟨w.heap.size+1+1,0,none⟩ (.slice x ks.length c)).setCell ⟨w.heap.size+1+1,1,none⟩ (.int .i64 n)).setCell ⟨w.heap.size+1+1,2,none⟩ (.int .i64 nx)).heap[w.heap.size+1+1]? = some (.cells #[.slice x ks.length c,.int .i64 n,.int .i64 nx] 31 (0,0))):=cli_set (j:=2) (cli_set (j:=1) (cli_set (j:=0) QT.out))
           have B7:Hid (Below w.heap.size w ((((w5.setCell ⟨w2.heap.size,1,none⟩ (.int .i64 n)).setCell ⟨w.heap.size+1+1,0,none⟩ (.slice x ks.length c)).setCell ⟨w.heap.size+1+1,1,none⟩ (.int .i64 n)).setCell ⟨w.heap.size+1+1,2,none⟩ (.int .i64 nx))):=(((BT.out.setCell (by simp only;omega) _).setCell (by simp only;omega) _).setCell (by simp only;omega) _)
           have HO:Hid (((((w5.setCell ⟨w2.heap.size,1,none⟩ (.int .i64 n)).setCell ⟨w.heap.size+1+1,0,none⟩ (.slice x ks.length c)).setCell ⟨w.heap.size+1+1,1,none⟩ (.int .i64 n)).setCell ⟨w.heap.size+1+1,2,none⟩ (.int .i64 nx)).ownsRow w.heap.size 9 1 (.slice x ks.length c) ks.length (scells ks)):=by
            have h1:=L1.out
            have h2:=OL.out
            exact (own_far (own_far (own_far (own_far O5.out _ (fun e=>by have:=h2 _ e;have:=h1;dsimp only at *;omega) _) _ (fun e=>by have:=h2 _ e;have:=h1;dsimp only at *;omega) _) _ (fun e=>by have:=h2 _ e;have:=h1;dsimp only at *;omega) _) _ (fun e=>by have:=h2 _ e;have:=h1;dsimp only at *;omega) _).mono (by omega)
           clear zf
           go_wp2
           refine bodyPost_ret (v:=.tuple #[.agg #[.slice x ks.length c,.int .i64 n,.int .i64 nx],.int .i64 2,.string ⟨#[]⟩]) (results_c2 rfl _ _ (w.heap.size+1+1) 31 _ _ rfl F7.out Tryz.underlying31 rfl (by kernel_rfl) _ _ rfl rfl) rfl ?_
           rw[HC.out]
           exact⟨x,c,rfl,HO.out,B7.out⟩
         · have HC:Hid (rr=(ks,n,nx,3,pv)):=by rw[Hid,HR0.out,if_pos (by omega)]
           obtain rfl:pc=2:=by omega
           clear HR0 H12 h0 h0b h1
           obtain⟨z0,z1,z2,zf⟩:=cli_cells4 QT.out
           have zf0:=zf 0
           have zf1:=zf 1
           have zf2:=zf 2
           have F7:Hid (((((w5.setCell ⟨w2.heap.size,1,none⟩ (.int .i64 n)).setCell ⟨w.heap.size+1+1,0,none⟩ (.slice x ks.length c)).setCell ⟨w.heap.size+1+1,1,none⟩ (.int .i64 n)).setCell ⟨w.heap.size+1+1,2,none⟩ (.int .i64 nx)).heap[w.heap.size+1+1]? = some (.cells #[.slice x ks.length c,.int .i64 n,.int .i64 nx] 31 (0,0))):=cli_set (j:=2) (cli_set (j:=1) (cli_set (j:=0) QT.out))
           have B7:Hid (Below w.heap.size w ((((w5.setCell ⟨w2.heap.size,1,none⟩ (.int .i64 n)).setCell ⟨w.heap.size+1+1,0,none⟩ (.slice x ks.length c)).setCell ⟨w.heap.size+1+1,1,none⟩ (.int .i64 n)).setCell ⟨w.heap.size+1+1,2,none⟩ (.int .i64 nx))):=(((BT.out.setCell (by simp only;omega) _).setCell (by simp only;omega) _).setCell (by simp only;omega) _)
           have HO:Hid (((((w5.setCell ⟨w2.heap.size,1,none⟩ (.int .i64 n)).setCell ⟨w.heap.size+1+1,0,none⟩ (.slice x ks.length c)).setCell ⟨w.heap.size+1+1,1,none⟩ (.int .i64 n)).setCell ⟨w.heap.size+1+1,2,none⟩ (.int .i64 nx)).ownsRow w.heap.size 9 1 (.slice x ks.length c) ks.length (scells ks)):=by
            have h1:=L1.out
            have h2:=OL.out
            exact (own_far (own_far (own_far (own_far O5.out _ (fun e=>by have:=h2 _ e;have:=h1;dsimp only at *;omega) _) _ (fun e=>by have:=h2 _ e;have:=h1;dsimp only at *;omega) _) _ (fun e=>by have:=h2 _ e;have:=h1;dsimp only at *;omega) _) _ (fun e=>by have:=h2 _ e;have:=h1;dsimp only at *;omega) _).mono (by omega)
           clear zf
           go_wp2
           refine bodyPost_ret (v:=.tuple #[.agg #[.slice x ks.length c,.int .i64 n,.int .i64 nx],.int .i64 3,.string ⟨pv.toArray⟩]) (results_c2 rfl _ _ (w.heap.size+1+1) 31 _ _ rfl F7.out Tryz.underlying31 rfl (by kernel_rfl) _ _ rfl rfl) rfl ?_
           rw[HC.out]
           exact⟨x,c,rfl,HO.out,B7.out⟩
end Go.Proofs.YtllmclmcncolcaaGreatDoor
