/-
 Contract: a drawn import, some more chunks of it taken (written by mkdrawim.py).
-/
import Derived.Test.YtahocpjieffbaaaGreatDoorDrawCk
namespace Go.Proofs.YtahocpjieffbaaaGreatDoor
open Go.RowKit
set_option linter.unusedVariables false
def DiPost (w w':World) (e:Ending):Prop:=∃ (r:List UInt8) (ps:List PairL) (d:Bool) (x:Option Addr) (c:Nat),e=.returned (.agg #[.string ⟨r.toArray⟩,.slice x ps.length c,.bool d])∧r.length≤1048576∧ps.length≤60∧smallP ps∧w'.ownsRow w.heap.size 56 2 (.slice x ps.length c) ps.length (pcells ps)∧Below w.heap.size w w'
set_option maxRecDepth 100000 in
set_option maxHeartbeats 1000000 in
theorem drawImported (n cap : Nat) (a : Option Addr) (w : World) (hn : n ≤ 1048576) (h : Code w a n) :
 Calls Tryz.prog 14 #[.slice a n cap] w fun e w'=>DiPost w w' e:=by
 obtain⟨w0,hw0⟩:∃ W,W=w.alloc (.cells #[.string ⟨#[]⟩,.slice none 0 0,.bool false] 33):=⟨_,rfl⟩
 have B0:Below w.heap.size w w0:=by rw[hw0];exact (Below.refl _ _).alloc (Nat.le_refl _) _
 have s0:w0.heap.size=w.heap.size+1:=by rw[hw0];simp
 have Z0:Hid (w0.heap[w.heap.size]? = some (.cells #[.string ⟨#[]⟩,.slice none 0 0,.bool false] 33 (0,0))):=by rw[hw0];exact heap_alloc_new w _
 have HLO:Hid (∀ cb off,a=some ⟨cb,off,none⟩→n≠0→cb<w.heap.size):=codeLtK h
 have H1:=open_any n cap a w0 (h.later B0)
 rw[s0] at H1
 rw[hw0] at H1
 clear h
 go_enter Tryz.func14,Tryz.ntmps14
 go_wp2_with fail
 refine H1.mono ?_
 rintro e w1 ⟨rfl,hR1,b1⟩
 rw[←hw0] at b1
 have R1:Hid (Rd (w.heap.size+1) a n cap w1):=hR1
 have HS1:Hid (w.heap.size+1<w1.heap.size):=hR1.lt
 have B1:Hid (Below w.heap.size w w1):=B0.trans (b1.mono (by omega))
 have Z1:Hid (w1.heap[w.heap.size]? = some (.cells #[.string ⟨#[]⟩,.slice none 0 0,.bool false] 33 (0,0))):=(b1.block _ (by omega)).trans Z0.out
 clear hR1 H1 B0 Z0 b1 hw0 s0
 go_wp2_with fail
 refine (imported_any (w.heap.size+1) n cap a w1 hn R1.out).mono ?_
 rintro e w2 ⟨r,ps,d,x,c,cs,vs,v,k,y,yc,rfl,hr,hpl,hsm,op,hcl,hcm,oc,hkc,hv,hR2,hG2⟩
 obtain⟨w3,hw3⟩:∃ W,W=w2.alloc (.cells #[.string ⟨r.toArray⟩,.slice x ps.length c,.bool d] 33):=⟨_,rfl⟩
 have X3:Below w2.heap.size w2 w3:=by rw[hw3];exact (Below.refl _ _).alloc (Nat.le_refl _) _
 have HS:Hid (w.heap.size+1<w1.heap.size∧w1.heap.size≤w2.heap.size):=⟨HS1.out,hG2.size⟩
 have HM3:Hid (w3.heap[w2.heap.size]? = some (.cells #[.string ⟨r.toArray⟩,.slice x ps.length c,.bool d] 33 (0,0))):=by rw[hw3];exact heap_alloc_new w2 _
 have HX3:Hid (∀ q,(Value.slice x ps.length c).ownBlock=some q→q≠w2.heap.size):=fun q hq=>by have h1:=(op.lt q hq).2;omega
 have HO3:Hid (w3.ownsRow w1.heap.size 56 2 (.slice x ps.length c) ps.length (pcells ps)):=kept_new op X3
 have HSZ3:Hid (r.length≤1048576∧ps.length≤60∧smallP ps):=⟨hr,hpl,hsm⟩
 have HR3:Hid (Rd (w.heap.size+1) a n cap w3):=hR2.keptNone X3
 have HB3:Hid (Below w.heap.size w w3):=(B1.out.grown hG2 B1.out.size (fun k hk=>by simp at hk;omega)).trans (X3.mono (by have:=HS.out;omega))
 have HZ3:Hid (w3.heap[w.heap.size]? = some (.cells #[.string ⟨#[]⟩,.slice none 0 0,.bool false] 33 (0,0))):=(X3.block _ (by have:=HS.out;omega)).trans ((hG2.block _ (lt_of_block Z1.out) (by simp)).trans Z1.out)
 have HVS:Hid ((∀ q,v.ownBlock=some q→q≠w2.heap.size)∧∀ (i:Nat) (z:Value) (q:Nat),vs[i]? = some z→z.ownBlock=some q→q≠w2.heap.size):=⟨fun q h1=>by have:=(oc.row.lt q h1).2;omega,fun i z q h1 h2=>by have:=(oc.lt h1 h2).2;omega⟩
 have HC3:Hid (OwnC w3 w1.heap.size 38 v cs vs):=oc.later X3
 have HCM:Hid (cs.length≤11∧∀ q∈cs,q.2.2.length≤10∧smallP q.2.2):=⟨hcl,hcm⟩
 have hd0:(0:Int)≤((cs.length - k:Nat):Int):=by omega
 clear hr hpl hsm op hcl hcm oc hR2 hG2 R1 B1 Z1 HS1 X3
 by_cases hk:k<cs.length
 · obtain⟨g,cc,rfl,rfl⟩:=hv hk
   obtain⟨dn,hdn⟩:∃ z,z=cs.length - k:=⟨_,rfl⟩
   have HDN:Hid (dn=cs.length - k∧k+dn=cs.length):=⟨hdn,by omega⟩
   have HD11:Hid (dn≤11):=by have:=HCM.out.1;rw[Hid];omega
   rw[←hdn] at hd0 ⊢
   clear hv hk hdn hkc
   go_wp2
   rw[←hw3]
   clear hw3
   go_loopw [6] (fun i wr=>∃ (j:Nat) (r:List UInt8) (ps:List PairL) (d:Bool) (x:Option Addr) (c:Nat),i=.int .i64 (j:Int)∧j≤dn∧Hid (wr.heap[w2.heap.size]? = some (.cells #[.string ⟨r.toArray⟩,.slice x ps.length c,.bool d] 33 (0,0)))∧Hid (r.length≤1048576∧ps.length≤60∧smallP ps)∧Hid (wr.ownsRow w1.heap.size 56 2 (.slice x ps.length c) ps.length (pcells ps))∧Hid (∀ q,(Value.slice x ps.length c).ownBlock=some q→q≠w2.heap.size)∧Hid (OwnC wr w1.heap.size 38 (.slice (some ⟨g,0,none⟩) cs.length cc) cs vs)∧Hid (Rd (w.heap.size+1) a n cap wr)∧Hid (Below w.heap.size w wr)∧Hid (wr.heap[w.heap.size]? = some (.cells #[.string ⟨#[]⟩,.slice none 0 0,.bool false] 33 (0,0)))) (fun i _=>12 - (intOf i).toNat)
   case atStart=>exact⟨0,r,ps,d,x,c,rfl,Nat.zero_le _,HM3,HSZ3,HO3,HX3,HC3,HR3,HB3,HZ3⟩
   case round =>
    clear HM3 HSZ3 HO3 HX3 HC3 HR3 HB3 HZ3
    obtain⟨j,r,ps,d,x,c,rfl,hjk,HMr,HSZr,HOr,HXr,HCr,HRr,HBr,HZr⟩:=hrel
    have hj0:(0:Int)≤(j:Int):=by omega
    by_cases hlt:j<dn
    · have hjn:(j:Int)<(dn:Int):=by omega
      have K6:=once_any (w.heap.size+1) n cap 6 6 a wr rfl (by omega) (by omega) hn HRr.out
      go_wp2_with fail
      refine K6.mono ?_
      rintro e w6 ⟨t,rfl,hR6,G6⟩
      have HR6:Hid (Rd (w.heap.size+1) a n cap w6):=hR6
      have HM6:Hid (w6.heap[w2.heap.size]? = some (.cells #[.string ⟨r.toArray⟩,.slice x ps.length c,.bool d] 33 (0,0))):=(G6.block _ (lt_of_block HMr.out) (by have:=HS.out;simp;omega)).trans HMr.out
      have HZ6:Hid (w6.heap[w.heap.size]? = some (.cells #[.string ⟨#[]⟩,.slice none 0 0,.bool false] 33 (0,0))):=(G6.block _ (lt_of_block HZr.out) (by simp)).trans HZr.out
      have HO6:Hid (w6.ownsRow w1.heap.size 56 2 (.slice x ps.length c) ps.length (pcells ps)):=keptR HOr.out G6 (rd_far HOr.out (by have:=HS.out;omega))
      have HC6:Hid (OwnC w6 w1.heap.size 38 (.slice (some ⟨g,0,none⟩) cs.length cc) cs vs):=HCr.out.grown G6 (fun k hk _ e=>by have:=HS.out;cases e;omega)
      have HB6:Hid (Below w.heap.size w w6):=HBr.out.grown G6 HBr.out.size (fun k hk=>by simp at hk;omega)
      have HSZ6:=HSZr
      clear K6 hR6 G6 HMr HOr HCr HRr HBr HZr
      cases t with
      | true =>
        obtain⟨p0,p1,p2,_⟩:=im_cells HM6.out
        obtain⟨z0,z1,z2,zf⟩:=im_cells HZ6.out
        have zf0:=zf 0
        have zf1:=zf 1
        have zf2:=zf 2
        have F7:Hid ((((w6.setCell ⟨w.heap.size,0,none⟩ (.string ⟨r.toArray⟩)).setCell ⟨w.heap.size,1,none⟩ (.slice x ps.length c)).setCell ⟨w.heap.size,2,none⟩ (.bool d)).heap[w.heap.size]? = some (.cells #[.string ⟨r.toArray⟩,.slice x ps.length c,.bool d] 33 (0,0))):=ck_set (j:=2) (ck_set (j:=1) (ck_set (j:=0) HZ6.out))
        have HO7:Hid ((((w6.setCell ⟨w.heap.size,0,none⟩ (.string ⟨r.toArray⟩)).setCell ⟨w.heap.size,1,none⟩ (.slice x ps.length c)).setCell ⟨w.heap.size,2,none⟩ (.bool d)).ownsRow w1.heap.size 56 2 (.slice x ps.length c) ps.length (pcells ps)):=own_three HO6.out (fun q hq=>by have:=(HO6.out.lt q hq).1;have:=HS.out;omega)
        have HB7:Hid (Below w.heap.size w (((w6.setCell ⟨w.heap.size,0,none⟩ (.string ⟨r.toArray⟩)).setCell ⟨w.heap.size,1,none⟩ (.slice x ps.length c)).setCell ⟨w.heap.size,2,none⟩ (.bool d))):=((HB6.out.setCell (Nat.le_refl _) _).setCell (Nat.le_refl _) _).setCell (Nat.le_refl _) _
        clear zf
        go_wp2
        refine bodyPost_ret (v:=.agg #[.string ⟨r.toArray⟩,.slice x ps.length c,.bool d]) (results_cell_row rfl _ _ w.heap.size 33 _ (0,0) _ rfl F7.out Tryz.underlying33 rfl (by kernel_rfl)) rfl ?_
        exact⟨r,ps,d,x,c,rfl,HSZ6.out.1,HSZ6.out.2.1,HSZ6.out.2.2,HO7.out.mono (by have:=HS.out;omega),HB7.out⟩
      | false =>
        have hkj:k+j<cs.length:=by have:=HDN.out.2;omega
        obtain⟨u,ku,e0,e1,e2,ou⟩:=chunk_form HC6.out hkj
        have hq9:=HCM.out.2 cs[k+j] (List.getElem_mem _)
        obtain⟨⟨f9,l9,qs⟩,h9⟩:∃ y,y=cs[k+j]:=⟨_,rfl⟩
        rw[←h9] at e0 e1 e2 ou hq9
        dsimp only at e0 e1 e2 ou hq9
        rw[show (k+j)*3=k*3+j*3 by omega] at e0 e1 e2
        obtain⟨_,is1,haa,hca⟩:=own_form HO6.out
        obtain⟨_,is2,haa2,hca2⟩:=own_form ou
        have KT:=spec_took r x u c ku ps qs ps.length qs.length haa hca haa2 hca2 rfl rfl d f9 l9 w6.drew HSZ6.out.1 (by have:=HSZ6.out;omega) (smallP_le HSZ6.out.2.2) (by omega) (smallP_le hq9.2) (is1.later ⟨rfl,rfl,rfl,Nat.le_refl _,fun _ _=>rfl⟩) (is2.later ⟨rfl,rfl,rfl,Nat.le_refl _,fun _ _=>rfl⟩)
        have hts:=took_small r ps qs d f9 l9 HSZ6.out.1 HSZ6.out.2.1 HSZ6.out.2.2 hq9.2
        obtain⟨r5,hr5⟩:∃ y,y=tookRoot r ps d:=⟨_,rfl⟩
        obtain⟨ps5,hp5⟩:∃ y,y=tookPs r ps d f9 l9 qs:=⟨_,rfl⟩
        obtain⟨d5,hd5⟩:∃ y,y=tookD r ps d f9 l9 qs:=⟨_,rfl⟩
        obtain⟨b5,hb5⟩:∃ y,y=tookB r ps d f9 l9 qs:=⟨_,rfl⟩
        rw[←hr5,←hp5,←hd5,←hb5] at KT
        rw[←hr5,←hp5] at hts
        have HS5:Hid (r5.length≤1048576∧ps5.length≤60∧smallP ps5):=hts
        obtain⟨p0,p1,p2,_⟩:=im_cells HM6.out
        have hwj:IntKind.i64.wrap ((j:Int)+1)=(j:Int)+1:=i64_wrap_small _ (by omega) (by have:=HD11.out;omega)
        obtain⟨ql,hql⟩:∃ y,y=qs.length:=⟨_,rfl⟩
        obtain⟨pl,hpl⟩:∃ y,y=ps.length:=⟨_,rfl⟩
        rw[←hql] at KT e2
        rw[←hpl] at KT p1
        have HWS:Hid (w2.heap.size<w6.heap.size∧w.heap.size<w6.heap.size):=⟨lt_of_block HM6.out,lt_of_block HZ6.out⟩
        clear haa haa2 hca hca2 is1 is2 ou hq9 h9 hr5 hp5 hd5 hb5 hts hlt hkj hql hpl HO6 HXr HSZ6 HSZr
        go_wp2
        go_region_with (go_at_call 36;refine KT.mono ?_;rintro e w7 ⟨x5,m5,c5,rfl,o5,b5x⟩;obtain⟨rfl,_⟩:=own_form o5;have b7:Below w6.heap.size w6 w7:=⟨b5x.os,b5x.tape,b5x.output,b5x.size,b5x.block⟩;have HB7:Hid (Below w6.heap.size w6 w7):=b7;have HO7:Hid (w7.ownsRow w6.heap.size 56 2 (.slice x5 ps5.length c5) ps5.length (pcells ps5)):=o5;have HM7:Hid (w7.heap[w2.heap.size]? = w6.heap[w2.heap.size]?):=b7.block _ HWS.out.1;obtain⟨s0,s1,s2,sf⟩:=im_cells (HM7.out.trans HM6.out);have sf0:=sf 0;have sf1:=sf 1;have sf2:=sf 2;clear sf b5x b7 o5)
        all_goals
         have HM8:Hid ((((w7.setCell ⟨w2.heap.size,0,none⟩ (.string ⟨r5.toArray⟩)).setCell ⟨w2.heap.size,1,none⟩ (.slice x5 ps5.length c5)).setCell ⟨w2.heap.size,2,none⟩ (.bool d5)).heap[w2.heap.size]? = some (.cells #[.string ⟨r5.toArray⟩,.slice x5 ps5.length c5,.bool d5] 33 (0,0))):=ck_set (j:=2) (ck_set (j:=1) (ck_set (j:=0) (HM7.out.trans HM6.out)))
         have HX8:Hid (∀ q,(Value.slice x5 ps5.length c5).ownBlock=some q→q≠w2.heap.size):=fun q hq=>by have h1:=HO7.out.lt q hq;have h2:=HWS.out;omega
         have HO8:Hid ((((w7.setCell ⟨w2.heap.size,0,none⟩ (.string ⟨r5.toArray⟩)).setCell ⟨w2.heap.size,1,none⟩ (.slice x5 ps5.length c5)).setCell ⟨w2.heap.size,2,none⟩ (.bool d5)).ownsRow w1.heap.size 56 2 (.slice x5 ps5.length c5) ps5.length (pcells ps5)):=(own_three HO7.out HX8.out).mono (by have:=HWS.out;have:=HS.out;omega)
         have HC8:Hid (OwnC (((w7.setCell ⟨w2.heap.size,0,none⟩ (.string ⟨r5.toArray⟩)).setCell ⟨w2.heap.size,1,none⟩ (.slice x5 ps5.length c5)).setCell ⟨w2.heap.size,2,none⟩ (.bool d5)) w1.heap.size 38 (.slice (some ⟨g,0,none⟩) cs.length cc) cs vs):=ownC_set (HC6.out.later HB7.out) (ck_grown _ _ _ _ _) HVS.out.1 HVS.out.2
         have HR8:Hid (Rd (w.heap.size+1) a n cap (((w7.setCell ⟨w2.heap.size,0,none⟩ (.string ⟨r5.toArray⟩)).setCell ⟨w2.heap.size,1,none⟩ (.slice x5 ps5.length c5)).setCell ⟨w2.heap.size,2,none⟩ (.bool d5))):=rd_three (HR6.out.keptNone HB7.out) (by have:=HS.out;omega) (fun cb off e hn=>by have:=HLO.out cb off e hn;have:=HS.out;omega)
         have HB8:Hid (Below w.heap.size w (((w7.setCell ⟨w2.heap.size,0,none⟩ (.string ⟨r5.toArray⟩)).setCell ⟨w2.heap.size,1,none⟩ (.slice x5 ps5.length c5)).setCell ⟨w2.heap.size,2,none⟩ (.bool d5))):=(((HB6.out.trans (HB7.out.mono HB6.out.size)).setCell (by have:=HS.out;simp only;omega) _).setCell (by have:=HS.out;simp only;omega) _).setCell (by have:=HS.out;simp only;omega) _
         have HZ8:Hid ((((w7.setCell ⟨w2.heap.size,0,none⟩ (.string ⟨r5.toArray⟩)).setCell ⟨w2.heap.size,1,none⟩ (.slice x5 ps5.length c5)).setCell ⟨w2.heap.size,2,none⟩ (.bool d5)).heap[w.heap.size]? = some (.cells #[.string ⟨#[]⟩,.slice none 0 0,.bool false] 33 (0,0))):=(ck_far (by have:=HS.out;omega)).trans ((HB7.out.block _ HWS.out.2).trans HZ6.out)
         clear HM7 HO7 HB7 HM6 HC6 HR6 HB6 HZ6 s0 s1 s2
         go_wp2
         go_roundw
         case rel=>exact⟨j+1,r5,ps5,d5,x5,c5,by go_num,by omega,HM8,HS5,HO8,HX8,HC8,HR8,HB8,HZ8⟩
         case measure=>have:=HD11.out;simp[intOf];omega
    · have hjn:¬ (j:Int)<(dn:Int):=by omega
      clear hlt
      obtain⟨p0,p1,p2,_⟩:=im_cells HMr.out
      obtain⟨z0,z1,z2,zf⟩:=im_cells HZr.out
      have zf0:=zf 0
      have zf1:=zf 1
      have zf2:=zf 2
      have F7:Hid ((((wr.setCell ⟨w.heap.size,0,none⟩ (.string ⟨r.toArray⟩)).setCell ⟨w.heap.size,1,none⟩ (.slice x ps.length c)).setCell ⟨w.heap.size,2,none⟩ (.bool d)).heap[w.heap.size]? = some (.cells #[.string ⟨r.toArray⟩,.slice x ps.length c,.bool d] 33 (0,0))):=ck_set (j:=2) (ck_set (j:=1) (ck_set (j:=0) HZr.out))
      have HO7:Hid ((((wr.setCell ⟨w.heap.size,0,none⟩ (.string ⟨r.toArray⟩)).setCell ⟨w.heap.size,1,none⟩ (.slice x ps.length c)).setCell ⟨w.heap.size,2,none⟩ (.bool d)).ownsRow w1.heap.size 56 2 (.slice x ps.length c) ps.length (pcells ps)):=own_three HOr.out (fun q hq=>by have:=(HOr.out.lt q hq).1;have:=HS.out;omega)
      have HB7:Hid (Below w.heap.size w (((wr.setCell ⟨w.heap.size,0,none⟩ (.string ⟨r.toArray⟩)).setCell ⟨w.heap.size,1,none⟩ (.slice x ps.length c)).setCell ⟨w.heap.size,2,none⟩ (.bool d))):=((HBr.out.setCell (Nat.le_refl _) _).setCell (Nat.le_refl _) _).setCell (Nat.le_refl _) _
      clear zf
      go_wp2
      refine bodyPost_ret (v:=.agg #[.string ⟨r.toArray⟩,.slice x ps.length c,.bool d]) (results_cell_row rfl _ _ w.heap.size 33 _ (0,0) _ rfl F7.out Tryz.underlying33 rfl (by kernel_rfl)) rfl ?_
      exact⟨r,ps,d,x,c,rfl,HSZr.out.1,HSZr.out.2.1,HSZr.out.2.2,HO7.out.mono (by have:=HS.out;omega),HB7.out⟩
 · have h0:cs.length - k=0:=by omega
   rw[h0]
   clear hd0 h0 hv hk hkc
   go_wp2
   refine wp_loop_rounds 1 ?_
   rw[rounds_succ]
   rw[←hw3]
   clear hw3
   obtain⟨p0,p1,p2,_⟩:=im_cells HM3.out
   obtain⟨z0,z1,z2,zf⟩:=im_cells HZ3.out
   have zf0:=zf 0
   have zf1:=zf 1
   have zf2:=zf 2
   have F7:Hid ((((w3.setCell ⟨w.heap.size,0,none⟩ (.string ⟨r.toArray⟩)).setCell ⟨w.heap.size,1,none⟩ (.slice x ps.length c)).setCell ⟨w.heap.size,2,none⟩ (.bool d)).heap[w.heap.size]? = some (.cells #[.string ⟨r.toArray⟩,.slice x ps.length c,.bool d] 33 (0,0))):=ck_set (j:=2) (ck_set (j:=1) (ck_set (j:=0) HZ3.out))
   have HO7:Hid ((((w3.setCell ⟨w.heap.size,0,none⟩ (.string ⟨r.toArray⟩)).setCell ⟨w.heap.size,1,none⟩ (.slice x ps.length c)).setCell ⟨w.heap.size,2,none⟩ (.bool d)).ownsRow w1.heap.size 56 2 (.slice x ps.length c) ps.length (pcells ps)):=own_three HO3.out (fun q hq=>by have:=(HO3.out.lt q hq).1;have:=HS.out;omega)
   have HB7:Hid (Below w.heap.size w (((w3.setCell ⟨w.heap.size,0,none⟩ (.string ⟨r.toArray⟩)).setCell ⟨w.heap.size,1,none⟩ (.slice x ps.length c)).setCell ⟨w.heap.size,2,none⟩ (.bool d))):=((HB3.out.setCell (Nat.le_refl _) _).setCell (Nat.le_refl _) _).setCell (Nat.le_refl _) _
   clear zf
   go_wp2
   refine bodyPost_ret (v:=.agg #[.string ⟨r.toArray⟩,.slice x ps.length c,.bool d]) (results_cell_row rfl _ _ w.heap.size 33 _ (0,0) _ rfl F7.out Tryz.underlying33 rfl (by kernel_rfl)) rfl ?_
   exact⟨r,ps,d,x,c,rfl,HSZ3.out.1,HSZ3.out.2.1,HSZ3.out.2.2,HO7.out.mono (by have:=HS.out;omega),HB7.out⟩
end Go.Proofs.YtahocpjieffbaaaGreatDoor
