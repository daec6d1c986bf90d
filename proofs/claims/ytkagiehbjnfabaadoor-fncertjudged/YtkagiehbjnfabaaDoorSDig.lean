/-
 Contract: the model's Digits.
-/
import Derived.Test.YtkagiehbjnfabaaDoorSChain
namespace Go.Proofs.YtkagiehbjnfabaaDoor
open Go.RowKit
set_option linter.unusedVariables false
theorem info2s:(Tryd.prog.info? 2).map (fun i=>(i.zero,i.size,i.bytes))=some (some (.int .i64 0),1,8):=by kernel_rfl
theorem dig4_take (b:UInt8) (j:Nat) (h:j<4):(dig4 b).take (j+1)=(dig4 b).take j ++ [b.toNat / 2 ^ (6 - 2*j) % 4]:=by
 have:=b.toNat_lt
 match j,h with
 | 0,_=>simp[dig4];omega
 | 1,_=>simp[dig4]
 | 2,_=>simp[dig4]
 | 3,_=>simp[dig4]
theorem u8_shr (b:UInt8) (e:Nat) (h:e≤6):IntKind.u8.wrap ((b.toNat:Int) / 2 ^ e)=(b.toNat:Int) / 2 ^ e:=by
 have:=b.toNat_lt
 have h0:(0:Int)≤(b.toNat:Int) / 2 ^ e:=Int.ediv_nonneg (by omega) (by exact Int.le_of_lt (Int.pow_pos (by decide)))
 have h1:(b.toNat:Int) / 2 ^ e≤(b.toNat:Int):=Int.ediv_le_self _ (by omega)
 exact u8_wrap_small _ h0 (by omega)
set_option maxRecDepth 100000 in
set_option maxHeartbeats 1000000 in
theorem spec_digits (msg:List UInt8) (w:World) (hl:msg.length≤1048576) :
 Calls Tryd.prog 68 #[.string ⟨msg.toArray⟩] w fun e w'=>∃ g cap:Nat,e=.returned (.slice (some ⟨g,0,none⟩) 19 cap)∧w'.ownsRow w.heap.size 2 1 (.slice (some ⟨g,0,none⟩) 19 cap) 19 (icells (digitsL msg))∧Below w.heap.size w w':=by
 obtain⟨i0,hi0,hz0,hz1,hz2⟩:=info_parts info2s
 have H1:=fun W=>spec_sum msg W hl
 have H2:=fun W=>stag1 tDigits (sumL msg) W (by decide) (by rw[sumL_len];omega)
 have HL:Hid (digitsL msg=digs (digestD msg) ++ dig3 (chk (digs (digestD msg)))):=rfl
 have hd4:=digestD_len msg
 have HE:Hid (digestD msg=tagL tDigits [sumL msg]):=rfl
 have HC:Hid (chk (digs (digestD msg))≤48):=chk48 msg
 obtain⟨s,hs⟩:∃ s,s=sumL msg:=⟨_,rfl⟩
 obtain⟨d,hd⟩:∃ d,d=digestD msg:=⟨_,rfl⟩
 rw[←hd] at HL hd4 HE HC
 rw[←hs] at H1 H2 HE
 rw[←HE.out] at H2
 obtain⟨out,hout⟩:∃ out,out=digitsL msg:=⟨_,rfl⟩
 rw[←hout] at HL ⊢
 clear hs hd hout HE
 go_enter Tryd.func68,Tryd.ntmps68
 go_wp2_with fail
 refine (H1 _).mono ?_
 rintro e w1 ⟨rfl,b1⟩
 go_wp2_with fail
 refine (H2 _).mono ?_
 rintro e w2 ⟨rfl,b2⟩
 have B2:=b1.trans (b2.mono b1.size)
 clear b1 b2 H1 H2
 go_wp2
 go_loopw [4,5,6] (fun v t i wr=>∃ j n c g cap:Nat,∃ ds:List Nat,j≤4∧i=.int .i64 (j:Int)∧t=.int .i64 (c:Int)∧Hid (c=chk ds)∧c≤12*j∧Hid (ds=((d.take j).map dig4).flatten)∧Hid (ds.length=n)∧n=4*j∧v=.slice (some ⟨g,0,none⟩) n cap∧wr.ownsRow w.heap.size 2 1 (.slice (some ⟨g,0,none⟩) n cap) n (icells ds)∧Below w.heap.size w wr) (fun _ _ i _=>4 - (intOf i).toNat)
 case atStart=>exact⟨0,0,0,w2.heap.size,0,[],by omega,rfl,rfl,rfl,by omega,rfl,rfl,rfl,rfl,World.ownsRow_lit w2 #[] 0 B2.size (Nat.zero_le _) rfl,B2.alloc B2.size _⟩
 case round =>
  obtain⟨j,n,c,g,cap,ds,hj,rfl,rfl,HCC,hck,HD,HDL,hnj,rfl,hown,hbel⟩:=hrel
  by_cases hlt:j<4
  · have hlt' : (j : Int) < 4 := by omega
    have hjd:j<d.length:=by omega
    have hix:=fun W=>ix_at (P:=Tryd.prog) Tryd.underlying9 d (j:Int) j rfl hjd W
    have HN:Hid (((d.take (j+1)).map dig4).flatten=ds ++ dig4 d[j]):=by rw[Hid,digs4 d (by omega) j hlt,←HD.out]
    obtain⟨b,hb⟩:∃ b,b=d[j]:=⟨_,rfl⟩
    rw[←hb] at hix HN
    have HO:=hidOwn hown
    have hn16:n+4≤16:=by omega
    have HNJ:Hid (n=4*j):=hnj
    have hbt:=b.toNat_lt
    clear hb HD hown hnj
    go_wp2
    go_loopw [4,5,7] (fun v t i wr=>∃ m n1 c1 g cap:Nat,∃ es:List Nat,m≤4∧i=.int .i64 (6 - 2*(m:Int))∧t=.int .i64 (c1:Int)∧Hid (c1=chk es)∧c1≤12*j+3*m∧Hid (es=ds ++ (dig4 b).take m)∧Hid (es.length=n1)∧n1≤n+m∧v=.slice (some ⟨g,0,none⟩) n1 cap∧wr.ownsRow w.heap.size 2 1 (.slice (some ⟨g,0,none⟩) n1 cap) n1 (icells es)∧Below w.heap.size w wr) (fun _ _ i _=>(8+intOf i).toNat)
    case atStart=>exact⟨0,n,c,g,cap,ds,by omega,by simp,rfl,HCC,by omega,by rw[Hid];simp,HDL,by omega,rfl,HO.out,hbel⟩
    case round =>
     obtain⟨m,n1,c1,g1,cap1,es,hm,rfl,rfl,HC1,hck1,HE,HEL,hn1,rfl,hown1,hbel1⟩:=hrel
     have hsz1:=hbel1.size
     have hbg1:=own_base hown1
     by_cases hm4:m<4
     · rcases (by omega:m=0∨m=1∨m=2∨m=3) with rfl | rfl | rfl | rfl
       · obtain⟨q,hq,hq3,HQ⟩:∃ q:Nat,(b.toNat:Int) / 64 % 4=(q:Int)∧q≤3∧Hid (ds ++ (dig4 b).take 1=es ++ [q]):=⟨b.toNat / 64 % 4,by omega,by omega,by rw[Hid,HE.out];simp[dig4];omega⟩
         clear HE
         have HCQ:Hid (((chk (es ++ [q]):Nat):Int)=(c1:Int)+3 - (q:Int)):=by rw[Hid,chk_app,←HC1.out];simp[chk];omega
         have HCL:Hid (chk (es ++ [q])≤12*j+3):=by rw[Hid,chk_app,←HC1.out];simp[chk];omega
         go_wp2_with (at_builtin;refine wpList_append_lies _ rfl _ _ 74 rfl w.heap.size 2 i0 (.int .i64 0) 1 8 Tryd.underlying74 hi0 hz0 hz1 hz2 rfl (by decide) (.slice (some ⟨g1,0,none⟩) n1 cap1) n1 _ rfl (hown1.alloc _) ⟨wr.heap.size,0,none⟩ 1 1 [.int .i64 (q:Int)] rfl rfl (World.news_of_block (cs:=#[.int .i64 (q:Int)]) (t:=2) (fr:=(0,0)) (heap_alloc_new wr _)) (by simp[Value.oneCell']) (by omega) (by unfold maxLen;omega) (by omega) (by simp;omega) (wr.heap.size+1) (by simp) ?_;intro g2 cap2 w3 hown3 hgrow hat hlt3)
         have hbel3:=below_app0 hbel1 hsz1 hbg1 hgrow
         have HO3:Hid (w3.ownsRow w.heap.size 2 1 (.slice (some ⟨g2,0,none⟩) (n1+1) cap2) (n1+1) (icells (es ++ [q]))):=by rw[Hid,icells_app];exact hown3
         clear hgrow hown3 hown1 hbel1
         go_wp2
         go_roundw
         case rel=>exact⟨1,n1+1,c1+3 - q,g2,cap2,es ++ [q],by omega,by simp,by rw[←HCQ.out];have:=HCQ.out;congr 1;omega,by have:=HCQ.out;have:=HCL.out;rw[Hid];omega,by have:=HCQ.out;have:=HCL.out;omega,HQ.out.symm,by rw[Hid,List.length_append,HEL.out];simp,by omega,rfl,HO3.out,hbel3⟩
         case measure=>simp[intOf]
       · obtain⟨q,hq,hq3,HQ⟩:∃ q:Nat,(b.toNat:Int) / 16 % 4=(q:Int)∧q≤3∧Hid (ds ++ (dig4 b).take 2=es ++ [q]):=⟨b.toNat / 16 % 4,by omega,by omega,by rw[Hid,HE.out];simp[dig4]⟩
         clear HE
         have HCQ:Hid (((chk (es ++ [q]):Nat):Int)=(c1:Int)+3 - (q:Int)):=by rw[Hid,chk_app,←HC1.out];simp[chk];omega
         have HCL:Hid (chk (es ++ [q])≤12*j+6):=by rw[Hid,chk_app,←HC1.out];simp[chk];omega
         go_wp2_with (at_builtin;refine wpList_append_lies _ rfl _ _ 74 rfl w.heap.size 2 i0 (.int .i64 0) 1 8 Tryd.underlying74 hi0 hz0 hz1 hz2 rfl (by decide) (.slice (some ⟨g1,0,none⟩) n1 cap1) n1 _ rfl (hown1.alloc _) ⟨wr.heap.size,0,none⟩ 1 1 [.int .i64 (q:Int)] rfl rfl (World.news_of_block (cs:=#[.int .i64 (q:Int)]) (t:=2) (fr:=(0,0)) (heap_alloc_new wr _)) (by simp[Value.oneCell']) (by omega) (by unfold maxLen;omega) (by omega) (by simp;omega) (wr.heap.size+1) (by simp) ?_;intro g2 cap2 w3 hown3 hgrow hat hlt3)
         have hbel3:=below_app0 hbel1 hsz1 hbg1 hgrow
         have HO3:Hid (w3.ownsRow w.heap.size 2 1 (.slice (some ⟨g2,0,none⟩) (n1+1) cap2) (n1+1) (icells (es ++ [q]))):=by rw[Hid,icells_app];exact hown3
         clear hgrow hown3 hown1 hbel1
         go_wp2
         go_roundw
         case rel=>exact⟨2,n1+1,c1+3 - q,g2,cap2,es ++ [q],by omega,by simp,by rw[←HCQ.out];have:=HCQ.out;congr 1;omega,by have:=HCQ.out;have:=HCL.out;rw[Hid];omega,by have:=HCQ.out;have:=HCL.out;omega,HQ.out.symm,by rw[Hid,List.length_append,HEL.out];simp,by omega,rfl,HO3.out,hbel3⟩
         case measure=>simp[intOf]
       · obtain⟨q,hq,hq3,HQ⟩:∃ q:Nat,(b.toNat:Int) / 4 % 4=(q:Int)∧q≤3∧Hid (ds ++ (dig4 b).take 3=es ++ [q]):=⟨b.toNat / 4 % 4,by omega,by omega,by rw[Hid,HE.out];simp[dig4]⟩
         clear HE
         have HCQ:Hid (((chk (es ++ [q]):Nat):Int)=(c1:Int)+3 - (q:Int)):=by rw[Hid,chk_app,←HC1.out];simp[chk];omega
         have HCL:Hid (chk (es ++ [q])≤12*j+9):=by rw[Hid,chk_app,←HC1.out];simp[chk];omega
         go_wp2_with (at_builtin;refine wpList_append_lies _ rfl _ _ 74 rfl w.heap.size 2 i0 (.int .i64 0) 1 8 Tryd.underlying74 hi0 hz0 hz1 hz2 rfl (by decide) (.slice (some ⟨g1,0,none⟩) n1 cap1) n1 _ rfl (hown1.alloc _) ⟨wr.heap.size,0,none⟩ 1 1 [.int .i64 (q:Int)] rfl rfl (World.news_of_block (cs:=#[.int .i64 (q:Int)]) (t:=2) (fr:=(0,0)) (heap_alloc_new wr _)) (by simp[Value.oneCell']) (by omega) (by unfold maxLen;omega) (by omega) (by simp;omega) (wr.heap.size+1) (by simp) ?_;intro g2 cap2 w3 hown3 hgrow hat hlt3)
         have hbel3:=below_app0 hbel1 hsz1 hbg1 hgrow
         have HO3:Hid (w3.ownsRow w.heap.size 2 1 (.slice (some ⟨g2,0,none⟩) (n1+1) cap2) (n1+1) (icells (es ++ [q]))):=by rw[Hid,icells_app];exact hown3
         clear hgrow hown3 hown1 hbel1
         go_wp2
         go_roundw
         case rel=>exact⟨3,n1+1,c1+3 - q,g2,cap2,es ++ [q],by omega,by simp,by rw[←HCQ.out];have:=HCQ.out;congr 1;omega,by have:=HCQ.out;have:=HCL.out;rw[Hid];omega,by have:=HCQ.out;have:=HCL.out;omega,HQ.out.symm,by rw[Hid,List.length_append,HEL.out];simp,by omega,rfl,HO3.out,hbel3⟩
         case measure=>simp[intOf]
       · obtain⟨q,hq,hq3,HQ⟩:∃ q:Nat,(b.toNat:Int) % 4=(q:Int)∧q≤3∧Hid (ds ++ (dig4 b).take 4=es ++ [q]):=⟨b.toNat % 4,by omega,by omega,by rw[Hid,HE.out];simp[dig4]⟩
         clear HE
         have HCQ:Hid (((chk (es ++ [q]):Nat):Int)=(c1:Int)+3 - (q:Int)):=by rw[Hid,chk_app,←HC1.out];simp[chk];omega
         have HCL:Hid (chk (es ++ [q])≤12*j+12):=by rw[Hid,chk_app,←HC1.out];simp[chk];omega
         go_wp2_with (at_builtin;refine wpList_append_lies _ rfl _ _ 74 rfl w.heap.size 2 i0 (.int .i64 0) 1 8 Tryd.underlying74 hi0 hz0 hz1 hz2 rfl (by decide) (.slice (some ⟨g1,0,none⟩) n1 cap1) n1 _ rfl (hown1.alloc _) ⟨wr.heap.size,0,none⟩ 1 1 [.int .i64 (q:Int)] rfl rfl (World.news_of_block (cs:=#[.int .i64 (q:Int)]) (t:=2) (fr:=(0,0)) (heap_alloc_new wr _)) (by simp[Value.oneCell']) (by omega) (by unfold maxLen;omega) (by omega) (by simp;omega) (wr.heap.size+1) (by simp) ?_;intro g2 cap2 w3 hown3 hgrow hat hlt3)
         have hbel3:=below_app0 hbel1 hsz1 hbg1 hgrow
         have HO3:Hid (w3.ownsRow w.heap.size 2 1 (.slice (some ⟨g2,0,none⟩) (n1+1) cap2) (n1+1) (icells (es ++ [q]))):=by rw[Hid,icells_app];exact hown3
         clear hgrow hown3 hown1 hbel1
         go_wp2
         go_roundw
         case rel=>exact⟨4,n1+1,c1+3 - q,g2,cap2,es ++ [q],by omega,by simp,by rw[←HCQ.out];have:=HCQ.out;congr 1;omega,by have:=HCQ.out;have:=HCL.out;rw[Hid];omega,by have:=HCQ.out;have:=HCL.out;omega,HQ.out.symm,by rw[Hid,List.length_append,HEL.out];simp,by omega,rfl,HO3.out,hbel3⟩
         case measure=>simp[intOf]
     · have hm5:m=4:=by omega
       subst hm5
       have HE2:Hid (es=((d.take (j+1)).map dig4).flatten):=by rw[Hid,HN.out,HE.out];rfl
       have hnn:n1=4*(j+1):=by rw[←HEL.out,HE2.out];exact digs4_len d (by omega) (j+1) (by omega)
       have HNN:Hid (n1=4*(j+1)):=hnn
       clear HE HN hnn
       go_wp2
       go_roundw
       case rel=>exact⟨j+1,n1,c1,g1,cap1,es,by omega,by go_num,rfl,HC1,by omega,HE2,HEL,HNN.out,rfl,hown1,hbel1⟩
       case measure=>simp[intOf];omega
  · have hj4:j=4:=by omega
    subst hj4
    have HDD:Hid (ds=digs d):=HD.out
    have HR:Hid (icells out=icells ds ++ [.int .i64 ((c / 16:Nat):Int),.int .i64 ((c / 4 % 4:Nat):Int),.int .i64 ((c % 4:Nat):Int)]):=by rw[Hid,HL.out,←HDD.out,icells_app,←HCC.out];rfl
    obtain⟨x1,hx1,HX1⟩:∃ x1:Int,(c:Int) / 16=x1∧Hid (x1=((c / 16:Nat):Int)):=⟨_,rfl,by rw[Hid];omega⟩
    obtain⟨x2,hx2,HX2⟩:∃ x1:Int,(c:Int) / 4 % 4=x1∧Hid (x1=((c / 4 % 4:Nat):Int)):=⟨_,rfl,by rw[Hid];omega⟩
    obtain⟨x3,hx3,HX3⟩:∃ x1:Int,(c:Int) % 4=x1∧Hid (x1=((c % 4:Nat):Int)):=⟨_,rfl,by rw[Hid];omega⟩
    rw[←HX1.out,←HX2.out,←HX3.out] at HR
    have hn16:n=16:=by omega
    subst hn16
    have hsz1:=hbel.size
    have hbg1:=own_base hown
    clear HD hlt hj hnj
    go_wp2_with (at_builtin;refine wpList_append_lies _ rfl _ _ 74 rfl w.heap.size 2 i0 (.int .i64 0) 1 8 Tryd.underlying74 hi0 hz0 hz1 hz2 rfl (by decide) (.slice (some ⟨g,0,none⟩) 16 cap) 16 _ rfl (hown.alloc _) ⟨wr.heap.size,0,none⟩ 3 3 [.int .i64 x1,.int .i64 x2,.int .i64 x3] rfl rfl (World.news_of_block (cs:=#[.int .i64 x1,.int .i64 x2,.int .i64 x3]) (t:=2) (fr:=(0,0)) (heap_alloc_new wr _)) (by simp[Value.oneCell']) (by omega) (by unfold maxLen;omega) (by omega) (by simp;omega) (wr.heap.size+1) (by simp) ?_;intro g2 cap2 w3 hown3 hgrow hat hlt3)
    have hbel3:=below_app0 hbel hsz1 hbg1 hgrow
    have HO3:Hid (w3.ownsRow w.heap.size 2 1 (.slice (some ⟨g2,0,none⟩) 19 cap2) 19 (icells out)):=by rw[Hid,HR.out];exact hown3
    clear hgrow hown3 hown hbel
    go_wp2
    go_ret
    exact⟨g2,cap2,rfl,HO3.out,hbel3⟩
end Go.Proofs.YtkagiehbjnfabaaDoor
