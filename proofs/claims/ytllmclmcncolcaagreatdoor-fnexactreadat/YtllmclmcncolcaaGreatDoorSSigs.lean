/-
 Texts that are laid as one: SChain, SDig, SOnce, SSign, SSign2.
-/
import Derived.Test.YtllmclmcncolcaaGreatDoorSSums
import Derived.Test.YtllmclmcncolcaaGreatDoorMath2
import Derived.Test.YtllmclmcncolcaaGreatDoorMathAll
import Derived.Deep.RegionHeld3
import Derived.Test.YtllmclmcncolcaaGreatDoorStrsAll
namespace Go.Proofs.YtllmclmcncolcaaGreatDoor
open Go.RowKit
set_option linter.unusedVariables false
set_option maxRecDepth 100000 in
theorem l3Byte_any (n:Nat) (w:World) (hn:n<256) :
 Calls Tryz.prog 134 #[.int .i64 (n:Int)] w fun e w'=>e=.returned (.string ⟨(byteL n).toArray⟩)∧Below w.heap.size w w':=by
 obtain⟨c,hc⟩:∃ c,c=UInt8.ofNat n:=⟨_,rfl⟩
 have hcv:=lit_string [c] #[.int .u8 (n:Int)] (by simp only[bcells,List.map_cons,List.map_nil];rw[hc,byte_of];congr 2;omega) 1 rfl (by decide)
 have hb:byteL n=[c]:=by rw[hc];rfl
 have hn':(n:Int)<256:=by omega
 rw[hb]
 clear hc hb
 go_enter Tryz.func134,Tryz.ntmps134
 go_wp2
 go_ret
 exact⟨rfl,(Below.refl _ _).alloc (Nat.le_refl _) _⟩
theorem tag3_flatS (a b c:List UInt8) : [a,b,c].flatten.length=a.length+(b.length+c.length):=by simp
theorem stag3 (tag a b c:List UInt8) (w:World) (ht:tag.length≤1000) (hl:a.length+(b.length+c.length)≤10000) :
 Calls Tryz.prog 78 #[.string ⟨tag.toArray⟩,.slice (some ⟨w.heap.size,0,none⟩) 3 3] (w.alloc (.cells #[.string ⟨a.toArray⟩,.string ⟨b.toArray⟩,.string ⟨c.toArray⟩] 9)) fun e w'=>e=.returned (.string ⟨(tagL tag [a,b,c]).toArray⟩)∧Below w.heap.size w w':=by
 have K:=spec_tagged tag w.heap.size 3 [a,b,c] w.heap.size (w.alloc (.cells #[.string ⟨a.toArray⟩,.string ⟨b.toArray⟩,.string ⟨c.toArray⟩] 9)) (by omega) (by rw[tag3_flatS];simp;omega) (World.ownsRow_lit w #[.string ⟨a.toArray⟩,.string ⟨b.toArray⟩,.string ⟨c.toArray⟩] 3 (Nat.le_refl _) (by decide) rfl)
 exact K.mono fun e w' ⟨h1,h2⟩=>⟨h1,((Below.refl _ _).alloc (Nat.le_refl _) _).trans (h2.mono (by simp))⟩
theorem stag2 (tag a b:List UInt8) (w:World) (ht:tag.length≤1000) (hl:a.length+b.length≤10000) :
 Calls Tryz.prog 78 #[.string ⟨tag.toArray⟩,.slice (some ⟨w.heap.size,0,none⟩) 2 2] (w.alloc (.cells #[.string ⟨a.toArray⟩,.string ⟨b.toArray⟩] 9)) fun e w'=>e=.returned (.string ⟨(tagL tag [a,b]).toArray⟩)∧Below w.heap.size w w':=by
 have K:=spec_tagged tag w.heap.size 2 [a,b] w.heap.size (w.alloc (.cells #[.string ⟨a.toArray⟩,.string ⟨b.toArray⟩] 9)) (by omega) (by simp;omega) (World.ownsRow_lit w #[.string ⟨a.toArray⟩,.string ⟨b.toArray⟩] 2 (Nat.le_refl _) (by decide) rfl)
 exact K.mono fun e w' ⟨h1,h2⟩=>⟨h1,((Below.refl _ _).alloc (Nat.le_refl _) _).trans (h2.mono (by simp))⟩
theorem stag1 (tag a:List UInt8) (w:World) (ht:tag.length≤1000) (hl:a.length≤10000) :
 Calls Tryz.prog 78 #[.string ⟨tag.toArray⟩,.slice (some ⟨w.heap.size,0,none⟩) 1 1] (w.alloc (.cells #[.string ⟨a.toArray⟩] 9)) fun e w'=>e=.returned (.string ⟨(tagL tag [a]).toArray⟩)∧Below w.heap.size w w':=by
 have K:=spec_tagged tag w.heap.size 1 [a] w.heap.size (w.alloc (.cells #[.string ⟨a.toArray⟩] 9)) (by omega) (by simp;omega) (World.ownsRow_lit w #[.string ⟨a.toArray⟩] 1 (Nat.le_refl _) (by decide) rfl)
 exact K.mono fun e w' ⟨h1,h2⟩=>⟨h1,((Below.refl _ _).alloc (Nat.le_refl _) _).trans (h2.mono (by simp))⟩
set_option maxRecDepth 100000 in
set_option maxHeartbeats 400000 in
theorem l3Chain_any (c f n:Nat) (x:List UInt8) (w:World) (hc:c<256) (hn:f+n≤3) (hx:x.length=32) :
 Calls Tryz.prog 116 #[.string ⟨x.toArray⟩,.int .i64 (c:Int),.int .i64 (f:Int),.int .i64 (n:Int)] w fun e w'=>e=.returned (.string ⟨(chainL c f x n).toArray⟩)∧Below w.heap.size w w':=by
 have HX:Hid (∀ k,(chainL c f x k).length=32):=chainL_len c f x hx
 have HZ:Hid (chainL c f x 0=x):=rfl
 have HS:Hid (∀ k,chainL c f x (k+1)=tagL tChain [byteL c,byteL (f+k),chainL c f x k]):=fun k=>rfl
 go_enter Tryz.func116,Tryz.ntmps116
 go_wp2
 go_loopw [0,9] (fun v i wr=>∃ k:Nat,∃ y:List UInt8,k≤n∧i=.int .i64 ((f+k:Nat):Int)∧v=.string ⟨y.toArray⟩∧Hid (y=chainL c f x k)∧Below w.heap.size w wr) (fun _ i _=>f+n - (intOf i).toNat)
 case atStart=>exact⟨0,x,Nat.zero_le _,by simp,rfl,HZ.out.symm,Below.refl _ _⟩
 case round =>
  obtain⟨k,y,hk,rfl,rfl,HY,hbel⟩:=hrel
  have hsz:=hbel.size
  by_cases hlt:k<n
  · have hlt':(f:Int)+(k:Int)<(f:Int)+(n:Int):=by omega
    have hyl:y.length=32:=by rw[HY.out];exact HX.out k
    have HN:Hid (tagL tChain [byteL c,byteL (f+k),y]=chainL c f x (k+1)):=by rw[Hid,HS.out,←HY.out]
    have K1:=fun W=>l3Byte_any c W hc
    have K2:=fun W=>l3Byte_any (f+k) W (by omega)
    have K3:=fun W=>stag3 tChain (byteL c) (byteL (f+k)) y W (by decide) (by rw[hyl];simp[byteL])
    obtain⟨z,hz⟩:∃ z,z=tagL tChain [byteL c,byteL (f+k),y]:=⟨_,rfl⟩
    rw[←hz] at K3 HN
    obtain⟨p,hp⟩:∃ p,p=byteL c:=⟨_,rfl⟩
    obtain⟨q,hq⟩:∃ q,q=byteL (f+k):=⟨_,rfl⟩
    rw[←hp] at K1 K3
    rw[←hq] at K2 K3
    clear hz hp hq HY
    go_wp2_with fail
    refine (K1 _).mono ?_
    rintro e w1 ⟨rfl,b1⟩
    have B1:=hbel.trans (b1.mono hsz)
    clear b1 hbel
    go_wp2_with fail
    refine (K2 _).mono ?_
    rintro e w2 ⟨rfl,b2⟩
    have B2:=B1.trans (b2.mono B1.size)
    clear b2 B1
    go_wp2_with fail
    refine (K3 w2).mono ?_
    rintro e w3 ⟨rfl,b3⟩
    have B3:=B2.trans (b3.mono B2.size)
    clear b3 B2
    go_wp2
    go_roundw
    case rel=>exact⟨k+1,z,by omega,by go_num,rfl,HN,B3⟩
    case measure=>simp[intOf];omega
  · have hlt':¬ (f:Int)+(k:Int)<(f:Int)+(n:Int):=by omega
    have hkt:k=n:=by omega
    subst hkt
    go_wp2
    go_ret
    exact⟨by rw[HY.out];rfl,hbel⟩
set_option maxRecDepth 100000 in
theorem l1In_yes (n a b:Int) (w:World) (h:a≤n∧n≤b) :
 Calls Tryz.prog 34 #[.int .i64 n,.int .i64 a,.int .i64 b] w fun e w'=>e=.returned (.bool true)∧w'=w:=by
 obtain⟨h1,h2⟩:=h
 go_enter Tryz.func34,Tryz.ntmps34
 go_wp2
 go_ret
 exact⟨rfl,rfl⟩
set_option maxRecDepth 100000 in
theorem l1In_no (n a b:Int) (w:World) (h:¬ (a≤n∧n≤b)) :
 Calls Tryz.prog 34 #[.int .i64 n,.int .i64 a,.int .i64 b] w fun e w'=>e=.returned (.bool false)∧w'=w:=by
 by_cases h1:a≤n
 · have h2:¬ n≤b:=fun h2=>h ⟨h1,h2⟩
   clear h
   go_enter Tryz.func34,Tryz.ntmps34
   go_wp2
   go_ret
   exact⟨rfl,rfl⟩
 · clear h
   go_enter Tryz.func34,Tryz.ntmps34
   go_wp2
   go_ret
   exact⟨rfl,rfl⟩
theorem info2s:(Tryz.prog.info? 2).map (fun i=>(i.zero,i.size,i.bytes))=some (some (.int .i64 0),1,8):=by kernel_rfl
set_option maxRecDepth 100000 in
set_option maxHeartbeats 1000000 in
theorem spec_digits (msg:List UInt8) (w:World) (hl:msg.length≤1048576) :
 Calls Tryz.prog 115 #[.string ⟨msg.toArray⟩] w fun e w'=>∃ g cap:Nat,e=.returned (.slice (some ⟨g,0,none⟩) 19 cap)∧w'.ownsRow w.heap.size 2 1 (.slice (some ⟨g,0,none⟩) 19 cap) 19 (icells (digitsL msg))∧Below w.heap.size w w':=by
 obtain⟨i0,hi0,hz0,hz1,hz2⟩:=info_parts info2s
 have H1:=fun W=>spec_sum msg W hl
 have H2:=fun W=>stag1 tDigits (sumL msg) W (by decide) (by rw[sumL_len];omega)
 have HL:Hid (digitsL msg=digs (digestD msg) ++ dig3 (chk (digs (digestD msg)))):=rfl
 have hd4:=digestD_len msg
 have HE:Hid (digestD msg=tagL tDigits [sumL msg]):=rfl
 have HC:Hid (chk (digs (digestD msg))≤48):=chk48 msg
 obtain⟨s,hs⟩:∃ s,s=sumL msg:=⟨_,rfl⟩
 obtain⟨d,hd⟩:∃ d,d=digestD msg:=⟨_,rfl⟩
 rw[←hd] at HL hd4 HE HC
 rw[←hs] at H1 H2 HE
 rw[←HE.out] at H2
 obtain⟨out,hout⟩:∃ out,out=digitsL msg:=⟨_,rfl⟩
 rw[←hout] at HL ⊢
 clear hs hd hout HE
 go_enter Tryz.func115,Tryz.ntmps115
 go_wp2_with fail
 refine (H1 _).mono ?_
 rintro e w1 ⟨rfl,b1⟩
 go_wp2_with fail
 refine (H2 _).mono ?_
 rintro e w2 ⟨rfl,b2⟩
 have B2:=b1.trans (b2.mono b1.size)
 clear b1 b2 H1 H2
 go_wp2
 go_loopw [4,5,6] (fun v t i wr=>∃ j n c g cap:Nat,∃ ds:List Nat,j≤4∧i=.int .i64 (j:Int)∧t=.int .i64 (c:Int)∧Hid (c=chk ds)∧c≤12*j∧Hid (ds=((d.take j).map dig4).flatten)∧Hid (ds.length=n)∧n=4*j∧v=.slice (some ⟨g,0,none⟩) n cap∧wr.ownsRow w.heap.size 2 1 (.slice (some ⟨g,0,none⟩) n cap) n (icells ds)∧Below w.heap.size w wr) (fun _ _ i _=>4 - (intOf i).toNat)
 case atStart=>exact⟨0,0,0,w2.heap.size,0,[],by omega,rfl,rfl,rfl,by omega,rfl,rfl,rfl,rfl,World.ownsRow_lit w2 #[] 0 B2.size (Nat.zero_le _) rfl,B2.alloc B2.size _⟩
 case round =>
  obtain⟨j,n,c,g,cap,ds,hj,rfl,rfl,HCC,hck,HD,HDL,hnj,rfl,hown,hbel⟩:=hrel
  by_cases hlt:j<4
  · have hlt' : (j : Int) < 4 := by omega
    have hjd:j<d.length:=by omega
    have hix:=fun W=>ix_at (P:=Tryz.prog) Tryz.underlying9 d (j:Int) j rfl hjd W
    have HN:Hid (((d.take (j+1)).map dig4).flatten=ds ++ dig4 d[j]):=by rw[Hid,digs4 d (by omega) j hlt,←HD.out]
    obtain⟨b,hb⟩:∃ b,b=d[j]:=⟨_,rfl⟩
    rw[←hb] at hix HN
    have HO:=hidOwn hown
    have hn16:n+4≤16:=by omega
    have HNJ:Hid (n=4*j):=hnj
    have hbt:=b.toNat_lt
    clear hb HD hown hnj
    go_wp2
    go_loopw [4,5,7] (fun v t i wr=>∃ m n1 c1 g cap:Nat,∃ es:List Nat,m≤4∧i=.int .i64 (6 - 2*(m:Int))∧t=.int .i64 (c1:Int)∧Hid (c1=chk es)∧c1≤12*j+3*m∧Hid (es=ds ++ (dig4 b).take m)∧Hid (es.length=n1)∧n1≤n+m∧v=.slice (some ⟨g,0,none⟩) n1 cap∧wr.ownsRow w.heap.size 2 1 (.slice (some ⟨g,0,none⟩) n1 cap) n1 (icells es)∧Below w.heap.size w wr) (fun _ _ i _=>(8+intOf i).toNat)
    case atStart=>exact⟨0,n,c,g,cap,ds,by omega,by simp,rfl,HCC,by omega,by rw[Hid];simp,HDL,by omega,rfl,HO.out,hbel⟩
    case round =>
     obtain⟨m,n1,c1,g1,cap1,es,hm,rfl,rfl,HC1,hck1,HE,HEL,hn1,rfl,hown1,hbel1⟩:=hrel
     have hsz1:=hbel1.size
     have hbg1:=own_base hown1
     by_cases hm4:m<4
     · rcases (by omega:m=0∨m=1∨m=2∨m=3) with rfl | rfl | rfl | rfl
       · obtain⟨q,hq,hq3,HQ⟩:∃ q:Nat,(b.toNat:Int) / 64 % 4=(q:Int)∧q≤3∧Hid (ds ++ (dig4 b).take 1=es ++ [q]):=⟨b.toNat / 64 % 4,by omega,by omega,by rw[Hid,HE.out];simp[dig4];omega⟩
         clear HE
         have HCQ:Hid (((chk (es ++ [q]):Nat):Int)=(c1:Int)+3 - (q:Int)):=by rw[Hid,chk_app,←HC1.out];simp[chk];omega
         have HCL:Hid (chk (es ++ [q])≤12*j+3):=by rw[Hid,chk_app,←HC1.out];simp[chk];omega
         go_wp2_with (at_builtin;refine wpList_append_lies _ rfl _ _ 174 rfl w.heap.size 2 i0 (.int .i64 0) 1 8 Tryz.underlying174 hi0 hz0 hz1 hz2 rfl (by decide) (.slice (some ⟨g1,0,none⟩) n1 cap1) n1 _ rfl (hown1.alloc _) ⟨wr.heap.size,0,none⟩ 1 1 [.int .i64 (q:Int)] rfl rfl (World.news_of_block (cs:=#[.int .i64 (q:Int)]) (t:=2) (fr:=(0,0)) (heap_alloc_new wr _)) (by simp[Value.oneCell']) (by omega) (by unfold maxLen;omega) (by omega) (by simp;omega) (wr.heap.size+1) (by simp) ?_;intro g2 cap2 w3 hown3 hgrow hat hlt3)
         have hbel3:=below_app0 hbel1 hsz1 hbg1 hgrow
         have HO3:Hid (w3.ownsRow w.heap.size 2 1 (.slice (some ⟨g2,0,none⟩) (n1+1) cap2) (n1+1) (icells (es ++ [q]))):=by rw[Hid,icells_app];exact hown3
         clear hgrow hown3 hown1 hbel1
         go_wp2
         go_roundw
         case rel=>exact⟨1,n1+1,c1+3 - q,g2,cap2,es ++ [q],by omega,by simp,by rw[←HCQ.out];have:=HCQ.out;congr 1;omega,by have:=HCQ.out;have:=HCL.out;rw[Hid];omega,by have:=HCQ.out;have:=HCL.out;omega,HQ.out.symm,by rw[Hid,List.length_append,HEL.out];simp,by omega,rfl,HO3.out,hbel3⟩
         case measure=>simp[intOf]
       · obtain⟨q,hq,hq3,HQ⟩:∃ q:Nat,(b.toNat:Int) / 16 % 4=(q:Int)∧q≤3∧Hid (ds ++ (dig4 b).take 2=es ++ [q]):=⟨b.toNat / 16 % 4,by omega,by omega,by rw[Hid,HE.out];simp[dig4]⟩
         clear HE
         have HCQ:Hid (((chk (es ++ [q]):Nat):Int)=(c1:Int)+3 - (q:Int)):=by rw[Hid,chk_app,←HC1.out];simp[chk];omega
         have HCL:Hid (chk (es ++ [q])≤12*j+6):=by rw[Hid,chk_app,←HC1.out];simp[chk];omega
         go_wp2_with (at_builtin;refine wpList_append_lies _ rfl _ _ 174 rfl w.heap.size 2 i0 (.int .i64 0) 1 8 Tryz.underlying174 hi0 hz0 hz1 hz2 rfl (by decide) (.slice (some ⟨g1,0,none⟩) n1 cap1) n1 _ rfl (hown1.alloc _) ⟨wr.heap.size,0,none⟩ 1 1 [.int .i64 (q:Int)] rfl rfl (World.news_of_block (cs:=#[.int .i64 (q:Int)]) (t:=2) (fr:=(0,0)) (heap_alloc_new wr _)) (by simp[Value.oneCell']) (by omega) (by unfold maxLen;omega) (by omega) (by simp;omega) (wr.heap.size+1) (by simp) ?_;intro g2 cap2 w3 hown3 hgrow hat hlt3)
         have hbel3:=below_app0 hbel1 hsz1 hbg1 hgrow
         have HO3:Hid (w3.ownsRow w.heap.size 2 1 (.slice (some ⟨g2,0,none⟩) (n1+1) cap2) (n1+1) (icells (es ++ [q]))):=by rw[Hid,icells_app];exact hown3
         clear hgrow hown3 hown1 hbel1
         go_wp2
         go_roundw
         case rel=>exact⟨2,n1+1,c1+3 - q,g2,cap2,es ++ [q],by omega,by simp,by rw[←HCQ.out];have:=HCQ.out;congr 1;omega,by have:=HCQ.out;have:=HCL.out;rw[Hid];omega,by have:=HCQ.out;have:=HCL.out;omega,HQ.out.symm,by rw[Hid,List.length_append,HEL.out];simp,by omega,rfl,HO3.out,hbel3⟩
         case measure=>simp[intOf]
       · obtain⟨q,hq,hq3,HQ⟩:∃ q:Nat,(b.toNat:Int) / 4 % 4=(q:Int)∧q≤3∧Hid (ds ++ (dig4 b).take 3=es ++ [q]):=⟨b.toNat / 4 % 4,by omega,by omega,by rw[Hid,HE.out];simp[dig4]⟩
         clear HE
         have HCQ:Hid (((chk (es ++ [q]):Nat):Int)=(c1:Int)+3 - (q:Int)):=by rw[Hid,chk_app,←HC1.out];simp[chk];omega
         have HCL:Hid (chk (es ++ [q])≤12*j+9):=by rw[Hid,chk_app,←HC1.out];simp[chk];omega
         go_wp2_with (at_builtin;refine wpList_append_lies _ rfl _ _ 174 rfl w.heap.size 2 i0 (.int .i64 0) 1 8 Tryz.underlying174 hi0 hz0 hz1 hz2 rfl (by decide) (.slice (some ⟨g1,0,none⟩) n1 cap1) n1 _ rfl (hown1.alloc _) ⟨wr.heap.size,0,none⟩ 1 1 [.int .i64 (q:Int)] rfl rfl (World.news_of_block (cs:=#[.int .i64 (q:Int)]) (t:=2) (fr:=(0,0)) (heap_alloc_new wr _)) (by simp[Value.oneCell']) (by omega) (by unfold maxLen;omega) (by omega) (by simp;omega) (wr.heap.size+1) (by simp) ?_;intro g2 cap2 w3 hown3 hgrow hat hlt3)
         have hbel3:=below_app0 hbel1 hsz1 hbg1 hgrow
         have HO3:Hid (w3.ownsRow w.heap.size 2 1 (.slice (some ⟨g2,0,none⟩) (n1+1) cap2) (n1+1) (icells (es ++ [q]))):=by rw[Hid,icells_app];exact hown3
         clear hgrow hown3 hown1 hbel1
         go_wp2
         go_roundw
         case rel=>exact⟨3,n1+1,c1+3 - q,g2,cap2,es ++ [q],by omega,by simp,by rw[←HCQ.out];have:=HCQ.out;congr 1;omega,by have:=HCQ.out;have:=HCL.out;rw[Hid];omega,by have:=HCQ.out;have:=HCL.out;omega,HQ.out.symm,by rw[Hid,List.length_append,HEL.out];simp,by omega,rfl,HO3.out,hbel3⟩
         case measure=>simp[intOf]
       · obtain⟨q,hq,hq3,HQ⟩:∃ q:Nat,(b.toNat:Int) % 4=(q:Int)∧q≤3∧Hid (ds ++ (dig4 b).take 4=es ++ [q]):=⟨b.toNat % 4,by omega,by omega,by rw[Hid,HE.out];simp[dig4]⟩
         clear HE
         have HCQ:Hid (((chk (es ++ [q]):Nat):Int)=(c1:Int)+3 - (q:Int)):=by rw[Hid,chk_app,←HC1.out];simp[chk];omega
         have HCL:Hid (chk (es ++ [q])≤12*j+12):=by rw[Hid,chk_app,←HC1.out];simp[chk];omega
         go_wp2_with (at_builtin;refine wpList_append_lies _ rfl _ _ 174 rfl w.heap.size 2 i0 (.int .i64 0) 1 8 Tryz.underlying174 hi0 hz0 hz1 hz2 rfl (by decide) (.slice (some ⟨g1,0,none⟩) n1 cap1) n1 _ rfl (hown1.alloc _) ⟨wr.heap.size,0,none⟩ 1 1 [.int .i64 (q:Int)] rfl rfl (World.news_of_block (cs:=#[.int .i64 (q:Int)]) (t:=2) (fr:=(0,0)) (heap_alloc_new wr _)) (by simp[Value.oneCell']) (by omega) (by unfold maxLen;omega) (by omega) (by simp;omega) (wr.heap.size+1) (by simp) ?_;intro g2 cap2 w3 hown3 hgrow hat hlt3)
         have hbel3:=below_app0 hbel1 hsz1 hbg1 hgrow
         have HO3:Hid (w3.ownsRow w.heap.size 2 1 (.slice (some ⟨g2,0,none⟩) (n1+1) cap2) (n1+1) (icells (es ++ [q]))):=by rw[Hid,icells_app];exact hown3
         clear hgrow hown3 hown1 hbel1
         go_wp2
         go_roundw
         case rel=>exact⟨4,n1+1,c1+3 - q,g2,cap2,es ++ [q],by omega,by simp,by rw[←HCQ.out];have:=HCQ.out;congr 1;omega,by have:=HCQ.out;have:=HCL.out;rw[Hid];omega,by have:=HCQ.out;have:=HCL.out;omega,HQ.out.symm,by rw[Hid,List.length_append,HEL.out];simp,by omega,rfl,HO3.out,hbel3⟩
         case measure=>simp[intOf]
     · have hm5:m=4:=by omega
       subst hm5
       have HE2:Hid (es=((d.take (j+1)).map dig4).flatten):=by rw[Hid,HN.out,HE.out];rfl
       have hnn:n1=4*(j+1):=by rw[←HEL.out,HE2.out];exact digs4_len d (by omega) (j+1) (by omega)
       have HNN:Hid (n1=4*(j+1)):=hnn
       clear HE HN hnn
       go_wp2
       go_roundw
       case rel=>exact⟨j+1,n1,c1,g1,cap1,es,by omega,by go_num,rfl,HC1,by omega,HE2,HEL,HNN.out,rfl,hown1,hbel1⟩
       case measure=>simp[intOf];omega
  · have hj4:j=4:=by omega
    subst hj4
    have HDD:Hid (ds=digs d):=HD.out
    have HR:Hid (icells out=icells ds ++ [.int .i64 ((c / 16:Nat):Int),.int .i64 ((c / 4 % 4:Nat):Int),.int .i64 ((c % 4:Nat):Int)]):=by rw[Hid,HL.out,←HDD.out,icells_app,←HCC.out];rfl
    obtain⟨x1,hx1,HX1⟩:∃ x1:Int,(c:Int) / 16=x1∧Hid (x1=((c / 16:Nat):Int)):=⟨_,rfl,by rw[Hid];omega⟩
    obtain⟨x2,hx2,HX2⟩:∃ x1:Int,(c:Int) / 4 % 4=x1∧Hid (x1=((c / 4 % 4:Nat):Int)):=⟨_,rfl,by rw[Hid];omega⟩
    obtain⟨x3,hx3,HX3⟩:∃ x1:Int,(c:Int) % 4=x1∧Hid (x1=((c % 4:Nat):Int)):=⟨_,rfl,by rw[Hid];omega⟩
    rw[←HX1.out,←HX2.out,←HX3.out] at HR
    have hn16:n=16:=by omega
    subst hn16
    have hsz1:=hbel.size
    have hbg1:=own_base hown
    clear HD hlt hj hnj
    go_wp2_with (at_builtin;refine wpList_append_lies _ rfl _ _ 174 rfl w.heap.size 2 i0 (.int .i64 0) 1 8 Tryz.underlying174 hi0 hz0 hz1 hz2 rfl (by decide) (.slice (some ⟨g,0,none⟩) 16 cap) 16 _ rfl (hown.alloc _) ⟨wr.heap.size,0,none⟩ 3 3 [.int .i64 x1,.int .i64 x2,.int .i64 x3] rfl rfl (World.news_of_block (cs:=#[.int .i64 x1,.int .i64 x2,.int .i64 x3]) (t:=2) (fr:=(0,0)) (heap_alloc_new wr _)) (by simp[Value.oneCell']) (by omega) (by unfold maxLen;omega) (by omega) (by simp;omega) (wr.heap.size+1) (by simp) ?_;intro g2 cap2 w3 hown3 hgrow hat hlt3)
    have hbel3:=below_app0 hbel hsz1 hbg1 hgrow
    have HO3:Hid (w3.ownsRow w.heap.size 2 1 (.slice (some ⟨g2,0,none⟩) 19 cap2) 19 (icells out)):=by rw[Hid,HR.out];exact hown3
    clear hgrow hown3 hown hbel
    go_wp2
    go_ret
    exact⟨g2,cap2,rfl,HO3.out,hbel3⟩
theorem keptS {w w':World} {b e n:Nat} {v:Value} {xs:List Value} (h:w.ownsRow b e 1 v n xs) (hb:Below w.heap.size w w'):w'.ownsRow b e 1 v n xs :=
 h.kept (row:=none) ⟨hb.os,hb.tape,hb.output,hb.size,fun k hk _=>hb.block k hk⟩ (by cases v.ownBlock with | none=>exact .inl rfl | some k=>exact .inr (by simp))
theorem below_undrewS {b:Nat} {w w1:World} (h:Below b w.drew w1):Below b w w1:=⟨h.os,h.tape,h.output,h.size,h.block⟩
set_option maxRecDepth 100000 in
set_option maxHeartbeats 2000000 in
theorem spec_publicOf (msg : List UInt8) (a : Option Addr) (cap : Nat) (ls : List (List UInt8)) (w : World) (hl : msg.length ≤ 1048576) (h19 : ls.length = 19) (h32 : ∀ l ∈ ls, l.length = 32) (hs : IsStrs w a ls) :
 Calls Tryz.prog 101 #[.string ⟨msg.toArray⟩,.slice a ls.length cap] w fun e w'=>e=.returned (.tuple #[.string ⟨(publicOfL msg ls).toArray⟩,.bool true])∧Below w.heap.size w w':=by
 obtain⟨i0,hi0,hz0,hz1,hz2⟩:=info_parts info9t
 have H1:=spec_digits msg w hl
 have hdl:=digitsL_len msg
 have HD3:Hid (∀ j,(digitsL msg).getD j 0≤3):=digitsL_getD msg
 have HP:Hid (publicOfL msg ls=tagL tOnce (leadL msg ls 19)):=rfl
 have HF:Hid ((leadL msg ls 19).flatten.length=32*19):=by rw[Hid,flat32 _ (leadL_32 msg ls h32 19 (by omega)),leadL_length]
 have HLL:Hid ((leadL msg ls 19).length=19):=leadL_length msg ls 19
 have HN:Hid (∀ j,leadL msg ls (j+1)=leadL msg ls j ++ [chainL j ((digitsL msg).getD j 0) (ls.getD j []) (3 - (digitsL msg).getD j 0)]):=leadL_snoc msg ls
 have HZ:Hid (leadL msg ls 0=[]):=rfl
 obtain⟨ds,hds⟩:∃ ds,ds=digitsL msg:=⟨_,rfl⟩
 rw[←hds] at H1 hdl HD3 HN
 obtain⟨out,hout⟩:∃ out,out=publicOfL msg ls:=⟨_,rfl⟩
 rw[←hout] at HP ⊢
 obtain⟨ld,hld⟩:∃ ld,ld=leadL msg ls:=⟨_,rfl⟩
 rw[←hld] at HP HF HLL HN HZ
 rcases hs with rfl | ⟨b,off,rfl,hc⟩
 · simp at h19
 have H32:Hid (∀ j (h:j<ls.length),ls[j].length=32):=fun j h=>h32 _ (List.getElem_mem _)
 have hblt:b<w.heap.size:=World.block_lt_of_cell? w _ (hc 0 (by omega))
 have HC:Hid (∀ j (h:j<ls.length),w.cell? ⟨b,off+j,none⟩=some (.string ⟨ls[j].toArray⟩)):=hc
 rw[h19]
 clear hds hout hld hc h32
 go_enter Tryz.func101,Tryz.ntmps101
 go_wp2
 go_loop [6] (fun i=>∃ j:Nat,j≤19∧i=.int .i64 (j:Int)) (fun i=>19 - (intOf i).toNat)
 case atStart=>exact⟨0,Nat.zero_le _,rfl⟩
 case round =>
  obtain⟨j,hj,rfl⟩:=hrel
  by_cases hlt:j<19
  · have hjl:j<ls.length:=by omega
    have c1:=HC.out j hjl
    have m1:=H32.out j hjl
    have hj0:(0:Int)≤(j:Int):=by omega
    have hj1:(j:Int)<19:=by omega
    obtain⟨x,hx⟩:∃ x,x=ls[j]:=⟨_,rfl⟩
    rw[←hx] at c1 m1
    have m2:(x.length:Int)=32:=by omega
    clear hx
    go_wp2
    go_round
    case rel=>exact⟨j+1,by omega,by go_num⟩
    case measure=>simp[intOf];omega
  · go_wp2_with fail
    refine H1.mono ?_
    rintro e w1 ⟨gd,cd,rfl,od,b1⟩
    have hgd:=own_lt od
    have hcd:∀ j (h:j<ds.length),w1.cell? ⟨gd,j,none⟩=some (.int .i64 ((ds.getD j 0:Nat):Int)):=fun j h=>by rw[od.cellAt j (by omega),icells_at ds j h,List.getD_eq_getElem?_getD,List.getElem?_eq_getElem h];rfl
    have hs1:=b1.size
    clear H1 od
    go_wp2
    go_loopw [8,9] (fun v i wr=>∃ j g cap:Nat,j≤19∧i=.int .i64 (j:Int)∧v=.slice (some ⟨g,0,none⟩) j cap∧wr.ownsRow w1.heap.size 9 1 (.slice (some ⟨g,0,none⟩) j cap) j (scells (ld j))∧Below w1.heap.size w1 wr) (fun _ i _=>19 - (intOf i).toNat)
    case atStart=>exact⟨0,w1.heap.size,0,by omega,rfl,rfl,by rw[HZ.out];exact World.ownsRow_lit w1 #[] 0 (Nat.le_refl _) (Nat.zero_le _) rfl,(Below.refl _ _).alloc (Nat.le_refl _) _⟩
    case round =>
     obtain⟨j,g,cap1,hj,rfl,rfl,hown,hbel⟩:=hrel
     have hsz:=hbel.size
     have hbw:=b1.trans (hbel.mono hs1)
     by_cases hlt:j<19
     · have hlt' : (j : Int) < 19 := by omega
       have hj0:(0:Int)≤(j:Int):=by omega
       have hjl:j<ls.length:=by omega
       have c1:=(hbel.cell (p:=⟨gd,j,none⟩) hgd).trans (hcd j (by omega))
       have c2:=(hbw.cell (p:=⟨b,off+j,none⟩) hblt).trans (HC.out j hjl)
       have hd3:=HD3.out j
       have hgx:ls.getD j []=ls[j]:=by rw[List.getD_eq_getElem?_getD,List.getElem?_eq_getElem hjl];rfl
       have HNJ:Hid (ld (j+1)=ld j ++ [chainL j (ds.getD j 0) (ls.getD j []) (3 - ds.getD j 0)]):=HN.out j
       rw[hgx] at HNJ
       have hx32:=H32.out j hjl
       obtain⟨d,hd⟩:∃ d,d=ds.getD j 0:=⟨_,rfl⟩
       rw[←hd] at c1 hd3 HNJ
       obtain⟨x,hx⟩:∃ x,x=ls[j]:=⟨_,rfl⟩
       rw[←hx] at c2 HNJ hx32
       have K2:=l3Chain_any j d (3 - d) x wr.drew (by omega) (by omega) hx32
       have e3:((3 - d:Nat):Int)=3 - (d:Int):=by omega
       rw[e3] at K2
       obtain⟨y,hy⟩:∃ y,y=chainL j d x (3 - d):=⟨_,rfl⟩
       rw[←hy] at K2 HNJ
       have HO:=hidOwn hown
       have hbg:=own_base hown
       have hgl:=own_lt hown
       have HB:Hid (Below w1.heap.size w1 wr):=hbel
       have hgdw:gd<wr.heap.size:=Nat.lt_of_lt_of_le hgd hsz
       have hbtw:b<wr.heap.size:=Nat.lt_of_lt_of_le hblt hbw.size
       have hb1:b<w1.heap.size:=Nat.lt_of_lt_of_le hblt hs1
       have hd4:(d:Int)≤3:=by omega
       have hd0:(0:Int)≤(d:Int):=by omega
       have hwr:IntKind.i64.wrap (3 - (d:Int))=3 - (d:Int):=i64_wrap_small _ (by omega) (by omega)
       clear hy hx hown hcd hd hbel hbw hgx hx32 e3
       go_wp2_with fail
       go_region_held3 (fun w'=>w'.cell? ⟨gd,j,none⟩=some (.int .i64 (d:Int))∧w'.cell? ⟨b,off+j,none⟩=some (.string ⟨x.toArray⟩))
        (first | (exact⟨by assumption,by assumption⟩) | go_keep)
        (first
         | (go_at_call 116
            refine K2.mono ?_
            rintro e w3 ⟨rfl,b3⟩
            have b3':=below_undrewS b3
            have B3:=HB.out.trans (b3'.mono hsz)
            have hs3:=B3.size
            have hw3:wr.heap.size≤w3.heap.size:=b3'.size
            have hgd3:gd<w3.heap.size:=Nat.lt_of_lt_of_le hgdw hw3
            have hbt3:b<w3.heap.size:=Nat.lt_of_lt_of_le hbtw hw3
            have c3:=(b3'.cell (p:=⟨gd,j,none⟩) hgdw).trans c1
            have d3:=(b3'.cell (p:=⟨b,off+j,none⟩) hbtw).trans c2
            have O3:=hidOwn (keptS HO.out b3')
            have c3a:(w3.alloc (.cells #[.string ⟨y.toArray⟩] 9)).cell? ⟨gd,j,none⟩=some (.int .i64 (d:Int)):=by rw[World.cell?_alloc_lt _ _ _ hgd3];exact c3
            have d3a:(w3.alloc (.cells #[.string ⟨y.toArray⟩] 9)).cell? ⟨b,off+j,none⟩=some (.string ⟨x.toArray⟩):=by rw[World.cell?_alloc_lt _ _ _ hbt3];exact d3
            clear b3 b3')
         | (refine step_own rfl _ _ 22 rfl w1.heap.size 9 i0 (.string ⟨#[]⟩) 1 16 Tryz.underlying22 hi0 hz0 hz1 hz2 rfl (by decide) (.slice (some ⟨g, 0, none⟩) j cap1) j _ rfl (O3.out.alloc _) ⟨w3.heap.size, 0, none⟩ 1 1 [.string ⟨y.toArray⟩] rfl rfl (World.news_of_block (cs := #[.string ⟨y.toArray⟩]) (t := 9) (fr := (0, 0)) (heap_alloc_new w3 _)) (by simp [Value.oneCell']) (by unfold maxLen; omega) (by omega) (by simp; omega) ?_
            intro v4 w4 hown4 hgrow4 hnil4
            have hv4:∃ g4 cap4,v4=.slice (some ⟨g4,0,none⟩) (j+1) cap4:=own_shape hown4 (by rw[Ne,hnil4];simp)
            obtain⟨g4,cap4,rfl⟩:=hv4
            have B4:Below w1.heap.size w1 w4:=(B3.alloc hs3 _).grown hgrow4 (by simp;omega) (fun k hk=>by simp[Value.ownBlock] at hk;omega)
            have O4:Hid (w4.ownsRow w1.heap.size 9 1 (.slice (some ⟨g4,0,none⟩) (j+1) cap4) (j+1) (scells (ld (j+1)))):=by rw[Hid,HNJ.out,scells_snoc];exact hown4
            have c4:w4.cell? ⟨gd,j,none⟩=some (.int .i64 (d:Int)):=by rw[hgrow4.cell_far ⟨gd,j,none⟩ (by simp;omega) (by simp[Value.ownBlock];omega)];exact c3a
            have d4:w4.cell? ⟨b,off+j,none⟩=some (.string ⟨x.toArray⟩):=by rw[hgrow4.cell_far ⟨b,off+j,none⟩ (by simp;omega) (by simp[Value.ownBlock];omega)];exact d3a
            clear hgrow4 hown4 hnil4))
       all_goals
        go_wp2
        go_roundw
        case rel=>exact⟨j+1,g4,cap4,by omega,by go_num,rfl,O4.out,B4⟩
        case measure=>simp[intOf];omega
     · have hj19:j=19:=by omega
       subst hj19
       have K:=spec_tagged tOnce g cap1 (ld 19) w1.heap.size wr (by decide) (by rw[HLL.out,HF.out];omega) (by rw[HLL.out];exact hown)
       rw[←HP.out,HLL.out] at K
       clear hown hcd
       go_wp2_with fail
       refine K.mono ?_
       rintro e w2 ⟨rfl,b2⟩
       have B2:=hbw.trans (b2.mono hbw.size)
       go_wp2
       go_ret2
       exact⟨rfl,B2⟩
set_option maxRecDepth 100000 in
set_option maxHeartbeats 400000 in
theorem spec_publicOf_no (msg : List UInt8) (a : Option Addr) (cap : Nat) (ls : List (List UInt8)) (w : World) (hl : ls.length ≤ 1048576) (hm : ∀ l ∈ ls, l.length ≤ 1048576) (hno : ¬ (ls.length = 19 ∧ ∀ l ∈ ls, l.length = 32)) (hs : IsStrs w a ls) :
 Calls Tryz.prog 101 #[.string ⟨msg.toArray⟩,.slice a ls.length cap] w fun e w'=>e=.returned (.tuple #[.string ⟨#[]⟩,.bool false])∧w'=w:=by
 by_cases h19:ls.length=19
 · have HH : Hid (¬ ∀ l ∈ ls, l.length = 32) := fun h => hno ⟨h19, h⟩
   rcases hs with rfl | ⟨b,off,rfl,hc⟩
   · simp at h19
   have hm':∀ j (h:j<ls.length),ls[j].length≤1048576:=fun j h=>hm _ (List.getElem_mem _)
   have HL:Hid (ls.length=19):=h19
   rw[h19]
   clear hno hm hl h19
   go_enter Tryz.func101,Tryz.ntmps101
   go_wp2
   go_loop [6] (fun i=>∃ j:Nat,j≤19∧i=.int .i64 (j:Int)∧Hid (∀ l∈ls.take j,l.length=32)) (fun i=>19 - (intOf i).toNat)
   case atStart=>exact⟨0,Nat.zero_le _,rfl,by rw[Hid];simp⟩
   case round =>
    obtain⟨j,hj,rfl,HA⟩:=hrel
    by_cases hlt:j<19
    · have hjl:j<ls.length:=by rw[HL.out];exact hlt
      have c1:=hc j hjl
      have m1:=hm' j hjl
      have hj0:(0:Int)≤(j:Int):=by omega
      have hj1:(j:Int)<19:=by omega
      have HS:Hid (ls[j].length=32→∀ l∈ls.take (j+1),l.length=32):=fun h l hl=>by
       rw[List.take_succ_eq_append_getElem hjl,List.mem_append] at hl
       rcases hl with hl | hl
       · exact HA.out l hl
       · simp at hl;rw[hl];exact h
      obtain⟨x,hx⟩:∃ x,x=ls[j]:=⟨_,rfl⟩
      rw[←hx] at c1 m1 HS
      clear hc hm' hx HA
      by_cases hx32:x.length=32
      · have m2:(x.length:Int)=32:=by omega
        go_wp2
        go_round
        case rel=>exact⟨j+1,by omega,by go_num,HS.out hx32⟩
        case measure=>simp[intOf];omega
      · have m2:¬ (x.length:Int)=32:=by omega
        go_wp2
        go_ret2
        exact⟨rfl,rfl⟩
    · have hjl:j=19:=by omega
      subst hjl
      exact absurd (by have:=HA.out;rw[List.take_of_length_le (by rw[HL.out];omega)] at this;exact this) HH.out
 · have h19':¬ (ls.length:Int)=19:=by omega
   clear hno hs hm
   go_enter Tryz.func101,Tryz.ntmps101
   go_wp2
   go_ret2
   exact⟨rfl,rfl⟩
end Go.Proofs.YtllmclmcncolcaaGreatDoor
