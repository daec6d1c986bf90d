/-
 Contract: the model's ReadNode (written by mksrn.py).
-/
import Derived.Test.YtppljdnbhoeeoaaGreatDoorIReadAll
import Derived.Test.YtppljdnbhoeeoaaGreatDoorSNodeAll
import Derived.Laws.AppendOwnNone
namespace Go.Proofs.YtppljdnbhoeeoaaGreatDoor
open Go.RowKit
set_option linter.unusedVariables false
set_option maxHeartbeats 4000000
set_option maxRecDepth 100000
theorem zld {w:World} {b b':Nat} (z0 z1 z2 z3:Value) (h:b'≠b):((((w.setCell ⟨b,0,none⟩ z0).setCell ⟨b,1,none⟩ z1).setCell ⟨b,2,none⟩ z2).setCell ⟨b,3,none⟩ z3).heap[b']? = w.heap[b']? := by
 rw[Below.heap_setCell _ _ _ _ (by simpa using h),Below.heap_setCell _ _ _ _ (by simpa using h),Below.heap_setCell _ _ _ _ (by simpa using h),Below.heap_setCell _ _ _ _ (by simpa using h)]
theorem zle (w:World) (b:Nat) (z0 z1 z2 z3:Value):((((w.setCell ⟨b,0,none⟩ z0).setCell ⟨b,1,none⟩ z1).setCell ⟨b,2,none⟩ z2).setCell ⟨b,3,none⟩ z3).heap.size=w.heap.size:=by simp[World.setCell]
theorem zii (s:List UInt8) (ts:List (List UInt8)) (h:zbc s=some ts):za1 s=zd8 s (zcr ts):=by
 simp only[za1,h];exact (zzm s ts).symm
theorem zr7 (s:List UInt8) (w:World) (hl:s.length≤1048576) (h:zbc s=none∨∃ ts,zbc s=some ts∧¬ ts.length=17∧¬ ts.length=2) :
 Calls Tryz.prog 91 #[.string ⟨s.toArray⟩] w fun e w'=>zd3 w (za1 s) e w':=by
 obtain⟨i0,hi0,hz0,hz1,hz2⟩:=info_parts zdc
 have B0:Below w.heap.size w (w.alloc (.cells #[.int .i64 0,.string ⟨#[]⟩,.slice none 0 0,.string ⟨#[]⟩] 152)):=(Below.refl _ _).alloc (Nat.le_refl _) _
 have HQ:Hid ((w.alloc (.cells #[.int .i64 0,.string ⟨#[]⟩,.slice none 0 0,.string ⟨#[]⟩] 152)).heap[w.heap.size]? = some (.cells #[.int .i64 0,.string ⟨#[]⟩,.slice none 0 0,.string ⟨#[]⟩] 152 (0,0))):=heap_alloc_new w _
 have BX:Hid _:=B0
 have HL:Hid (w.heap.size<(w.alloc (.cells #[.int .i64 0,.string ⟨#[]⟩,.slice none 0 0,.string ⟨#[]⟩] 152)).heap.size):=by rw[Hid];simp
 have KT:=zhg s (w.alloc (.cells #[.int .i64 0,.string ⟨#[]⟩,.slice none 0 0,.string ⟨#[]⟩] 152)) hl
 obtain⟨o,ho⟩:∃ o,o=za1 s:=⟨_,rfl⟩
 rw[←ho]
 rcases h with ht | ⟨ts,ht,h17,h2⟩
 · rw[ht] at KT
   have HZ:Hid (o=none):=by rw[Hid,ho];simp only[za1,ht]
   clear ht ho B0
   go_enter Tryz.func91,Tryz.ntmps91
   go_wp2_with fail
   refine KT.mono ?_
   rintro e w1 ⟨rfl,b1⟩
   have B1:Hid _:=BX.out.trans (b1.mono BX.out.size)
   have Q1:Hid _:=(b1.block w.heap.size HL.out).trans HQ.out
   obtain⟨q0,q1,q2,q3,qf⟩:=zi Q1.out
   have qf0:=qf 0
   have qf1:=qf 1
   have qf2:=qf 2
   have qf3:=qf 3
   clear qf b1 KT
   go_wp2
   exact bodyPost_ret (v:=.tuple #[.agg #[.int .i64 0,.string ⟨#[]⟩,.slice none 0 0,.string ⟨#[]⟩],.bool false]) (zbz rfl _ _ w.heap.size 152 _ _ rfl (zb7 (.int .i64 0) (.string ⟨#[]⟩) (.slice none 0 0) (.string ⟨#[]⟩) Q1.out) Tryz.underlying152 rfl (by kernel_rfl) (.bool false) rfl) rfl (by rw[HZ.out];exact⟨none,0,0,rfl,World.ownsRow_nil _ _ _ _,zb5 B1.out (Nat.le_refl _) _ _ _ _⟩)
 · rw[ht] at KT
   have hts:=zgo s ts ht
   have HZ:Hid (o=none):=by rw[Hid,ho,zii s ts ht,zcr,if_neg h17,if_neg h2,zeo _ _ zko]
   have h17b:((ts.length:Int) == 17)=false:=by rw[beq_eq_false_iff_ne];omega
   have h2b:((ts.length:Int) == 2)=false:=by rw[beq_eq_false_iff_ne];omega
   have h17':¬ (ts.length:Int)=17:=by omega
   have h2':¬ (ts.length:Int)=2:=by omega
   have h17n:((ts.length:Int) != 17)=true:=by rw[bne_iff_ne];omega
   have h2n:((ts.length:Int) != 2)=true:=by rw[bne_iff_ne];omega
   have hln:ts.length≤1048576:=by omega
   clear ht ho B0 hts h17 h2
   go_enter Tryz.func91,Tryz.ntmps91
   go_wp2_with fail
   refine KT.mono ?_
   rintro e w1 ⟨a1,c1,rfl,o1,b1,hc1⟩
   have B1:Hid _:=BX.out.trans (b1.mono BX.out.size)
   have Q1:Hid _:=(b1.block w.heap.size HL.out).trans HQ.out
   have L1:Hid _:=Nat.lt_of_lt_of_le HL.out b1.size
   have I1:Hid _:=(zc8 o1).2.2
   have Q1z:Hid _:=(Below.heap_alloc w1 (.cells #[.int .i64 0,.string ⟨#[]⟩,.slice none 0 0,.string ⟨#[]⟩] 152) w.heap.size L1.out).trans Q1.out
   have R1z:Hid ((w1.alloc (.cells #[.int .i64 0,.string ⟨#[]⟩,.slice none 0 0,.string ⟨#[]⟩] 152)).heap[w1.heap.size]? = some (.cells #[.int .i64 0,.string ⟨#[]⟩,.slice none 0 0,.string ⟨#[]⟩] 152 (0,0))):=heap_alloc_new w1 _
   have B1z:Hid (Below w.heap.size w (w1.alloc (.cells #[.int .i64 0,.string ⟨#[]⟩,.slice none 0 0,.string ⟨#[]⟩] 152))):=B1.out.alloc B1.out.size _
   have Z1z:Hid ((w1.alloc (.cells #[.int .i64 0,.string ⟨#[]⟩,.slice none 0 0,.string ⟨#[]⟩] 152)).heap.size=w1.heap.size+1):=by rw[Hid];simp
   have BZ:Hid (Below w1.heap.size w1 (w1.alloc (.cells #[.int .i64 0,.string ⟨#[]⟩,.slice none 0 0,.string ⟨#[]⟩] 152))):=(Below.refl _ _).alloc (Nat.le_refl _) _
   clear KT o1 b1
   obtain⟨q0,q1,q2,q3,qf⟩:=zi Q1.out
   have qf0:=qf 0
   have qf1:=qf 1
   have qf2:=qf 2
   have qf3:=qf 3
   clear qf
   go_wp2
   exact bodyPost_ret (v:=.tuple #[.agg #[.int .i64 0,.string ⟨#[]⟩,.slice none 0 0,.string ⟨#[]⟩],.bool false]) (zbz rfl _ _ w.heap.size 152 _ _ rfl (zb7 (.int .i64 0) (.string ⟨#[]⟩) (.slice none 0 0) (.string ⟨#[]⟩) Q1.out) Tryz.underlying152 rfl (by kernel_rfl) (.bool false) rfl) rfl (by rw[HZ.out];exact⟨none,0,0,rfl,World.ownsRow_nil _ _ _ _,zb5 B1.out (Nat.le_refl _) _ _ _ _⟩)
theorem za23 (s : List UInt8) (ts : List (List UInt8)) (k : Int) (p : List UInt8) (ls : List (List UInt8)) (v : List UInt8) (w : World) (hl : s.length ≤ 1048576) (ht : zbc s = some ts) (h17 : ts.length = 17) (hnd : zcr ts = ⟨k, p, ls, v⟩) :
 Calls Tryz.prog 91 #[.string ⟨s.toArray⟩] w fun e w'=>zd3 w (za1 s) e w':=by
 have hnd2:(⟨3,[],ts.take 16,ts.getD 16 []⟩:NodeL)=⟨k,p,ls,v⟩:=by rw[←hnd,zcr,if_pos h17]
 obtain⟨i0,hi0,hz0,hz1,hz2⟩:=info_parts zdc
 have B0:Below w.heap.size w (w.alloc (.cells #[.int .i64 0,.string ⟨#[]⟩,.slice none 0 0,.string ⟨#[]⟩] 152)):=(Below.refl _ _).alloc (Nat.le_refl _) _
 have HQ:Hid ((w.alloc (.cells #[.int .i64 0,.string ⟨#[]⟩,.slice none 0 0,.string ⟨#[]⟩] 152)).heap[w.heap.size]? = some (.cells #[.int .i64 0,.string ⟨#[]⟩,.slice none 0 0,.string ⟨#[]⟩] 152 (0,0))):=heap_alloc_new w _
 have BX:Hid _:=B0
 have HL:Hid (w.heap.size<(w.alloc (.cells #[.int .i64 0,.string ⟨#[]⟩,.slice none 0 0,.string ⟨#[]⟩] 152)).heap.size):=by rw[Hid];simp
 have KT:=zhg s (w.alloc (.cells #[.int .i64 0,.string ⟨#[]⟩,.slice none 0 0,.string ⟨#[]⟩] 152)) hl
 have hts:=zgo s ts ht
 have HSM:ze9 ⟨k,p,ls,v⟩:=by rw[←hnd];exact (zkp ts hts.2).2
 have HOK:Hid (za1 s=zd8 s ⟨k,p,ls,v⟩):=by rw[Hid,←hnd];exact zii s ts ht
 obtain⟨o,ho⟩:∃ o,o=za1 s:=⟨_,rfl⟩
 rw[←ho] at HOK ⊢
 rw[ht] at KT
 have hls:=HSM.2.2.1
 have HKT:Hid (∀ W a c,zt W a ls→Calls Tryz.prog 123 #[.agg #[.int .i64 k,.string ⟨p.toArray⟩,.slice a ls.length c,.string ⟨v.toArray⟩]] W fun e w'=>e=.returned (.tuple #[.string ⟨(zbn k p ls v).toArray⟩,.bool (zba k p ls v)])∧Below W.heap.size W w'):=fun W a c h=>zr6 k p a c ls v W HSM.1 HSM.2.1 HSM.2.2.1 HSM.2.2.2 h
 have HK1:Hid (zba k p ls v=true→zbn k p ls v=s→o=some ⟨k,p,ls,v⟩):=fun h1 h2=>by rw[HOK.out];exact zkm s _ h1 h2
 have HK2:Hid (zba k p ls v=false→o=none):=fun h1=>by rw[HOK.out];exact zeo s _ h1
 have HK3:Hid (¬ zbn k p ls v=s→o=none):=fun h1=>by rw[HOK.out];exact zkn s _ h1
 obtain⟨tx,htx⟩:∃ tx,tx=zbn k p ls v:=⟨_,rfl⟩
 obtain⟨ok,hok⟩:∃ ok,ok=zba k p ls v:=⟨_,rfl⟩
 rw[←htx,←hok] at HKT
 rw[←hok] at HK1 HK2
 rw[←htx] at HK1 HK3
 clear htx hok HOK ho B0 hnd HSM
 have HN:Hid _:=h17
 have HAT : Hid (∀ W a, zt W a ts → ∃ b off, a = some ⟨b, off, none⟩ ∧ W.cell? ⟨b, off + 16, none⟩ = some (.string ⟨v.toArray⟩) ∧ zt W (some ⟨b, off, none⟩) ls) := fun W a h => by
  injection hnd2 with e1 e2 e3 e4
  subst e3 e4
  rcases h with h | ⟨b,off,h1,h3⟩
  · rw[h] at h17;simp at h17
  · refine⟨b,off,h1,?_,.inr ⟨b,off,rfl,fun j hj=>?_⟩⟩
    · rw[h3 16 (by omega)];simp[List.getD,List.getElem?_eq_getElem (show 16<ts.length by omega)]
    · rw[List.length_take] at hj
      rw[h3 j (by omega),List.getElem_take]
 have HKP:Hid (k=3∧p=[]∧ls.length=16):=by
  injection hnd2 with e1 e2 e3 e4
  rw[Hid,←e1,←e2,←e3,List.length_take]
  exact⟨rfl,rfl,by omega⟩
 clear hnd2 hts h17 ht
 go_enter Tryz.func91,Tryz.ntmps91
 go_wp2_with fail
 refine KT.mono ?_
 rintro e w1 ⟨a1,c1,rfl,o1,b1,hc1⟩
 have B1:Hid _:=BX.out.trans (b1.mono BX.out.size)
 have Q1:Hid _:=(b1.block w.heap.size HL.out).trans HQ.out
 have L1:Hid (w.heap.size<w1.heap.size):=Nat.lt_of_lt_of_le HL.out b1.size
 have I1:Hid (zt w1 a1 ts):=(zc8 o1).2.2
 have Q1z:Hid ((w1.alloc (.cells #[.int .i64 0,.string ⟨#[]⟩,.slice none 0 0,.string ⟨#[]⟩] 152)).heap[w.heap.size]? = some (.cells #[.int .i64 0,.string ⟨#[]⟩,.slice none 0 0,.string ⟨#[]⟩] 152 (0,0))):=(Below.heap_alloc w1 (.cells #[.int .i64 0,.string ⟨#[]⟩,.slice none 0 0,.string ⟨#[]⟩] 152) w.heap.size L1.out).trans Q1.out
 have R1z:Hid ((w1.alloc (.cells #[.int .i64 0,.string ⟨#[]⟩,.slice none 0 0,.string ⟨#[]⟩] 152)).heap[w1.heap.size]? = some (.cells #[.int .i64 0,.string ⟨#[]⟩,.slice none 0 0,.string ⟨#[]⟩] 152 (0,0))):=heap_alloc_new w1 _
 have B1z:Hid (Below w.heap.size w (w1.alloc (.cells #[.int .i64 0,.string ⟨#[]⟩,.slice none 0 0,.string ⟨#[]⟩] 152))):=B1.out.alloc B1.out.size _
 have Z1z:Hid ((w1.alloc (.cells #[.int .i64 0,.string ⟨#[]⟩,.slice none 0 0,.string ⟨#[]⟩] 152)).heap.size=w1.heap.size+1):=by rw[Hid];simp
 have BZ:Hid (Below w1.heap.size w1 (w1.alloc (.cells #[.int .i64 0,.string ⟨#[]⟩,.slice none 0 0,.string ⟨#[]⟩] 152))):=(Below.refl _ _).alloc (Nat.le_refl _) _
 clear KT o1 b1
 obtain⟨b,off,rfl,c0,i1⟩:=HAT.out _ _ (zay I1.out BZ.out)
 have hcb:(17:Int)≤(c1:Int):=by have:=HN.out;omega
 have hc16:(16:Int)≤(c1:Int):=by omega
 rw[HN.out]
 go_upto_if 33 with fail
 go_cut [7,8,9] from 34 (fun _ _ _ wx=>∃ (a:Option Addr) (c:Nat),Hid (wx.heap[w.heap.size]? = some (.cells #[.int .i64 0,.string ⟨#[]⟩,.slice none 0 0,.string ⟨#[]⟩] 152 (0,0)))∧Hid (wx.heap[w1.heap.size]? = some (.cells #[.int .i64 k,.string ⟨p.toArray⟩,.slice a ls.length c,.string ⟨v.toArray⟩] 152 (0,0)))∧Hid (zt wx a ls)∧Hid (Below w.heap.size w wx)∧Hid (w1.heap.size<wx.heap.size)∧Hid ((a=none∧ls=[]∧c=0)∨∃ b off,a=some ⟨b,off,none⟩))
 case first =>
  have c0z:w1.cell? ⟨b,off+16,none⟩=some (.string ⟨v.toArray⟩):=by obtain⟨b',off',he,h,_⟩:=HAT.out _ _ I1.out;cases he;exact h
  have i0w:Hid (zt w1 (some ⟨b,off,none⟩) ls):=by obtain⟨b',off',he,_,h⟩:=HAT.out _ _ I1.out;cases he;exact h
  have hbb:b<w1.heap.size:=World.block_lt_of_cell? w1 _ c0z
  have hbw:¬ b=w1.heap.size:=by omega
  have hbw2:¬ w1.heap.size=b:=by omega
  obtain⟨q0,q1,q2,q3,qf⟩:=zi R1z.out
  have qf0:=qf 0
  have qf1:=qf 1
  have qf2:=qf 2
  have qf3:=qf 3
  clear qf HKT HK1 HK2 HK3
  go_wp2_with fail
  go_region
  all_goals
   go_wp2_with fail
   go_meet
   case rel =>
    have hk:=HKP.out
    have e16:=hk.2.2
    have ek:=hk.1
    have ep:=hk.2.1
    subst ek ep
    exact⟨some ⟨b,off,none⟩,c1,(Below.heap_alloc w1 _ w.heap.size L1.out).trans Q1.out,by rw[Hid,e16];exact heap_alloc_new w1 _,zay i0w.out (zd2 ((Below.refl _ _).alloc (Nat.le_refl _) _)),zd2 (B1.out.alloc B1.out.size _),by rw[Hid];show w1.heap.size<(w1.alloc _).heap.size;simp,.inr ⟨b,off,rfl⟩⟩
 case rest =>
  obtain⟨a,c,HQc,HRc,HIc,HBc,HLc,HAc⟩:=hcut
  obtain⟨r0,r1,r2,r3,rf⟩:=zi HRc.out
  clear rf
  go_wp2_with fail
  refine (HKT.out _ a c HIc.out).mono ?_
  rintro e w3 ⟨rfl,b3⟩
  have B3:Hid _:=HBc.out.trans (b3.mono HBc.out.size)
  have Q3:Hid _:=(b3.block w.heap.size (Nat.lt_trans L1.out HLc.out)).trans HQc.out
  have R3:Hid _:=(b3.block w1.heap.size HLc.out).trans HRc.out
  have I3:Hid _:=zay HIc.out b3
  have L3b:Hid _:=Nat.lt_of_lt_of_le HLc.out b3.size
  have L3:Hid _:=Nat.lt_trans L1.out L3b.out
  clear r0 r1 r2 r3 b3 HQc HRc HIc HBc HLc HKT
  obtain⟨q0,q1,q2,q3,qf⟩:=zi Q3.out
  have qf0:=qf 0
  have qf1:=qf 1
  have qf2:=qf 2
  have qf3:=qf 3
  obtain⟨r0,r1,r2,r3,rf⟩:=zi R3.out
  have rf0:=rf 0
  have rf1:=rf 1
  have rf2:=rf 2
  have rf3:=rf 3
  clear qf rf
  cases ok with
  | false =>
    have HZ:Hid _:=HK2.out rfl
    clear HK1 HK2 HK3 HAc
    go_wp2
    exact bodyPost_ret (v:=.tuple #[.agg #[.int .i64 0,.string ⟨#[]⟩,.slice none 0 0,.string ⟨#[]⟩],.bool false]) (zbz rfl _ _ w.heap.size 152 _ _ rfl (zb7 (.int .i64 0) (.string ⟨#[]⟩) (.slice none 0 0) (.string ⟨#[]⟩) Q3.out) Tryz.underlying152 rfl (by kernel_rfl) (.bool false) rfl) rfl (by rw[HZ.out];exact⟨none,0,0,rfl,World.ownsRow_nil _ _ _ _,zb5 B3.out (Nat.le_refl _) _ _ _ _⟩)
  | true =>
    by_cases hts:tx=s
    · subst hts
      have HZ:Hid _:=HK1.out rfl rfl
      clear HK1 HK2 HK3
      have hw01:¬ w.heap.size=w1.heap.size:=by have:=L1.out;omega
      have hw10:¬ w1.heap.size=w.heap.size:=by have:=L1.out;omega
      rcases HAc.out with ⟨rfl,hle,rfl⟩ | ⟨b,off,rfl⟩
      · subst hle
        simp only[List.length_nil] at R3 r0 r1 r2 r3
        clear HAc I3
        have QA:Hid _:=(Below.heap_alloc w3 (.cells #[] 9) w.heap.size L3.out).trans Q3.out
        have RA:Hid _:=(Below.heap_alloc w3 (.cells #[] 9) w1.heap.size L3b.out).trans R3.out
        have B3A:Hid (Below w.heap.size w (w3.alloc (.cells #[] 9))):=B3.out.alloc B3.out.size _
        have O3:Hid ((w3.alloc (.cells #[] 9)).ownsRow w.heap.size 9 1 (.slice (some ⟨w3.heap.size,0,none⟩) 0 0) 0 []):=World.ownsRow_lit (e:=9) (size:=1) w3 #[] 0 (base:=w.heap.size) (by have:=L3.out;omega) (Nat.zero_le _) rfl
        obtain⟨x0,x1,x2,x3,xf⟩:=zi QA.out
        have xf0:=xf 0
        have xf1:=xf 1
        have xf2:=xf 2
        have xf3:=xf 3
        obtain⟨y0,y1,y2,y3,yf⟩:=zi RA.out
        have yf0:=yf 0
        have yf1:=yf 1
        have yf2:=yf 2
        have yf3:=yf 3
        clear xf yf q0 q1 q2 q3 qf0 qf1 qf2 qf3 r0 r1 r2 r3 rf0 rf1 rf2 rf3
        go_wp2_with (at_builtin;refine wpList_append_own_none _ rfl _ _ 138 rfl w.heap.size 9 i0 1 Tryz.underlying138 hi0 (.slice (some ⟨w3.heap.size,0,none⟩) 0 0) 0 [] rfl O3.out rfl ?_)
        have yq:=zb7 (.int .i64 k) (.string ⟨p.toArray⟩) (.slice (some ⟨w3.heap.size,0,none⟩) 0 0) (.string ⟨v.toArray⟩) ((Below.heap_setCell (w3.alloc (.cells #[] 9)) ⟨w1.heap.size,2,none⟩ (.slice (some ⟨w3.heap.size,0,none⟩) 0 0) w.heap.size (by have:=L1.out;simp;omega)).trans QA.out)
        have hne:(Value.slice (some ⟨w3.heap.size,0,none⟩) 0 0).ownBlock≠some w.heap.size:=by simp[Value.ownBlock];have:=L3.out;omega
        have hne1:(Value.slice (some ⟨w3.heap.size,0,none⟩) 0 0).ownBlock≠some w1.heap.size:=by simp[Value.ownBlock];have:=L3b.out;omega
        exact bodyPost_ret (v:=.tuple #[.agg #[.int .i64 k,.string ⟨p.toArray⟩,.slice (some ⟨w3.heap.size,0,none⟩) 0 0,.string ⟨v.toArray⟩],.bool true]) (zbz rfl _ _ w.heap.size 152 _ _ rfl yq Tryz.underlying152 rfl (by kernel_rfl) (.bool true) rfl) rfl (by rw[HZ.out];exact⟨some ⟨w3.heap.size,0,none⟩,0,0,rfl,ze2 (ownsRow_setCell_other (a:=⟨w1.heap.size,2,none⟩) O3.out hne1 _) hne _ _ _ _,zb5 (B3A.out.setCell (by have:=L1.out;show w.heap.size≤w1.heap.size;omega) _) (Nat.le_refl _) _ _ _ _⟩)
      · clear HAc
        have QA:Hid _:=(Below.heap_alloc w3 (.cells #[] 9) w.heap.size L3.out).trans Q3.out
        have RA:Hid _:=(Below.heap_alloc w3 (.cells #[] 9) w1.heap.size L3b.out).trans R3.out
        have B3A:Hid (Below w.heap.size w (w3.alloc (.cells #[] 9))):=B3.out.alloc B3.out.size _
        have O3:Hid ((w3.alloc (.cells #[] 9)).ownsRow w3.heap.size 9 1 (.slice (some ⟨w3.heap.size,0,none⟩) 0 0) 0 []):=World.ownsRow_lit (e:=9) (size:=1) w3 #[] 0 (base:=w3.heap.size) (by have:=L3.out;omega) (Nat.zero_le _) rfl
        have FA:Hid (∀ j u,(zh ls)[j]? = some u→(w3.alloc (.cells #[] 9)).cell? ((⟨b,off,none⟩:Addr).add j)=some u):=zf7 (zay I3.out ((Below.refl _ _).alloc (Nat.le_refl _) _))
        obtain⟨x0,x1,x2,x3,xf⟩:=zi QA.out
        have xf0:=xf 0
        have xf1:=xf 1
        have xf2:=xf 2
        have xf3:=xf 3
        obtain⟨y0,y1,y2,y3,yf⟩:=zi RA.out
        have yf0:=yf 0
        have yf1:=yf 1
        have yf2:=yf 2
        have yf3:=yf 3
        clear xf yf q0 q1 q2 q3 qf0 qf1 qf2 qf3 r0 r1 r2 r3 rf0 rf1 rf2 rf3
        go_wp2_with (at_builtin;refine wpList_append_own _ rfl _ _ 138 rfl w3.heap.size 9 i0 (.string ⟨#[]⟩) 1 16 Tryz.underlying138 hi0 hz0 hz1 hz2 rfl (by decide) (.slice (some ⟨w3.heap.size,0,none⟩) 0 0) 0 [] rfl O3.out ⟨b,off,none⟩ ls.length c (zh ls) rfl (by rw[zem,Nat.mul_one]) FA.out (zhe _) (by unfold maxLen;omega) (by omega) (by simp) ?_;intro v4 w4 hown4 hgrow4 hnil4;obtain⟨a4,m4,c4,rfl⟩:=zdu hown4;have Q4:Hid (w4.heap[w.heap.size]? = some (.cells #[.int .i64 0,.string ⟨#[]⟩,.slice none 0 0,.string ⟨#[]⟩] 152 (0,0))):=(hgrow4.block w.heap.size (by simp;have:=L3.out;omega) (by simp[Value.ownBlock];have:=L3.out;omega)).trans QA.out;have R4:Hid (w4.heap[w1.heap.size]? = some (.cells #[.int .i64 k,.string ⟨p.toArray⟩,.slice (some ⟨b,off,none⟩) ls.length c,.string ⟨v.toArray⟩] 152 (0,0))):=(hgrow4.block w1.heap.size (by simp;have:=L3b.out;omega) (by simp[Value.ownBlock];have:=L3b.out;omega)).trans RA.out;obtain⟨s0,s1,s2,s3,sf⟩:=zi Q4.out;obtain⟨u0,u1,u2,u3,uf⟩:=zi R4.out;have sf0:=sf 0;have sf1:=sf 1;have sf2:=sf 2;have sf3:=sf 3;have uf2:=uf 2;have B4:Hid (Below w.heap.size w w4):=B3A.out.grown hgrow4 (by simp;have:=L3.out;omega) (fun k hk=>(by simp[Value.ownBlock] at hk;have:=L3.out;omega));have O4:Hid (w4.ownsRow w3.heap.size 9 1 (.slice a4 m4 c4) ls.length (zh ls)):=(by rw[Hid];simpa using hown4);clear sf uf hown4 hgrow4 hnil4)
        have yq:=zb7 (.int .i64 k) (.string ⟨p.toArray⟩) (.slice a4 m4 c4) (.string ⟨v.toArray⟩) ((Below.heap_setCell w4 ⟨w1.heap.size,2,none⟩ (.slice a4 m4 c4) w.heap.size (by have:=L1.out;simp;omega)).trans Q4.out)
        have hne:(Value.slice a4 m4 c4).ownBlock≠some w.heap.size:=fun h=>by have:=(O4.out.lt _ h).1;have:=L3.out;omega
        have hne1:(Value.slice a4 m4 c4).ownBlock≠some w1.heap.size:=fun h=>by have:=(O4.out.lt _ h).1;have:=L3b.out;omega
        exact bodyPost_ret (v:=.tuple #[.agg #[.int .i64 k,.string ⟨p.toArray⟩,.slice a4 m4 c4,.string ⟨v.toArray⟩],.bool true]) (zbz rfl _ _ w.heap.size 152 _ _ rfl yq Tryz.underlying152 rfl (by kernel_rfl) (.bool true) rfl) rfl (by rw[HZ.out];exact⟨a4,m4,c4,rfl,(ze2 (ownsRow_setCell_other (a:=⟨w1.heap.size,2,none⟩) O4.out hne1 _) hne _ _ _ _).mono (by have:=L3.out;omega),zb5 (B4.out.setCell (by have:=L1.out;show w.heap.size≤w1.heap.size;omega) _) (Nat.le_refl _) _ _ _ _⟩)
    · have HZ:Hid _:=HK3.out hts
      have htb:(tx == s)=false:=by rw[beq_eq_false_iff_ne];exact hts
      clear HK1 HK2 HK3 HAc
      go_wp2
      exact bodyPost_ret (v:=.tuple #[.agg #[.int .i64 0,.string ⟨#[]⟩,.slice none 0 0,.string ⟨#[]⟩],.bool false]) (zbz rfl _ _ w.heap.size 152 _ _ rfl (zb7 (.int .i64 0) (.string ⟨#[]⟩) (.slice none 0 0) (.string ⟨#[]⟩) Q3.out) Tryz.underlying152 rfl (by kernel_rfl) (.bool false) rfl) rfl (by rw[HZ.out];exact⟨none,0,0,rfl,World.ownsRow_nil _ _ _ _,zb5 B3.out (Nat.le_refl _) _ _ _ _⟩)
theorem za24 (s : List UInt8) (ts : List (List UInt8)) (k : Int) (p : List UInt8) (ls : List (List UInt8)) (v y : List UInt8) (leaf : Bool) (w : World) (hl : s.length ≤ 1048576) (ht : zbc s = some ts) (h2 : ts.length = 2) (hrd : zd4 (ts.getD 0 []) = some (y, leaf)) (hnd : zcr ts = ⟨k, p, ls, v⟩) :
 Calls Tryz.prog 91 #[.string ⟨s.toArray⟩] w fun e w'=>zd3 w (za1 s) e w':=by
 have hnd2:zck (ts.getD 1 []) (some (y,leaf))=⟨k,p,ls,v⟩:=by rw[←hnd,zcr,if_neg (by omega),if_pos h2,hrd]
 obtain⟨i0,hi0,hz0,hz1,hz2⟩:=info_parts zdc
 have B0:Below w.heap.size w (w.alloc (.cells #[.int .i64 0,.string ⟨#[]⟩,.slice none 0 0,.string ⟨#[]⟩] 152)):=(Below.refl _ _).alloc (Nat.le_refl _) _
 have HQ:Hid ((w.alloc (.cells #[.int .i64 0,.string ⟨#[]⟩,.slice none 0 0,.string ⟨#[]⟩] 152)).heap[w.heap.size]? = some (.cells #[.int .i64 0,.string ⟨#[]⟩,.slice none 0 0,.string ⟨#[]⟩] 152 (0,0))):=heap_alloc_new w _
 have BX:Hid _:=B0
 have HL:Hid (w.heap.size<(w.alloc (.cells #[.int .i64 0,.string ⟨#[]⟩,.slice none 0 0,.string ⟨#[]⟩] 152)).heap.size):=by rw[Hid];simp
 have KT:=zhg s (w.alloc (.cells #[.int .i64 0,.string ⟨#[]⟩,.slice none 0 0,.string ⟨#[]⟩] 152)) hl
 have hts:=zgo s ts ht
 have HSM:ze9 ⟨k,p,ls,v⟩:=by rw[←hnd];exact (zkp ts hts.2).2
 have HOK:Hid (za1 s=zd8 s ⟨k,p,ls,v⟩):=by rw[Hid,←hnd];exact zii s ts ht
 obtain⟨o,ho⟩:∃ o,o=za1 s:=⟨_,rfl⟩
 rw[←ho] at HOK ⊢
 rw[ht] at KT
 have hls:=HSM.2.2.1
 have HKT:Hid (∀ W a c,zt W a ls→Calls Tryz.prog 123 #[.agg #[.int .i64 k,.string ⟨p.toArray⟩,.slice a ls.length c,.string ⟨v.toArray⟩]] W fun e w'=>e=.returned (.tuple #[.string ⟨(zbn k p ls v).toArray⟩,.bool (zba k p ls v)])∧Below W.heap.size W w'):=fun W a c h=>zr6 k p a c ls v W HSM.1 HSM.2.1 HSM.2.2.1 HSM.2.2.2 h
 have HK1:Hid (zba k p ls v=true→zbn k p ls v=s→o=some ⟨k,p,ls,v⟩):=fun h1 h2=>by rw[HOK.out];exact zkm s _ h1 h2
 have HK2:Hid (zba k p ls v=false→o=none):=fun h1=>by rw[HOK.out];exact zeo s _ h1
 have HK3:Hid (¬ zbn k p ls v=s→o=none):=fun h1=>by rw[HOK.out];exact zkn s _ h1
 obtain⟨tx,htx⟩:∃ tx,tx=zbn k p ls v:=⟨_,rfl⟩
 obtain⟨ok,hok⟩:∃ ok,ok=zba k p ls v:=⟨_,rfl⟩
 rw[←htx,←hok] at HKT
 rw[←hok] at HK1 HK2
 rw[←htx] at HK1 HK3
 clear htx hok HOK ho B0 hnd HSM
 have HN:Hid _:=h2
 have hxl:=zep ts hts.2 0
 have HAT:Hid (∀ W a,zt W a ts→∃ b off,a=some ⟨b,off,none⟩∧W.cell? ⟨b,off,none⟩=some (.string ⟨(ts.getD 0 []).toArray⟩)∧W.cell? ⟨b,off+1,none⟩=some (.string ⟨(ts.getD 1 []).toArray⟩)):=fun W a h=>by
  obtain⟨b,off,h1,h3⟩:=zf9 h 0 (by omega)
  exact⟨b,off,h1,h3 0 (by omega),h3 1 (by omega)⟩
 have HKR:=fun W=>zof (ts.getD 0 []) W hxl
 rw[hrd] at HKR
 obtain⟨x,hx⟩:∃ x,x=ts.getD 0 []:=⟨_,rfl⟩
 obtain⟨t,htt⟩:∃ t,t=ts.getD 1 []:=⟨_,rfl⟩
 rw[←hx] at HAT HKR
 rw[←htt] at HAT hnd2
 have HND:Hid _:=hnd2
 clear hnd2 hts h2 ht hx htt hrd hxl
 go_enter Tryz.func91,Tryz.ntmps91
 go_wp2_with fail
 refine KT.mono ?_
 rintro e w1 ⟨a1,c1,rfl,o1,b1,hc1⟩
 have B1:Hid _:=BX.out.trans (b1.mono BX.out.size)
 have Q1:Hid _:=(b1.block w.heap.size HL.out).trans HQ.out
 have L1:Hid (w.heap.size<w1.heap.size):=Nat.lt_of_lt_of_le HL.out b1.size
 have I1:Hid (zt w1 a1 ts):=(zc8 o1).2.2
 have Q1z:Hid ((w1.alloc (.cells #[.int .i64 0,.string ⟨#[]⟩,.slice none 0 0,.string ⟨#[]⟩] 152)).heap[w.heap.size]? = some (.cells #[.int .i64 0,.string ⟨#[]⟩,.slice none 0 0,.string ⟨#[]⟩] 152 (0,0))):=(Below.heap_alloc w1 (.cells #[.int .i64 0,.string ⟨#[]⟩,.slice none 0 0,.string ⟨#[]⟩] 152) w.heap.size L1.out).trans Q1.out
 have R1z:Hid ((w1.alloc (.cells #[.int .i64 0,.string ⟨#[]⟩,.slice none 0 0,.string ⟨#[]⟩] 152)).heap[w1.heap.size]? = some (.cells #[.int .i64 0,.string ⟨#[]⟩,.slice none 0 0,.string ⟨#[]⟩] 152 (0,0))):=heap_alloc_new w1 _
 have B1z:Hid (Below w.heap.size w (w1.alloc (.cells #[.int .i64 0,.string ⟨#[]⟩,.slice none 0 0,.string ⟨#[]⟩] 152))):=B1.out.alloc B1.out.size _
 have Z1z:Hid ((w1.alloc (.cells #[.int .i64 0,.string ⟨#[]⟩,.slice none 0 0,.string ⟨#[]⟩] 152)).heap.size=w1.heap.size+1):=by rw[Hid];simp
 have BZ:Hid (Below w1.heap.size w1 (w1.alloc (.cells #[.int .i64 0,.string ⟨#[]⟩,.slice none 0 0,.string ⟨#[]⟩] 152))):=(Below.refl _ _).alloc (Nat.le_refl _) _
 clear KT o1 b1
 obtain⟨b,off,rfl,c0,d0⟩:=HAT.out _ _ (zay I1.out BZ.out)
 have HD1:Hid (w1.cell? ⟨b,off+1,none⟩=some (.string ⟨t.toArray⟩)):=by obtain⟨b',off',he,_,h⟩:=HAT.out _ _ I1.out;cases he;exact h
 rw[HN.out]
 go_upto_if 33 with fail
 go_cut [7,8,9] from 34 (fun _ _ _ wx=>∃ (a:Option Addr) (c:Nat),Hid (wx.heap[w.heap.size]? = some (.cells #[.int .i64 0,.string ⟨#[]⟩,.slice none 0 0,.string ⟨#[]⟩] 152 (0,0)))∧Hid (wx.heap[w1.heap.size]? = some (.cells #[.int .i64 k,.string ⟨p.toArray⟩,.slice a ls.length c,.string ⟨v.toArray⟩] 152 (0,0)))∧Hid (zt wx a ls)∧Hid (Below w.heap.size w wx)∧Hid (w1.heap.size<wx.heap.size)∧Hid ((a=none∧ls=[]∧c=0)∨∃ b off,a=some ⟨b,off,none⟩))
 case first =>
  clear HKT HK1 HK2 HK3
  go_wp2_with fail
  refine (HKR _).mono ?_
  rintro e w2 ⟨rfl,b2⟩
  have B2:Hid (Below w.heap.size w w2):=B1z.out.trans (b2.mono B1z.out.size)
  have Q2:Hid (w2.heap[w.heap.size]? = some (.cells #[.int .i64 0,.string ⟨#[]⟩,.slice none 0 0,.string ⟨#[]⟩] 152 (0,0))):=(b2.block w.heap.size (by have:=Z1z.out;have:=L1.out;omega)).trans Q1z.out
  have R2:Hid (w2.heap[w1.heap.size]? = some (.cells #[.int .i64 0,.string ⟨#[]⟩,.slice none 0 0,.string ⟨#[]⟩] 152 (0,0))):=(b2.block w1.heap.size (by have:=Z1z.out;omega)).trans R1z.out
  have L2:Hid (w1.heap.size<w2.heap.size):=Nat.lt_of_lt_of_le (by have:=Z1z.out;omega) b2.size
  have BW:Below w1.heap.size w1 w2:=BZ.out.trans (b2.mono (by have:=Z1z.out;omega))
  have d2:=(BW.cell (p:=⟨b,off+1,none⟩) (World.block_lt_of_cell? w1 _ HD1.out)).trans HD1.out
  have QT:Hid ((w2.alloc (.cells #[.string ⟨t.toArray⟩] 9)).heap[w.heap.size]? = some (.cells #[.int .i64 0,.string ⟨#[]⟩,.slice none 0 0,.string ⟨#[]⟩] 152 (0,0))):=(Below.heap_alloc w2 (.cells #[.string ⟨t.toArray⟩] 9) w.heap.size (by have:=L2.out;have:=L1.out;omega)).trans Q2.out
  have RT:Hid ((w2.alloc (.cells #[.string ⟨t.toArray⟩] 9)).heap[w1.heap.size]? = some (.cells #[.int .i64 0,.string ⟨#[]⟩,.slice none 0 0,.string ⟨#[]⟩] 152 (0,0))):=(Below.heap_alloc w2 (.cells #[.string ⟨t.toArray⟩] 9) w1.heap.size L2.out).trans R2.out
  have ZT:Hid (w1.heap.size<(w2.alloc (.cells #[.string ⟨t.toArray⟩] 9)).heap.size):=by rw[Hid];simp;have:=L2.out;omega
  have BT:Hid (Below w.heap.size w (w2.alloc (.cells #[.string ⟨t.toArray⟩] 9))):=B2.out.alloc B2.out.size _
  have d3:(w2.alloc (.cells #[.string ⟨t.toArray⟩] 9)).cell? ⟨b,off+1,none⟩=some (.string ⟨t.toArray⟩):=(World.cell?_alloc_lt _ _ _ (World.block_lt_of_cell? w2 _ d2)).trans d2
  have hbb:b<w1.heap.size:=World.block_lt_of_cell? w1 _ HD1.out
  have hbw:¬ b=w1.heap.size:=by omega
  have hbw2:¬ w1.heap.size=b:=by omega
  obtain⟨q0,q1,q2,q3,qf⟩:=zi RT.out
  have qf0:=qf 0
  have qf1:=qf 1
  have qf2:=qf 2
  have qf3:=qf 3
  simp only[rdV]
  clear qf b2 c0 d0 BW
  cases leaf with
  | true =>
    have HE:Hid (k=1∧p=y∧ls=[]∧v=t):=by
     have h:=HND.out
     simp only[zck,if_true] at h
     injection h with e1 e2 e3 e4
     exact⟨e1.symm,e2.symm,e3.symm,e4.symm⟩
    go_wp2_with fail
    go_meet
    case rel =>
     obtain⟨e1,e2,e3,e4⟩:=HE.out
     subst e1 e2 e3 e4
     exact⟨none,0,(zld _ _ _ _ (Nat.ne_of_lt L1.out)).trans ((zld _ _ _ _ (Nat.ne_of_lt L1.out)).trans QT.out),zb7 _ _ _ _ (zb7 _ _ _ _ RT.out),.inl rfl,zb5 (zb5 BT.out (Nat.le_of_lt L1.out) _ _ _ _) (Nat.le_of_lt L1.out) _ _ _ _,by rw[Hid,zle,zle];exact ZT.out,.inl ⟨rfl,rfl,rfl⟩⟩
  | false =>
    have HE:Hid (k=2∧p=y∧ls=[t]∧v=[]):=by
     have h:=HND.out
     simp only[zck] at h
     injection h with e1 e2 e3 e4
     exact⟨e1.symm,e2.symm,e3.symm,e4.symm⟩
    go_wp2_with fail
    go_meet
    case rel =>
     obtain⟨e1,e2,e3,e4⟩:=HE.out
     subst e1 e2 e3 e4
     exact⟨some ⟨w2.heap.size,0,none⟩,1,(zld _ _ _ _ (Nat.ne_of_lt L1.out)).trans QT.out,zb7 _ _ _ _ RT.out,(zc8 (ze2 (World.ownsRow_lit (e:=9) (size:=1) w2 #[.string ⟨t.toArray⟩] 1 (base:=0) (Nat.zero_le _) (by decide) rfl) (by simp[Value.ownBlock];have:=L2.out;omega) _ _ _ _)).2.2,zb5 BT.out (Nat.le_of_lt L1.out) _ _ _ _,by rw[Hid,zle];exact ZT.out,.inr ⟨_,_,rfl⟩⟩
 case rest =>
  obtain⟨a,c,HQc,HRc,HIc,HBc,HLc,HAc⟩:=hcut
  obtain⟨r0,r1,r2,r3,rf⟩:=zi HRc.out
  clear rf
  go_wp2_with fail
  refine (HKT.out _ a c HIc.out).mono ?_
  rintro e w3 ⟨rfl,b3⟩
  have B3:Hid _:=HBc.out.trans (b3.mono HBc.out.size)
  have Q3:Hid _:=(b3.block w.heap.size (Nat.lt_trans L1.out HLc.out)).trans HQc.out
  have R3:Hid _:=(b3.block w1.heap.size HLc.out).trans HRc.out
  have I3:Hid _:=zay HIc.out b3
  have L3b:Hid _:=Nat.lt_of_lt_of_le HLc.out b3.size
  have L3:Hid _:=Nat.lt_trans L1.out L3b.out
  clear r0 r1 r2 r3 b3 HQc HRc HIc HBc HLc HKT
  obtain⟨q0,q1,q2,q3,qf⟩:=zi Q3.out
  have qf0:=qf 0
  have qf1:=qf 1
  have qf2:=qf 2
  have qf3:=qf 3
  obtain⟨r0,r1,r2,r3,rf⟩:=zi R3.out
  have rf0:=rf 0
  have rf1:=rf 1
  have rf2:=rf 2
  have rf3:=rf 3
  clear qf rf
  cases ok with
  | false =>
    have HZ:Hid _:=HK2.out rfl
    clear HK1 HK2 HK3 HAc
    go_wp2
    exact bodyPost_ret (v:=.tuple #[.agg #[.int .i64 0,.string ⟨#[]⟩,.slice none 0 0,.string ⟨#[]⟩],.bool false]) (zbz rfl _ _ w.heap.size 152 _ _ rfl (zb7 (.int .i64 0) (.string ⟨#[]⟩) (.slice none 0 0) (.string ⟨#[]⟩) Q3.out) Tryz.underlying152 rfl (by kernel_rfl) (.bool false) rfl) rfl (by rw[HZ.out];exact⟨none,0,0,rfl,World.ownsRow_nil _ _ _ _,zb5 B3.out (Nat.le_refl _) _ _ _ _⟩)
  | true =>
    by_cases hts:tx=s
    · subst hts
      have HZ:Hid _:=HK1.out rfl rfl
      clear HK1 HK2 HK3
      have hw01:¬ w.heap.size=w1.heap.size:=by have:=L1.out;omega
      have hw10:¬ w1.heap.size=w.heap.size:=by have:=L1.out;omega
      rcases HAc.out with ⟨rfl,hle,rfl⟩ | ⟨b,off,rfl⟩
      · subst hle
        simp only[List.length_nil] at R3 r0 r1 r2 r3
        clear HAc I3
        have QA:Hid _:=(Below.heap_alloc w3 (.cells #[] 9) w.heap.size L3.out).trans Q3.out
        have RA:Hid _:=(Below.heap_alloc w3 (.cells #[] 9) w1.heap.size L3b.out).trans R3.out
        have B3A:Hid (Below w.heap.size w (w3.alloc (.cells #[] 9))):=B3.out.alloc B3.out.size _
        have O3:Hid ((w3.alloc (.cells #[] 9)).ownsRow w.heap.size 9 1 (.slice (some ⟨w3.heap.size,0,none⟩) 0 0) 0 []):=World.ownsRow_lit (e:=9) (size:=1) w3 #[] 0 (base:=w.heap.size) (by have:=L3.out;omega) (Nat.zero_le _) rfl
        obtain⟨x0,x1,x2,x3,xf⟩:=zi QA.out
        have xf0:=xf 0
        have xf1:=xf 1
        have xf2:=xf 2
        have xf3:=xf 3
        obtain⟨y0,y1,y2,y3,yf⟩:=zi RA.out
        have yf0:=yf 0
        have yf1:=yf 1
        have yf2:=yf 2
        have yf3:=yf 3
        clear xf yf q0 q1 q2 q3 qf0 qf1 qf2 qf3 r0 r1 r2 r3 rf0 rf1 rf2 rf3
        go_wp2_with (at_builtin;refine wpList_append_own_none _ rfl _ _ 138 rfl w.heap.size 9 i0 1 Tryz.underlying138 hi0 (.slice (some ⟨w3.heap.size,0,none⟩) 0 0) 0 [] rfl O3.out rfl ?_)
        have yq:=zb7 (.int .i64 k) (.string ⟨p.toArray⟩) (.slice (some ⟨w3.heap.size,0,none⟩) 0 0) (.string ⟨v.toArray⟩) ((Below.heap_setCell (w3.alloc (.cells #[] 9)) ⟨w1.heap.size,2,none⟩ (.slice (some ⟨w3.heap.size,0,none⟩) 0 0) w.heap.size (by have:=L1.out;simp;omega)).trans QA.out)
        have hne:(Value.slice (some ⟨w3.heap.size,0,none⟩) 0 0).ownBlock≠some w.heap.size:=by simp[Value.ownBlock];have:=L3.out;omega
        have hne1:(Value.slice (some ⟨w3.heap.size,0,none⟩) 0 0).ownBlock≠some w1.heap.size:=by simp[Value.ownBlock];have:=L3b.out;omega
        exact bodyPost_ret (v:=.tuple #[.agg #[.int .i64 k,.string ⟨p.toArray⟩,.slice (some ⟨w3.heap.size,0,none⟩) 0 0,.string ⟨v.toArray⟩],.bool true]) (zbz rfl _ _ w.heap.size 152 _ _ rfl yq Tryz.underlying152 rfl (by kernel_rfl) (.bool true) rfl) rfl (by rw[HZ.out];exact⟨some ⟨w3.heap.size,0,none⟩,0,0,rfl,ze2 (ownsRow_setCell_other (a:=⟨w1.heap.size,2,none⟩) O3.out hne1 _) hne _ _ _ _,zb5 (B3A.out.setCell (by have:=L1.out;show w.heap.size≤w1.heap.size;omega) _) (Nat.le_refl _) _ _ _ _⟩)
      · clear HAc
        have QA:Hid _:=(Below.heap_alloc w3 (.cells #[] 9) w.heap.size L3.out).trans Q3.out
        have RA:Hid _:=(Below.heap_alloc w3 (.cells #[] 9) w1.heap.size L3b.out).trans R3.out
        have B3A:Hid (Below w.heap.size w (w3.alloc (.cells #[] 9))):=B3.out.alloc B3.out.size _
        have O3:Hid ((w3.alloc (.cells #[] 9)).ownsRow w3.heap.size 9 1 (.slice (some ⟨w3.heap.size,0,none⟩) 0 0) 0 []):=World.ownsRow_lit (e:=9) (size:=1) w3 #[] 0 (base:=w3.heap.size) (by have:=L3.out;omega) (Nat.zero_le _) rfl
        have FA:Hid (∀ j u,(zh ls)[j]? = some u→(w3.alloc (.cells #[] 9)).cell? ((⟨b,off,none⟩:Addr).add j)=some u):=zf7 (zay I3.out ((Below.refl _ _).alloc (Nat.le_refl _) _))
        obtain⟨x0,x1,x2,x3,xf⟩:=zi QA.out
        have xf0:=xf 0
        have xf1:=xf 1
        have xf2:=xf 2
        have xf3:=xf 3
        obtain⟨y0,y1,y2,y3,yf⟩:=zi RA.out
        have yf0:=yf 0
        have yf1:=yf 1
        have yf2:=yf 2
        have yf3:=yf 3
        clear xf yf q0 q1 q2 q3 qf0 qf1 qf2 qf3 r0 r1 r2 r3 rf0 rf1 rf2 rf3
        go_wp2_with (at_builtin;refine wpList_append_own _ rfl _ _ 138 rfl w3.heap.size 9 i0 (.string ⟨#[]⟩) 1 16 Tryz.underlying138 hi0 hz0 hz1 hz2 rfl (by decide) (.slice (some ⟨w3.heap.size,0,none⟩) 0 0) 0 [] rfl O3.out ⟨b,off,none⟩ ls.length c (zh ls) rfl (by rw[zem,Nat.mul_one]) FA.out (zhe _) (by unfold maxLen;omega) (by omega) (by simp) ?_;intro v4 w4 hown4 hgrow4 hnil4;obtain⟨a4,m4,c4,rfl⟩:=zdu hown4;have Q4:Hid (w4.heap[w.heap.size]? = some (.cells #[.int .i64 0,.string ⟨#[]⟩,.slice none 0 0,.string ⟨#[]⟩] 152 (0,0))):=(hgrow4.block w.heap.size (by simp;have:=L3.out;omega) (by simp[Value.ownBlock];have:=L3.out;omega)).trans QA.out;have R4:Hid (w4.heap[w1.heap.size]? = some (.cells #[.int .i64 k,.string ⟨p.toArray⟩,.slice (some ⟨b,off,none⟩) ls.length c,.string ⟨v.toArray⟩] 152 (0,0))):=(hgrow4.block w1.heap.size (by simp;have:=L3b.out;omega) (by simp[Value.ownBlock];have:=L3b.out;omega)).trans RA.out;obtain⟨s0,s1,s2,s3,sf⟩:=zi Q4.out;obtain⟨u0,u1,u2,u3,uf⟩:=zi R4.out;have sf0:=sf 0;have sf1:=sf 1;have sf2:=sf 2;have sf3:=sf 3;have uf2:=uf 2;have B4:Hid (Below w.heap.size w w4):=B3A.out.grown hgrow4 (by simp;have:=L3.out;omega) (fun k hk=>(by simp[Value.ownBlock] at hk;have:=L3.out;omega));have O4:Hid (w4.ownsRow w3.heap.size 9 1 (.slice a4 m4 c4) ls.length (zh ls)):=(by rw[Hid];simpa using hown4);clear sf uf hown4 hgrow4 hnil4)
        have yq:=zb7 (.int .i64 k) (.string ⟨p.toArray⟩) (.slice a4 m4 c4) (.string ⟨v.toArray⟩) ((Below.heap_setCell w4 ⟨w1.heap.size,2,none⟩ (.slice a4 m4 c4) w.heap.size (by have:=L1.out;simp;omega)).trans Q4.out)
        have hne:(Value.slice a4 m4 c4).ownBlock≠some w.heap.size:=fun h=>by have:=(O4.out.lt _ h).1;have:=L3.out;omega
        have hne1:(Value.slice a4 m4 c4).ownBlock≠some w1.heap.size:=fun h=>by have:=(O4.out.lt _ h).1;have:=L3b.out;omega
        exact bodyPost_ret (v:=.tuple #[.agg #[.int .i64 k,.string ⟨p.toArray⟩,.slice a4 m4 c4,.string ⟨v.toArray⟩],.bool true]) (zbz rfl _ _ w.heap.size 152 _ _ rfl yq Tryz.underlying152 rfl (by kernel_rfl) (.bool true) rfl) rfl (by rw[HZ.out];exact⟨a4,m4,c4,rfl,(ze2 (ownsRow_setCell_other (a:=⟨w1.heap.size,2,none⟩) O4.out hne1 _) hne _ _ _ _).mono (by have:=L3.out;omega),zb5 (B4.out.setCell (by have:=L1.out;show w.heap.size≤w1.heap.size;omega) _) (Nat.le_refl _) _ _ _ _⟩)
    · have HZ:Hid _:=HK3.out hts
      have htb:(tx == s)=false:=by rw[beq_eq_false_iff_ne];exact hts
      clear HK1 HK2 HK3 HAc
      go_wp2
      exact bodyPost_ret (v:=.tuple #[.agg #[.int .i64 0,.string ⟨#[]⟩,.slice none 0 0,.string ⟨#[]⟩],.bool false]) (zbz rfl _ _ w.heap.size 152 _ _ rfl (zb7 (.int .i64 0) (.string ⟨#[]⟩) (.slice none 0 0) (.string ⟨#[]⟩) Q3.out) Tryz.underlying152 rfl (by kernel_rfl) (.bool false) rfl) rfl (by rw[HZ.out];exact⟨none,0,0,rfl,World.ownsRow_nil _ _ _ _,zb5 B3.out (Nat.le_refl _) _ _ _ _⟩)
theorem za25 (s:List UInt8) (ts:List (List UInt8)) (w:World) (hl:s.length≤1048576) (ht:zbc s=some ts) (h2:ts.length=2) (hrd:zd4 (ts.getD 0 [])=none) :
 Calls Tryz.prog 91 #[.string ⟨s.toArray⟩] w fun e w'=>zd3 w (za1 s) e w':=by
 obtain⟨i0,hi0,hz0,hz1,hz2⟩:=info_parts zdc
 have B0:Below w.heap.size w (w.alloc (.cells #[.int .i64 0,.string ⟨#[]⟩,.slice none 0 0,.string ⟨#[]⟩] 152)):=(Below.refl _ _).alloc (Nat.le_refl _) _
 have HQ:Hid ((w.alloc (.cells #[.int .i64 0,.string ⟨#[]⟩,.slice none 0 0,.string ⟨#[]⟩] 152)).heap[w.heap.size]? = some (.cells #[.int .i64 0,.string ⟨#[]⟩,.slice none 0 0,.string ⟨#[]⟩] 152 (0,0))):=heap_alloc_new w _
 have BX:Hid _:=B0
 have HL:Hid (w.heap.size<(w.alloc (.cells #[.int .i64 0,.string ⟨#[]⟩,.slice none 0 0,.string ⟨#[]⟩] 152)).heap.size):=by rw[Hid];simp
 have KT:=zhg s (w.alloc (.cells #[.int .i64 0,.string ⟨#[]⟩,.slice none 0 0,.string ⟨#[]⟩] 152)) hl
 have hts:=zgo s ts ht
 obtain⟨o,ho⟩:∃ o,o=za1 s:=⟨_,rfl⟩
 have HZ:Hid (o=none):=by rw[Hid,ho,zii s ts ht,zcr,if_neg (by omega),if_pos h2,hrd];exact zeo _ _ zko
 rw[←ho]
 rw[ht] at KT
 have hxl:=zep ts hts.2 0
 have HAT:Hid (∀ W a,zt W a ts→∃ b off,a=some ⟨b,off,none⟩∧W.cell? ⟨b,off,none⟩=some (.string ⟨(ts.getD 0 []).toArray⟩)∧W.cell? ⟨b,off+1,none⟩=some (.string ⟨(ts.getD 1 []).toArray⟩)):=fun W a h=>by
  obtain⟨b,off,h1,h3⟩:=zf9 h 0 (by omega)
  exact⟨b,off,h1,h3 0 (by omega),h3 1 (by omega)⟩
 have HKR:=fun W=>zof (ts.getD 0 []) W hxl
 rw[hrd] at HKR
 obtain⟨x,hx⟩:∃ x,x=ts.getD 0 []:=⟨_,rfl⟩
 rw[←hx] at HAT HKR
 have HN2:Hid _:=h2
 clear ht ho B0 hts hx h2 hrd hxl
 go_enter Tryz.func91,Tryz.ntmps91
 go_wp2_with fail
 refine KT.mono ?_
 rintro e w1 ⟨a1,c1,rfl,o1,b1,hc1⟩
 have B1:Hid _:=BX.out.trans (b1.mono BX.out.size)
 have Q1:Hid _:=(b1.block w.heap.size HL.out).trans HQ.out
 have L1:Hid _:=Nat.lt_of_lt_of_le HL.out b1.size
 have I1:Hid _:=(zc8 o1).2.2
 have Q1z:Hid _:=(Below.heap_alloc w1 (.cells #[.int .i64 0,.string ⟨#[]⟩,.slice none 0 0,.string ⟨#[]⟩] 152) w.heap.size L1.out).trans Q1.out
 have R1z:Hid ((w1.alloc (.cells #[.int .i64 0,.string ⟨#[]⟩,.slice none 0 0,.string ⟨#[]⟩] 152)).heap[w1.heap.size]? = some (.cells #[.int .i64 0,.string ⟨#[]⟩,.slice none 0 0,.string ⟨#[]⟩] 152 (0,0))):=heap_alloc_new w1 _
 have B1z:Hid (Below w.heap.size w (w1.alloc (.cells #[.int .i64 0,.string ⟨#[]⟩,.slice none 0 0,.string ⟨#[]⟩] 152))):=B1.out.alloc B1.out.size _
 have Z1z:Hid ((w1.alloc (.cells #[.int .i64 0,.string ⟨#[]⟩,.slice none 0 0,.string ⟨#[]⟩] 152)).heap.size=w1.heap.size+1):=by rw[Hid];simp
 have BZ:Hid (Below w1.heap.size w1 (w1.alloc (.cells #[.int .i64 0,.string ⟨#[]⟩,.slice none 0 0,.string ⟨#[]⟩] 152))):=(Below.refl _ _).alloc (Nat.le_refl _) _
 clear KT o1 b1
 obtain⟨b,off,rfl,c0,d0⟩:=HAT.out _ _ (zay I1.out BZ.out)
 rw[HN2.out]
 go_wp2_with fail
 refine (HKR _).mono ?_
 rintro e w2 ⟨rfl,b2⟩
 have B2:Hid _:=B1z.out.trans (b2.mono B1z.out.size)
 have Q2:Hid (w2.heap[w.heap.size]? = some (.cells #[.int .i64 0,.string ⟨#[]⟩,.slice none 0 0,.string ⟨#[]⟩] 152 (0,0))):=(b2.block w.heap.size (by have:=Z1z.out;have:=L1.out;omega)).trans Q1z.out
 obtain⟨q0,q1,q2,q3,qf⟩:=zi Q2.out
 have qf0:=qf 0
 have qf1:=qf 1
 have qf2:=qf 2
 have qf3:=qf 3
 simp only[rdV]
 clear qf b2 c0 d0
 go_wp2
 exact bodyPost_ret (v:=.tuple #[.agg #[.int .i64 0,.string ⟨#[]⟩,.slice none 0 0,.string ⟨#[]⟩],.bool false]) (zbz rfl _ _ w.heap.size 152 _ _ rfl (zb7 (.int .i64 0) (.string ⟨#[]⟩) (.slice none 0 0) (.string ⟨#[]⟩) Q2.out) Tryz.underlying152 rfl (by kernel_rfl) (.bool false) rfl) rfl (by rw[HZ.out];exact⟨none,0,0,rfl,World.ownsRow_nil _ _ _ _,zb5 B2.out (Nat.le_refl _) _ _ _ _⟩)
theorem zr8 (s:List UInt8) (w:World) (hl:s.length≤1048576) :
 Calls Tryz.prog 91 #[.string ⟨s.toArray⟩] w fun e w'=>zd3 w (za1 s) e w':=by
 cases ht:zbc s with
 | none=>exact zr7 s w hl (.inl ht)
 | some ts =>
   obtain⟨k,p,ls,v,hnd⟩:∃ k p ls v,zcr ts=⟨k,p,ls,v⟩:=by
    cases h:zcr ts with
    | mk k p ls v=>exact⟨k,p,ls,v,rfl⟩
   by_cases h17:ts.length=17
   · exact za23 s ts k p ls v w hl ht h17 hnd
   · by_cases h2:ts.length=2
     · cases hrd:zd4 (ts.getD 0 []) with
       | none=>exact za25 s ts w hl ht h2 hrd
       | some q =>
         obtain⟨y,leaf⟩:=q
         exact za24 s ts k p ls v y leaf w hl ht h2 hrd hnd
     · exact zr7 s w hl (.inr ⟨ts,ht,h17,h2⟩)
end Go.Proofs.YtppljdnbhoeeoaaGreatDoor
