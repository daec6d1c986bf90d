import Derived.Test.YtcoahmldmodmlaaGreatDoorMath2
import Derived.Test.YtcoahmldmodmlaaGreatDoorMathAll
import Derived.Test.YtcoahmldmodmlaaGreatDoorHexAll
import Derived.Test.YtcoahmldmodmlaaGreatDoorIListAll
import Derived.Deep.AppendLies
import Derived.Deep.RegionHeld3
namespace Go.Proofs.YtcoahmldmodmlaaGreatDoor
open Go.RowKit
set_option linter.unusedVariables false
def kidOk (l:List UInt8):Bool:=l.isEmpty || decide (l.length=32)
def oneN (l:List UInt8):Nat:=if l.isEmpty=true then 0 else 1
def kidsN:List (List UInt8)→Nat
 | []=>0
 | l :: r=>oneN l+kidsN r
def branchOk (ls:List (List UInt8)) (v:List UInt8):Bool:=decide (ls.length=16) && (ls.all kidOk && decide (2≤oneN v+kidsN ls))
def kindOk (k:Int) (p:List UInt8) (ls:List (List UInt8)) (v:List UInt8):Bool :=
 if k=1 then !v.isEmpty && decide (ls.length=0)
 else if k=2 then !p.isEmpty && (v.isEmpty && (decide (ls.length=1) && decide ((ls.getD 0 []).length=32)))
 else if k=3 then p.isEmpty && branchOk ls v else false
def headOk (p v:List UInt8):Bool:=decide (p.length≤24) && (isNibs p && decide (v.length≤60))
def nodeOk (k:Int) (p:List UInt8) (ls:List (List UInt8)) (v:List UInt8):Bool:=headOk p v && kindOk k p ls v
def nodeTs (k:Int) (p:List UInt8) (ls:List (List UInt8)) (v:List UInt8):List (List UInt8) :=
 if k=1 then [pack (withFlag p true),v] else if k=2 then [pack (withFlag p false),ls.getD 0 []] else ls ++ [v]
def nodeB (k:Int) (p:List UInt8) (ls:List (List UInt8)) (v:List UInt8):List UInt8:=if nodeOk k p ls v=true then listB (nodeTs k p ls v) else []
theorem kidsN_snoc (ls:List (List UInt8)) (l:List UInt8):kidsN (ls ++ [l])=kidsN ls+oneN l:=by
 induction ls with
 | nil=>simp[kidsN]
 | cons x r ih=>simp[kidsN,ih];omega
theorem kidsN_take (ls:List (List UInt8)) (j:Nat) (h:j<ls.length):kidsN (ls.take (j+1))=kidsN (ls.take j)+oneN ls[j]:=by
 rw[List.take_succ_eq_append_getElem h,kidsN_snoc]
theorem oneN_le (l:List UInt8):oneN l≤1:=by unfold oneN;split <;> omega
theorem kidsN_le (ls:List (List UInt8)):kidsN ls≤ls.length:=by
 induction ls with
 | nil=>simp[kidsN]
 | cons x r ih=>have:=oneN_le x;simp[kidsN];omega
theorem kidsAll_take (ls:List (List UInt8)) (j:Nat) (h:j<ls.length) (h1:(ls.take j).all kidOk=true) (h2:kidOk ls[j]=true):(ls.take (j+1)).all kidOk=true:=by
 rw[List.take_succ_eq_append_getElem h,List.all_append,h1]
 simp[h2]
theorem kidsAll_no (ls:List (List UInt8)) (j:Nat) (h:j<ls.length) (h2:kidOk ls[j]=false):ls.all kidOk=false:=by
 rw[List.all_eq_false]
 exact⟨ls[j],List.getElem_mem _,by simp[h2]⟩
theorem flat_kids (ls:List (List UInt8)) (h:ls.all kidOk=true):ls.flatten.length≤32*ls.length:=by
 induction ls with
 | nil=>simp
 | cons x r ih =>
   simp only[List.all_cons,Bool.and_eq_true] at h
   have h1:=ih h.2
   have h2:x.length≤32:=by
    have:=h.1
    simp only[kidOk,Bool.or_eq_true,List.isEmpty_iff,decide_eq_true_eq] at this
    rcases this with rfl | h3
    · simp
    · omega
   rw[List.flatten_cons,List.length_append,List.length_cons]
   omega
theorem pack_le:∀ l:List UInt8,(pack l).length≤l.length
 | []=>by simp[pack]
 | [a]=>by simp[pack]
 | a :: b :: r => by
   have:=pack_le r
   simp[pack]
   omega
theorem areNib_at (l:List UInt8) (w:World) (hl:l.length≤1048576) :
 Calls Tryz.prog 83 #[.string ⟨l.toArray⟩] w fun e w'=>e=.returned (.bool (isNibs l))∧w'=w:=by
 have h:=impl_areNibbles ⟨l.toArray⟩ w (by simp[ByteArray.size];omega)
 have e1:(ByteArray.mk l.toArray).data.toList=l:=by simp
 rw[e1] at h
 exact h
theorem empty_cases (v:List UInt8):v.isEmpty=true∨v.isEmpty=false:=by cases v <;> simp
theorem hexp_at (l:List UInt8) (leaf:Bool) (w:World) (hl:l.length≤24) (hn:isNibs l=true) :
 Calls Tryz.prog 68 #[.string ⟨l.toArray⟩,.bool leaf] w fun e w'=>e=.returned (.tuple #[.string ⟨(pack (withFlag l leaf)).toArray⟩,.bool true])∧Below w.heap.size w w':=by
 have h:=impl_hexPrefix ⟨l.toArray⟩ leaf w (by simp[ByteArray.size];omega)
 have e1:(ByteArray.mk l.toArray).data.toList=l:=by simp
 have e2:hexPre l leaf=pack (withFlag l leaf):=if_pos ⟨by omega,hn⟩
 have e3:hexOk l=true:=by rw[hexOk,decide_eq_true (by omega),hn];rfl
 rw[e1,e2,e3] at h
 exact h
theorem quad_cells {w:World} {b:Nat} {u v x y:Value} {t:TypeId} (h:w.heap[b]? = some (.cells #[u,v,x,y] t (0,0))) :
 w.cell? ⟨b,0,none⟩=some u∧w.cell? ⟨b,1,none⟩=some v∧w.cell? ⟨b,2,none⟩=some x∧w.cell? ⟨b,3,none⟩=some y∧∀ j,w.frozen? ⟨b,j,none⟩=false:=by
 refine⟨?_,?_,?_,?_,fun j=>frozen_of_row w b j _ t h⟩ <;> simp only[World.cell?,h] <;> rfl
theorem pack_flag_le (l:List UInt8) (leaf:Bool):(pack (withFlag l leaf)).length≤l.length+2:=by
 have h:=pack_le (withFlag l leaf)
 have h2:(withFlag l leaf).length≤l.length+2:=by unfold withFlag;split <;> simp
 omega
theorem strs_two (w:World) (x y:List UInt8) (t:TypeId):IsStrs (w.alloc (.cells #[.string ⟨x.toArray⟩,.string ⟨y.toArray⟩] t)) (some ⟨w.heap.size,0,none⟩) [x,y]:=by
 refine .inr ⟨w.heap.size,0,rfl,fun j hj=>?_⟩
 have h:=heap_alloc_new w (.cells #[.string ⟨x.toArray⟩,.string ⟨y.toArray⟩] t)
 have hj':j=0∨j=1:=by simp at hj;omega
 rcases hj' with rfl | rfl <;> simp only[World.cell?,h] <;> rfl
set_option maxRecDepth 100000 in
set_option maxHeartbeats 1000000 in
theorem impl_text1 (p:List UInt8) (a:Option Addr) (cap n:Nat) (v:List UInt8) (w:World) (hp:p.length≤24) (hn:isNibs p=true) (hv:v.length≤60) :
 Calls Tryz.prog 48 #[.agg #[.int .i64 1,.string ⟨p.toArray⟩,.slice a n cap,.string ⟨v.toArray⟩]] w fun e w'=>e=.returned (.string ⟨(listB [pack (withFlag p true),v]).toArray⟩)∧Below w.heap.size w w':=by
 have K1:=hexp_at p true (w.alloc (.cells #[.int .i64 1,.string ⟨p.toArray⟩,.slice a n cap,.string ⟨v.toArray⟩] 91)) hp hn
 have HB0:Hid ((w.alloc (.cells #[.int .i64 1,.string ⟨p.toArray⟩,.slice a n cap,.string ⟨v.toArray⟩] 91)).heap[w.heap.size]? = some (.cells #[.int .i64 1,.string ⟨p.toArray⟩,.slice a n cap,.string ⟨v.toArray⟩] 91 (0,0))∧Below w.heap.size w (w.alloc (.cells #[.int .i64 1,.string ⟨p.toArray⟩,.slice a n cap,.string ⟨v.toArray⟩] 91))∧w.heap.size<(w.alloc (.cells #[.int .i64 1,.string ⟨p.toArray⟩,.slice a n cap,.string ⟨v.toArray⟩] 91)).heap.size):=⟨heap_alloc_new w _,(Below.refl _ _).alloc (Nat.le_refl _) _,by simp⟩
 have hxl:=pack_flag_le p true
 obtain⟨x,hx⟩:∃ x,x=pack (withFlag p true):=⟨_,rfl⟩
 rw[←hx] at K1 hxl ⊢
 have HF:Hid ([x,v].flatten.length≤30000):=by rw[Hid];simp;omega
 obtain⟨out,hout⟩:∃ out,listB [x,v]=out:=⟨_,rfl⟩
 have HOU:Hid (listB [x,v]=out):=hout
 rw[hout]
 clear hout
 clear hx
 go_enter Tryz.func48,Tryz.ntmps48
 go_wp2_with fail
 refine K1.mono ?_
 rintro e w1 ⟨rfl,b1⟩
 have B1:=HB0.out.2.1.trans (b1.mono HB0.out.2.1.size)
 obtain⟨q0,q1,q2,q3,_⟩:=quad_cells ((b1.block _ HB0.out.2.2).trans HB0.out.1)
 have K2:=impl_listOfTexts (some ⟨w1.heap.size,0,none⟩) 2 [x,v] (w1.alloc (.cells #[.string ⟨x.toArray⟩,.string ⟨v.toArray⟩] 9)) HF.out (by simp) (strs_two w1 x v 9)
 rw[HOU.out] at K2
 clear K1 b1
 go_wp2_with fail
 refine K2.mono ?_
 rintro e w2 ⟨rfl,b2⟩
 have B2:=(B1.alloc B1.size (.cells #[.string ⟨x.toArray⟩,.string ⟨v.toArray⟩] 9)).trans (b2.mono (by simp;have:=B1.size;omega))
 go_wp2
 go_ret
 exact⟨rfl,B2⟩
set_option maxRecDepth 100000 in
set_option maxHeartbeats 1000000 in
theorem impl_text2 (p:List UInt8) (b off cap:Nat) (y v:List UInt8) (w:World) (hp:p.length≤24) (hn:isNibs p=true) (hy:y.length=32) (hc:w.cell? ⟨b,off,none⟩=some (.string ⟨y.toArray⟩)) :
 Calls Tryz.prog 48 #[.agg #[.int .i64 2,.string ⟨p.toArray⟩,.slice (some ⟨b,off,none⟩) 1 cap,.string ⟨v.toArray⟩]] w fun e w'=>e=.returned (.string ⟨(listB [pack (withFlag p false),y]).toArray⟩)∧Below w.heap.size w w':=by
 have K1:=hexp_at p false (w.alloc (.cells #[.int .i64 2,.string ⟨p.toArray⟩,.slice (some ⟨b,off,none⟩) 1 cap,.string ⟨v.toArray⟩] 91)) hp hn
 have HB0:Hid ((w.alloc (.cells #[.int .i64 2,.string ⟨p.toArray⟩,.slice (some ⟨b,off,none⟩) 1 cap,.string ⟨v.toArray⟩] 91)).heap[w.heap.size]? = some (.cells #[.int .i64 2,.string ⟨p.toArray⟩,.slice (some ⟨b,off,none⟩) 1 cap,.string ⟨v.toArray⟩] 91 (0,0))∧Below w.heap.size w (w.alloc (.cells #[.int .i64 2,.string ⟨p.toArray⟩,.slice (some ⟨b,off,none⟩) 1 cap,.string ⟨v.toArray⟩] 91))∧w.heap.size<(w.alloc (.cells #[.int .i64 2,.string ⟨p.toArray⟩,.slice (some ⟨b,off,none⟩) 1 cap,.string ⟨v.toArray⟩] 91)).heap.size):=⟨heap_alloc_new w _,(Below.refl _ _).alloc (Nat.le_refl _) _,by simp⟩
 have hxl:=pack_flag_le p false
 obtain⟨x,hx⟩:∃ x,x=pack (withFlag p false):=⟨_,rfl⟩
 rw[←hx] at K1 hxl ⊢
 have HF:Hid ([x,y].flatten.length≤30000):=by rw[Hid];simp;omega
 obtain⟨out,hout⟩:∃ out,listB [x,y]=out:=⟨_,rfl⟩
 have HOU:Hid (listB [x,y]=out):=hout
 rw[hout]
 clear hout
 have HC:Hid (w.cell? ⟨b,off,none⟩=some (.string ⟨y.toArray⟩)):=hc
 clear hx hc hy
 go_enter Tryz.func48,Tryz.ntmps48
 go_wp2_with fail
 refine K1.mono ?_
 rintro e w1 ⟨rfl,b1⟩
 have B1:=HB0.out.2.1.trans (b1.mono HB0.out.2.1.size)
 obtain⟨q0,q1,q2,q3,_⟩:=quad_cells ((b1.block _ HB0.out.2.2).trans HB0.out.1)
 have c1:=(B1.cell (p:=⟨b,off,none⟩) (World.block_lt_of_cell? w _ HC.out)).trans HC.out
 have K2:=impl_listOfTexts (some ⟨w1.heap.size,0,none⟩) 2 [x,y] (w1.alloc (.cells #[.string ⟨x.toArray⟩,.string ⟨y.toArray⟩] 9)) HF.out (by simp) (strs_two w1 x y 9)
 rw[HOU.out] at K2
 clear K1 b1
 go_wp2_with fail
 refine K2.mono ?_
 rintro e w2 ⟨rfl,b2⟩
 have B2:=(B1.alloc B1.size (.cells #[.string ⟨x.toArray⟩,.string ⟨y.toArray⟩] 9)).trans (b2.mono (by simp;have:=B1.size;omega))
 go_wp2
 go_ret
 exact⟨rfl,B2⟩
theorem strs_flat {w:World} {b off:Nat} {qs:List (List UInt8)} (h:IsStrs w (some ⟨b,off,none⟩) qs):∀ j u,(scells qs)[j]? = some u→w.cell? ((⟨b,off,none⟩:Addr).add j)=some u:=by
 intro j u hu
 have hj:j<qs.length:=by have:=(List.getElem?_eq_some_iff.1 hu).1;rwa [scells_length] at this
 rcases h with rfl | ⟨b',off',he,hc⟩
 · simp at hj
 · cases he
   have e1:(⟨b,off,none⟩:Addr).add j=⟨b,off+j,none⟩:=by simp[Addr.add]
   rw[scells_at qs j hj] at hu
   cases hu
   rw[e1];exact hc j hj
theorem scells_one (qs:List (List UInt8)):∀ u∈scells qs,u.oneCell'=true:=by
 intro u hu
 simp only[scells,List.mem_map] at hu
 obtain⟨l,_,rfl⟩:=hu
 rfl
set_option maxHeartbeats 1000000 in
set_option maxRecDepth 100000 in
theorem cloneS_any (b off cap:Nat) (qs:List (List UInt8)) (w:World) (hl:qs.length≤1000) (hs:IsStrs w (some ⟨b,off,none⟩) qs) :
 Calls Tryz.prog 67 #[.slice (some ⟨b,off,none⟩) qs.length cap] w fun e w'=>∃ (a:Option Addr) (m c:Nat),e=.returned (.slice a m c)∧w'.ownsRow w.heap.size 9 1 (.slice a m c) qs.length (scells qs)∧Below w.heap.size w w':=by
 obtain⟨i0,hi0,hz0,hz1,hz2⟩:=info_parts info9i
 have B0:Below w.heap.size w (w.alloc (.cells #[] 9)):=(Below.refl _ _).alloc (Nat.le_refl _) _
 have HF:Hid (∀ j u,(scells qs)[j]? = some u→(w.alloc (.cells #[] 9)).cell? ((⟨b,off,none⟩:Addr).add j)=some u):=strs_flat (strs_later hs B0)
 have o0:=World.ownsRow_lit (e:=9) (size:=1) w #[] 0 (base:=w.heap.size) (Nat.le_refl _) (Nat.zero_le _) rfl
 have HO0:=hidOwn o0
 have hnil:∀ W,(binOp .eql 76 (.slice (some ⟨b,off,none⟩) qs.length cap) (.slice none 0 0)).run Tryz.prog W=.ok (.bool false) W:=fun W=>by first | rfl | (simp[binOp,Op.equal,run_underlying Tryz.underlying76])
 clear hs o0
 go_enter Tryz.func67,Tryz.ntmps67
 go_wp2_with (at_builtin;refine wpList_append_own _ rfl _ _ 76 rfl w.heap.size 9 i0 (.string ⟨#[]⟩) 1 16 Tryz.underlying76 hi0 hz0 hz1 hz2 rfl (by decide) (.slice (some ⟨w.heap.size,0,none⟩) 0 0) 0 _ rfl HO0.out ⟨b,off,none⟩ qs.length cap (scells qs) rfl (by rw[scells_length,Nat.mul_one]) HF.out (scells_one qs) (by unfold maxLen;omega) (by omega) (by simp <;> omega) ?_;intro v3 w3 hown3 hgrow3 hnil3;obtain⟨a3,m3,c3,rfl⟩:=own_slice hown3)
 have B3:Below w.heap.size w w3:=B0.grown hgrow3 (by simp) (fun k hk=>by simp[Value.ownBlock] at hk;omega)
 have HO3:Hid (w3.ownsRow w.heap.size 9 1 (.slice a3 m3 c3) qs.length (scells qs)):=by rw[Hid];simpa using hown3
 clear hown3 hgrow3 hnil3
 go_wp2
 go_ret
 exact⟨a3,m3,c3,rfl,HO3.out,B3⟩
theorem below_drewX {B:Nat} {w w':World} (h:Below B w w'):Below B w w'.drew:=⟨h.os,h.tape,h.output,h.size,h.block⟩
theorem below_undrew {B:Nat} {w w':World} (h:Below B w.drew w'):Below B w w':=⟨h.os,h.tape,h.output,h.size,h.block⟩
theorem some_own {w:World} {base e n:Nat} {a:Option Addr} {m cap:Nat} {xs:List Value} (h:w.ownsRow base e 1 (.slice a m cap) n xs) (hn:0<n):m=n∧∃ g,a=some ⟨g,0,none⟩∧base≤g∧g<w.heap.size∧n≤cap:=by
 rcases h.2 with ⟨h',h0⟩ | ⟨g,cap',cur,h',hb,hg,hc,_⟩
 · omega
 · cases h';exact⟨rfl,g,rfl,hb,(Array.getElem?_eq_some_iff.1 hg).1,hc⟩
set_option maxRecDepth 100000 in
set_option maxHeartbeats 2000000 in
theorem impl_text3 (p:List UInt8) (b off cap:Nat) (ls:List (List UInt8)) (v:List UInt8) (w:World) (h16:ls.length=16) (hk:ls.flatten.length≤1000) (hv:v.length≤60) (hs:IsStrs w (some ⟨b,off,none⟩) ls) :
 Calls Tryz.prog 48 #[.agg #[.int .i64 3,.string ⟨p.toArray⟩,.slice (some ⟨b,off,none⟩) 16 cap,.string ⟨v.toArray⟩]] w fun e w'=>e=.returned (.string ⟨(listB (ls ++ [v])).toArray⟩)∧Below w.heap.size w w':=by
 obtain⟨i0,hi0,hz0,hz1,hz2⟩:=info_parts info9i
 have B0:Below w.heap.size w (w.alloc (.cells #[.int .i64 3,.string ⟨p.toArray⟩,.slice (some ⟨b,off,none⟩) 16 cap,.string ⟨v.toArray⟩] 91)):=(Below.refl _ _).alloc (Nat.le_refl _) _
 have HQ:Hid ((w.alloc (.cells #[.int .i64 3,.string ⟨p.toArray⟩,.slice (some ⟨b,off,none⟩) 16 cap,.string ⟨v.toArray⟩] 91)).heap[w.heap.size]? = some (.cells #[.int .i64 3,.string ⟨p.toArray⟩,.slice (some ⟨b,off,none⟩) 16 cap,.string ⟨v.toArray⟩] 91 (0,0))):=heap_alloc_new w _
 have HX:Hid (w.heap.size<(w.alloc (.cells #[.int .i64 3,.string ⟨p.toArray⟩,.slice (some ⟨b,off,none⟩) 16 cap,.string ⟨v.toArray⟩] 91)).heap.size):=by rw[Hid];simp
 obtain⟨wx,hwx⟩:∃ wx,wx=w.alloc (.cells #[.int .i64 3,.string ⟨p.toArray⟩,.slice (some ⟨b,off,none⟩) 16 cap,.string ⟨v.toArray⟩] 91):=⟨_,rfl⟩
 have hsx:wx.heap.size=w.heap.size+1:=by rw[hwx];simp
 have HWX:Hid (w.alloc (.cells #[.int .i64 3,.string ⟨p.toArray⟩,.slice (some ⟨b,off,none⟩) 16 cap,.string ⟨v.toArray⟩] 91)=wx):=hwx.symm
 rw[←hwx] at HQ HX B0
 have BX:Hid (Below w.heap.size w wx):=B0
 have HKC:Hid (∀ W,Below w.heap.size w W→Calls Tryz.prog 67 #[.slice (some ⟨b,off,none⟩) 16 cap] W fun e w'=>∃ (c:Nat) (g:Nat),e=.returned (.slice (some ⟨g,0,none⟩) 16 c)∧w'.ownsRow W.heap.size 9 1 (.slice (some ⟨g,0,none⟩) 16 c) 16 (scells ls)∧Below W.heap.size W w'):=fun W hW=>by
  have h:=cloneS_any b off cap ls W (by omega) (strs_later hs hW)
  rw[h16] at h
  refine h.mono ?_
  rintro e w' ⟨a,m,c,rfl,o,bb⟩
  obtain⟨rfl,g,rfl,_⟩:=some_own o (by omega)
  exact⟨c,g,rfl,o,bb⟩
 have HKL:Hid (∀ W g c,W.ownsRow (w.heap.size+1) 9 1 (.slice (some ⟨g,0,none⟩) 17 c) 17 (scells (ls ++ [v]))→Calls Tryz.prog 66 #[.slice (some ⟨g,0,none⟩) 17 c] W fun e w'=>e=.returned (.string ⟨(listB (ls ++ [v])).toArray⟩)∧Below W.heap.size W w'):=fun W g c ho=>by
  have hlen:(ls ++ [v]).length=17:=by simp[h16]
  have h:=impl_listOfTexts (some ⟨g,0,none⟩) c (ls ++ [v]) W (by rw[List.flatten_append,List.length_append,show ([v]:List (List UInt8)).flatten=v by simp];omega) (by omega) (strs_own ho).2.2
  rw[hlen] at h
  exact h
 have HSN:Hid (scells (ls ++ [v])=scells ls ++ [.string ⟨v.toArray⟩]):=scells_snoc ls v
 obtain⟨out,hout⟩:∃ out,listB (ls ++ [v])=out:=⟨_,rfl⟩
 rw[hout] at HKL ⊢
 obtain⟨cs,hcs⟩:∃ cs,cs=scells ls:=⟨_,rfl⟩
 rw[←hcs] at HKC HSN
 rw[HSN.out] at HKL
 have HSX:Hid (wx.heap.size=w.heap.size+1):=hsx
 have BXA:Hid (Below w.heap.size w (wx.alloc (.cells #[.string ⟨v.toArray⟩] 9)).drew):=below_drewX (B0.alloc (by omega) _)
 have HXA:Hid ((wx.alloc (.cells #[.string ⟨v.toArray⟩] 9)).drew.heap.size=wx.heap.size+1):=by rw[Hid];simp[heap_drew]
 have HNA:Hid ((wx.alloc (.cells #[.string ⟨v.toArray⟩] 9)).drew.heap[wx.heap.size]? = some (.cells #[.string ⟨v.toArray⟩] 9 (0,0))):=heap_alloc_new wx _
 have HQA:Hid ((wx.alloc (.cells #[.string ⟨v.toArray⟩] 9)).drew.heap[w.heap.size]? = some (.cells #[.int .i64 3,.string ⟨p.toArray⟩,.slice (some ⟨b,off,none⟩) 16 cap,.string ⟨v.toArray⟩] 91 (0,0))):=(Below.heap_alloc wx _ w.heap.size (by omega)).trans HQ.out
 clear hwx hs h16 hk hout hcs HSN B0 hsx
 go_enter Tryz.func48,Tryz.ntmps48
 go_wp2_with fail
 rw[HWX.out]
 obtain⟨q0,q1,q2,q3,_⟩:=quad_cells HQ.out
 have SA:Hid ((wx.alloc (.cells #[.string ⟨v.toArray⟩] 9)).drew.cell? ⟨w.heap.size,2,none⟩=some (.slice (some ⟨b,off,none⟩) 16 cap)∧(wx.alloc (.cells #[.string ⟨v.toArray⟩] 9)).drew.cell? ⟨w.heap.size,3,none⟩=some (.string ⟨v.toArray⟩)):=⟨(quad_cells HQA.out).2.2.1,(quad_cells HQA.out).2.2.2.1⟩
 go_region_held3 (fun w'=>w'.cell? ⟨w.heap.size,2,none⟩=some (.slice (some ⟨b,off,none⟩) 16 cap)∧w'.cell? ⟨w.heap.size,3,none⟩=some (.string ⟨v.toArray⟩))
  (first | exact S3.out | exact S1a.out | exact S1.out | exact SA.out | exact⟨q2,q3⟩)
  (first
   | (go_at_call 66
      with_reducible refine (HKL.out _ _ _ HO3.out).mono ?_
      rintro e w4 ⟨rfl,b4⟩
      have B4:=B3.out.trans (b4.mono B3.out.size)
      have S3:Hid (w4.cell? ⟨w.heap.size,2,none⟩=some (.slice (some ⟨b,off,none⟩) 16 cap)∧w4.cell? ⟨w.heap.size,3,none⟩=some (.string ⟨v.toArray⟩)):=⟨(b4.cell (p:=⟨w.heap.size,2,none⟩) L3.out).trans S3.out.1,(b4.cell (p:=⟨w.heap.size,3,none⟩) L3.out).trans S3.out.2⟩)
   | (refine step_append_lies _ rfl (.tmp 10) (.tmp 13) 76 rfl (w.heap.size + 1) 9 i0 (.string ⟨#[]⟩) 1 16 Tryz.underlying76 hi0 hz0 hz1 hz2 rfl (by decide) (.slice (some ⟨g1, 0, none⟩) 16 c1) 16 cs (by simp [Act.eval]) O1n.out ⟨w1.heap.size, 0, none⟩ 1 1 [.string ⟨v.toArray⟩] (by simp [Act.eval]) rfl N1.out (by simp [Value.oneCell']) (by decide) (by unfold maxLen; omega) (by omega) Z1.out _ rfl ?_
      intro g3 c3 w3 hown3 hgrow3 hat3 hlt3
      have HO3:=hidOwn hown3
      have B3:Hid (Below w.heap.size w w3):=B1a.out.grown hgrow3 (by have:=Z1.out;omega) G1.out
      have L3:Hid (w.heap.size<w3.heap.size):=Nat.lt_of_lt_of_le (by have:=Z1.out;omega) hgrow3.size
      have S3:Hid (w3.cell? ⟨w.heap.size,2,none⟩=some (.slice (some ⟨b,off,none⟩) 16 cap)∧w3.cell? ⟨w.heap.size,3,none⟩=some (.string ⟨v.toArray⟩)):=⟨(hgrow3.cell_far ⟨w.heap.size,2,none⟩ (by show w.heap.size<_;have:=Z1.out;omega) F1.out.symm).trans S1a.out.1,(hgrow3.cell_far ⟨w.heap.size,3,none⟩ (by show w.heap.size<_;have:=Z1.out;omega) F1.out.symm).trans S1a.out.2⟩)
   | (refine step_append_lies _ rfl (.tmp 10) (.tmp 13) 76 rfl (w.heap.size + 1) 9 i0 (.string ⟨#[]⟩) 1 16 Tryz.underlying76 hi0 hz0 hz1 hz2 rfl (by decide) (.slice (some ⟨g2, 0, none⟩) 16 c2) 16 cs (by simp [Act.eval]) O2n.out ⟨wx.heap.size, 0, none⟩ 1 1 [.string ⟨v.toArray⟩] (by simp [Act.eval]) rfl N2.out (by simp [Value.oneCell']) (by decide) (by unfold maxLen; omega) (by omega) Z2.out _ rfl ?_
      intro g3 c3 w3 hown3 hgrow3 hat3 hlt3
      have HO3:=hidOwn hown3
      have B3:Hid (Below w.heap.size w w3):=B2.out.grown hgrow3 (by have:=Z2.out;omega) G2.out
      have L3:Hid (w.heap.size<w3.heap.size):=Nat.lt_of_lt_of_le (by have:=Z2.out;omega) hgrow3.size
      have S3:Hid (w3.cell? ⟨w.heap.size,2,none⟩=some (.slice (some ⟨b,off,none⟩) 16 cap)∧w3.cell? ⟨w.heap.size,3,none⟩=some (.string ⟨v.toArray⟩)):=⟨(hgrow3.cell_far ⟨w.heap.size,2,none⟩ (by show w.heap.size<_;have:=Z2.out;omega) F2.out.symm).trans S1.out.1,(hgrow3.cell_far ⟨w.heap.size,3,none⟩ (by show w.heap.size<_;have:=Z2.out;omega) F2.out.symm).trans S1.out.2⟩)
   | (go_at_call 67
      with_reducible refine (HKC.out wx.drew (below_drewX BX.out)).mono ?_
      rintro e w1 ⟨c1,g1,rfl,o1,b1'⟩
      have b1:Below wx.heap.size wx w1:=below_undrew b1'
      have B1:Hid (Below w.heap.size w w1):=BX.out.trans (b1.mono BX.out.size)
      have q1':=quad_cells ((b1.block _ HX.out).trans HQ.out)
      have S1:Hid (w1.cell? ⟨w.heap.size,2,none⟩=some (.slice (some ⟨b,off,none⟩) 16 cap)∧w1.cell? ⟨w.heap.size,3,none⟩=some (.string ⟨v.toArray⟩)):=⟨q1'.2.2.1,q1'.2.2.2.1⟩
      have q1a:=quad_cells ((Below.heap_alloc w1 (.cells #[.string ⟨v.toArray⟩] 9) w.heap.size (Nat.lt_of_lt_of_le HX.out b1.size)).trans ((b1.block _ HX.out).trans HQ.out))
      have S1a:Hid ((w1.alloc (.cells #[.string ⟨v.toArray⟩] 9)).cell? ⟨w.heap.size,2,none⟩=some (.slice (some ⟨b,off,none⟩) 16 cap)∧(w1.alloc (.cells #[.string ⟨v.toArray⟩] 9)).cell? ⟨w.heap.size,3,none⟩=some (.string ⟨v.toArray⟩)):=⟨q1a.2.2.1,q1a.2.2.2.1⟩
      have gb:=(some_own o1 (by omega)).2
      have O1n:=hidOwn ((o1.mono (by show w.heap.size+1≤wx.heap.size;have:=HSX.out;omega)).alloc (.cells #[.string ⟨v.toArray⟩] 9))
      have N1:Hid (∀ j u,[Value.string ⟨v.toArray⟩][j]? = some u→(w1.alloc (.cells #[.string ⟨v.toArray⟩] 9)).cell? ((⟨w1.heap.size,0,none⟩:Addr).add j)=some u):=World.news_of_block (cs:=#[.string ⟨v.toArray⟩]) (t:=9) (fr:=(0,0)) (heap_alloc_new w1 _)
      have Z1:Hid (w.heap.size+1≤(w1.alloc (.cells #[.string ⟨v.toArray⟩] 9)).heap.size):=(by rw[Hid];simp;have:=B1.out.size;omega)
      have B1a:Hid (Below w.heap.size w (w1.alloc (.cells #[.string ⟨v.toArray⟩] 9))):=B1.out.alloc B1.out.size _
      have G1:Hid (∀ k,(Value.slice (some ⟨g1,0,none⟩) 16 c1).ownBlock=some k→w.heap.size≤k):=fun k hk=>(by obtain⟨g',hg',hb',_⟩:=gb;cases hg';simp[Value.ownBlock] at hk;have h9:wx.heap.size≤g1:=hb';have:=HSX.out;omega)
      have F1:Hid ((Value.slice (some ⟨g1,0,none⟩) 16 c1).ownBlock≠some w.heap.size):=(by obtain⟨g',hg',hb',_⟩:=gb;cases hg';rw[Hid];simp[Value.ownBlock];have h9:wx.heap.size≤g1:=hb';have:=HSX.out;omega)
      clear q1' q1a gb o1 b1 b1')
   | (go_at_call 67
      with_reducible refine (HKC.out ((wx.alloc (.cells #[.string ⟨v.toArray⟩] 9)).drew) BXA.out).mono ?_
      rintro e w2 ⟨c2,g2,rfl,o2,b2⟩
      have B2:Hid (Below w.heap.size w w2):=BXA.out.trans (b2.mono BXA.out.size)
      have q2':=quad_cells ((b2.block w.heap.size (by have:=HXA.out;have:=HX.out;omega)).trans HQA.out)
      have S1:Hid (w2.cell? ⟨w.heap.size,2,none⟩=some (.slice (some ⟨b,off,none⟩) 16 cap)∧w2.cell? ⟨w.heap.size,3,none⟩=some (.string ⟨v.toArray⟩)):=⟨q2'.2.2.1,q2'.2.2.2.1⟩
      have gb:=(some_own o2 (by omega)).2
      have O2n:=hidOwn (o2.mono (by have:=HXA.out;have:=HSX.out;omega:w.heap.size+1≤(wx.alloc (.cells #[.string ⟨v.toArray⟩] 9)).drew.heap.size))
      have N2:Hid (∀ j u,[Value.string ⟨v.toArray⟩][j]? = some u→w2.cell? ((⟨wx.heap.size,0,none⟩:Addr).add j)=some u):=World.news_of_block (cs:=#[.string ⟨v.toArray⟩]) (t:=9) (fr:=(0,0)) ((b2.block wx.heap.size (by have:=HXA.out;omega)).trans HNA.out)
      have Z2:Hid (w.heap.size+1≤w2.heap.size):=Nat.le_trans (by have:=HXA.out;have:=HSX.out;omega) b2.size
      have G2:Hid (∀ k,(Value.slice (some ⟨g2,0,none⟩) 16 c2).ownBlock=some k→w.heap.size≤k):=fun k hk=>(by obtain⟨g',hg',hb',_⟩:=gb;cases hg';simp[Value.ownBlock] at hk;have:=HXA.out;have:=HSX.out;omega)
      have F2:Hid ((Value.slice (some ⟨g2,0,none⟩) 16 c2).ownBlock≠some w.heap.size):=(by obtain⟨g',hg',hb',_⟩:=gb;cases hg';rw[Hid];simp[Value.ownBlock];have:=HXA.out;have:=HSX.out;omega)
      clear q2' gb o2 b2))
 all_goals
  go_wp2
  go_ret
  exact⟨rfl,B4⟩
theorem nodeOk_cases (k:Int) (p:List UInt8) (ls:List (List UInt8)) (v:List UInt8) (h:nodeOk k p ls v=true) :
 p.length≤24∧isNibs p=true∧v.length≤60∧((k=1∧ls.length=0)∨(k=2∧ls.length=1∧(ls.getD 0 []).length=32)∨(k=3∧ls.length=16∧ls.all kidOk=true)):=by
 simp only[nodeOk,headOk,kindOk,branchOk,Bool.and_eq_true,decide_eq_true_eq] at h
 obtain⟨⟨h1,h2,h3⟩,h4⟩:=h
 refine⟨h1,h2,h3,?_⟩
 by_cases k1:k=1
 · rw[if_pos k1] at h4
   simp only[Bool.and_eq_true,decide_eq_true_eq] at h4
   exact .inl ⟨k1,h4.2⟩
 · rw [if_neg k1] at h4
   by_cases k2:k=2
   · rw[if_pos k2] at h4
     simp only[Bool.and_eq_true,decide_eq_true_eq] at h4
     exact .inr (.inl ⟨k2,h4.2.2.1,h4.2.2.2⟩)
   · rw[if_neg k2] at h4
     by_cases k3:k=3
     · rw[if_pos k3] at h4
       simp only[Bool.and_eq_true,decide_eq_true_eq] at h4
       exact .inr (.inr ⟨k3,h4.2.1,h4.2.2.1⟩)
     · rw[if_neg k3] at h4
       cases h4
theorem strs_first {w:World} {a:Option Addr} {ls:List (List UInt8)} (h:IsStrs w a ls) (h1:ls.length=1):∃ b off,a=some ⟨b,off,none⟩∧w.cell? ⟨b,off,none⟩=some (.string ⟨(ls.getD 0 []).toArray⟩):=by
 rcases h with h | ⟨b,off,h,hc⟩
 · rw[h] at h1;simp at h1
 · refine⟨b,off,h,?_⟩
   have:=hc 0 (by omega)
   rw[Nat.add_zero] at this
   rw[this,List.getD_eq_getElem?_getD,List.getElem?_eq_getElem (by omega)];rfl
theorem impl_text (k:Int) (p:List UInt8) (a:Option Addr) (cap:Nat) (ls:List (List UInt8)) (v:List UInt8) (w:World) (h:nodeOk k p ls v=true) (hs:IsStrs w a ls) :
 Calls Tryz.prog 48 #[.agg #[.int .i64 k,.string ⟨p.toArray⟩,.slice a ls.length cap,.string ⟨v.toArray⟩]] w fun e w'=>e=.returned (.string ⟨(listB (nodeTs k p ls v)).toArray⟩)∧Below w.heap.size w w':=by
 obtain⟨h1,h2,h3,h4⟩:=nodeOk_cases k p ls v h
 rcases h4 with ⟨rfl,hl⟩ | ⟨rfl,hl,hk⟩ | ⟨rfl,hl,hk⟩
 · exact impl_text1 p a cap ls.length v w h1 h2 h3
 · obtain⟨b,off,rfl,hc⟩:=strs_first hs hl
   rw[hl]
   exact impl_text2 p b off cap (ls.getD 0 []) v w h1 h2 hk hc
 · have hf:=flat_kids ls hk
   rcases hs with rfl | ⟨b,off,rfl,hc⟩
   · simp at hl
   · have:=impl_text3 p b off cap ls v w hl (by omega) h3 (.inr ⟨b,off,rfl,hc⟩)
     rw[hl]
     exact this
end Go.Proofs.YtcoahmldmodmlaaGreatDoor
