/-
 Texts that are laid as one: SNode, SNodeB, SNodeA.
-/
import Derived.Test.YtppljdnbhoeeoaaGreatDoorINodes
import Derived.Test.YtppljdnbhoeeoaaGreatDoorSSums
namespace Go.Proofs.YtppljdnbhoeeoaaGreatDoor
open Go.RowKit
set_option linter.unusedVariables false
set_option maxHeartbeats 4000000
set_option maxRecDepth 100000
theorem zie (l:List UInt8) (w:World) (hl:l.length≤1048576) :
 Calls Tryz.prog 158 #[.string ⟨l.toArray⟩] w fun e w'=>e=.returned (.bool (zq l))∧w'=w:=by
 have h:=zvm ⟨l.toArray⟩ w (by simp[ByteArray.size];omega)
 have e1:(ByteArray.mk l.toArray).data.toList=l:=by simp
 rw[e1] at h
 exact h
theorem zif (l:List UInt8) (leaf:Bool) (w:World) (hl:l.length≤24) :
 Calls Tryz.prog 160 #[.string ⟨l.toArray⟩,.bool leaf] w fun e w'=>e=.returned (.string ⟨(pack (za7 l leaf)).toArray⟩)∧Below w.heap.size w w':=by
 have h:=zvp ⟨l.toArray⟩ leaf w (by simp[ByteArray.size];omega)
 have e1:(ByteArray.mk l.toArray).data.toList=l:=by simp
 rw[e1] at h
 exact h
theorem zig (x:List UInt8) (r:Bool) (w:World) (hx:x.length≤1048576) (hr:r=decide (x.length=32)) :
 Calls Tryz.prog 161 #[.string ⟨x.toArray⟩] w fun e w'=>e=.returned (.bool r)∧w'=w:=by
 by_cases h:x.length=32
 · have h':((x.length:Int) == 32)=true:=by rw[beq_iff_eq];omega
   have e:r=true:=by rw[hr];exact decide_eq_true h
   subst e
   clear hr h
   go_enter Tryz.func161,Tryz.ntmps161
   go_wp2
   go_ret
   exact⟨rfl,rfl⟩
 · have h':((x.length:Int) == 32)=false:=by rw[beq_eq_false_iff_ne];omega
   have e:r=false:=by rw[hr];exact decide_eq_false h
   subst e
   clear hr h
   go_enter Tryz.func161,Tryz.ntmps161
   go_wp2
   go_ret
   exact⟨rfl,rfl⟩
theorem zih (w:World) (x y:List UInt8) (base:Nat) (hb:base≤w.heap.size):(w.alloc (.cells #[.string ⟨x.toArray⟩,.string ⟨y.toArray⟩] 9)).ownsRow base 9 1 (.slice (some ⟨w.heap.size,0,none⟩) 2 2) 2 (zh [x,y]) :=
 World.ownsRow_lit w #[_,_] 2 hb (by decide) rfl
theorem za20 (p:List UInt8) (a:Option Addr) (cap n:Nat) (v:List UInt8) (w:World) (hp:p.length≤24) (hn:zq p=true) (hv:v.length≤60) (hve:v.isEmpty=false) (hn0:n=0) :
 Calls Tryz.prog 123 #[.agg #[.int .i64 1,.string ⟨p.toArray⟩,.slice a n cap,.string ⟨v.toArray⟩]] w fun e w'=>e=.returned (.tuple #[.string ⟨(za8 [pack (za7 p true),v]).toArray⟩,.bool true])∧Below w.heap.size w w':=by
 subst hn0
 have B0:Below w.heap.size w (w.alloc (.cells #[.int .i64 1,.string ⟨p.toArray⟩,.slice a 0 cap,.string ⟨v.toArray⟩] 152)):=(Below.refl _ _).alloc (Nat.le_refl _) _
 have HQ:Hid ((w.alloc (.cells #[.int .i64 1,.string ⟨p.toArray⟩,.slice a 0 cap,.string ⟨v.toArray⟩] 152)).heap[w.heap.size]? = some (.cells #[.int .i64 1,.string ⟨p.toArray⟩,.slice a 0 cap,.string ⟨v.toArray⟩] 152 (0,0))):=heap_alloc_new w _
 obtain⟨wx,hwx⟩:∃ wx,wx=w.alloc (.cells #[.int .i64 1,.string ⟨p.toArray⟩,.slice a 0 cap,.string ⟨v.toArray⟩] 152):=⟨_,rfl⟩
 have hsx:wx.heap.size=w.heap.size+1:=by rw[hwx];simp
 have KN:=zie p (w.alloc (.cells #[.int .i64 1,.string ⟨p.toArray⟩,.slice a 0 cap,.string ⟨v.toArray⟩] 152)) (by omega)
 rw[hn] at KN
 have HWX:Hid (w.alloc (.cells #[.int .i64 1,.string ⟨p.toArray⟩,.slice a 0 cap,.string ⟨v.toArray⟩] 152)=wx):=hwx.symm
 rw[←hwx] at HQ B0
 have BX:Hid (Below w.heap.size w wx):=B0
 have HSX:Hid (wx.heap.size=w.heap.size+1):=hsx
 have KP:=zif p true wx.drew hp
 have hxl:=ze1 p true
 obtain⟨x,hx⟩:∃ x,x=pack (za7 p true):=⟨_,rfl⟩
 rw[←hx] at KP hxl ⊢
 have HKL:Hid (∀ W g,W.ownsRow (w.heap.size+1) 9 1 (.slice (some ⟨g,0,none⟩) 2 2) 2 (zh [x,v])→Calls Tryz.prog 159 #[.slice (some ⟨g,0,none⟩) 2 2] W fun e w'=>e=.returned (.string ⟨(za8 [x,v]).toArray⟩)∧Below W.heap.size W w'):=fun W g ho=>zfn g 2 [x,v] _ W (by simp;omega) (by simp) ho
 obtain⟨out,hout⟩:∃ out,za8 [x,v]=out:=⟨_,rfl⟩
 rw[hout] at HKL ⊢
 have hp':(p.length:Int)≤24:=by omega
 have hpd:decide ((24:Int)<(p.length:Int))=false:=decide_eq_false (by omega)
 have hv':(v.length:Int)≤60:=by omega
 have hvd:decide ((60:Int)<(v.length:Int))=false:=decide_eq_false (by omega)
 clear hwx hx hout B0 hsx
 go_enter Tryz.func123,Tryz.ntmps123
 go_wp2_with fail
 refine KN.mono ?_
 rintro e w1 ⟨rfl,rfl⟩
 go_wp2_with fail
 rw[HWX.out]
 have SX:Hid (wx.cell? ⟨w.heap.size,1,none⟩=some (.string ⟨p.toArray⟩)∧wx.cell? ⟨w.heap.size,3,none⟩=some (.string ⟨v.toArray⟩)):=⟨(zi HQ.out).2.1,(zi HQ.out).2.2.2.1⟩
 go_region_held3 (fun w'=>w'.cell? ⟨w.heap.size,1,none⟩=some (.string ⟨p.toArray⟩)∧w'.cell? ⟨w.heap.size,3,none⟩=some (.string ⟨v.toArray⟩))
  (first | exact S2.out | exact S1a.out | exact S1.out | exact SX.out)
  (first
   | (go_at_call 159
      with_reducible refine (HKL.out _ _ O1.out).mono ?_
      rintro e w2 ⟨rfl,b2⟩
      have B2:Hid (Below w.heap.size w w2):=B1a.out.trans (b2.mono B1a.out.size)
      have q2':=zi ((b2.block w.heap.size L1a.out).trans Q1a.out)
      have S2:Hid (w2.cell? ⟨w.heap.size,1,none⟩=some (.string ⟨p.toArray⟩)∧w2.cell? ⟨w.heap.size,3,none⟩=some (.string ⟨v.toArray⟩)):=⟨q2'.2.1,q2'.2.2.2.1⟩
      clear q2' b2)
   | (go_at_call 160
      with_reducible refine KP.mono ?_
      rintro e w1 ⟨rfl,b1'⟩
      have b1:Below wx.heap.size wx w1:=zcp b1'
      have B1:Hid (Below w.heap.size w w1):=BX.out.trans (b1.mono BX.out.size)
      have Q1:Hid (w1.heap[w.heap.size]? = _):=(b1.block w.heap.size (by have:=HSX.out;omega)).trans HQ.out
      have q1':=zi Q1.out
      have S1:Hid (w1.cell? ⟨w.heap.size,1,none⟩=some (.string ⟨p.toArray⟩)∧w1.cell? ⟨w.heap.size,3,none⟩=some (.string ⟨v.toArray⟩)):=⟨q1'.2.1,q1'.2.2.2.1⟩
      have Z1:Hid (w.heap.size+1≤w1.heap.size):=Nat.le_trans (by have:=HSX.out;omega) b1.size
      have Q1a:Hid ((w1.alloc (.cells #[.string ⟨x.toArray⟩,.string ⟨v.toArray⟩] 9)).heap[w.heap.size]? = _):=(Below.heap_alloc w1 (.cells #[.string ⟨x.toArray⟩,.string ⟨v.toArray⟩] 9) w.heap.size (by have:=Z1.out;omega)).trans Q1.out
      have L1a:Hid (w.heap.size<(w1.alloc (.cells #[.string ⟨x.toArray⟩,.string ⟨v.toArray⟩] 9)).heap.size):=(by rw[Hid];simp;have:=Z1.out;omega)
      have B1a:Hid (Below w.heap.size w (w1.alloc (.cells #[.string ⟨x.toArray⟩,.string ⟨v.toArray⟩] 9))):=B1.out.alloc B1.out.size _
      have q1a:=zi Q1a.out
      have S1a:Hid ((w1.alloc (.cells #[.string ⟨x.toArray⟩,.string ⟨v.toArray⟩] 9)).cell? ⟨w.heap.size,1,none⟩=some (.string ⟨p.toArray⟩)∧(w1.alloc (.cells #[.string ⟨x.toArray⟩,.string ⟨v.toArray⟩] 9)).cell? ⟨w.heap.size,3,none⟩=some (.string ⟨v.toArray⟩)):=⟨q1a.2.1,q1a.2.2.2.1⟩
      have O1:=zc (zih w1 x v (w.heap.size+1) Z1.out)
      clear q1' q1a b1 b1'))
 all_goals
  go_wp2
  go_ret2
  exact⟨rfl,B2.out⟩
theorem za21 (p:List UInt8) (b off cap:Nat) (y v:List UInt8) (w:World) (hp:p.length≤24) (hn:zq p=true) (hv:v.length≤60) (hy:y.length=32) (hpe:p.isEmpty=false) (hve:v.isEmpty=true) (hc:w.cell? ⟨b,off,none⟩=some (.string ⟨y.toArray⟩)) :
 Calls Tryz.prog 123 #[.agg #[.int .i64 2,.string ⟨p.toArray⟩,.slice (some ⟨b,off,none⟩) 1 cap,.string ⟨v.toArray⟩]] w fun e w'=>e=.returned (.tuple #[.string ⟨(za8 [pack (za7 p false),y]).toArray⟩,.bool true])∧Below w.heap.size w w':=by
 have HC:Hid (w.cell? ⟨b,off,none⟩=some (.string ⟨y.toArray⟩)):=hc
 have B0:Below w.heap.size w (w.alloc (.cells #[.int .i64 2,.string ⟨p.toArray⟩,.slice (some ⟨b,off,none⟩) 1 cap,.string ⟨v.toArray⟩] 152)):=(Below.refl _ _).alloc (Nat.le_refl _) _
 have HQ:Hid ((w.alloc (.cells #[.int .i64 2,.string ⟨p.toArray⟩,.slice (some ⟨b,off,none⟩) 1 cap,.string ⟨v.toArray⟩] 152)).heap[w.heap.size]? = some (.cells #[.int .i64 2,.string ⟨p.toArray⟩,.slice (some ⟨b,off,none⟩) 1 cap,.string ⟨v.toArray⟩] 152 (0,0))):=heap_alloc_new w _
 obtain⟨wx,hwx⟩:∃ wx,wx=w.alloc (.cells #[.int .i64 2,.string ⟨p.toArray⟩,.slice (some ⟨b,off,none⟩) 1 cap,.string ⟨v.toArray⟩] 152):=⟨_,rfl⟩
 have hsx:wx.heap.size=w.heap.size+1:=by rw[hwx];simp
 have KN:=zie p (w.alloc (.cells #[.int .i64 2,.string ⟨p.toArray⟩,.slice (some ⟨b,off,none⟩) 1 cap,.string ⟨v.toArray⟩] 152)) (by omega)
 rw[hn] at KN
 have HWX:Hid (w.alloc (.cells #[.int .i64 2,.string ⟨p.toArray⟩,.slice (some ⟨b,off,none⟩) 1 cap,.string ⟨v.toArray⟩] 152)=wx):=hwx.symm
 rw[←hwx] at HQ B0
 have BX:Hid (Below w.heap.size w wx):=B0
 have HSX:Hid (wx.heap.size=w.heap.size+1):=hsx
 have KH:=zig y true wx (by omega) (by rw[decide_eq_true hy])
 have KP:=zif p false wx.drew hp
 have hxl:=ze1 p false
 obtain⟨x,hx⟩:∃ x,x=pack (za7 p false):=⟨_,rfl⟩
 rw[←hx] at KP hxl ⊢
 have HKL:Hid (∀ W g,W.ownsRow (w.heap.size+1) 9 1 (.slice (some ⟨g,0,none⟩) 2 2) 2 (zh [x,y])→Calls Tryz.prog 159 #[.slice (some ⟨g,0,none⟩) 2 2] W fun e w'=>e=.returned (.string ⟨(za8 [x,y]).toArray⟩)∧Below W.heap.size W w'):=fun W g ho=>zfn g 2 [x,y] _ W (by simp;omega) (by simp) ho
 obtain⟨out,hout⟩:∃ out,za8 [x,y]=out:=⟨_,rfl⟩
 rw[hout] at HKL ⊢
 have hp':(p.length:Int)≤24:=by omega
 have hpd:decide ((24:Int)<(p.length:Int))=false:=decide_eq_false (by omega)
 have hv':(v.length:Int)≤60:=by omega
 have hvd:decide ((60:Int)<(v.length:Int))=false:=decide_eq_false (by omega)
 have c0:wx.cell? ⟨b,off,none⟩=some (.string ⟨y.toArray⟩):=(B0.cell (p:=⟨b,off,none⟩) (World.block_lt_of_cell? w _ hc)).trans hc
 have c0x:(w.alloc (.cells #[.int .i64 2,.string ⟨p.toArray⟩,.slice (some ⟨b,off,none⟩) 1 cap,.string ⟨v.toArray⟩] 152)).cell? ⟨b,off,none⟩=some (.string ⟨y.toArray⟩):=by rw[←hwx];exact c0
 clear hwx hx hout B0 hsx hc hy
 go_enter Tryz.func123,Tryz.ntmps123
 go_wp2_with fail
 refine KN.mono ?_
 rintro e w1 ⟨rfl,rfl⟩
 go_wp2_with fail
 rw[HWX.out]
 refine KH.mono ?_
 rintro e wx ⟨rfl,rfl⟩
 obtain⟨q0,q1,q2,q3,_⟩:=zi HQ.out
 go_wp2_with fail
 have SX:Hid (wx.cell? ⟨w.heap.size,1,none⟩=some (.string ⟨p.toArray⟩)∧wx.cell? ⟨w.heap.size,2,none⟩=some (.slice (some ⟨b,off,none⟩) 1 cap)∧wx.cell? ⟨b,off,none⟩=some (.string ⟨y.toArray⟩)):=⟨(zi HQ.out).2.1,(zi HQ.out).2.2.1,(BX.out.cell (p:=⟨b,off,none⟩) (World.block_lt_of_cell? w _ HC.out)).trans HC.out⟩
 go_region_held3 (fun w'=>w'.cell? ⟨w.heap.size,1,none⟩=some (.string ⟨p.toArray⟩)∧w'.cell? ⟨w.heap.size,2,none⟩=some (.slice (some ⟨b,off,none⟩) 1 cap)∧w'.cell? ⟨b,off,none⟩=some (.string ⟨y.toArray⟩))
  (first | exact S2.out | exact S1a.out | exact S1.out | exact SX.out)
  (first
   | (go_at_call 159
      with_reducible refine (HKL.out _ _ O1.out).mono ?_
      rintro e w2 ⟨rfl,b2⟩
      have B2:Hid (Below w.heap.size w w2):=B1a.out.trans (b2.mono B1a.out.size)
      have q2':=zi ((b2.block w.heap.size L1a.out).trans Q1a.out)
      have S2:Hid (w2.cell? ⟨w.heap.size,1,none⟩=some (.string ⟨p.toArray⟩)∧w2.cell? ⟨w.heap.size,2,none⟩=some (.slice (some ⟨b,off,none⟩) 1 cap)∧w2.cell? ⟨b,off,none⟩=some (.string ⟨y.toArray⟩)):=⟨q2'.2.1,q2'.2.2.1,(B2.out.cell (p:=⟨b,off,none⟩) (World.block_lt_of_cell? w _ HC.out)).trans HC.out⟩
      clear q2' b2)
   | (go_at_call 160
      with_reducible refine KP.mono ?_
      rintro e w1 ⟨rfl,b1'⟩
      have b1:Below wx.heap.size wx w1:=zcp b1'
      have B1:Hid (Below w.heap.size w w1):=BX.out.trans (b1.mono BX.out.size)
      have Q1:Hid (w1.heap[w.heap.size]? = _):=(b1.block w.heap.size (by have:=HSX.out;omega)).trans HQ.out
      have q1':=zi Q1.out
      have S1:Hid (w1.cell? ⟨w.heap.size,1,none⟩=some (.string ⟨p.toArray⟩)∧w1.cell? ⟨w.heap.size,2,none⟩=some (.slice (some ⟨b,off,none⟩) 1 cap)∧w1.cell? ⟨b,off,none⟩=some (.string ⟨y.toArray⟩)):=⟨q1'.2.1,q1'.2.2.1,(B1.out.cell (p:=⟨b,off,none⟩) (World.block_lt_of_cell? w _ HC.out)).trans HC.out⟩
      have Z1:Hid (w.heap.size+1≤w1.heap.size):=Nat.le_trans (by have:=HSX.out;omega) b1.size
      have Q1a:Hid ((w1.alloc (.cells #[.string ⟨x.toArray⟩,.string ⟨y.toArray⟩] 9)).heap[w.heap.size]? = _):=(Below.heap_alloc w1 (.cells #[.string ⟨x.toArray⟩,.string ⟨y.toArray⟩] 9) w.heap.size (by have:=Z1.out;omega)).trans Q1.out
      have L1a:Hid (w.heap.size<(w1.alloc (.cells #[.string ⟨x.toArray⟩,.string ⟨y.toArray⟩] 9)).heap.size):=(by rw[Hid];simp;have:=Z1.out;omega)
      have B1a:Hid (Below w.heap.size w (w1.alloc (.cells #[.string ⟨x.toArray⟩,.string ⟨y.toArray⟩] 9))):=B1.out.alloc B1.out.size _
      have q1a:=zi Q1a.out
      have S1a:Hid ((w1.alloc (.cells #[.string ⟨x.toArray⟩,.string ⟨y.toArray⟩] 9)).cell? ⟨w.heap.size,1,none⟩=some (.string ⟨p.toArray⟩)∧(w1.alloc (.cells #[.string ⟨x.toArray⟩,.string ⟨y.toArray⟩] 9)).cell? ⟨w.heap.size,2,none⟩=some (.slice (some ⟨b,off,none⟩) 1 cap)∧(w1.alloc (.cells #[.string ⟨x.toArray⟩,.string ⟨y.toArray⟩] 9)).cell? ⟨b,off,none⟩=some (.string ⟨y.toArray⟩)):=⟨q1a.2.1,q1a.2.2.1,(B1a.out.cell (p:=⟨b,off,none⟩) (World.block_lt_of_cell? w _ HC.out)).trans HC.out⟩
      have O1:=zc (zih w1 x y (w.heap.size+1) Z1.out)
      clear q1' q1a b1 b1'))
 all_goals
  go_wp2
  go_ret2
  exact⟨rfl,B2.out⟩
theorem za22 (p : List UInt8) (b off cap : Nat) (ls : List (List UInt8)) (v : List UInt8) (r : Bool) (t : List UInt8) (w : World) (hp : p.length ≤ 24) (hn : zq p = true) (hpe : p.isEmpty = true) (h16 : ls.length = 16) (hv : v.length ≤ 60) (hm : ∀ l ∈ ls, l.length ≤ 1048576) (hs0 : zt w (some ⟨b, off, none⟩) ls) (hr : r = zcf ls v) (ht : t = if r = true then za8 (ls ++ [v]) else []) :
 Calls Tryz.prog 123 #[.agg #[.int .i64 3,.string ⟨p.toArray⟩,.slice (some ⟨b,off,none⟩) 16 cap,.string ⟨v.toArray⟩]] w fun e w'=>e=.returned (.tuple #[.string ⟨t.toArray⟩,.bool r])∧Below w.heap.size w w':=by
 obtain⟨i0,hi0,hz0,hz1,hz2⟩:=info_parts zdc
 have B0:Below w.heap.size w (w.alloc (.cells #[.int .i64 3,.string ⟨p.toArray⟩,.slice (some ⟨b,off,none⟩) 16 cap,.string ⟨v.toArray⟩] 152)):=(Below.refl _ _).alloc (Nat.le_refl _) _
 have HQ:Hid ((w.alloc (.cells #[.int .i64 3,.string ⟨p.toArray⟩,.slice (some ⟨b,off,none⟩) 16 cap,.string ⟨v.toArray⟩] 152)).heap[w.heap.size]? = some (.cells #[.int .i64 3,.string ⟨p.toArray⟩,.slice (some ⟨b,off,none⟩) 16 cap,.string ⟨v.toArray⟩] 152 (0,0))):=heap_alloc_new w _
 obtain⟨wx,hwx⟩:∃ wx,wx=w.alloc (.cells #[.int .i64 3,.string ⟨p.toArray⟩,.slice (some ⟨b,off,none⟩) 16 cap,.string ⟨v.toArray⟩] 152):=⟨_,rfl⟩
 have hsx:wx.heap.size=w.heap.size+1:=by rw[hwx];simp
 have KN:=zie p (w.alloc (.cells #[.int .i64 3,.string ⟨p.toArray⟩,.slice (some ⟨b,off,none⟩) 16 cap,.string ⟨v.toArray⟩] 152)) (by omega)
 rw[hn] at KN
 have HWX:Hid (w.alloc (.cells #[.int .i64 3,.string ⟨p.toArray⟩,.slice (some ⟨b,off,none⟩) 16 cap,.string ⟨v.toArray⟩] 152)=wx):=hwx.symm
 rw[←hwx] at HQ B0
 have hs:=hs0
 have BX:Hid (Below w.heap.size w wx):=B0
 have HSX:Hid (wx.heap.size=w.heap.size+1):=hsx
 have HR:Hid (r=(ls.all zao && decide (2≤oneN v+zb4 ls))):=by rw[Hid,hr,zcf,decide_eq_true h16];rfl
 have HTT:Hid (t=if r=true then za8 (ls ++ [v]) else []):=ht
 have HFK:Hid (ls.all zao=true→ls.flatten.length≤32*ls.length):=fun h=>zo2 ls h
 have HN:Hid (ls.length=16):=h16
 have hlen17:(ls ++ [v]).length=17:=by simp[h16]
 have hc:∀ j (h:j<ls.length),wx.cell? ⟨b,off+j,none⟩=some (.string ⟨ls[j].toArray⟩):=fun j h=>by
  rcases zay hs0 B0 with h0 | ⟨b',off',he,hc'⟩
  · rw[h0] at h16;simp at h16
  · cases he;exact hc' j h
 have hm':∀ j (h:j<ls.length),ls[j].length≤1048576:=fun j h=>hm _ (List.getElem_mem _)
 obtain⟨cs,hcs⟩:∃ cs,cs=zh ls:=⟨_,rfl⟩
 have HKL:Hid (∀ W g c,W.ownsRow (w.heap.size+1) 9 1 (.slice (some ⟨g,0,none⟩) 17 c) 17 (cs ++ [.string ⟨v.toArray⟩])→ls.flatten.length≤1000→Calls Tryz.prog 159 #[.slice (some ⟨g,0,none⟩) 17 c] W fun e w'=>e=.returned (.string ⟨(za8 (ls ++ [v])).toArray⟩)∧Below W.heap.size W w'):=fun W g c ho hk=>by
  rw[hcs,←zc0] at ho
  have h:=zfn g c (ls ++ [v]) (w.heap.size+1) W (by rw[List.flatten_append,List.length_append,show ([v]:List (List UInt8)).flatten=v by simp];omega) (by omega) (by rw[hlen17];exact ho)
  rw[hlen17] at h
  exact h
 have HCL:Hid (cs.length=16*1):=by rw[Hid,hcs,zem,h16]
 have HC1:Hid (∀ u∈cs,u.oneCell'=true):=by rw[Hid,hcs];exact zhe ls
 have QA:Hid ((wx.alloc (.cells #[] 9)).heap[w.heap.size]? = some (.cells #[.int .i64 3,.string ⟨p.toArray⟩,.slice (some ⟨b,off,none⟩) 16 cap,.string ⟨v.toArray⟩] 152 (0,0))):=(Below.heap_alloc wx (.cells #[] 9) w.heap.size (by omega)).trans HQ.out
 have SA:Hid ((wx.alloc (.cells #[] 9)).drew.cell? ⟨w.heap.size,2,none⟩=some (.slice (some ⟨b,off,none⟩) 16 cap)∧(wx.alloc (.cells #[] 9)).drew.cell? ⟨w.heap.size,3,none⟩=some (.string ⟨v.toArray⟩)):=⟨(zi QA.out).2.2.1,(zi QA.out).2.2.2.1⟩
 have ZA:Hid ((wx.alloc (.cells #[] 9)).heap.size=wx.heap.size+1):=by rw[Hid];simp
 have BA:Hid (Below w.heap.size w (wx.alloc (.cells #[] 9))):=B0.alloc (by omega) _
 have QAE:Hid (((wx.alloc (.cells #[] 9)).alloc (.cells #[.string ⟨v.toArray⟩] 9)).heap[w.heap.size]? = some (.cells #[.int .i64 3,.string ⟨p.toArray⟩,.slice (some ⟨b,off,none⟩) 16 cap,.string ⟨v.toArray⟩] 152 (0,0))):=(Below.heap_alloc (wx.alloc (.cells #[] 9)) (.cells #[.string ⟨v.toArray⟩] 9) w.heap.size (by simp;omega)).trans QA.out
 have SAE:Hid (((wx.alloc (.cells #[] 9)).alloc (.cells #[.string ⟨v.toArray⟩] 9)).drew.cell? ⟨w.heap.size,2,none⟩=some (.slice (some ⟨b,off,none⟩) 16 cap)∧((wx.alloc (.cells #[] 9)).alloc (.cells #[.string ⟨v.toArray⟩] 9)).drew.cell? ⟨w.heap.size,3,none⟩=some (.string ⟨v.toArray⟩)):=⟨(zi QAE.out).2.2.1,(zi QAE.out).2.2.2.1⟩
 have ZAE:Hid (((wx.alloc (.cells #[] 9)).alloc (.cells #[.string ⟨v.toArray⟩] 9)).heap.size=wx.heap.size+2):=by rw[Hid];simp
 have BAE:Hid (Below w.heap.size w ((wx.alloc (.cells #[] 9)).alloc (.cells #[.string ⟨v.toArray⟩] 9))):=BA.out.alloc (by have:=ZA.out;omega) _
 have QB:Hid ((wx.alloc (.cells #[.string ⟨v.toArray⟩] 9)).heap[w.heap.size]? = some (.cells #[.int .i64 3,.string ⟨p.toArray⟩,.slice (some ⟨b,off,none⟩) 16 cap,.string ⟨v.toArray⟩] 152 (0,0))):=(Below.heap_alloc wx (.cells #[.string ⟨v.toArray⟩] 9) w.heap.size (by omega)).trans HQ.out
 have SB:Hid ((wx.alloc (.cells #[.string ⟨v.toArray⟩] 9)).drew.cell? ⟨w.heap.size,2,none⟩=some (.slice (some ⟨b,off,none⟩) 16 cap)∧(wx.alloc (.cells #[.string ⟨v.toArray⟩] 9)).drew.cell? ⟨w.heap.size,3,none⟩=some (.string ⟨v.toArray⟩)):=⟨(zi QB.out).2.2.1,(zi QB.out).2.2.2.1⟩
 have ZB:Hid ((wx.alloc (.cells #[.string ⟨v.toArray⟩] 9)).heap.size=wx.heap.size+1):=by rw[Hid];simp
 have BB:Hid (Below w.heap.size w (wx.alloc (.cells #[.string ⟨v.toArray⟩] 9))):=B0.alloc (by omega) _
 have QBA:Hid (((wx.alloc (.cells #[.string ⟨v.toArray⟩] 9)).alloc (.cells #[] 9)).heap[w.heap.size]? = some (.cells #[.int .i64 3,.string ⟨p.toArray⟩,.slice (some ⟨b,off,none⟩) 16 cap,.string ⟨v.toArray⟩] 152 (0,0))):=(Below.heap_alloc (wx.alloc (.cells #[.string ⟨v.toArray⟩] 9)) (.cells #[] 9) w.heap.size (by simp;omega)).trans QB.out
 have SBA:Hid (((wx.alloc (.cells #[.string ⟨v.toArray⟩] 9)).alloc (.cells #[] 9)).drew.cell? ⟨w.heap.size,2,none⟩=some (.slice (some ⟨b,off,none⟩) 16 cap)∧((wx.alloc (.cells #[.string ⟨v.toArray⟩] 9)).alloc (.cells #[] 9)).drew.cell? ⟨w.heap.size,3,none⟩=some (.string ⟨v.toArray⟩)):=⟨(zi QBA.out).2.2.1,(zi QBA.out).2.2.2.1⟩
 have ZBA:Hid (((wx.alloc (.cells #[.string ⟨v.toArray⟩] 9)).alloc (.cells #[] 9)).heap.size=wx.heap.size+2):=by rw[Hid];simp
 have BBA:Hid (Below w.heap.size w ((wx.alloc (.cells #[.string ⟨v.toArray⟩] 9)).alloc (.cells #[] 9))):=BB.out.alloc (by have:=ZB.out;omega) _
 have OA:Hid ((wx.alloc (.cells #[] 9)).drew.ownsRow (w.heap.size+1) 9 1 (.slice (some ⟨wx.heap.size,0,none⟩) 0 0) 0 []):=World.ownsRow_lit (e:=9) (size:=1) wx #[] 0 (base:=w.heap.size+1) (by omega) (Nat.zero_le _) rfl
 have FA:Hid (∀ j u,cs[j]? = some u→(wx.alloc (.cells #[] 9)).drew.cell? ((⟨b,off,none⟩:Addr).add j)=some u):=by rw[Hid,hcs];exact zf7 (zay hs (zd2 BA.out))
 have OAE:Hid (((wx.alloc (.cells #[] 9)).alloc (.cells #[.string ⟨v.toArray⟩] 9)).drew.ownsRow (w.heap.size+1) 9 1 (.slice (some ⟨wx.heap.size,0,none⟩) 0 0) 0 []):=(World.ownsRow_lit (e:=9) (size:=1) wx #[] 0 (base:=w.heap.size+1) (by omega) (Nat.zero_le _) rfl).alloc _
 have FAE:Hid (∀ j u,cs[j]? = some u→((wx.alloc (.cells #[] 9)).alloc (.cells #[.string ⟨v.toArray⟩] 9)).drew.cell? ((⟨b,off,none⟩:Addr).add j)=some u):=by rw[Hid,hcs];exact zf7 (zay hs (zd2 BAE.out))
 have OBA:Hid (((wx.alloc (.cells #[.string ⟨v.toArray⟩] 9)).alloc (.cells #[] 9)).drew.ownsRow (w.heap.size+1) 9 1 (.slice (some ⟨(wx.heap.size+1),0,none⟩) 0 0) 0 []):=by
  have h:=World.ownsRow_lit (e:=9) (size:=1) (wx.alloc (.cells #[.string ⟨v.toArray⟩] 9)) #[] 0 (base:=w.heap.size+1) (by have:=ZB.out;omega) (Nat.zero_le _) rfl
  rw[ZB.out] at h
  exact h
 have FBA:Hid (∀ j u,cs[j]? = some u→((wx.alloc (.cells #[.string ⟨v.toArray⟩] 9)).alloc (.cells #[] 9)).drew.cell? ((⟨b,off,none⟩:Addr).add j)=some u):=by rw[Hid,hcs];exact zf7 (zay hs (zd2 BBA.out))
 have NAE:Hid (((wx.alloc (.cells #[] 9)).alloc (.cells #[.string ⟨v.toArray⟩] 9)).heap[wx.heap.size+1]? = some (.cells #[.string ⟨v.toArray⟩] 9 (0,0))):=by have h:=heap_alloc_new (wx.alloc (.cells #[] 9)) (.cells #[.string ⟨v.toArray⟩] 9);rw[ZA.out] at h;exact h
 have NBA:Hid (((wx.alloc (.cells #[.string ⟨v.toArray⟩] 9)).alloc (.cells #[] 9)).heap[wx.heap.size]? = some (.cells #[.string ⟨v.toArray⟩] 9 (0,0))):=(Below.heap_alloc (wx.alloc (.cells #[.string ⟨v.toArray⟩] 9)) (.cells #[] 9) wx.heap.size (by simp)).trans (heap_alloc_new wx (.cells #[.string ⟨v.toArray⟩] 9))
 have hp':(p.length:Int)≤24:=by omega
 have hpd:decide ((24:Int)<(p.length:Int))=false:=decide_eq_false (by omega)
 have hv':(v.length:Int)≤60:=by omega
 have hvd:decide ((60:Int)<(v.length:Int))=false:=decide_eq_false (by omega)
 have HK1:Hid (∀ x:List UInt8,x.length≤1048576→∀ r',r'=decide (x.length=32)→Calls Tryz.prog 161 #[.string ⟨x.toArray⟩] wx fun e w'=>e=.returned (.bool r')∧w'=wx):=fun x h r' h'=>zig x r' wx h h'
 clear hwx hcs hsx h16 hm hs hs0 hr ht hlen17 B0
 rcases zcu v with hve | hve
 all_goals
  have HV:Hid (v.isEmpty=_):=hve
  go_enter Tryz.func123,Tryz.ntmps123
  go_wp2_with fail
  refine KN.mono ?_
  rintro e w1 ⟨rfl,rfl⟩
  rw[HWX.out]
  obtain⟨q0,q1,q2,q3,_⟩:=zi HQ.out
  go_wp2
  go_loop [4,5] (fun t' i=>∃ j m:Nat,j≤16∧i=.int .i64 (j:Int)∧t'=.int .i64 (m:Int)∧m≤17∧Hid (m=oneN v+zb4 (ls.take j))∧Hid ((ls.take j).all zao=true)) (fun _ i=>16 - (intOf i).toNat)
  case atStart=>exact⟨0,oneN v,Nat.zero_le _,rfl,by rw[oneN,HV.out];rfl,by have:=zg7 v;omega,by rw[Hid];simp[zb4],rfl⟩
  case round =>
   obtain⟨j,m,hj,rfl,rfl,hm17,HM,HA⟩:=hrel
   by_cases hlt:j<16
   · have hjl:j<ls.length:=by have:=HN.out;omega
     have c1:=hc j hjl
     have m1:=hm' j hjl
     have hj0:(0:Int)≤(j:Int):=by omega
     have hj1:(j:Int)<16:=by omega
     have HT:Hid (zb4 (ls.take (j+1))=zb4 (ls.take j)+oneN ls[j]):=zny ls j hjl
     have HA2:Hid (zao ls[j]=true→(ls.take (j+1)).all zao=true):=fun h=>zo0 ls j hjl HA.out h
     have HA3:Hid (zao ls[j]=false→ls.all zao=false):=fun h=>zo1 ls j hjl h
     have HLE:Hid (zb4 (ls.take (j+1))≤16):=by rw[Hid];have h1:=znz (ls.take (j+1));rw[List.length_take] at h1;omega
     have HV1:Hid (oneN v≤1):=zg7 v
     obtain⟨x,hx⟩:∃ x,x=ls[j]:=⟨_,rfl⟩
     rw[←hx] at c1 m1 HT HA2 HA3
     clear hc hm' hx hjl
     rcases zcu x with hx | hx
     · have HX:Hid (x.isEmpty=true):=hx
       go_wp2
       go_round
       case rel=>exact⟨j+1,m,by omega,by go_num,rfl,hm17,by have h1:=HT.out;have h2:=HM.out;have h3:oneN x=0:=(by rw[oneN,HX.out];rfl);rw[Hid];omega,HA2.out (by rw[zao,HX.out];rfl)⟩
       case measure=>simp[intOf];omega
     · have HX:Hid (x.isEmpty=false):=hx
       by_cases h32:x.length=32
       · have H32:Hid (x.length=32):=h32
         have HS:Hid (m+1=oneN v+zb4 (ls.take (j+1))):=by rw[Hid,HT.out,show oneN x=1 from by rw[oneN,HX.out];rfl,HM.out];omega
         have hm2:m+1≤17:=by have h1:=HS.out;have h2:=HLE.out;have h3:=HV1.out;omega
         have KX:=HK1.out x m1 true (by rw[decide_eq_true h32])
         clear h32
         go_wp2_with fail
         refine KX.mono ?_
         rintro e wx ⟨rfl,rfl⟩
         go_wp2
         go_round
         case rel=>exact⟨j+1,m+1,by omega,by go_num,by go_num,hm2,HS.out,HA2.out (by rw[zao,decide_eq_true H32.out,Bool.or_true])⟩
         case measure=>simp[intOf];omega
       · have HZ:Hid (r=false):=by rw[Hid,HR.out,HA3.out (by rw[zao,HX.out,decide_eq_false h32];rfl)];rfl
         have HZT:Hid (t=[]):=by rw[Hid,HTT.out,HZ.out];rfl
         have KX:=HK1.out x m1 false (by rw[decide_eq_false h32])
         clear h32
         go_wp2_with fail
         refine KX.mono ?_
         rintro e wx ⟨rfl,rfl⟩
         go_wp2
         go_ret2
         exact⟨by rw[HZ.out,HZT.out];rfl,BX.out⟩
   · have hj16:j=16:=by omega
     subst hj16
     have HF:Hid (r=decide (2≤m)∧ls.all zao=true):=by
      have e1:ls.take 16=ls:=List.take_of_length_le (by have:=HN.out;omega)
      have h1:=HM.out
      have h2:=HA.out
      rw[e1] at h1 h2
      rw[Hid];refine⟨?_,h2⟩;rw[HR.out,h2,h1];rfl
     clear hc hm' HM HA
     by_cases h2:2≤m
     · have h2' : (2 : Int) ≤ (m : Int) := by omega
       have HZ:Hid (r=true):=by rw[Hid,HF.out.1];exact decide_eq_true h2
       have HZT:Hid (t=za8 (ls ++ [v])):=by rw[Hid,HTT.out,if_pos HZ.out]
       have HKL2:Hid (∀ W g c,W.ownsRow (w.heap.size+1) 9 1 (.slice (some ⟨g,0,none⟩) 17 c) 17 (cs ++ [.string ⟨v.toArray⟩])→Calls Tryz.prog 159 #[.slice (some ⟨g,0,none⟩) 17 c] W fun e w'=>e=.returned (.string ⟨t.toArray⟩)∧Below W.heap.size W w'):=fun W g c ho=>by rw[HZT.out];exact HKL.out W g c ho (by have h1:=HFK.out HF.out.2;rw[HN.out] at h1;omega)
       clear HKL
       have SX:Hid (wx.cell? ⟨w.heap.size,2,none⟩=some (.slice (some ⟨b,off,none⟩) 16 cap)∧wx.cell? ⟨w.heap.size,3,none⟩=some (.string ⟨v.toArray⟩)):=⟨q2,q3⟩
       go_wp2_with fail
       go_region_held3 (fun w'=>w'.cell? ⟨w.heap.size,2,none⟩=some (.slice (some ⟨b,off,none⟩) 16 cap)∧w'.cell? ⟨w.heap.size,3,none⟩=some (.string ⟨v.toArray⟩))
        (first | exact S5.out | exact S3.out | exact S1a.out | exact S1.out | exact S2.out | exact S4.out | exact SAE.out | exact SBA.out | exact SA.out | exact SB.out | exact SX.out)
        (first
         | (go_at_call 159
            with_reducible refine (HKL2.out _ _ _ HO3.out).mono ?_
            rintro e w5 ⟨rfl,b5⟩
            have B5:Hid (Below w.heap.size w w5):=B3.out.trans (b5.mono B3.out.size)
            have S5:Hid (w5.cell? ⟨w.heap.size,2,none⟩=some (.slice (some ⟨b,off,none⟩) 16 cap)∧w5.cell? ⟨w.heap.size,3,none⟩=some (.string ⟨v.toArray⟩)):=⟨(b5.cell (p:=⟨w.heap.size,2,none⟩) L3.out).trans S3.out.1,(b5.cell (p:=⟨w.heap.size,3,none⟩) L3.out).trans S3.out.2⟩)
         | (refine step_append_lies _ rfl (.tmp 115) (.tmp 118) 138 rfl (w.heap.size + 1) 9 i0 (.string ⟨#[]⟩) 1 16 Tryz.underlying138 hi0 hz0 hz1 hz2 rfl (by decide) (.slice (some ⟨g1, 0, none⟩) 16 c1) 16 cs (by simp [Act.eval]) O1n.out ⟨w1.heap.size, 0, none⟩ 1 1 [.string ⟨v.toArray⟩] (by simp [Act.eval]) rfl N1.out (by simp [Value.oneCell']) (by decide) (by unfold maxLen; omega) (by omega) z1a.out _ rfl ?_
            intro g3 c3 w3 hown3 hgrow3 hat3 hlt3
            have HO3:=zc hown3
            have B3:Hid (Below w.heap.size w w3):=b1a.out.grown hgrow3 (by have:=z1a.out;omega) G1.out
            have L3:Hid (w.heap.size<w3.heap.size):=Nat.lt_of_lt_of_le (by have:=z1a.out;omega) hgrow3.size
            have S3:Hid (w3.cell? ⟨w.heap.size,2,none⟩=some (.slice (some ⟨b,off,none⟩) 16 cap)∧w3.cell? ⟨w.heap.size,3,none⟩=some (.string ⟨v.toArray⟩)):=⟨(hgrow3.cell_far ⟨w.heap.size,2,none⟩ (by show w.heap.size<_;have:=z1a.out;omega) K1.out.symm).trans S1a.out.1,(hgrow3.cell_far ⟨w.heap.size,3,none⟩ (by show w.heap.size<_;have:=z1a.out;omega) K1.out.symm).trans S1a.out.2⟩
            clear hown3 hgrow3 hat3 hlt3)
         | (refine step_append_lies _ rfl (.tmp 115) (.tmp 118) 138 rfl (w.heap.size + 1) 9 i0 (.string ⟨#[]⟩) 1 16 Tryz.underlying138 hi0 hz0 hz1 hz2 rfl (by decide) (.slice (some ⟨g2, 0, none⟩) 16 c2) 16 cs (by simp [Act.eval]) HO2.out ⟨(wx.heap.size + 1), 0, none⟩ 1 1 [.string ⟨v.toArray⟩] (by simp [Act.eval]) rfl N2.out (by simp [Value.oneCell']) (by decide) (by unfold maxLen; omega) (by omega) z2.out _ rfl ?_
            intro g3 c3 w3 hown3 hgrow3 hat3 hlt3
            have HO3:=zc hown3
            have B3:Hid (Below w.heap.size w w3):=b2.out.grown hgrow3 (by have:=z2.out;omega) G2.out
            have L3:Hid (w.heap.size<w3.heap.size):=Nat.lt_of_lt_of_le (by have:=z2.out;omega) hgrow3.size
            have S3:Hid (w3.cell? ⟨w.heap.size,2,none⟩=some (.slice (some ⟨b,off,none⟩) 16 cap)∧w3.cell? ⟨w.heap.size,3,none⟩=some (.string ⟨v.toArray⟩)):=⟨(hgrow3.cell_far ⟨w.heap.size,2,none⟩ (by show w.heap.size<_;have:=z2.out;omega) K2.out.symm).trans S2.out.1,(hgrow3.cell_far ⟨w.heap.size,3,none⟩ (by show w.heap.size<_;have:=z2.out;omega) K2.out.symm).trans S2.out.2⟩
            clear hown3 hgrow3 hat3 hlt3)
         | (refine step_append_lies _ rfl (.tmp 115) (.tmp 118) 138 rfl (w.heap.size + 1) 9 i0 (.string ⟨#[]⟩) 1 16 Tryz.underlying138 hi0 hz0 hz1 hz2 rfl (by decide) (.slice (some ⟨g4, 0, none⟩) 16 c4) 16 cs (by simp [Act.eval]) HO4.out ⟨wx.heap.size, 0, none⟩ 1 1 [.string ⟨v.toArray⟩] (by simp [Act.eval]) rfl N4.out (by simp [Value.oneCell']) (by decide) (by unfold maxLen; omega) (by omega) z4.out _ rfl ?_
            intro g3 c3 w3 hown3 hgrow3 hat3 hlt3
            have HO3:=zc hown3
            have B3:Hid (Below w.heap.size w w3):=b4.out.grown hgrow3 (by have:=z4.out;omega) G4.out
            have L3:Hid (w.heap.size<w3.heap.size):=Nat.lt_of_lt_of_le (by have:=z4.out;omega) hgrow3.size
            have S3:Hid (w3.cell? ⟨w.heap.size,2,none⟩=some (.slice (some ⟨b,off,none⟩) 16 cap)∧w3.cell? ⟨w.heap.size,3,none⟩=some (.string ⟨v.toArray⟩)):=⟨(hgrow3.cell_far ⟨w.heap.size,2,none⟩ (by show w.heap.size<_;have:=z4.out;omega) K4.out.symm).trans S4.out.1,(hgrow3.cell_far ⟨w.heap.size,3,none⟩ (by show w.heap.size<_;have:=z4.out;omega) K4.out.symm).trans S4.out.2⟩
            clear hown3 hgrow3 hat3 hlt3)
         | (refine step_append_lies _ rfl (.tmp 112) (.tmp 114) 138 rfl (w.heap.size + 1) 9 i0 (.string ⟨#[]⟩) 1 16 Tryz.underlying138 hi0 hz0 hz1 hz2 rfl (by decide) (.slice (some ⟨wx.heap.size, 0, none⟩) 0 0) 0 [] (by simp [Act.eval]) OAE.out ⟨b, off, none⟩ 16 cap cs (by simp [Act.eval]) HCL.out FAE.out HC1.out (by decide) (by unfold maxLen; omega) (by omega) (by show w.heap.size + 1 ≤ ((wx.alloc (.cells #[] 9)).alloc (.cells #[.string ⟨v.toArray⟩] 9)).heap.size; have := ZAE.out; have := HSX.out; omega) _ rfl ?_
            intro g2 c2 w2 hown2 hgrow2 hat2 hlt2
            have HO2:Hid (w2.ownsRow (w.heap.size+1) 9 1 (.slice (some ⟨g2,0,none⟩) 16 c2) 16 cs):=(by rw[Hid];simpa using hown2)
            have S2:Hid (w2.cell? ⟨w.heap.size,2,none⟩=some (.slice (some ⟨b,off,none⟩) 16 cap)∧w2.cell? ⟨w.heap.size,3,none⟩=some (.string ⟨v.toArray⟩)):=⟨(hgrow2.cell_far ⟨w.heap.size,2,none⟩ (by show w.heap.size<((wx.alloc (.cells #[] 9)).alloc (.cells #[.string ⟨v.toArray⟩] 9)).heap.size;have:=ZAE.out;have:=HSX.out;omega) (by simp[Value.ownBlock];have:=HSX.out;omega)).trans SAE.out.1,(hgrow2.cell_far ⟨w.heap.size,3,none⟩ (by show w.heap.size<((wx.alloc (.cells #[] 9)).alloc (.cells #[.string ⟨v.toArray⟩] 9)).heap.size;have:=ZAE.out;have:=HSX.out;omega) (by simp[Value.ownBlock];have:=HSX.out;omega)).trans SAE.out.2⟩
            have b2:Hid (Below w.heap.size w w2):=(zd2 BAE.out).grown hgrow2 (by show w.heap.size≤((wx.alloc (.cells #[] 9)).alloc (.cells #[.string ⟨v.toArray⟩] 9)).heap.size;have:=ZAE.out;have:=HSX.out;omega) (fun k hk=>(by simp[Value.ownBlock] at hk;have:=HSX.out;omega))
            have z2:Hid (w.heap.size+1≤w2.heap.size):=Nat.le_trans (by show w.heap.size+1≤((wx.alloc (.cells #[] 9)).alloc (.cells #[.string ⟨v.toArray⟩] 9)).heap.size;have:=ZAE.out;have:=HSX.out;omega) hgrow2.size
            have gb2:=(zf8 HO2.out (by omega)).2
            have G2:Hid (∀ k,(Value.slice (some ⟨g2,0,none⟩) 16 c2).ownBlock=some k→w.heap.size≤k):=fun k hk=>(by obtain⟨g',hg',hb',_⟩:=gb2;cases hg';simp[Value.ownBlock] at hk;omega)
            have K2:Hid ((Value.slice (some ⟨g2,0,none⟩) 16 c2).ownBlock≠some w.heap.size):=(by obtain⟨g',hg',hb',_⟩:=gb2;cases hg';rw[Hid];simp[Value.ownBlock];omega)
            have N2:Hid (∀ j u,[Value.string ⟨v.toArray⟩][j]? = some u→w2.cell? ((⟨(wx.heap.size+1),0,none⟩:Addr).add j)=some u):=World.news_of_block (cs:=#[.string ⟨v.toArray⟩]) (t:=9) (fr:=(0,0)) ((hgrow2.block (wx.heap.size+1) (by show (wx.heap.size+1)<((wx.alloc (.cells #[] 9)).alloc (.cells #[.string ⟨v.toArray⟩] 9)).heap.size;have:=ZAE.out;omega) (by simp[Value.ownBlock])).trans NAE.out)
            clear hown2 hgrow2 hat2 hlt2 gb2)
         | (refine step_append_lies _ rfl (.tmp 112) (.tmp 114) 138 rfl (w.heap.size + 1) 9 i0 (.string ⟨#[]⟩) 1 16 Tryz.underlying138 hi0 hz0 hz1 hz2 rfl (by decide) (.slice (some ⟨(wx.heap.size + 1), 0, none⟩) 0 0) 0 [] (by simp [Act.eval]) OBA.out ⟨b, off, none⟩ 16 cap cs (by simp [Act.eval]) HCL.out FBA.out HC1.out (by decide) (by unfold maxLen; omega) (by omega) (by show w.heap.size + 1 ≤ ((wx.alloc (.cells #[.string ⟨v.toArray⟩] 9)).alloc (.cells #[] 9)).heap.size; have := ZBA.out; have := HSX.out; omega) _ rfl ?_
            intro g4 c4 w4 hown4 hgrow4 hat4 hlt4
            have HO4:Hid (w4.ownsRow (w.heap.size+1) 9 1 (.slice (some ⟨g4,0,none⟩) 16 c4) 16 cs):=(by rw[Hid];simpa using hown4)
            have S4:Hid (w4.cell? ⟨w.heap.size,2,none⟩=some (.slice (some ⟨b,off,none⟩) 16 cap)∧w4.cell? ⟨w.heap.size,3,none⟩=some (.string ⟨v.toArray⟩)):=⟨(hgrow4.cell_far ⟨w.heap.size,2,none⟩ (by show w.heap.size<((wx.alloc (.cells #[.string ⟨v.toArray⟩] 9)).alloc (.cells #[] 9)).heap.size;have:=ZBA.out;have:=HSX.out;omega) (by simp[Value.ownBlock];have:=HSX.out;omega)).trans SBA.out.1,(hgrow4.cell_far ⟨w.heap.size,3,none⟩ (by show w.heap.size<((wx.alloc (.cells #[.string ⟨v.toArray⟩] 9)).alloc (.cells #[] 9)).heap.size;have:=ZBA.out;have:=HSX.out;omega) (by simp[Value.ownBlock];have:=HSX.out;omega)).trans SBA.out.2⟩
            have b4:Hid (Below w.heap.size w w4):=(zd2 BBA.out).grown hgrow4 (by show w.heap.size≤((wx.alloc (.cells #[.string ⟨v.toArray⟩] 9)).alloc (.cells #[] 9)).heap.size;have:=ZBA.out;have:=HSX.out;omega) (fun k hk=>(by simp[Value.ownBlock] at hk;have:=HSX.out;omega))
            have z4:Hid (w.heap.size+1≤w4.heap.size):=Nat.le_trans (by show w.heap.size+1≤((wx.alloc (.cells #[.string ⟨v.toArray⟩] 9)).alloc (.cells #[] 9)).heap.size;have:=ZBA.out;have:=HSX.out;omega) hgrow4.size
            have gb4:=(zf8 HO4.out (by omega)).2
            have G4:Hid (∀ k,(Value.slice (some ⟨g4,0,none⟩) 16 c4).ownBlock=some k→w.heap.size≤k):=fun k hk=>(by obtain⟨g',hg',hb',_⟩:=gb4;cases hg';simp[Value.ownBlock] at hk;omega)
            have K4:Hid ((Value.slice (some ⟨g4,0,none⟩) 16 c4).ownBlock≠some w.heap.size):=(by obtain⟨g',hg',hb',_⟩:=gb4;cases hg';rw[Hid];simp[Value.ownBlock];omega)
            have N4:Hid (∀ j u,[Value.string ⟨v.toArray⟩][j]? = some u→w4.cell? ((⟨wx.heap.size,0,none⟩:Addr).add j)=some u):=World.news_of_block (cs:=#[.string ⟨v.toArray⟩]) (t:=9) (fr:=(0,0)) ((hgrow4.block wx.heap.size (by show wx.heap.size<((wx.alloc (.cells #[.string ⟨v.toArray⟩] 9)).alloc (.cells #[] 9)).heap.size;have:=ZBA.out;omega) (by simp[Value.ownBlock])).trans NBA.out)
            clear hown4 hgrow4 hat4 hlt4 gb4)
         | (refine step_append_lies _ rfl (.tmp 112) (.tmp 114) 138 rfl (w.heap.size + 1) 9 i0 (.string ⟨#[]⟩) 1 16 Tryz.underlying138 hi0 hz0 hz1 hz2 rfl (by decide) (.slice (some ⟨wx.heap.size, 0, none⟩) 0 0) 0 [] (by simp [Act.eval]) OA.out ⟨b, off, none⟩ 16 cap cs (by simp [Act.eval]) HCL.out FA.out HC1.out (by decide) (by unfold maxLen; omega) (by omega) (by show w.heap.size + 1 ≤ (wx.alloc (.cells #[] 9)).heap.size; have := ZA.out; have := HSX.out; omega) _ rfl ?_
            intro g1 c1 w1 hown1 hgrow1 hat1 hlt1
            have HO1:Hid (w1.ownsRow (w.heap.size+1) 9 1 (.slice (some ⟨g1,0,none⟩) 16 c1) 16 cs):=(by rw[Hid];simpa using hown1)
            have S1:Hid (w1.cell? ⟨w.heap.size,2,none⟩=some (.slice (some ⟨b,off,none⟩) 16 cap)∧w1.cell? ⟨w.heap.size,3,none⟩=some (.string ⟨v.toArray⟩)):=⟨(hgrow1.cell_far ⟨w.heap.size,2,none⟩ (by show w.heap.size<(wx.alloc (.cells #[] 9)).heap.size;have:=ZA.out;have:=HSX.out;omega) (by simp[Value.ownBlock];have:=HSX.out;omega)).trans SA.out.1,(hgrow1.cell_far ⟨w.heap.size,3,none⟩ (by show w.heap.size<(wx.alloc (.cells #[] 9)).heap.size;have:=ZA.out;have:=HSX.out;omega) (by simp[Value.ownBlock];have:=HSX.out;omega)).trans SA.out.2⟩
            have b1:Hid (Below w.heap.size w w1):=(zd2 BA.out).grown hgrow1 (by show w.heap.size≤(wx.alloc (.cells #[] 9)).heap.size;have:=ZA.out;have:=HSX.out;omega) (fun k hk=>(by simp[Value.ownBlock] at hk;have:=HSX.out;omega))
            have z1:Hid (w.heap.size+1≤w1.heap.size):=Nat.le_trans (by show w.heap.size+1≤(wx.alloc (.cells #[] 9)).heap.size;have:=ZA.out;have:=HSX.out;omega) hgrow1.size
            have gb1:=(zf8 HO1.out (by omega)).2
            have G1:Hid (∀ k,(Value.slice (some ⟨g1,0,none⟩) 16 c1).ownBlock=some k→w.heap.size≤k):=fun k hk=>(by obtain⟨g',hg',hb',_⟩:=gb1;cases hg';simp[Value.ownBlock] at hk;omega)
            have K1:Hid ((Value.slice (some ⟨g1,0,none⟩) 16 c1).ownBlock≠some w.heap.size):=(by obtain⟨g',hg',hb',_⟩:=gb1;cases hg';rw[Hid];simp[Value.ownBlock];omega)
            have O1n:=zc (HO1.out.alloc (.cells #[.string ⟨v.toArray⟩] 9))
            have q1a:=(Below.cell (b1.out.alloc b1.out.size (.cells #[.string ⟨v.toArray⟩] 9)) (p:=⟨w.heap.size,2,none⟩))
            have L1:Hid (w.heap.size<w1.heap.size):=(by rw[Hid];have:=z1.out;omega)
            have S1a:Hid ((w1.alloc (.cells #[.string ⟨v.toArray⟩] 9)).cell? ⟨w.heap.size,2,none⟩=some (.slice (some ⟨b,off,none⟩) 16 cap)∧(w1.alloc (.cells #[.string ⟨v.toArray⟩] 9)).cell? ⟨w.heap.size,3,none⟩=some (.string ⟨v.toArray⟩)):=⟨(World.cell?_alloc_lt _ _ _ (by show w.heap.size<_;have:=z1.out;omega)).trans S1.out.1,(World.cell?_alloc_lt _ _ _ (by show w.heap.size<_;have:=z1.out;omega)).trans S1.out.2⟩
            have N1:Hid (∀ j u,[Value.string ⟨v.toArray⟩][j]? = some u→(w1.alloc (.cells #[.string ⟨v.toArray⟩] 9)).cell? ((⟨w1.heap.size,0,none⟩:Addr).add j)=some u):=World.news_of_block (cs:=#[.string ⟨v.toArray⟩]) (t:=9) (fr:=(0,0)) (heap_alloc_new w1 _)
            have b1a:Hid (Below w.heap.size w (w1.alloc (.cells #[.string ⟨v.toArray⟩] 9))):=b1.out.alloc b1.out.size _
            have z1a:Hid (w.heap.size+1≤(w1.alloc (.cells #[.string ⟨v.toArray⟩] 9)).heap.size):=(by rw[Hid];simp;have:=z1.out;omega)
            clear hown1 hgrow1 hat1 hlt1 gb1 q1a))
       all_goals
        go_wp2
        go_ret2
        exact⟨by rw[HZ.out];rfl,B5.out⟩
     · have h2':¬ (2:Int)≤(m:Int):=by omega
       have HZ:Hid (r=false):=by rw[Hid,HF.out.1];exact decide_eq_false h2
       have HZT:Hid (t=[]):=by rw[Hid,HTT.out,HZ.out];rfl
       go_wp2
       go_ret2
       exact⟨by rw[HZ.out,HZT.out];rfl,BX.out⟩
theorem zr6 (k:Int) (p:List UInt8) (a:Option Addr) (cap:Nat) (ls:List (List UInt8)) (v:List UInt8) (w:World) (hp:p.length≤1048576) (hv:v.length≤1048576) (hl:ls.length≤1048576) (hm:∀ l∈ls,l.length≤1048576) (hs:zt w a ls) :
 Calls Tryz.prog 123 #[.agg #[.int .i64 k,.string ⟨p.toArray⟩,.slice a ls.length cap,.string ⟨v.toArray⟩]] w fun e w'=>e=.returned (.tuple #[.string ⟨(zbn k p ls v).toArray⟩,.bool (zba k p ls v)])∧Below w.heap.size w w':=by
 have B0:Below w.heap.size w (w.alloc (.cells #[.int .i64 k,.string ⟨p.toArray⟩,.slice a ls.length cap,.string ⟨v.toArray⟩] 152)):=(Below.refl _ _).alloc (Nat.le_refl _) _
 have BB:Hid _:=B0
 have KN:=zie p (w.alloc (.cells #[.int .i64 k,.string ⟨p.toArray⟩,.slice a ls.length cap,.string ⟨v.toArray⟩] 152)) hp
 have HS:Hid _:=hs
 have HSX:Hid _:=zay hs B0
 have HK1:Hid _:=hm
 obtain⟨r,hr⟩:∃ r,r=zba k p ls v:=⟨_,rfl⟩
 obtain⟨t,ht⟩:∃ t,t=zbn k p ls v:=⟨_,rfl⟩
 have HTN:Hid (r=false→t=[]):=fun h=>by rw[ht,zbn,←hr,h];rfl
 have HTY:Hid (r=true→t=za8 (zhd k p ls v)):=fun h=>by rw[ht,zbn,←hr,h];rfl
 have HRR:Hid (r=(zcg p v && kindOk k p ls v)):=by rw[Hid,hr];rfl
 rw[←hr,←ht]
 clear hr ht hs hm B0
 by_cases hp24:p.length≤24
 · have hp24' : (p.length : Int) ≤ 24 := by omega
   have hpd:decide ((24:Int)<(p.length:Int))=false:=decide_eq_false (by omega)
   cases hn:zq p with
   | false =>
     rw[hn] at KN
     have HR:Hid (r=false):=by rw[Hid,HRR.out,zcg,hn];simp
     have HT:Hid (t=[]):=HTN.out HR.out
     clear HRR hn
     go_enter Tryz.func123,Tryz.ntmps123
     go_wp2_with fail
     refine KN.mono ?_
     rintro e w1 ⟨rfl,rfl⟩
     go_wp2
     go_ret2
     exact⟨by rw[HR.out,HT.out];rfl,BB.out⟩
   | true =>
     rw[hn] at KN
     by_cases hv60:v.length≤60
     · have hv60' : (v.length : Int) ≤ 60 := by omega
       have hvd:decide ((60:Int)<(v.length:Int))=false:=decide_eq_false (by omega)
       have HR0:Hid (r=kindOk k p ls v):=by rw[Hid,HRR.out,zcg,hn,decide_eq_true hp24,decide_eq_true hv60];rfl
       have HNN:Hid (zq p=true):=hn
       clear HRR hn
       by_cases h1:k=1
       · subst h1
         have HR1:Hid (r=(!v.isEmpty && decide (ls.length=0))):=HR0
         clear HR0
         by_cases hl0:ls.length=0
         · rcases zcu v with hve | hve
           · have HR:Hid (r=false):=by rw[Hid,HR1.out,hve];rfl
             have HT:Hid (t=[]):=HTN.out HR.out
             rw[hl0] at KN BB
             rw[hl0]
             clear hl0
             go_enter Tryz.func123,Tryz.ntmps123
             go_wp2_with fail
             refine KN.mono ?_
             rintro e w1 ⟨rfl,rfl⟩
             go_wp2
             go_ret2
             exact⟨by rw[HR.out,HT.out];rfl,BB.out⟩
           · have e1:r=true:=by rw[HR1.out,hve,decide_eq_true hl0];rfl
             have K:=za20 p a cap ls.length v w hp24 HNN.out hv60 hve hl0
             rw[HTY.out e1,e1]
             exact K
         · have hl0':(0:Int)<(ls.length:Int):=by omega
           obtain⟨n,hn⟩:∃ n,ls.length=n+1:=⟨ls.length - 1,by omega⟩
           have hnn:n+1≤1048576:=by omega
           have hld:decide ((0:Int)<(n:Int)+1)=true:=decide_eq_true (by omega)
           have HR:Hid (r=false):=by rw[Hid,HR1.out,decide_eq_false hl0,Bool.and_false]
           have HT:Hid (t=[]):=HTN.out HR.out
           rw[hn] at KN BB
           rw[hn]
           clear hl0 hl0' hn
           go_enter Tryz.func123,Tryz.ntmps123
           go_wp2_with fail
           refine KN.mono ?_
           rintro e w1 ⟨rfl,rfl⟩
           go_wp2
           go_ret2
           exact⟨by rw[HR.out,HT.out];rfl,BB.out⟩
       · by_cases h2 : k = 2
         · subst h2
           have HR1:Hid (r=(!p.isEmpty && (v.isEmpty && (decide (ls.length=1) && decide ((ls.getD 0 []).length=32))))):=HR0
           clear HR0 h1
           by_cases hl1:ls.length=1
           · obtain⟨b,off,rfl,c1⟩:=zjt HSX.out hl1
             have HC0:Hid (w.cell? ⟨b,off,none⟩=some (.string ⟨(ls.getD 0 []).toArray⟩)):=by
              obtain⟨b',off',he,h⟩:=zjt HS.out hl1
              cases he;exact h
             have hx:(ls.getD 0 []).length≤1048576:=by
              rw[List.getD_eq_getElem?_getD,List.getElem?_eq_getElem (by omega)];exact HK1.out _ (List.getElem_mem _)
             have HTY2:Hid (r=true→t=za8 [pack (za7 p false),ls.getD 0 []]):=fun h=>HTY.out h
             obtain⟨x,hxx⟩:∃ x,x=ls.getD 0 []:=⟨_,rfl⟩
             rw[←hxx] at c1 HR1 hx HC0 HTY2
             have HR2:Hid (r=(!p.isEmpty && (v.isEmpty && decide (x.length=32)))):=by rw[Hid,HR1.out,decide_eq_true hl1];rfl
             rw[hl1] at KN c1 BB
             rw[hl1]
             clear hxx hl1 HR1 HSX
             by_cases h32:x.length=32
             · have KH:=zig x true (w.alloc (.cells #[.int .i64 2,.string ⟨p.toArray⟩,.slice (some ⟨b,off,none⟩) 1 cap,.string ⟨v.toArray⟩] 152)) hx (by rw[decide_eq_true h32])
               rcases zcu v with hve | hve
               · rcases zcu p with hpe | hpe
                 · have HR:Hid (r=false):=by rw[Hid,HR2.out,hpe];rfl
                   have HT:Hid _:=HTN.out HR.out
                   clear h32
                   go_enter Tryz.func123,Tryz.ntmps123
                   go_wp2_with fail
                   refine KN.mono ?_
                   rintro e w1 ⟨rfl,rfl⟩
                   go_wp2_with fail
                   refine KH.mono ?_
                   rintro e w1 ⟨rfl,rfl⟩
                   go_wp2
                   go_ret2
                   exact⟨by rw[HR.out,HT.out];rfl,BB.out⟩
                 · have e1:r=true:=by rw[HR2.out,hpe,hve,decide_eq_true h32];rfl
                   have K:=za21 p b off cap x v w hp24 HNN.out hv60 h32 hpe hve HC0.out
                   rw[HTY2.out e1,e1]
                   exact K
               · have HR:Hid (r=false):=by rw[Hid,HR2.out,hve];simp
                 have HT:Hid (t=[]):=HTN.out HR.out
                 clear h32
                 go_enter Tryz.func123,Tryz.ntmps123
                 go_wp2_with fail
                 refine KN.mono ?_
                 rintro e w1 ⟨rfl,rfl⟩
                 go_wp2_with fail
                 refine KH.mono ?_
                 rintro e w1 ⟨rfl,rfl⟩
                 go_wp2
                 go_ret2
                 exact⟨by rw[HR.out,HT.out];rfl,BB.out⟩
             · have KH:=zig x false (w.alloc (.cells #[.int .i64 2,.string ⟨p.toArray⟩,.slice (some ⟨b,off,none⟩) 1 cap,.string ⟨v.toArray⟩] 152)) hx (by rw[decide_eq_false h32])
               have HR:Hid (r=false):=by rw[Hid,HR2.out,decide_eq_false h32];simp
               have HT:Hid (t=[]):=HTN.out HR.out
               clear h32
               go_enter Tryz.func123,Tryz.ntmps123
               go_wp2_with fail
               refine KN.mono ?_
               rintro e w1 ⟨rfl,rfl⟩
               go_wp2_with fail
               refine KH.mono ?_
               rintro e w1 ⟨rfl,rfl⟩
               go_wp2
               go_ret2
               exact⟨by rw[HR.out,HT.out];rfl,BB.out⟩
           · have hl1':¬ (ls.length:Int)=1:=by omega
             have hlb:((ls.length:Int) == 1)=false:=by rw[beq_eq_false_iff_ne];omega
             have HR:Hid (r=false):=by rw[Hid,HR1.out,decide_eq_false hl1];simp
             have HT:Hid (t=[]):=HTN.out HR.out
             clear HSX
             go_enter Tryz.func123,Tryz.ntmps123
             go_wp2_with fail
             refine KN.mono ?_
             rintro e w1 ⟨rfl,rfl⟩
             go_wp2
             go_ret2
             exact⟨by rw[HR.out,HT.out];rfl,BB.out⟩
         · by_cases h3:k=3
           · subst h3
             have HR1:Hid (r=(p.isEmpty && zcf ls v)):=HR0
             clear HR0 h1 h2
             by_cases h16:ls.length=16
             · rcases zcu p with hpe | hpe
               · have e1:r=zcf ls v:=by rw[HR1.out,hpe];rfl
                 have e2:t=if r=true then za8 (ls ++ [v]) else []:=by
                  by_cases h:r=true
                  · rw[if_pos h];exact HTY.out h
                  · rw[if_neg h];exact HTN.out (by simpa using h)
                 obtain⟨b,off,rfl⟩:∃ b off,a=some ⟨b,off,none⟩:=by
                  rcases HS.out with h | ⟨b,off,h,_⟩
                  · rw[h] at h16;simp at h16
                  · exact⟨b,off,h⟩
                 have K:=za22 p b off cap ls v r t w hp24 HNN.out hpe h16 hv60 HK1.out HS.out e1 e2
                 rw[h16]
                 exact K
               · have HR:Hid (r=false):=by rw[Hid,HR1.out,hpe];rfl
                 have HT:Hid _:=HTN.out HR.out
                 rw[h16] at KN BB
                 rw[h16]
                 clear h16
                 go_enter Tryz.func123,Tryz.ntmps123
                 go_wp2_with fail
                 refine KN.mono ?_
                 rintro e w1 ⟨rfl,rfl⟩
                 go_wp2
                 go_ret2
                 exact⟨by rw[HR.out,HT.out];rfl,BB.out⟩
             · have h16':¬ (ls.length:Int)=16:=by omega
               have h16b:((ls.length:Int) == 16)=false:=by rw[beq_eq_false_iff_ne];omega
               have HR:Hid (r=false):=by rw[Hid,HR1.out,zcf,decide_eq_false h16];simp
               have HT:Hid _:=HTN.out HR.out
               clear h16
               go_enter Tryz.func123,Tryz.ntmps123
               go_wp2_with fail
               refine KN.mono ?_
               rintro e w1 ⟨rfl,rfl⟩
               go_wp2
               go_ret2
               exact⟨by rw[HR.out,HT.out];rfl,BB.out⟩
           · have h1d:(k == 1)=false:=by rw[beq_eq_false_iff_ne];exact h1
             have HR:Hid (r=false):=by rw[Hid,HR0.out,kindOk,if_neg h1,if_neg h2,if_neg h3]
             have HT:Hid _:=HTN.out HR.out
             clear HR0
             go_enter Tryz.func123,Tryz.ntmps123
             go_wp2_with fail
             refine KN.mono ?_
             rintro e w1 ⟨rfl,rfl⟩
             go_wp2
             go_ret2
             exact⟨by rw[HR.out,HT.out];rfl,BB.out⟩
     · have hv60':¬ (v.length:Int)≤60:=by omega
       have HR:Hid (r=false):=by rw[Hid,HRR.out,zcg,decide_eq_false hv60];simp
       have HT:Hid _:=HTN.out HR.out
       clear HRR hn
       go_enter Tryz.func123,Tryz.ntmps123
       go_wp2_with fail
       refine KN.mono ?_
       rintro e w1 ⟨rfl,rfl⟩
       go_wp2
       go_ret2
       exact⟨by rw[HR.out,HT.out];rfl,BB.out⟩
 · have hp24':¬ (p.length:Int)≤24:=by omega
   have hpd:=decide_eq_true (by omega)
   have HR:Hid (r=false):=by rw[Hid,HRR.out,zcg,decide_eq_false hp24];rfl
   have HT:Hid _:=HTN.out HR.out
   clear HRR KN
   go_enter Tryz.func123,Tryz.ntmps123
   go_wp2
   go_ret2
   exact⟨by rw[HR.out,HT.out];rfl,BB.out⟩
end Go.Proofs.YtppljdnbhoeeoaaGreatDoor
