/-
 At every disk, list of places and number Crash answers as its model; it writes into no argument and keeps nothing of one; its answer owns its memory. No condition.
-/
import Derived.Test.YtlllkdioojjaeaaSCrash
import Derived.Test.YtlllkdioojjaeaaICrs
import Derived.Test.YtlllkdioojjaeaaKeepS
import Derived.Test.YtlllkdioojjaeaaDOpS
import Derived.Test.YtlllkdioojjaeaaDiskL
import Derived.Deep.RegionHeld3
import Derived.Deep.Cut
import Derived.ProofKit
import Derived.OpenShut
import Derived.ShutString
import Derived.ChangeOld
import Derived.Below
import Derived.Lib.SmallJoins
namespace Go.Proofs.Ytlllkdioojjaeaa.fnExactCrash
open Go.ChangeShapes Go.WideShapes Go.ChangeAt Go.RowKit
open Go.ChangeMaps (open_string shut_string)
set_option linter.unusedVariables false
theorem own:ownKnob Try.prog.godebug=none:=by kernel_rfl
theorem laidOut:laidOutB Try.prog=true:=by kernel_rfl
theorem sizes_le (ps:List PairL) (h:ps.length+sizeP ps≤1048576):∀ p∈ps,p.1.length≤1048576∧p.2.length≤1048576:=by
 intro p hp
 obtain⟨j,hj,rfl⟩:=List.getElem_of_mem hp
 have:=sizeP_le ps j hj
 exact⟨by omega,by omega⟩
theorem sizesD_le (ps:List DOpL) (h:ps.length+sizeD ps≤1048576):∀ p∈ps,p.n.length≤1048576∧p.t.length≤1048576∧p.d.length≤1048576:=by
 intro p hp
 obtain⟨j,hj,rfl⟩:=List.getElem_of_mem hp
 have:=sizeD_le ps j hj
 unfold opN at this
 exact⟨by omega,by omega,by omega⟩
def SReg (W0 wx:World) (bs:Nat) (x1 x2 x3:Option Addr) (k1 k2 k3:Nat) (rl rs:List PairL) (ro:List DOpL):Prop :=
 wx.heap[bs]? = some (.cells #[.slice x1 rl.length k1,.slice x2 rs.length k2,.slice x3 ro.length k3] 31 (0,0))∧W0.heap.size≤bs∧NewQ wx W0.heap.size wx.heap.size x1 (pcells rl)∧NewQ wx W0.heap.size wx.heap.size x2 (pcells rs)∧NewQ wx W0.heap.size wx.heap.size x3 (dcells ro)∧Below W0.heap.size W0 wx
def JReg (W0 wx:World) (bs:Nat) (x1 x2 x3:Option Addr) (k1 k2 k3:Nat) (rl rs:List PairL) (ro:List DOpL):Prop :=
 wx.heap[bs]? = some (.cells #[.slice x1 rl.length k1,.slice x2 rs.length k2,.slice x3 ro.length k3] 31 (0,0))∧W0.heap.size≤bs∧wx.ownsRow W0.heap.size 84 2 (.slice x1 rl.length k1) rl.length (pcells rl)∧wx.ownsRow W0.heap.size 84 2 (.slice x2 rs.length k2) rs.length (pcells rs)∧wx.ownsRow W0.heap.size 40 4 (.slice x3 ro.length k3) ro.length (dcells ro)∧Apart3 (.slice x1 rl.length k1) (.slice x2 rs.length k2) (.slice x3 ro.length k3)∧(∀ q,(Value.slice x1 rl.length k1).ownBlock=some q→q≠bs)∧(∀ q,(Value.slice x2 rs.length k2).ownBlock=some q→q≠bs)∧(∀ q,(Value.slice x3 ro.length k3).ownBlock=some q→q≠bs)∧Below W0.heap.size W0 wx
theorem newR_setQ {W:World} {lo:Nat} {a:Option Addr} {xs:List Value} (h:NewR W lo a xs) (p:Addr) (hp:p.block<lo∨W.heap.size≤p.block) (v:Value):NewR (W.setCell p v) lo a xs:=((newQ_of h).setAt p hp v).1
theorem sreg_store {W0 wb c9:World} {bs:Nat} {x1 x2 x3:Option Addr} {k1 k2 k3:Nat} {rl rs:List PairL} {ro:List DOpL} (hz:c9.heap[bs]? = some (.cells #[.slice none 0 0,.slice none 0 0,.slice none 0 0] 31 (0,0))) (hb:W0.heap.size≤bs) (hB:Below W0.heap.size W0 c9) (hs:W0.heap.size≤wb.heap.size) (hlt:bs<wb.heap.size) (n1:NewR c9 wb.heap.size x1 (pcells rl)) (n2:NewR c9 wb.heap.size x2 (pcells rs)) (n3:NewR c9 wb.heap.size x3 (dcells ro)):SReg W0 (((c9.setCell ⟨bs,0,none⟩ (.slice x1 rl.length k1)).setCell ⟨bs,1,none⟩ (.slice x2 rs.length k2)).setCell ⟨bs,2,none⟩ (.slice x3 ro.length k3)) bs x1 x2 x3 k1 k2 k3 rl rs ro :=
 ⟨dk_set (j:=2) (dk_set (j:=1) (dk_set (j:=0) hz)),hb,newQ_of ((((n1.setCell _ hlt _).setCell _ hlt _).setCell _ hlt _).lower hs),newQ_of ((((n2.setCell _ hlt _).setCell _ hlt _).setCell _ hlt _).lower hs),newQ_of ((((n3.setCell _ hlt _).setCell _ hlt _).setCell _ hlt _).lower hs),((hB.setCell hb _).setCell hb _).setCell hb _⟩
theorem sreg_new {W0 c9:World} {x1 x2 x3:Option Addr} {k1 k2 k3:Nat} {rl rs:List PairL} {ro:List DOpL} (hB:Below W0.heap.size W0 c9) (n1:NewR c9 W0.heap.size x1 (pcells rl)) (n2:NewR c9 W0.heap.size x2 (pcells rs)) (n3:NewR c9 W0.heap.size x3 (dcells ro)):SReg W0 (c9.alloc (.cells #[.slice x1 rl.length k1,.slice x2 rs.length k2,.slice x3 ro.length k3] 31)) c9.heap.size x1 x2 x3 k1 k2 k3 rl rs ro :=
 have b9:Below c9.heap.size c9 (c9.alloc (.cells #[.slice x1 rl.length k1,.slice x2 rs.length k2,.slice x3 ro.length k3] 31)):=(Below.refl _ _).alloc (Nat.le_refl _) _
 ⟨heap_alloc_new c9 _,hB.size,newQ_of (n1.later b9),newQ_of (n2.later b9),newQ_of (n3.later b9),hB.alloc hB.size _⟩
theorem jreg_store {W0 wb c9:World} {bs:Nat} {x1 x2 x3:Option Addr} {k1 k2 k3:Nat} {rl rs:List PairL} {ro:List DOpL} (hz:c9.heap[bs]? = some (.cells #[.slice none 0 0,.slice none 0 0,.slice none 0 0] 31 (0,0))) (hb:W0.heap.size≤bs) (hB:Below W0.heap.size W0 c9) (hs:W0.heap.size≤wb.heap.size) (hlt:bs<wb.heap.size) (n1:c9.ownsRow wb.heap.size 84 2 (.slice x1 rl.length k1) rl.length (pcells rl)) (n2:c9.ownsRow wb.heap.size 84 2 (.slice x2 rs.length k2) rs.length (pcells rs)) (n3:c9.ownsRow wb.heap.size 40 4 (.slice x3 ro.length k3) ro.length (dcells ro)) (hap:Apart3 (.slice x1 rl.length k1) (.slice x2 rs.length k2) (.slice x3 ro.length k3)):JReg W0 (((c9.setCell ⟨bs,0,none⟩ (.slice x1 rl.length k1)).setCell ⟨bs,1,none⟩ (.slice x2 rs.length k2)).setCell ⟨bs,2,none⟩ (.slice x3 ro.length k3)) bs x1 x2 x3 k1 k2 k3 rl rs ro :=
 ⟨dk_set (j:=2) (dk_set (j:=1) (dk_set (j:=0) hz)),hb,(own_set (own_set (own_set n1 _ hlt _) _ hlt _) _ hlt _).mono hs,(own_set (own_set (own_set n2 _ hlt _) _ hlt _) _ hlt _).mono hs,(own_set (own_set (own_set n3 _ hlt _) _ hlt _) _ hlt _).mono hs,hap,fun q h=>by have:=(n1.lt q h).1;omega,fun q h=>by have:=(n2.lt q h).1;omega,fun q h=>by have:=(n3.lt q h).1;omega,((hB.setCell hb _).setCell hb _).setCell hb _⟩
theorem jreg_new {W0 c9:World} {x1 x2 x3:Option Addr} {k1 k2 k3:Nat} {rl rs:List PairL} {ro:List DOpL} (hB:Below W0.heap.size W0 c9) (n1:c9.ownsRow W0.heap.size 84 2 (.slice x1 rl.length k1) rl.length (pcells rl)) (n2:c9.ownsRow W0.heap.size 84 2 (.slice x2 rs.length k2) rs.length (pcells rs)) (n3:c9.ownsRow W0.heap.size 40 4 (.slice x3 ro.length k3) ro.length (dcells ro)) (hap:Apart3 (.slice x1 rl.length k1) (.slice x2 rs.length k2) (.slice x3 ro.length k3)):JReg W0 (c9.alloc (.cells #[.slice x1 rl.length k1,.slice x2 rs.length k2,.slice x3 ro.length k3] 31)) c9.heap.size x1 x2 x3 k1 k2 k3 rl rs ro :=
 ⟨heap_alloc_new c9 _,hB.size,n1.alloc _,n2.alloc _,n3.alloc _,hap,fun q h=>by have:=(n1.lt q h).2;omega,fun q h=>by have:=(n2.lt q h).2;omega,fun q h=>by have:=(n3.lt q h).2;omega,hB.alloc hB.size _⟩
theorem is3_later {w W:World} {a b c:Option Addr} {live safe:List PairL} {ops:List DOpL} (h:IsPairs w a live∧IsPairs w b safe∧IsDOps w c ops) (hb:Below w.heap.size w W):IsPairs W a live∧IsPairs W b safe∧IsDOps W c ops:=⟨h.1.later hb,h.2.1.later hb,h.2.2.later hb⟩
theorem lt_block {W:World} {b:Nat} {o:Obj} (h:W.heap[b]? = some o):b<W.heap.size:=(Array.getElem?_eq_some_iff.1 h).1
theorem size_via {w W:World} (h:Below w.heap.size w W):w.heap.size≤W.heap.size:=h.size
theorem below_set9 {B:Nat} {w W:World} {p:Addr} {v:Value} (h:Below B w W) (hp:B≤p.block):Below B w (W.setCell p v):=h.setCell hp v
theorem crashL_len (live safe:List PairL) (ops:List DOpL) (ks:List Int) (tn:Int):(crashL live safe ops ks tn).length≤60:=by
 unfold crashL
 split
 · rename_i h
   simp only[crashB,Bool.and_eq_true] at h
   exact (rise_files h.2.2.2).2.2.1
 · simp
theorem kept1 {w w':World} {b e n:Nat} {v:Value} {xs:List Value} (h:w.ownsRow b e 1 v n xs) (hb:Below w.heap.size w w'):w'.ownsRow b e 1 v n xs :=
 h.kept (row:=none) ⟨hb.os,hb.tape,hb.output,hb.size,fun k hk _=>hb.block k hk⟩ (by cases v.ownBlock with | none=>exact .inl rfl | some q=>exact .inr (by simp))
set_option maxRecDepth 100000 in
theorem ints_of {H:Type} {enc:TypeId × Value→H} {W:World} {fuel:Nat} {u:Value} {y:DataW H × List MemPlace} (hf:DataW.trod enc Try.prog W 0 (fun _=>true) true fuel 45 [u]=some y) :
 ∃ (a:Option Addr) (c:Nat) (ks:List Int),u=.slice a ks.length c∧ks.length≤9223372036854775807∧IsInts W a ks:=by
 rcases open_ints Try.underlying45 Try.underlying2 (by kernel_rfl) hf with ⟨hcs,_⟩ | ⟨x,l,c,zs,hcs,_,hl,hm,hz,_,hcell,_⟩
 · simp at hcs
   exact⟨none,0,[],hcs,by simp,.inl rfl⟩
 · simp at hcs
   unfold maxLen at hm
   have hz':zs.length=c:=by simpa using hz
   refine⟨some x,c,zs.take l,by rw[hcs];simp;omega,by simp;omega,?_⟩
   by_cases h0:l=0
   · exact .inl (by simp[h0])
   · obtain⟨b,off,spot⟩:=x
     have hc:=hcell 0 (by omega)
     have hspot:spot=none:=by simpa [Addr.add] using World.cell?_spot hc
     subst hspot
     refine .inr ⟨b,off,rfl,fun j hj=>?_⟩
     have hj2:j<l:=by simp at hj;omega
     have hjs:j<zs.length:=by omega
     have hcj:=hcell j hjs
     have e1:(⟨b,off,none⟩:Addr).add j=⟨b,off+j,none⟩:=by simp[Addr.add]
     rw[e1,List.getD_eq_getElem?_getD,List.getElem?_eq_getElem hjs,Option.getD_some] at hcj
     rw[hcj,plAt_lt hj]
     simp only[List.getElem_take]
theorem below_of_grownD {w w':World} (h:w.grownBy w' none):Below w.heap.size w w':=⟨h.os,h.tape,h.output,h.size,fun k hk=>h.block k hk (by simp)⟩
set_option maxRecDepth 100000 in
set_option maxHeartbeats 8000000 in
theorem walk (a1 a2 a3:Option Addr) (c1 c2 c3:Nat) (live safe:List PairL) (ops:List DOpL) (ka:Option Addr) (kc:Nat) (ks:List Int) (tn:Int) (w:World) (hl1:live.length≤9223372036854775807) (hl2:safe.length≤9223372036854775807) (hl3:ops.length≤9223372036854775807) (hm1:∀ p∈live,p.1.length≤9223372036854775807∧p.2.length≤9223372036854775807) (hm2:∀ p∈safe,p.1.length≤9223372036854775807∧p.2.length≤9223372036854775807) (hm3:∀ p∈ops,p.n.length≤9223372036854775807∧p.t.length≤9223372036854775807∧p.d.length≤9223372036854775807) (hs1:IsPairs w a1 live) (hs2:IsPairs w a2 safe) (hs3:IsDOps w a3 ops) (hn0:ks.length≤9223372036854775807) (hs4:IsInts w ka ks) :
 Calls Try.prog 6 #[.agg #[.slice a1 live.length c1,.slice a2 safe.length c2,.slice a3 ops.length c3],.slice ka ks.length kc,.int .i64 tn] w fun e w'=>e=.returned (.bool true)∧Below w.heap.size w w':=by
 have HS:Hid (∀ W,Below w.heap.size w W→IsPairs W a1 live∧IsPairs W a2 safe∧IsDOps W a3 ops):=fun W hW=>⟨hs1.later hW,hs2.later hW,hs3.later hW⟩
 have HSK:Hid (∀ W,Below w.heap.size w W→IsInts W ka ks):=fun W hW=>hs4.later hW
 have Bz:Below w.heap.size w w:=Below.refl _ _
 have Xt1:Below w.heap.size w (w.alloc (.cells #[.slice a1 live.length c1,.slice a2 safe.length c2,.slice a3 ops.length c3] 25)):=(Below.refl _ _).alloc (Nat.le_refl _) _
 have Bt2:Below w.heap.size w (w.alloc (.cells #[.slice a1 live.length c1,.slice a2 safe.length c2,.slice a3 ops.length c3] 25)):=Bz.trans (Xt1.mono Bz.size)
 clear Bz
 clear Xt1
 have aDt1:Hid ((w.alloc (.cells #[.slice a1 live.length c1,.slice a2 safe.length c2,.slice a3 ops.length c3] 25)).heap[w.heap.size]? = some (.cells #[.slice a1 live.length c1,.slice a2 safe.length c2,.slice a3 ops.length c3] 25 (0,0))):=heap_alloc_new w _
 have KZ:=szDisk_any 1048576 (Nat.le_refl _) a1 a2 a3 c1 c2 c3 live safe ops (w.alloc (.cells #[.slice a1 live.length c1,.slice a2 safe.length c2,.slice a3 ops.length c3] 25)) hl1 hl2 hl3 hm1 hm2 hm3 (HS.out _ Bt2).1 (HS.out _ Bt2).2.1 (HS.out _ Bt2).2.2
 clear hs1 hs2 hs3 hm1 hm2 hm3 hs4
 obtain⟨aD0,aD1,aD2,_⟩:=three_cells aDt1.out
 by_cases hnm:(1048576:Int)<(ks.length:Int)
 · go_enter Try.func6,Try.ntmps6
   go_wp2
   go_ret
   exact⟨rfl,Bt2⟩
 go_enter Try.func6,Try.ntmps6
 go_wp2_with fail
 refine KZ.mono ?_
 rintro e w1 ⟨he,b1⟩
 clear aD0 aD1 aD2
 have aDt3:Hid (w1.heap[w.heap.size]? = some (.cells #[.slice a1 live.length c1,.slice a2 safe.length c2,.slice a3 ops.length c3] 25 (0,0))):=(b1.block (w.heap.size) (lt_of_block aDt1.out)).trans aDt1.out
 clear aDt1
 have Bt3:Below w.heap.size w w1:=Bt2.trans (b1.mono Bt2.size)
 clear Bt2
 clear KZ b1
 rcases he with rfl | ⟨hz1,hz2,hz3,q,hq,rfl⟩
 · go_wp2
   go_ret
   exact⟨rfl,Bt3⟩
 have q0:(0:Int)≤(q:Int):=by omega
 have hn1:live.length≤1048576:=by omega
 have hn2:safe.length≤1048576:=by omega
 have hn3:ops.length≤1048576:=by omega
 have hnn:ks.length≤1048576:=by omega
 have m1:=sizes_le live hz1
 have m2:=sizes_le safe hz2
 have m3:=sizesD_le ops hz3
 have H1:=fun (g1 g2 g3 gk:Nat) W (h:(IsPairs W (some ⟨g1,0,none⟩) live∧IsPairs W (some ⟨g2,0,none⟩) safe∧IsDOps W (some ⟨g3,0,none⟩) ops)∧IsInts W (some ⟨gk,0,none⟩) ks)=>spec_crash (some ⟨g1,0,none⟩) (some ⟨g2,0,none⟩) (some ⟨g3,0,none⟩) (some ⟨gk,0,none⟩) live.length safe.length ops.length ks.length live safe ops ks tn W (.inr ⟨g2,0,rfl⟩) (by simp) hn1 m1 hn2 m2 hn3 m3 (by omega) hnn h.1.1 h.1.2.1 h.1.2.2 h.2
 have H2:=fun (g1 g2 g3 gk:Nat) W (h:(IsPairs W (some ⟨g1,0,none⟩) live∧IsPairs W (some ⟨g2,0,none⟩) safe∧IsDOps W (some ⟨g3,0,none⟩) ops)∧IsInts W (some ⟨gk,0,none⟩) ks)=>impl_crash (some ⟨g1,0,none⟩) (some ⟨g2,0,none⟩) (some ⟨g3,0,none⟩) (some ⟨gk,0,none⟩) live.length safe.length ops.length ks.length live safe ops ks tn W hn1 m1 hn2 m2 hn3 m3 (by omega) hnn h.1.1 h.1.2.1 h.1.2.2 h.2
 have hr0:=crashL_len live safe ops ks tn
 unfold CrPost at H1
 unfold JcPost at H2
 obtain⟨rl,hrl⟩:∃ x,x=crashL live safe ops ks tn:=⟨_,rfl⟩
 obtain⟨cd,hcd⟩:∃ x,x=crashB live safe ops ks tn:=⟨_,rfl⟩
 rw[←hrl,←hcd] at H1 H2
 rw[←hrl] at hr0
 obtain⟨rs,hrs⟩:∃ x,x=rl:=⟨_,rfl⟩
 obtain⟨ro,hro⟩:∃ x:List DOpL,x=[]:=⟨_,rfl⟩
 have hr1:rl.length≤1048576:=by omega
 have hr2:rs.length≤1048576:=by rw[hrs];omega
 have hr3:ro.length≤1048576:=by rw[hro];simp
 have HH1:Hid (∀ (g1 g2 g3 gk:Nat) W,(IsPairs W (some ⟨g1,0,none⟩) live∧IsPairs W (some ⟨g2,0,none⟩) safe∧IsDOps W (some ⟨g3,0,none⟩) ops)→IsInts W (some ⟨gk,0,none⟩) ks→Calls Try.prog 25 #[.agg #[.slice (some ⟨g1,0,none⟩) live.length live.length,.slice (some ⟨g2,0,none⟩) safe.length safe.length,.slice (some ⟨g3,0,none⟩) ops.length ops.length],.slice (some ⟨gk,0,none⟩) ks.length ks.length,.int .i64 tn] W fun e w'=>∃ x1 x2 x3 xk1 xk2 xk3,e=.returned (.tuple #[.agg #[.slice x1 rl.length xk1,.slice x2 rs.length xk2,.slice x3 ro.length xk3],.bool cd])∧NewR w' W.heap.size x1 (pcells rl)∧NewR w' W.heap.size x2 (pcells rs)∧NewR w' W.heap.size x3 (dcells ro)∧Below W.heap.size W w'):=fun g1 g2 g3 gk W h h4=>(H1 g1 g2 g3 gk W ⟨h,h4⟩).mono fun e w' ⟨x1,x2,y1,y2,e0,e1,e2,_,_,e4⟩=>⟨x1,x2,none,y1,y2,0,by rw[e0,hrs,hro];rfl,e1,by rw[hrs];exact e2,.inl (by rw[hro];rfl),e4⟩
 have HH2:Hid (∀ (g1 g2 g3 gk:Nat) W,(IsPairs W (some ⟨g1,0,none⟩) live∧IsPairs W (some ⟨g2,0,none⟩) safe∧IsDOps W (some ⟨g3,0,none⟩) ops)→IsInts W (some ⟨gk,0,none⟩) ks→Calls Try.prog 27 #[.agg #[.slice (some ⟨g1,0,none⟩) live.length live.length,.slice (some ⟨g2,0,none⟩) safe.length safe.length,.slice (some ⟨g3,0,none⟩) ops.length ops.length],.slice (some ⟨gk,0,none⟩) ks.length ks.length,.int .i64 tn] W fun e w'=>∃ x1 x2 x3 xk1 xk2 xk3,e=.returned (.tuple #[.agg #[.slice x1 rl.length xk1,.slice x2 rs.length xk2,.slice x3 ro.length xk3],.bool cd])∧w'.ownsRow W.heap.size 84 2 (Value.slice x1 rl.length xk1) rl.length (pcells rl)∧w'.ownsRow W.heap.size 84 2 (Value.slice x2 rs.length xk2) rs.length (pcells rs)∧w'.ownsRow W.heap.size 40 4 (Value.slice x3 ro.length xk3) ro.length (dcells ro)∧Apart3 (Value.slice x1 rl.length xk1) (Value.slice x2 rs.length xk2) (Value.slice x3 ro.length xk3)∧Below W.heap.size W w'):=fun g1 g2 g3 gk W h h4=>(H2 g1 g2 g3 gk W ⟨h,h4⟩).mono fun e w' ⟨x1,x2,y1,y2,e0,e1,e2,ap,e4⟩=>⟨x1,x2,none,y1,y2,0,by rw[e0,hrs,hro];rfl,e1,by rw[hrs];exact e2,by rw[hro];exact World.ownsRow_nil _ _ _ _,by rw[hrs,hro];exact ap,e4⟩
 have HTK:Hid (∀ W,Below w.heap.size w W→_):=fun W hW=>toZ_any ka kc ks W hnn (HSK.out W hW)
 have HTN:Hid (∀ W,Below w.heap.size w W→Calls Try.prog 14 #[.agg #[.slice a1 live.length c1,.slice a2 safe.length c2,.slice a3 ops.length c3]] W fun e w'=>∃ g1 g2 g3:Nat,e=.returned (.agg #[.slice (some ⟨g1,0,none⟩) live.length live.length,.slice (some ⟨g2,0,none⟩) safe.length safe.length,.slice (some ⟨g3,0,none⟩) ops.length ops.length])∧g1<g2∧g2<g3∧w'.ownsRow W.heap.size 84 2 (Value.slice (some ⟨g1,0,none⟩) live.length live.length) live.length (pcells live)∧w'.ownsRow W.heap.size 84 2 (Value.slice (some ⟨g2,0,none⟩) safe.length safe.length) safe.length (pcells safe)∧w'.ownsRow W.heap.size 40 4 (Value.slice (some ⟨g3,0,none⟩) ops.length ops.length) ops.length (dcells ops)∧Below W.heap.size W w'):=fun W hW=>toDisk_any a1 a2 a3 c1 c2 c3 live safe ops W hn1 hn2 hn3 (HS.out W hW).1 (HS.out W hW).2.1 (HS.out W hW).2.2
 clear H1 H2 hr0 hrl hcd hrs hro m1 m2 m3 hz1 hz2 hz3 HS hl1 hl2 hl3 hq hn0 HSK
 obtain⟨aD0,aD1,aD2,_⟩:=three_cells aDt3.out
 go_wp2_with fail
 refine (HTN.out _ Bt3).mono ?_
 rintro e wr1a ⟨v1,v2,v3,rfl,va,vb,vo1,vo2,vo3,bwr1a⟩
 clear aD0 aD1 aD2
 have aDt4:Hid (wr1a.heap[w.heap.size]? = some (.cells #[.slice a1 live.length c1,.slice a2 safe.length c2,.slice a3 ops.length c3] 25 (0,0))):=(bwr1a.block (w.heap.size) (lt_of_block aDt3.out)).trans aDt3.out
 clear aDt3
 have Bt4:Below w.heap.size w wr1a:=Bt3.trans (bwr1a.mono Bt3.size)
 clear Bt3
 have Iv:Hid (IsPairs wr1a (some ⟨v1,0,none⟩) live∧IsPairs wr1a (some ⟨v2,0,none⟩) safe∧IsDOps wr1a (some ⟨v3,0,none⟩) ops):=⟨(isPairs_own vo1).2.2,(isPairs_own vo2).2.2,(isDOps_own vo3).2.2⟩
 have Lv:Hid (w1.heap.size≤v1∧v1<v2∧v2<v3∧v3<wr1a.heap.size):=⟨(vo1.lt _ rfl).1,va,vb,(vo3.lt _ rfl).2⟩
 clear vo1 vo2 vo3 va vb bwr1a
 go_wp2_with fail
 refine (HTK.out _ Bt4).mono ?_
 rintro e wr1k ⟨rfl,ok1,bk1⟩
 have aDt5:Hid (wr1k.heap[w.heap.size]? = some (.cells #[.slice a1 live.length c1,.slice a2 safe.length c2,.slice a3 ops.length c3] 25 (0,0))):=(bk1.block (w.heap.size) (lt_of_block aDt4.out)).trans aDt4.out
 clear aDt4
 have Bt5:Below w.heap.size w wr1k:=Bt4.trans (bk1.mono Bt4.size)
 clear Bt4
 have BKN:Hid (Below wr1a.heap.size wr1a wr1k):=bk1
 have KIwr1k:Hid (IsInts wr1k (some ⟨wr1a.heap.size,0,none⟩) ks):=isInts_own rfl ok1
 clear ok1 bk1
 have ZW0:Hid (w.heap.size<wr1k.heap.size):=lt_of_block aDt5.out
 go_wp2_with fail
 refine (HH1.out v1 v2 v3 wr1a.heap.size _ ⟨Iv.out.1.later BKN.out,Iv.out.2.1.later BKN.out,Iv.out.2.2.later BKN.out⟩ KIwr1k.out).mono ?_
 rintro e wr1c ⟨y1,y2,y3,yk1,yk2,yk3,rfl,n1,n2,n3,b9⟩
 clear Iv Lv BKN KIwr1k
 have aDt6:Hid (wr1c.heap[w.heap.size]? = some (.cells #[.slice a1 live.length c1,.slice a2 safe.length c2,.slice a3 ops.length c3] 25 (0,0))):=(b9.block (w.heap.size) (lt_of_block aDt5.out)).trans aDt5.out
 clear aDt5
 have Bt6:Below w.heap.size w wr1c:=Bt5.trans (b9.mono Bt5.size)
 clear Bt5
 have N1w1:Hid (NewQ wr1c wr1k.heap.size wr1c.heap.size y1 (pcells rl)):=newQ_of n1
 have N2w1:Hid (NewQ wr1c wr1k.heap.size wr1c.heap.size y2 (pcells rs)):=newQ_of n2
 have N3w1:Hid (NewQ wr1c wr1k.heap.size wr1c.heap.size y3 (dcells ro)):=newQ_of n3
 have ZB1:Hid (wr1k.heap.size≤wr1c.heap.size):=b9.size
 clear n1 n2 n3 b9
 have Xt7:Below wr1c.heap.size wr1c (wr1c.alloc (.cells #[.slice y1 rl.length yk1,.slice y2 rs.length yk2,.slice y3 ro.length yk3] 31)):=(Below.refl _ _).alloc (Nat.le_refl _) _
 have aDt8:Hid ((wr1c.alloc (.cells #[.slice y1 rl.length yk1,.slice y2 rs.length yk2,.slice y3 ro.length yk3] 31)).heap[w.heap.size]? = some (.cells #[.slice a1 live.length c1,.slice a2 safe.length c2,.slice a3 ops.length c3] 25 (0,0))):=(Xt7.block (w.heap.size) (lt_of_block aDt6.out)).trans aDt6.out
 clear aDt6
 have N1t8:Hid (NewQ (wr1c.alloc (.cells #[.slice y1 rl.length yk1,.slice y2 rs.length yk2,.slice y3 ro.length yk3] 31)) wr1k.heap.size wr1c.heap.size y1 (pcells rl)):=N1w1.out.later Xt7
 clear N1w1
 have N2t8:Hid (NewQ (wr1c.alloc (.cells #[.slice y1 rl.length yk1,.slice y2 rs.length yk2,.slice y3 ro.length yk3] 31)) wr1k.heap.size wr1c.heap.size y2 (pcells rs)):=N2w1.out.later Xt7
 clear N2w1
 have N3t8:Hid (NewQ (wr1c.alloc (.cells #[.slice y1 rl.length yk1,.slice y2 rs.length yk2,.slice y3 ro.length yk3] 31)) wr1k.heap.size wr1c.heap.size y3 (dcells ro)):=N3w1.out.later Xt7
 clear N3w1
 have Bt8:Below w.heap.size w (wr1c.alloc (.cells #[.slice y1 rl.length yk1,.slice y2 rs.length yk2,.slice y3 ro.length yk3] 31)):=Bt6.trans (Xt7.mono Bt6.size)
 clear Bt6
 clear Xt7
 have bwt7:Hid ((wr1c.alloc (.cells #[.slice y1 rl.length yk1,.slice y2 rs.length yk2,.slice y3 ro.length yk3] 31)).heap[wr1c.heap.size]? = some (.cells #[.slice y1 rl.length yk1,.slice y2 rs.length yk2,.slice y3 ro.length yk3] 31 (0,0))):=heap_alloc_new wr1c _
 skip
 obtain⟨aD0,aD1,aD2,_⟩:=three_cells aDt8.out
 go_wp2_with fail
 refine (HTN.out _ Bt8).mono ?_
 rintro e w4 ⟨g1,g2,g3,rfl,ga,gb,go1,go2,go3,bw4⟩
 clear aD0 aD1 aD2
 have aDt9:Hid (w4.heap[w.heap.size]? = some (.cells #[.slice a1 live.length c1,.slice a2 safe.length c2,.slice a3 ops.length c3] 25 (0,0))):=(bw4.block (w.heap.size) (lt_of_block aDt8.out)).trans aDt8.out
 clear aDt8
 have N1t9:Hid (NewQ w4 wr1k.heap.size wr1c.heap.size y1 (pcells rl)):=N1t8.out.later bw4
 clear N1t8
 have N2t9:Hid (NewQ w4 wr1k.heap.size wr1c.heap.size y2 (pcells rs)):=N2t8.out.later bw4
 clear N2t8
 have N3t9:Hid (NewQ w4 wr1k.heap.size wr1c.heap.size y3 (dcells ro)):=N3t8.out.later bw4
 clear N3t8
 have bwt9:Hid (w4.heap[wr1c.heap.size]? = some (.cells #[.slice y1 rl.length yk1,.slice y2 rs.length yk2,.slice y3 ro.length yk3] 31 (0,0))):=(bw4.block (wr1c.heap.size) (lt_of_block bwt7.out)).trans bwt7.out
 clear bwt7
 have Bt9:Below w.heap.size w w4:=Bt8.trans (bw4.mono Bt8.size)
 clear Bt8
 have Ig:Hid (IsPairs w4 (some ⟨g1,0,none⟩) live∧IsPairs w4 (some ⟨g2,0,none⟩) safe∧IsDOps w4 (some ⟨g3,0,none⟩) ops):=⟨(isPairs_own go1).2.2,(isPairs_own go2).2.2,(isDOps_own go3).2.2⟩
 have Lg:Hid ((wr1c.alloc (.cells #[.slice y1 rl.length yk1,.slice y2 rs.length yk2,.slice y3 ro.length yk3] 31)).heap.size≤g1∧g1<g2∧g2<g3∧g3<w4.heap.size):=⟨(go1.lt _ rfl).1,ga,gb,(go3.lt _ rfl).2⟩
 have X1w4:Hid (w4.ownsRow (wr1c.alloc (.cells #[.slice y1 rl.length yk1,.slice y2 rs.length yk2,.slice y3 ro.length yk3] 31)).heap.size 84 2 (Value.slice (some ⟨g1,0,none⟩) live.length live.length) live.length (pcells live)):=go1
 have X2w4:Hid (w4.ownsRow (wr1c.alloc (.cells #[.slice y1 rl.length yk1,.slice y2 rs.length yk2,.slice y3 ro.length yk3] 31)).heap.size 84 2 (Value.slice (some ⟨g2,0,none⟩) safe.length safe.length) safe.length (pcells safe)):=go2
 have X3w4:Hid (w4.ownsRow (wr1c.alloc (.cells #[.slice y1 rl.length yk1,.slice y2 rs.length yk2,.slice y3 ro.length yk3] 31)).heap.size 40 4 (Value.slice (some ⟨g3,0,none⟩) ops.length ops.length) ops.length (dcells ops)):=go3
 clear go1 go2 go3 ga gb bw4
 have Xt10:Below w4.heap.size w4 (w4.alloc (.cells #[.slice (some ⟨g1,0,none⟩) live.length live.length,.slice (some ⟨g2,0,none⟩) safe.length safe.length,.slice (some ⟨g3,0,none⟩) ops.length ops.length] 31)):=(Below.refl _ _).alloc (Nat.le_refl _) _
 have aDt11:Hid ((w4.alloc (.cells #[.slice (some ⟨g1,0,none⟩) live.length live.length,.slice (some ⟨g2,0,none⟩) safe.length safe.length,.slice (some ⟨g3,0,none⟩) ops.length ops.length] 31)).heap[w.heap.size]? = some (.cells #[.slice a1 live.length c1,.slice a2 safe.length c2,.slice a3 ops.length c3] 25 (0,0))):=(Xt10.block (w.heap.size) (lt_of_block aDt9.out)).trans aDt9.out
 clear aDt9
 have N1t11:Hid (NewQ (w4.alloc (.cells #[.slice (some ⟨g1,0,none⟩) live.length live.length,.slice (some ⟨g2,0,none⟩) safe.length safe.length,.slice (some ⟨g3,0,none⟩) ops.length ops.length] 31)) wr1k.heap.size wr1c.heap.size y1 (pcells rl)):=N1t9.out.later Xt10
 clear N1t9
 have N2t11:Hid (NewQ (w4.alloc (.cells #[.slice (some ⟨g1,0,none⟩) live.length live.length,.slice (some ⟨g2,0,none⟩) safe.length safe.length,.slice (some ⟨g3,0,none⟩) ops.length ops.length] 31)) wr1k.heap.size wr1c.heap.size y2 (pcells rs)):=N2t9.out.later Xt10
 clear N2t9
 have N3t11:Hid (NewQ (w4.alloc (.cells #[.slice (some ⟨g1,0,none⟩) live.length live.length,.slice (some ⟨g2,0,none⟩) safe.length safe.length,.slice (some ⟨g3,0,none⟩) ops.length ops.length] 31)) wr1k.heap.size wr1c.heap.size y3 (dcells ro)):=N3t9.out.later Xt10
 clear N3t9
 have bwt11:Hid ((w4.alloc (.cells #[.slice (some ⟨g1,0,none⟩) live.length live.length,.slice (some ⟨g2,0,none⟩) safe.length safe.length,.slice (some ⟨g3,0,none⟩) ops.length ops.length] 31)).heap[wr1c.heap.size]? = some (.cells #[.slice y1 rl.length yk1,.slice y2 rs.length yk2,.slice y3 ro.length yk3] 31 (0,0))):=(Xt10.block (wr1c.heap.size) (lt_of_block bwt9.out)).trans bwt9.out
 clear bwt9
 have X1t11:Hid ((w4.alloc (.cells #[.slice (some ⟨g1,0,none⟩) live.length live.length,.slice (some ⟨g2,0,none⟩) safe.length safe.length,.slice (some ⟨g3,0,none⟩) ops.length ops.length] 31)).ownsRow (wr1c.alloc (.cells #[.slice y1 rl.length yk1,.slice y2 rs.length yk2,.slice y3 ro.length yk3] 31)).heap.size 84 2 (Value.slice (some ⟨g1,0,none⟩) live.length live.length) live.length (pcells live)):=kept2 X1w4.out Xt10
 clear X1w4
 have X2t11:Hid ((w4.alloc (.cells #[.slice (some ⟨g1,0,none⟩) live.length live.length,.slice (some ⟨g2,0,none⟩) safe.length safe.length,.slice (some ⟨g3,0,none⟩) ops.length ops.length] 31)).ownsRow (wr1c.alloc (.cells #[.slice y1 rl.length yk1,.slice y2 rs.length yk2,.slice y3 ro.length yk3] 31)).heap.size 84 2 (Value.slice (some ⟨g2,0,none⟩) safe.length safe.length) safe.length (pcells safe)):=kept2 X2w4.out Xt10
 clear X2w4
 have X3t11:Hid ((w4.alloc (.cells #[.slice (some ⟨g1,0,none⟩) live.length live.length,.slice (some ⟨g2,0,none⟩) safe.length safe.length,.slice (some ⟨g3,0,none⟩) ops.length ops.length] 31)).ownsRow (wr1c.alloc (.cells #[.slice y1 rl.length yk1,.slice y2 rs.length yk2,.slice y3 ro.length yk3] 31)).heap.size 40 4 (Value.slice (some ⟨g3,0,none⟩) ops.length ops.length) ops.length (dcells ops)):=kept4 X3w4.out Xt10
 clear X3w4
 have Bt11:Below w.heap.size w (w4.alloc (.cells #[.slice (some ⟨g1,0,none⟩) live.length live.length,.slice (some ⟨g2,0,none⟩) safe.length safe.length,.slice (some ⟨g3,0,none⟩) ops.length ops.length] 31)):=Bt9.trans (Xt10.mono Bt9.size)
 clear Bt9
 clear Xt10
 have bxt10:Hid ((w4.alloc (.cells #[.slice (some ⟨g1,0,none⟩) live.length live.length,.slice (some ⟨g2,0,none⟩) safe.length safe.length,.slice (some ⟨g3,0,none⟩) ops.length ops.length] 31)).heap[w4.heap.size]? = some (.cells #[.slice (some ⟨g1,0,none⟩) live.length live.length,.slice (some ⟨g2,0,none⟩) safe.length safe.length,.slice (some ⟨g3,0,none⟩) ops.length ops.length] 31 (0,0))):=heap_alloc_new w4 _
 clear Ig
 go_wp2_with fail
 obtain⟨w5,hw5⟩:∃ W,W=(w4.alloc (.cells #[.slice (some ⟨g1,0,none⟩) live.length live.length,.slice (some ⟨g2,0,none⟩) safe.length safe.length,.slice (some ⟨g3,0,none⟩) ops.length ops.length] 31)):=⟨_,rfl⟩
 rw[←hw5] at ⊢ Bt11 aDt11 N1t11 N2t11 N3t11 bwt11 X1t11 X2t11 X3t11 bxt10
 have Z50:Hid (w5.heap.size=w4.heap.size+1):=by rw[hw5,Hid];simp
 clear hw5
 refine (HTK.out _ Bt11).mono ?_
 rintro e w5k ⟨rfl,ok1,bk1⟩
 have aDt12:Hid (w5k.heap[w.heap.size]? = some (.cells #[.slice a1 live.length c1,.slice a2 safe.length c2,.slice a3 ops.length c3] 25 (0,0))):=(bk1.block (w.heap.size) (lt_of_block aDt11.out)).trans aDt11.out
 clear aDt11
 have N1t12:Hid (NewQ w5k wr1k.heap.size wr1c.heap.size y1 (pcells rl)):=N1t11.out.later bk1
 clear N1t11
 have N2t12:Hid (NewQ w5k wr1k.heap.size wr1c.heap.size y2 (pcells rs)):=N2t11.out.later bk1
 clear N2t11
 have N3t12:Hid (NewQ w5k wr1k.heap.size wr1c.heap.size y3 (dcells ro)):=N3t11.out.later bk1
 clear N3t11
 have bwt12:Hid (w5k.heap[wr1c.heap.size]? = some (.cells #[.slice y1 rl.length yk1,.slice y2 rs.length yk2,.slice y3 ro.length yk3] 31 (0,0))):=(bk1.block (wr1c.heap.size) (lt_of_block bwt11.out)).trans bwt11.out
 clear bwt11
 have X1t12:Hid (w5k.ownsRow (wr1c.alloc (.cells #[.slice y1 rl.length yk1,.slice y2 rs.length yk2,.slice y3 ro.length yk3] 31)).heap.size 84 2 (Value.slice (some ⟨g1,0,none⟩) live.length live.length) live.length (pcells live)):=kept2 X1t11.out bk1
 clear X1t11
 have X2t12:Hid (w5k.ownsRow (wr1c.alloc (.cells #[.slice y1 rl.length yk1,.slice y2 rs.length yk2,.slice y3 ro.length yk3] 31)).heap.size 84 2 (Value.slice (some ⟨g2,0,none⟩) safe.length safe.length) safe.length (pcells safe)):=kept2 X2t11.out bk1
 clear X2t11
 have X3t12:Hid (w5k.ownsRow (wr1c.alloc (.cells #[.slice y1 rl.length yk1,.slice y2 rs.length yk2,.slice y3 ro.length yk3] 31)).heap.size 40 4 (Value.slice (some ⟨g3,0,none⟩) ops.length ops.length) ops.length (dcells ops)):=kept4 X3t11.out bk1
 clear X3t11
 have bxt12:Hid (w5k.heap[w4.heap.size]? = some (.cells #[.slice (some ⟨g1,0,none⟩) live.length live.length,.slice (some ⟨g2,0,none⟩) safe.length safe.length,.slice (some ⟨g3,0,none⟩) ops.length ops.length] 31 (0,0))):=(bk1.block (w4.heap.size) (lt_of_block bxt10.out)).trans bxt10.out
 clear bxt10
 have Bt12:Below w.heap.size w w5k:=Bt11.trans (bk1.mono Bt11.size)
 clear Bt11
 have BKN:Hid (Below w5.heap.size w5 w5k):=bk1
 have KIw5k:Hid (IsInts w5k (some ⟨w5.heap.size,0,none⟩) ks):=isInts_own rfl ok1
 have X4w5k:Hid (w5k.ownsRow w5.heap.size 2 1 (.slice (some ⟨w5.heap.size,0,none⟩) ks.length ks.length) ks.length (zcells ks)):=ok1
 clear ok1 bk1
 have ZK:Hid (w5.heap.size<w5k.heap.size):=(X4w5k.out.lt _ rfl).2
 clear BKN KIw5k
 obtain⟨bx0,bx1,bx2,_⟩:=three_cells bxt12.out
 go_wp2_with fail
 refine (HH2.out g1 g2 g3 w5.heap.size _ ⟨(isPairs_own X1t12.out).2.2,(isPairs_own X2t12.out).2.2,(isDOps_own X3t12.out).2.2⟩ (isInts_own rfl X4w5k.out)).mono ?_
 rintro e wr2c ⟨h1,h2,h3,hk1,hk2,hk3,rfl,n1,n2,n3,hap,b9⟩
 clear bx0 bx1 bx2
 have aDt13:Hid (wr2c.heap[w.heap.size]? = some (.cells #[.slice a1 live.length c1,.slice a2 safe.length c2,.slice a3 ops.length c3] 25 (0,0))):=(b9.block (w.heap.size) (lt_of_block aDt12.out)).trans aDt12.out
 clear aDt12
 have N1t13:Hid (NewQ wr2c wr1k.heap.size wr1c.heap.size y1 (pcells rl)):=N1t12.out.later b9
 clear N1t12
 have N2t13:Hid (NewQ wr2c wr1k.heap.size wr1c.heap.size y2 (pcells rs)):=N2t12.out.later b9
 clear N2t12
 have N3t13:Hid (NewQ wr2c wr1k.heap.size wr1c.heap.size y3 (dcells ro)):=N3t12.out.later b9
 clear N3t12
 have bwt13:Hid (wr2c.heap[wr1c.heap.size]? = some (.cells #[.slice y1 rl.length yk1,.slice y2 rs.length yk2,.slice y3 ro.length yk3] 31 (0,0))):=(b9.block (wr1c.heap.size) (lt_of_block bwt12.out)).trans bwt12.out
 clear bwt12
 have X1t13:Hid (wr2c.ownsRow (wr1c.alloc (.cells #[.slice y1 rl.length yk1,.slice y2 rs.length yk2,.slice y3 ro.length yk3] 31)).heap.size 84 2 (Value.slice (some ⟨g1,0,none⟩) live.length live.length) live.length (pcells live)):=kept2 X1t12.out b9
 clear X1t12
 have X2t13:Hid (wr2c.ownsRow (wr1c.alloc (.cells #[.slice y1 rl.length yk1,.slice y2 rs.length yk2,.slice y3 ro.length yk3] 31)).heap.size 84 2 (Value.slice (some ⟨g2,0,none⟩) safe.length safe.length) safe.length (pcells safe)):=kept2 X2t12.out b9
 clear X2t12
 have X3t13:Hid (wr2c.ownsRow (wr1c.alloc (.cells #[.slice y1 rl.length yk1,.slice y2 rs.length yk2,.slice y3 ro.length yk3] 31)).heap.size 40 4 (Value.slice (some ⟨g3,0,none⟩) ops.length ops.length) ops.length (dcells ops)):=kept4 X3t12.out b9
 clear X3t12
 have bxt13:Hid (wr2c.heap[w4.heap.size]? = some (.cells #[.slice (some ⟨g1,0,none⟩) live.length live.length,.slice (some ⟨g2,0,none⟩) safe.length safe.length,.slice (some ⟨g3,0,none⟩) ops.length ops.length] 31 (0,0))):=(b9.block (w4.heap.size) (lt_of_block bxt12.out)).trans bxt12.out
 clear bxt12
 have X4t13:Hid (wr2c.ownsRow w5.heap.size 2 1 (Value.slice (some ⟨w5.heap.size,0,none⟩) ks.length ks.length) ks.length (zcells ks)):=kept1 X4w5k.out b9
 clear X4w5k
 have Bt13:Below w.heap.size w wr2c:=Bt12.trans (b9.mono Bt12.size)
 clear Bt12
 have G1w2:Hid (wr2c.ownsRow w5k.heap.size 84 2 (Value.slice h1 rl.length hk1) rl.length (pcells rl)):=n1
 have LG1:Hid (∀ q,(Value.slice h1 rl.length hk1).ownBlock=some q→w5k.heap.size≤q∧q<wr2c.heap.size):=fun q hq=>n1.lt q hq
 have G2w2:Hid (wr2c.ownsRow w5k.heap.size 84 2 (Value.slice h2 rs.length hk2) rs.length (pcells rs)):=n2
 have LG2:Hid (∀ q,(Value.slice h2 rs.length hk2).ownBlock=some q→w5k.heap.size≤q∧q<wr2c.heap.size):=fun q hq=>n2.lt q hq
 have G3w2:Hid (wr2c.ownsRow w5k.heap.size 40 4 (Value.slice h3 ro.length hk3) ro.length (dcells ro)):=n3
 have LG3:Hid (∀ q,(Value.slice h3 ro.length hk3).ownBlock=some q→w5k.heap.size≤q∧q<wr2c.heap.size):=fun q hq=>n3.lt q hq
 have AP:Hid (Apart3 (Value.slice h1 rl.length hk1) (Value.slice h2 rs.length hk2) (Value.slice h3 ro.length hk3)):=hap
 have ZB2:Hid (w5k.heap.size≤wr2c.heap.size):=b9.size
 clear n1 n2 n3 b9 hap
 have Xt14:Below wr2c.heap.size wr2c (wr2c.alloc (.cells #[.slice h1 rl.length hk1,.slice h2 rs.length hk2,.slice h3 ro.length hk3] 31)):=(Below.refl _ _).alloc (Nat.le_refl _) _
 have aDt15:Hid ((wr2c.alloc (.cells #[.slice h1 rl.length hk1,.slice h2 rs.length hk2,.slice h3 ro.length hk3] 31)).heap[w.heap.size]? = some (.cells #[.slice a1 live.length c1,.slice a2 safe.length c2,.slice a3 ops.length c3] 25 (0,0))):=(Xt14.block (w.heap.size) (lt_of_block aDt13.out)).trans aDt13.out
 clear aDt13
 have N1t15:Hid (NewQ (wr2c.alloc (.cells #[.slice h1 rl.length hk1,.slice h2 rs.length hk2,.slice h3 ro.length hk3] 31)) wr1k.heap.size wr1c.heap.size y1 (pcells rl)):=N1t13.out.later Xt14
 clear N1t13
 have N2t15:Hid (NewQ (wr2c.alloc (.cells #[.slice h1 rl.length hk1,.slice h2 rs.length hk2,.slice h3 ro.length hk3] 31)) wr1k.heap.size wr1c.heap.size y2 (pcells rs)):=N2t13.out.later Xt14
 clear N2t13
 have N3t15:Hid (NewQ (wr2c.alloc (.cells #[.slice h1 rl.length hk1,.slice h2 rs.length hk2,.slice h3 ro.length hk3] 31)) wr1k.heap.size wr1c.heap.size y3 (dcells ro)):=N3t13.out.later Xt14
 clear N3t13
 have bwt15:Hid ((wr2c.alloc (.cells #[.slice h1 rl.length hk1,.slice h2 rs.length hk2,.slice h3 ro.length hk3] 31)).heap[wr1c.heap.size]? = some (.cells #[.slice y1 rl.length yk1,.slice y2 rs.length yk2,.slice y3 ro.length yk3] 31 (0,0))):=(Xt14.block (wr1c.heap.size) (lt_of_block bwt13.out)).trans bwt13.out
 clear bwt13
 have X1t15:Hid ((wr2c.alloc (.cells #[.slice h1 rl.length hk1,.slice h2 rs.length hk2,.slice h3 ro.length hk3] 31)).ownsRow (wr1c.alloc (.cells #[.slice y1 rl.length yk1,.slice y2 rs.length yk2,.slice y3 ro.length yk3] 31)).heap.size 84 2 (Value.slice (some ⟨g1,0,none⟩) live.length live.length) live.length (pcells live)):=kept2 X1t13.out Xt14
 clear X1t13
 have X2t15:Hid ((wr2c.alloc (.cells #[.slice h1 rl.length hk1,.slice h2 rs.length hk2,.slice h3 ro.length hk3] 31)).ownsRow (wr1c.alloc (.cells #[.slice y1 rl.length yk1,.slice y2 rs.length yk2,.slice y3 ro.length yk3] 31)).heap.size 84 2 (Value.slice (some ⟨g2,0,none⟩) safe.length safe.length) safe.length (pcells safe)):=kept2 X2t13.out Xt14
 clear X2t13
 have X3t15:Hid ((wr2c.alloc (.cells #[.slice h1 rl.length hk1,.slice h2 rs.length hk2,.slice h3 ro.length hk3] 31)).ownsRow (wr1c.alloc (.cells #[.slice y1 rl.length yk1,.slice y2 rs.length yk2,.slice y3 ro.length yk3] 31)).heap.size 40 4 (Value.slice (some ⟨g3,0,none⟩) ops.length ops.length) ops.length (dcells ops)):=kept4 X3t13.out Xt14
 clear X3t13
 have bxt15:Hid ((wr2c.alloc (.cells #[.slice h1 rl.length hk1,.slice h2 rs.length hk2,.slice h3 ro.length hk3] 31)).heap[w4.heap.size]? = some (.cells #[.slice (some ⟨g1,0,none⟩) live.length live.length,.slice (some ⟨g2,0,none⟩) safe.length safe.length,.slice (some ⟨g3,0,none⟩) ops.length ops.length] 31 (0,0))):=(Xt14.block (w4.heap.size) (lt_of_block bxt13.out)).trans bxt13.out
 clear bxt13
 have X4t15:Hid ((wr2c.alloc (.cells #[.slice h1 rl.length hk1,.slice h2 rs.length hk2,.slice h3 ro.length hk3] 31)).ownsRow w5.heap.size 2 1 (Value.slice (some ⟨w5.heap.size,0,none⟩) ks.length ks.length) ks.length (zcells ks)):=kept1 X4t13.out Xt14
 clear X4t13
 have G1t15:Hid ((wr2c.alloc (.cells #[.slice h1 rl.length hk1,.slice h2 rs.length hk2,.slice h3 ro.length hk3] 31)).ownsRow w5k.heap.size 84 2 (Value.slice h1 rl.length hk1) rl.length (pcells rl)):=kept2 G1w2.out Xt14
 clear G1w2
 have G2t15:Hid ((wr2c.alloc (.cells #[.slice h1 rl.length hk1,.slice h2 rs.length hk2,.slice h3 ro.length hk3] 31)).ownsRow w5k.heap.size 84 2 (Value.slice h2 rs.length hk2) rs.length (pcells rs)):=kept2 G2w2.out Xt14
 clear G2w2
 have G3t15:Hid ((wr2c.alloc (.cells #[.slice h1 rl.length hk1,.slice h2 rs.length hk2,.slice h3 ro.length hk3] 31)).ownsRow w5k.heap.size 40 4 (Value.slice h3 ro.length hk3) ro.length (dcells ro)):=kept4 G3w2.out Xt14
 clear G3w2
 have Bt15:Below w.heap.size w (wr2c.alloc (.cells #[.slice h1 rl.length hk1,.slice h2 rs.length hk2,.slice h3 ro.length hk3] 31)):=Bt13.trans (Xt14.mono Bt13.size)
 clear Bt13
 clear Xt14
 have bgt14:Hid ((wr2c.alloc (.cells #[.slice h1 rl.length hk1,.slice h2 rs.length hk2,.slice h3 ro.length hk3] 31)).heap[wr2c.heap.size]? = some (.cells #[.slice h1 rl.length hk1,.slice h2 rs.length hk2,.slice h3 ro.length hk3] 31 (0,0))):=heap_alloc_new wr2c _
 have Z3:Hid (wr1k.heap.size≤wr1c.heap.size∧(wr1c.alloc (.cells #[.slice y1 rl.length yk1,.slice y2 rs.length yk2,.slice y3 ro.length yk3] 31)).heap.size=wr1c.heap.size+1∧w5.heap.size=w4.heap.size+1∧w5.heap.size<w5k.heap.size∧w5k.heap.size≤wr2c.heap.size∧w.heap.size<wr1k.heap.size):=⟨ZB1.out,by simp,Z50.out,ZK.out,ZB2.out,ZW0.out⟩
 obtain⟨bg0,bg1,bg2,_⟩:=three_cells bgt14.out
 obtain⟨bw0,bw1,bw2,_⟩:=three_cells bwt15.out
 go_wp2_with fail
 refine (eqDisk_same rl rs ro _ _ _ _ _ _ _ _ _ _ _ _ _ (by omega) (by omega) (by omega) ⟨(isPairs_own G1t15.out).2.2,N1t15.out.1.pairs⟩ ⟨(isPairs_own G2t15.out).2.2,N2t15.out.1.pairs⟩ ⟨(isDOps_own G3t15.out).2.2,N3t15.out.1.dops⟩).mono ?_
 rintro e w7 ⟨rfl,b9⟩
 clear bg0 bg1 bg2
 clear bw0 bw1 bw2
 have aDt16:Hid (w7.heap[w.heap.size]? = some (.cells #[.slice a1 live.length c1,.slice a2 safe.length c2,.slice a3 ops.length c3] 25 (0,0))):=(b9.block (w.heap.size) (lt_of_block aDt15.out)).trans aDt15.out
 clear aDt15
 have N1t16:Hid (NewQ w7 wr1k.heap.size wr1c.heap.size y1 (pcells rl)):=N1t15.out.later b9
 clear N1t15
 have N2t16:Hid (NewQ w7 wr1k.heap.size wr1c.heap.size y2 (pcells rs)):=N2t15.out.later b9
 clear N2t15
 have N3t16:Hid (NewQ w7 wr1k.heap.size wr1c.heap.size y3 (dcells ro)):=N3t15.out.later b9
 clear N3t15
 have bwt16:Hid (w7.heap[wr1c.heap.size]? = some (.cells #[.slice y1 rl.length yk1,.slice y2 rs.length yk2,.slice y3 ro.length yk3] 31 (0,0))):=(b9.block (wr1c.heap.size) (lt_of_block bwt15.out)).trans bwt15.out
 clear bwt15
 have X1t16:Hid (w7.ownsRow (wr1c.alloc (.cells #[.slice y1 rl.length yk1,.slice y2 rs.length yk2,.slice y3 ro.length yk3] 31)).heap.size 84 2 (Value.slice (some ⟨g1,0,none⟩) live.length live.length) live.length (pcells live)):=kept2 X1t15.out b9
 clear X1t15
 have X2t16:Hid (w7.ownsRow (wr1c.alloc (.cells #[.slice y1 rl.length yk1,.slice y2 rs.length yk2,.slice y3 ro.length yk3] 31)).heap.size 84 2 (Value.slice (some ⟨g2,0,none⟩) safe.length safe.length) safe.length (pcells safe)):=kept2 X2t15.out b9
 clear X2t15
 have X3t16:Hid (w7.ownsRow (wr1c.alloc (.cells #[.slice y1 rl.length yk1,.slice y2 rs.length yk2,.slice y3 ro.length yk3] 31)).heap.size 40 4 (Value.slice (some ⟨g3,0,none⟩) ops.length ops.length) ops.length (dcells ops)):=kept4 X3t15.out b9
 clear X3t15
 have bxt16:Hid (w7.heap[w4.heap.size]? = some (.cells #[.slice (some ⟨g1,0,none⟩) live.length live.length,.slice (some ⟨g2,0,none⟩) safe.length safe.length,.slice (some ⟨g3,0,none⟩) ops.length ops.length] 31 (0,0))):=(b9.block (w4.heap.size) (lt_of_block bxt15.out)).trans bxt15.out
 clear bxt15
 have X4t16:Hid (w7.ownsRow w5.heap.size 2 1 (Value.slice (some ⟨w5.heap.size,0,none⟩) ks.length ks.length) ks.length (zcells ks)):=kept1 X4t15.out b9
 clear X4t15
 have G1t16:Hid (w7.ownsRow w5k.heap.size 84 2 (Value.slice h1 rl.length hk1) rl.length (pcells rl)):=kept2 G1t15.out b9
 clear G1t15
 have G2t16:Hid (w7.ownsRow w5k.heap.size 84 2 (Value.slice h2 rs.length hk2) rs.length (pcells rs)):=kept2 G2t15.out b9
 clear G2t15
 have G3t16:Hid (w7.ownsRow w5k.heap.size 40 4 (Value.slice h3 ro.length hk3) ro.length (dcells ro)):=kept4 G3t15.out b9
 clear G3t15
 have bgt16:Hid (w7.heap[wr2c.heap.size]? = some (.cells #[.slice h1 rl.length hk1,.slice h2 rs.length hk2,.slice h3 ro.length hk3] 31 (0,0))):=(b9.block (wr2c.heap.size) (lt_of_block bgt14.out)).trans bgt14.out
 clear bgt14
 have Bt16:Below w.heap.size w w7:=Bt15.trans (b9.mono Bt15.size)
 clear Bt15
 clear b9
 have SB:Hid (∀ W,Below w7.heap.size w7 W→W.cell? ⟨w.heap.size,0,none⟩=some (.slice a1 live.length c1)∧W.cell? ⟨w.heap.size,1,none⟩=some (.slice a2 safe.length c2)∧W.cell? ⟨w.heap.size,2,none⟩=some (.slice a3 ops.length c3)∧W.cell? ⟨w4.heap.size,0,none⟩=some (.slice (some ⟨g1,0,none⟩) live.length live.length)∧W.cell? ⟨w4.heap.size,1,none⟩=some (.slice (some ⟨g2,0,none⟩) safe.length safe.length)∧W.cell? ⟨w4.heap.size,2,none⟩=some (.slice (some ⟨g3,0,none⟩) ops.length ops.length)):=fun W hW=>by
  obtain⟨u0,u1,u2,_⟩:=three_cells ((hW.block _ (lt_of_block aDt16.out)).trans aDt16.out)
  obtain⟨v0,v1,v2,_⟩:=three_cells ((hW.block _ (lt_of_block bxt16.out)).trans bxt16.out)
  exact⟨u0,u1,u2,v0,v1,v2⟩
 have BD:Below w7.heap.size w7 w7.drew:=⟨rfl,rfl,rfl,Nat.le_refl _,fun _ _=>rfl⟩
 have WD:Below w.heap.size w w7.drew:=Bt16.trans (BD.mono Bt16.size)
 go_wp2
 go_region_held3 (fun w'=>w'.cell? ⟨w.heap.size,0,none⟩=some (.slice a1 live.length c1)∧w'.cell? ⟨w.heap.size,1,none⟩=some (.slice a2 safe.length c2)∧w'.cell? ⟨w.heap.size,2,none⟩=some (.slice a3 ops.length c3)∧w'.cell? ⟨w4.heap.size,0,none⟩=some (.slice (some ⟨g1,0,none⟩) live.length live.length)∧w'.cell? ⟨w4.heap.size,1,none⟩=some (.slice (some ⟨g2,0,none⟩) safe.length safe.length)∧w'.cell? ⟨w4.heap.size,2,none⟩=some (.slice (some ⟨g3,0,none⟩) ops.length ops.length)) (first | with_reducible exact SB.out _ BC2 | with_reducible exact SB.out _ BC1 | with_reducible exact SB.out _ BD)
  (first
   | (go_at_call 14
      with_reducible refine (HTN.out w7.drew WD).mono ?_
      rintro e wc1 ⟨v1,v2,v3,rfl,_,_,vo1,vo2,vo3,b7⟩
      have BC1:Below w7.heap.size w7 wc1:=BD.trans (b7.mono BD.size)
      have J1:Hid ((IsPairs wc1 (some ⟨g1,0,none⟩) live∧IsPairs wc1 (some ⟨g2,0,none⟩) safe∧IsDOps wc1 (some ⟨g3,0,none⟩) ops)∧(IsPairs wc1 (some ⟨v1,0,none⟩) live∧IsPairs wc1 (some ⟨v2,0,none⟩) safe∧IsDOps wc1 (some ⟨v3,0,none⟩) ops)):=⟨⟨(isPairs_own (kept2 X1t16.out BC1)).2.2,(isPairs_own (kept2 X2t16.out BC1)).2.2,(isDOps_own (kept4 X3t16.out BC1)).2.2⟩,⟨(isPairs_own vo1).2.2,(isPairs_own vo2).2.2,(isDOps_own vo3).2.2⟩⟩
      clear vo1 vo2 vo3 b7)
   | (go_at_call 16
      with_reducible refine (eqDisk_same live safe ops (some ⟨g1,0,none⟩) (some ⟨g2,0,none⟩) (some ⟨g3,0,none⟩) (some ⟨v1,0,none⟩) (some ⟨v2,0,none⟩) (some ⟨v3,0,none⟩) live.length safe.length ops.length live.length safe.length ops.length wc1 (by omega) (by omega) (by omega) ⟨J1.out.1.1,J1.out.2.1⟩ ⟨J1.out.1.2.1,J1.out.2.2.1⟩ ⟨J1.out.1.2.2,J1.out.2.2.2⟩).mono ?_
      rintro e wc2 ⟨rfl,b8⟩
      have BC2:Below w7.heap.size w7 wc2:=BC1.trans (b8.mono BC1.size)
      clear b8))
 all_goals clear SB BD WD J1
 all_goals
  have b9:=BC2
  clear BC1 BC2
  have aDt17:Hid (wc2.heap[w.heap.size]? = some (.cells #[.slice a1 live.length c1,.slice a2 safe.length c2,.slice a3 ops.length c3] 25 (0,0))):=(b9.block (w.heap.size) (lt_of_block aDt16.out)).trans aDt16.out
  clear aDt16
  have N1t17:Hid (NewQ wc2 wr1k.heap.size wr1c.heap.size y1 (pcells rl)):=N1t16.out.later b9
  clear N1t16
  have N2t17:Hid (NewQ wc2 wr1k.heap.size wr1c.heap.size y2 (pcells rs)):=N2t16.out.later b9
  clear N2t16
  have N3t17:Hid (NewQ wc2 wr1k.heap.size wr1c.heap.size y3 (dcells ro)):=N3t16.out.later b9
  clear N3t16
  have bwt17:Hid (wc2.heap[wr1c.heap.size]? = some (.cells #[.slice y1 rl.length yk1,.slice y2 rs.length yk2,.slice y3 ro.length yk3] 31 (0,0))):=(b9.block (wr1c.heap.size) (lt_of_block bwt16.out)).trans bwt16.out
  clear bwt16
  have X1t17:Hid (wc2.ownsRow (wr1c.alloc (.cells #[.slice y1 rl.length yk1,.slice y2 rs.length yk2,.slice y3 ro.length yk3] 31)).heap.size 84 2 (Value.slice (some ⟨g1,0,none⟩) live.length live.length) live.length (pcells live)):=kept2 X1t16.out b9
  clear X1t16
  have X2t17:Hid (wc2.ownsRow (wr1c.alloc (.cells #[.slice y1 rl.length yk1,.slice y2 rs.length yk2,.slice y3 ro.length yk3] 31)).heap.size 84 2 (Value.slice (some ⟨g2,0,none⟩) safe.length safe.length) safe.length (pcells safe)):=kept2 X2t16.out b9
  clear X2t16
  have X3t17:Hid (wc2.ownsRow (wr1c.alloc (.cells #[.slice y1 rl.length yk1,.slice y2 rs.length yk2,.slice y3 ro.length yk3] 31)).heap.size 40 4 (Value.slice (some ⟨g3,0,none⟩) ops.length ops.length) ops.length (dcells ops)):=kept4 X3t16.out b9
  clear X3t16
  have bxt17:Hid (wc2.heap[w4.heap.size]? = some (.cells #[.slice (some ⟨g1,0,none⟩) live.length live.length,.slice (some ⟨g2,0,none⟩) safe.length safe.length,.slice (some ⟨g3,0,none⟩) ops.length ops.length] 31 (0,0))):=(b9.block (w4.heap.size) (lt_of_block bxt16.out)).trans bxt16.out
  clear bxt16
  have X4t17:Hid (wc2.ownsRow w5.heap.size 2 1 (Value.slice (some ⟨w5.heap.size,0,none⟩) ks.length ks.length) ks.length (zcells ks)):=kept1 X4t16.out b9
  clear X4t16
  have G1t17:Hid (wc2.ownsRow w5k.heap.size 84 2 (Value.slice h1 rl.length hk1) rl.length (pcells rl)):=kept2 G1t16.out b9
  clear G1t16
  have G2t17:Hid (wc2.ownsRow w5k.heap.size 84 2 (Value.slice h2 rs.length hk2) rs.length (pcells rs)):=kept2 G2t16.out b9
  clear G2t16
  have G3t17:Hid (wc2.ownsRow w5k.heap.size 40 4 (Value.slice h3 ro.length hk3) ro.length (dcells ro)):=kept4 G3t16.out b9
  clear G3t16
  have bgt17:Hid (wc2.heap[wr2c.heap.size]? = some (.cells #[.slice h1 rl.length hk1,.slice h2 rs.length hk2,.slice h3 ro.length hk3] 31 (0,0))):=(b9.block (wr2c.heap.size) (lt_of_block bgt16.out)).trans bgt16.out
  clear bgt16
  have Bt17:Below w.heap.size w wc2:=Bt16.trans (b9.mono Bt16.size)
  clear Bt16
  clear b9
  go_wp2_with fail
  refine (HTK.out _ Bt17).mono ?_
  rintro e wz1 ⟨rfl,ok1,bk1⟩
  have aDt18:Hid (wz1.heap[w.heap.size]? = some (.cells #[.slice a1 live.length c1,.slice a2 safe.length c2,.slice a3 ops.length c3] 25 (0,0))):=(bk1.block (w.heap.size) (lt_of_block aDt17.out)).trans aDt17.out
  clear aDt17
  have N1t18:Hid (NewQ wz1 wr1k.heap.size wr1c.heap.size y1 (pcells rl)):=N1t17.out.later bk1
  clear N1t17
  have N2t18:Hid (NewQ wz1 wr1k.heap.size wr1c.heap.size y2 (pcells rs)):=N2t17.out.later bk1
  clear N2t17
  have N3t18:Hid (NewQ wz1 wr1k.heap.size wr1c.heap.size y3 (dcells ro)):=N3t17.out.later bk1
  clear N3t17
  have bwt18:Hid (wz1.heap[wr1c.heap.size]? = some (.cells #[.slice y1 rl.length yk1,.slice y2 rs.length yk2,.slice y3 ro.length yk3] 31 (0,0))):=(bk1.block (wr1c.heap.size) (lt_of_block bwt17.out)).trans bwt17.out
  clear bwt17
  have X1t18:Hid (wz1.ownsRow (wr1c.alloc (.cells #[.slice y1 rl.length yk1,.slice y2 rs.length yk2,.slice y3 ro.length yk3] 31)).heap.size 84 2 (Value.slice (some ⟨g1,0,none⟩) live.length live.length) live.length (pcells live)):=kept2 X1t17.out bk1
  clear X1t17
  have X2t18:Hid (wz1.ownsRow (wr1c.alloc (.cells #[.slice y1 rl.length yk1,.slice y2 rs.length yk2,.slice y3 ro.length yk3] 31)).heap.size 84 2 (Value.slice (some ⟨g2,0,none⟩) safe.length safe.length) safe.length (pcells safe)):=kept2 X2t17.out bk1
  clear X2t17
  have X3t18:Hid (wz1.ownsRow (wr1c.alloc (.cells #[.slice y1 rl.length yk1,.slice y2 rs.length yk2,.slice y3 ro.length yk3] 31)).heap.size 40 4 (Value.slice (some ⟨g3,0,none⟩) ops.length ops.length) ops.length (dcells ops)):=kept4 X3t17.out bk1
  clear X3t17
  have bxt18:Hid (wz1.heap[w4.heap.size]? = some (.cells #[.slice (some ⟨g1,0,none⟩) live.length live.length,.slice (some ⟨g2,0,none⟩) safe.length safe.length,.slice (some ⟨g3,0,none⟩) ops.length ops.length] 31 (0,0))):=(bk1.block (w4.heap.size) (lt_of_block bxt17.out)).trans bxt17.out
  clear bxt17
  have X4t18:Hid (wz1.ownsRow w5.heap.size 2 1 (Value.slice (some ⟨w5.heap.size,0,none⟩) ks.length ks.length) ks.length (zcells ks)):=kept1 X4t17.out bk1
  clear X4t17
  have G1t18:Hid (wz1.ownsRow w5k.heap.size 84 2 (Value.slice h1 rl.length hk1) rl.length (pcells rl)):=kept2 G1t17.out bk1
  clear G1t17
  have G2t18:Hid (wz1.ownsRow w5k.heap.size 84 2 (Value.slice h2 rs.length hk2) rs.length (pcells rs)):=kept2 G2t17.out bk1
  clear G2t17
  have G3t18:Hid (wz1.ownsRow w5k.heap.size 40 4 (Value.slice h3 ro.length hk3) ro.length (dcells ro)):=kept4 G3t17.out bk1
  clear G3t17
  have bgt18:Hid (wz1.heap[wr2c.heap.size]? = some (.cells #[.slice h1 rl.length hk1,.slice h2 rs.length hk2,.slice h3 ro.length hk3] 31 (0,0))):=(bk1.block (wr2c.heap.size) (lt_of_block bgt17.out)).trans bgt17.out
  clear bgt17
  have Bt18:Below w.heap.size w wz1:=Bt17.trans (bk1.mono Bt17.size)
  clear Bt17
  have BKN:Hid (Below wc2.heap.size wc2 wz1):=bk1
  have KIwz1:Hid (IsInts wz1 (some ⟨wc2.heap.size,0,none⟩) ks):=isInts_own rfl ok1
  clear ok1 bk1
  go_wp2_with fail
  refine (eqZ_same ks ks.length w5.heap.size ks.length wc2.heap.size ks.length wz1 (by omega) rfl (isInts_own rfl X4t18.out) KIwz1.out).mono ?_
  rintro e wz2 ⟨rfl,bz⟩
  have aDt19:Hid (wz2.heap[w.heap.size]? = some (.cells #[.slice a1 live.length c1,.slice a2 safe.length c2,.slice a3 ops.length c3] 25 (0,0))):=(bz.block (w.heap.size) (lt_of_block aDt18.out)).trans aDt18.out
  clear aDt18
  have N1t19:Hid (NewQ wz2 wr1k.heap.size wr1c.heap.size y1 (pcells rl)):=N1t18.out.later bz
  clear N1t18
  have N2t19:Hid (NewQ wz2 wr1k.heap.size wr1c.heap.size y2 (pcells rs)):=N2t18.out.later bz
  clear N2t18
  have N3t19:Hid (NewQ wz2 wr1k.heap.size wr1c.heap.size y3 (dcells ro)):=N3t18.out.later bz
  clear N3t18
  have bwt19:Hid (wz2.heap[wr1c.heap.size]? = some (.cells #[.slice y1 rl.length yk1,.slice y2 rs.length yk2,.slice y3 ro.length yk3] 31 (0,0))):=(bz.block (wr1c.heap.size) (lt_of_block bwt18.out)).trans bwt18.out
  clear bwt18
  have X1t19:Hid (wz2.ownsRow (wr1c.alloc (.cells #[.slice y1 rl.length yk1,.slice y2 rs.length yk2,.slice y3 ro.length yk3] 31)).heap.size 84 2 (Value.slice (some ⟨g1,0,none⟩) live.length live.length) live.length (pcells live)):=kept2 X1t18.out bz
  clear X1t18
  have X2t19:Hid (wz2.ownsRow (wr1c.alloc (.cells #[.slice y1 rl.length yk1,.slice y2 rs.length yk2,.slice y3 ro.length yk3] 31)).heap.size 84 2 (Value.slice (some ⟨g2,0,none⟩) safe.length safe.length) safe.length (pcells safe)):=kept2 X2t18.out bz
  clear X2t18
  have X3t19:Hid (wz2.ownsRow (wr1c.alloc (.cells #[.slice y1 rl.length yk1,.slice y2 rs.length yk2,.slice y3 ro.length yk3] 31)).heap.size 40 4 (Value.slice (some ⟨g3,0,none⟩) ops.length ops.length) ops.length (dcells ops)):=kept4 X3t18.out bz
  clear X3t18
  have bxt19:Hid (wz2.heap[w4.heap.size]? = some (.cells #[.slice (some ⟨g1,0,none⟩) live.length live.length,.slice (some ⟨g2,0,none⟩) safe.length safe.length,.slice (some ⟨g3,0,none⟩) ops.length ops.length] 31 (0,0))):=(bz.block (w4.heap.size) (lt_of_block bxt18.out)).trans bxt18.out
  clear bxt18
  have X4t19:Hid (wz2.ownsRow w5.heap.size 2 1 (Value.slice (some ⟨w5.heap.size,0,none⟩) ks.length ks.length) ks.length (zcells ks)):=kept1 X4t18.out bz
  clear X4t18
  have G1t19:Hid (wz2.ownsRow w5k.heap.size 84 2 (Value.slice h1 rl.length hk1) rl.length (pcells rl)):=kept2 G1t18.out bz
  clear G1t18
  have G2t19:Hid (wz2.ownsRow w5k.heap.size 84 2 (Value.slice h2 rs.length hk2) rs.length (pcells rs)):=kept2 G2t18.out bz
  clear G2t18
  have G3t19:Hid (wz2.ownsRow w5k.heap.size 40 4 (Value.slice h3 ro.length hk3) ro.length (dcells ro)):=kept4 G3t18.out bz
  clear G3t18
  have bgt19:Hid (wz2.heap[wr2c.heap.size]? = some (.cells #[.slice h1 rl.length hk1,.slice h2 rs.length hk2,.slice h3 ro.length hk3] 31 (0,0))):=(bz.block (wr2c.heap.size) (lt_of_block bgt18.out)).trans bgt18.out
  clear bgt18
  have Bt19:Below w.heap.size w wz2:=Bt18.trans (bz.mono Bt18.size)
  clear Bt18
  clear bz KIwz1 BKN
  obtain⟨bx0,bx1,bx2,_⟩:=three_cells bxt19.out
  have KM:=markDisk_any live safe ops (some ⟨g1,0,none⟩) (some ⟨g2,0,none⟩) (some ⟨g3,0,none⟩) live.length live.length safe.length safe.length ops.length ops.length (wr1c.alloc (.cells #[.slice y1 rl.length yk1,.slice y2 rs.length yk2,.slice y3 ro.length yk3] 31)).heap.size 1 wz2 (by omega) (by omega) (by omega) (by omega) (by omega) (fun q=>by have hlg:=Lg.out;exact⟨fun h=>⟨fun h2=>by simp[Value.ownBlock] at h h2;omega,fun h2=>by simp[Value.ownBlock] at h h2;omega⟩,fun h h2=>by simp[Value.ownBlock] at h h2;omega⟩) X1t19.out X2t19.out X3t19.out
  have mk0:¬ ((1:Nat):Int)+2*(live.length:Int)+2*(safe.length:Int)+4*(ops.length:Int)<0:=by omega
  have mk1:¬ (1:Int)+2*(live.length:Int)+2*(safe.length:Int)+4*(ops.length:Int)<0:=by omega
  have mk2:decide ((1:Int)+2*(live.length:Int)+2*(safe.length:Int)+4*(ops.length:Int)<0)=false:=decide_eq_false mk1
  go_wp2_with fail
  refine KM.mono ?_
  rintro e wm3 ⟨rfl,mo1,mo2,mo3,wm1,wm2,gr1,gr2,gr3⟩
  clear KM
  clear bx0 bx1 bx2
  clear X1t19
  clear X2t19
  clear X3t19
  have aDt20:Hid (wm1.heap[w.heap.size]? = some (.cells #[.slice a1 live.length c1,.slice a2 safe.length c2,.slice a3 ops.length c3] 25 (0,0))):=(gr1.block (w.heap.size) (lt_of_block aDt19.out) (fun e=>by have hz3:=Z3.out;have hlg:=Lg.out;have hg1:=LG1.out;have hg2:=LG2.out;have hg3:=LG3.out;have hap:=AP.out;simp[Value.ownBlock] at e;omega)).trans aDt19.out
  clear aDt19
  have N1t20:Hid (NewQ wm1 wr1k.heap.size wr1c.heap.size y1 (pcells rl)):=N1t19.out.kept gr1 (fun q h1 h2 e=>by have hz3:=Z3.out;have hlg:=Lg.out;have hg1:=LG1.out;have hg2:=LG2.out;have hg3:=LG3.out;have hap:=AP.out;simp[Value.ownBlock] at e;omega)
  clear N1t19
  have N2t20:Hid (NewQ wm1 wr1k.heap.size wr1c.heap.size y2 (pcells rs)):=N2t19.out.kept gr1 (fun q h1 h2 e=>by have hz3:=Z3.out;have hlg:=Lg.out;have hg1:=LG1.out;have hg2:=LG2.out;have hg3:=LG3.out;have hap:=AP.out;simp[Value.ownBlock] at e;omega)
  clear N2t19
  have N3t20:Hid (NewQ wm1 wr1k.heap.size wr1c.heap.size y3 (dcells ro)):=N3t19.out.kept gr1 (fun q h1 h2 e=>by have hz3:=Z3.out;have hlg:=Lg.out;have hg1:=LG1.out;have hg2:=LG2.out;have hg3:=LG3.out;have hap:=AP.out;simp[Value.ownBlock] at e;omega)
  clear N3t19
  have bwt20:Hid (wm1.heap[wr1c.heap.size]? = some (.cells #[.slice y1 rl.length yk1,.slice y2 rs.length yk2,.slice y3 ro.length yk3] 31 (0,0))):=(gr1.block (wr1c.heap.size) (lt_of_block bwt19.out) (fun e=>by have hz3:=Z3.out;have hlg:=Lg.out;have hg1:=LG1.out;have hg2:=LG2.out;have hg3:=LG3.out;have hap:=AP.out;simp[Value.ownBlock] at e;omega)).trans bwt19.out
  clear bwt19
  have bxt20:Hid (wm1.heap[w4.heap.size]? = some (.cells #[.slice (some ⟨g1,0,none⟩) live.length live.length,.slice (some ⟨g2,0,none⟩) safe.length safe.length,.slice (some ⟨g3,0,none⟩) ops.length ops.length] 31 (0,0))):=(gr1.block (w4.heap.size) (lt_of_block bxt19.out) (fun e=>by have hz3:=Z3.out;have hlg:=Lg.out;have hg1:=LG1.out;have hg2:=LG2.out;have hg3:=LG3.out;have hap:=AP.out;simp[Value.ownBlock] at e;omega)).trans bxt19.out
  clear bxt19
  have X4t20:Hid (wm1.ownsRow w5.heap.size 2 1 (Value.slice (some ⟨w5.heap.size,0,none⟩) ks.length ks.length) ks.length (zcells ks)):=X4t19.out.kept gr1 (by
   cases hv:(Value.slice (some ⟨w5.heap.size,0,none⟩) ks.length ks.length).ownBlock with
   | none=>exact .inl rfl
   | some q=>exact .inr (fun e=>by have hz3:=Z3.out;have hlg:=Lg.out;have hg1:=LG1.out;have hg2:=LG2.out;have hg3:=LG3.out;have hap:=AP.out;simp[Value.ownBlock] at e hv;omega))
  clear X4t19
  have G1t20:Hid (wm1.ownsRow w5k.heap.size 84 2 (Value.slice h1 rl.length hk1) rl.length (pcells rl)):=G1t19.out.kept gr1 (by
   cases hv:(Value.slice h1 rl.length hk1).ownBlock with
   | none=>exact .inl rfl
   | some q=>exact .inr (fun e=>by have hz3:=Z3.out;have hlg:=Lg.out;have hg1:=LG1.out;have hg2:=LG2.out;have hg3:=LG3.out;have hap:=AP.out;simp[Value.ownBlock] at e;have:=hg1 q hv;omega))
  clear G1t19
  have G2t20:Hid (wm1.ownsRow w5k.heap.size 84 2 (Value.slice h2 rs.length hk2) rs.length (pcells rs)):=G2t19.out.kept gr1 (by
   cases hv:(Value.slice h2 rs.length hk2).ownBlock with
   | none=>exact .inl rfl
   | some q=>exact .inr (fun e=>by have hz3:=Z3.out;have hlg:=Lg.out;have hg1:=LG1.out;have hg2:=LG2.out;have hg3:=LG3.out;have hap:=AP.out;simp[Value.ownBlock] at e;have:=hg2 q hv;omega))
  clear G2t19
  have G3t20:Hid (wm1.ownsRow w5k.heap.size 40 4 (Value.slice h3 ro.length hk3) ro.length (dcells ro)):=G3t19.out.kept gr1 (by
   cases hv:(Value.slice h3 ro.length hk3).ownBlock with
   | none=>exact .inl rfl
   | some q=>exact .inr (fun e=>by have hz3:=Z3.out;have hlg:=Lg.out;have hg1:=LG1.out;have hg2:=LG2.out;have hg3:=LG3.out;have hap:=AP.out;simp[Value.ownBlock] at e;have:=hg3 q hv;omega))
  clear G3t19
  have bgt20:Hid (wm1.heap[wr2c.heap.size]? = some (.cells #[.slice h1 rl.length hk1,.slice h2 rs.length hk2,.slice h3 ro.length hk3] 31 (0,0))):=(gr1.block (wr2c.heap.size) (lt_of_block bgt19.out) (fun e=>by have hz3:=Z3.out;have hlg:=Lg.out;have hg1:=LG1.out;have hg2:=LG2.out;have hg3:=LG3.out;have hap:=AP.out;simp[Value.ownBlock] at e;omega)).trans bgt19.out
  clear bgt19
  have Bt20:Below w.heap.size w wm1:=Bt19.grown gr1 Bt19.size (fun q hq=>by have hz3:=Z3.out;have hlg:=Lg.out;have hg1:=LG1.out;have hg2:=LG2.out;have hg3:=LG3.out;have hap:=AP.out;simp[Value.ownBlock] at hq;omega)
  clear Bt19
  have aDt21:Hid (wm2.heap[w.heap.size]? = some (.cells #[.slice a1 live.length c1,.slice a2 safe.length c2,.slice a3 ops.length c3] 25 (0,0))):=(gr2.block (w.heap.size) (lt_of_block aDt20.out) (fun e=>by have hz3:=Z3.out;have hlg:=Lg.out;have hg1:=LG1.out;have hg2:=LG2.out;have hg3:=LG3.out;have hap:=AP.out;simp[Value.ownBlock] at e;omega)).trans aDt20.out
  clear aDt20
  have N1t21:Hid (NewQ wm2 wr1k.heap.size wr1c.heap.size y1 (pcells rl)):=N1t20.out.kept gr2 (fun q h1 h2 e=>by have hz3:=Z3.out;have hlg:=Lg.out;have hg1:=LG1.out;have hg2:=LG2.out;have hg3:=LG3.out;have hap:=AP.out;simp[Value.ownBlock] at e;omega)
  clear N1t20
  have N2t21:Hid (NewQ wm2 wr1k.heap.size wr1c.heap.size y2 (pcells rs)):=N2t20.out.kept gr2 (fun q h1 h2 e=>by have hz3:=Z3.out;have hlg:=Lg.out;have hg1:=LG1.out;have hg2:=LG2.out;have hg3:=LG3.out;have hap:=AP.out;simp[Value.ownBlock] at e;omega)
  clear N2t20
  have N3t21:Hid (NewQ wm2 wr1k.heap.size wr1c.heap.size y3 (dcells ro)):=N3t20.out.kept gr2 (fun q h1 h2 e=>by have hz3:=Z3.out;have hlg:=Lg.out;have hg1:=LG1.out;have hg2:=LG2.out;have hg3:=LG3.out;have hap:=AP.out;simp[Value.ownBlock] at e;omega)
  clear N3t20
  have bwt21:Hid (wm2.heap[wr1c.heap.size]? = some (.cells #[.slice y1 rl.length yk1,.slice y2 rs.length yk2,.slice y3 ro.length yk3] 31 (0,0))):=(gr2.block (wr1c.heap.size) (lt_of_block bwt20.out) (fun e=>by have hz3:=Z3.out;have hlg:=Lg.out;have hg1:=LG1.out;have hg2:=LG2.out;have hg3:=LG3.out;have hap:=AP.out;simp[Value.ownBlock] at e;omega)).trans bwt20.out
  clear bwt20
  have bxt21:Hid (wm2.heap[w4.heap.size]? = some (.cells #[.slice (some ⟨g1,0,none⟩) live.length live.length,.slice (some ⟨g2,0,none⟩) safe.length safe.length,.slice (some ⟨g3,0,none⟩) ops.length ops.length] 31 (0,0))):=(gr2.block (w4.heap.size) (lt_of_block bxt20.out) (fun e=>by have hz3:=Z3.out;have hlg:=Lg.out;have hg1:=LG1.out;have hg2:=LG2.out;have hg3:=LG3.out;have hap:=AP.out;simp[Value.ownBlock] at e;omega)).trans bxt20.out
  clear bxt20
  have X4t21:Hid (wm2.ownsRow w5.heap.size 2 1 (Value.slice (some ⟨w5.heap.size,0,none⟩) ks.length ks.length) ks.length (zcells ks)):=X4t20.out.kept gr2 (by
   cases hv:(Value.slice (some ⟨w5.heap.size,0,none⟩) ks.length ks.length).ownBlock with
   | none=>exact .inl rfl
   | some q=>exact .inr (fun e=>by have hz3:=Z3.out;have hlg:=Lg.out;have hg1:=LG1.out;have hg2:=LG2.out;have hg3:=LG3.out;have hap:=AP.out;simp[Value.ownBlock] at e hv;omega))
  clear X4t20
  have G1t21:Hid (wm2.ownsRow w5k.heap.size 84 2 (Value.slice h1 rl.length hk1) rl.length (pcells rl)):=G1t20.out.kept gr2 (by
   cases hv:(Value.slice h1 rl.length hk1).ownBlock with
   | none=>exact .inl rfl
   | some q=>exact .inr (fun e=>by have hz3:=Z3.out;have hlg:=Lg.out;have hg1:=LG1.out;have hg2:=LG2.out;have hg3:=LG3.out;have hap:=AP.out;simp[Value.ownBlock] at e;have:=hg1 q hv;omega))
  clear G1t20
  have G2t21:Hid (wm2.ownsRow w5k.heap.size 84 2 (Value.slice h2 rs.length hk2) rs.length (pcells rs)):=G2t20.out.kept gr2 (by
   cases hv:(Value.slice h2 rs.length hk2).ownBlock with
   | none=>exact .inl rfl
   | some q=>exact .inr (fun e=>by have hz3:=Z3.out;have hlg:=Lg.out;have hg1:=LG1.out;have hg2:=LG2.out;have hg3:=LG3.out;have hap:=AP.out;simp[Value.ownBlock] at e;have:=hg2 q hv;omega))
  clear G2t20
  have G3t21:Hid (wm2.ownsRow w5k.heap.size 40 4 (Value.slice h3 ro.length hk3) ro.length (dcells ro)):=G3t20.out.kept gr2 (by
   cases hv:(Value.slice h3 ro.length hk3).ownBlock with
   | none=>exact .inl rfl
   | some q=>exact .inr (fun e=>by have hz3:=Z3.out;have hlg:=Lg.out;have hg1:=LG1.out;have hg2:=LG2.out;have hg3:=LG3.out;have hap:=AP.out;simp[Value.ownBlock] at e;have:=hg3 q hv;omega))
  clear G3t20
  have bgt21:Hid (wm2.heap[wr2c.heap.size]? = some (.cells #[.slice h1 rl.length hk1,.slice h2 rs.length hk2,.slice h3 ro.length hk3] 31 (0,0))):=(gr2.block (wr2c.heap.size) (lt_of_block bgt20.out) (fun e=>by have hz3:=Z3.out;have hlg:=Lg.out;have hg1:=LG1.out;have hg2:=LG2.out;have hg3:=LG3.out;have hap:=AP.out;simp[Value.ownBlock] at e;omega)).trans bgt20.out
  clear bgt20
  have Bt21:Below w.heap.size w wm2:=Bt20.grown gr2 Bt20.size (fun q hq=>by have hz3:=Z3.out;have hlg:=Lg.out;have hg1:=LG1.out;have hg2:=LG2.out;have hg3:=LG3.out;have hap:=AP.out;simp[Value.ownBlock] at hq;omega)
  clear Bt20
  have aDt22:Hid (wm3.heap[w.heap.size]? = some (.cells #[.slice a1 live.length c1,.slice a2 safe.length c2,.slice a3 ops.length c3] 25 (0,0))):=(gr3.block (w.heap.size) (lt_of_block aDt21.out) (fun e=>by have hz3:=Z3.out;have hlg:=Lg.out;have hg1:=LG1.out;have hg2:=LG2.out;have hg3:=LG3.out;have hap:=AP.out;simp[Value.ownBlock] at e;omega)).trans aDt21.out
  clear aDt21
  have N1t22:Hid (NewQ wm3 wr1k.heap.size wr1c.heap.size y1 (pcells rl)):=N1t21.out.kept gr3 (fun q h1 h2 e=>by have hz3:=Z3.out;have hlg:=Lg.out;have hg1:=LG1.out;have hg2:=LG2.out;have hg3:=LG3.out;have hap:=AP.out;simp[Value.ownBlock] at e;omega)
  clear N1t21
  have N2t22:Hid (NewQ wm3 wr1k.heap.size wr1c.heap.size y2 (pcells rs)):=N2t21.out.kept gr3 (fun q h1 h2 e=>by have hz3:=Z3.out;have hlg:=Lg.out;have hg1:=LG1.out;have hg2:=LG2.out;have hg3:=LG3.out;have hap:=AP.out;simp[Value.ownBlock] at e;omega)
  clear N2t21
  have N3t22:Hid (NewQ wm3 wr1k.heap.size wr1c.heap.size y3 (dcells ro)):=N3t21.out.kept gr3 (fun q h1 h2 e=>by have hz3:=Z3.out;have hlg:=Lg.out;have hg1:=LG1.out;have hg2:=LG2.out;have hg3:=LG3.out;have hap:=AP.out;simp[Value.ownBlock] at e;omega)
  clear N3t21
  have bwt22:Hid (wm3.heap[wr1c.heap.size]? = some (.cells #[.slice y1 rl.length yk1,.slice y2 rs.length yk2,.slice y3 ro.length yk3] 31 (0,0))):=(gr3.block (wr1c.heap.size) (lt_of_block bwt21.out) (fun e=>by have hz3:=Z3.out;have hlg:=Lg.out;have hg1:=LG1.out;have hg2:=LG2.out;have hg3:=LG3.out;have hap:=AP.out;simp[Value.ownBlock] at e;omega)).trans bwt21.out
  clear bwt21
  have bxt22:Hid (wm3.heap[w4.heap.size]? = some (.cells #[.slice (some ⟨g1,0,none⟩) live.length live.length,.slice (some ⟨g2,0,none⟩) safe.length safe.length,.slice (some ⟨g3,0,none⟩) ops.length ops.length] 31 (0,0))):=(gr3.block (w4.heap.size) (lt_of_block bxt21.out) (fun e=>by have hz3:=Z3.out;have hlg:=Lg.out;have hg1:=LG1.out;have hg2:=LG2.out;have hg3:=LG3.out;have hap:=AP.out;simp[Value.ownBlock] at e;omega)).trans bxt21.out
  clear bxt21
  have X4t22:Hid (wm3.ownsRow w5.heap.size 2 1 (Value.slice (some ⟨w5.heap.size,0,none⟩) ks.length ks.length) ks.length (zcells ks)):=X4t21.out.kept gr3 (by
   cases hv:(Value.slice (some ⟨w5.heap.size,0,none⟩) ks.length ks.length).ownBlock with
   | none=>exact .inl rfl
   | some q=>exact .inr (fun e=>by have hz3:=Z3.out;have hlg:=Lg.out;have hg1:=LG1.out;have hg2:=LG2.out;have hg3:=LG3.out;have hap:=AP.out;simp[Value.ownBlock] at e hv;omega))
  clear X4t21
  have G1t22:Hid (wm3.ownsRow w5k.heap.size 84 2 (Value.slice h1 rl.length hk1) rl.length (pcells rl)):=G1t21.out.kept gr3 (by
   cases hv:(Value.slice h1 rl.length hk1).ownBlock with
   | none=>exact .inl rfl
   | some q=>exact .inr (fun e=>by have hz3:=Z3.out;have hlg:=Lg.out;have hg1:=LG1.out;have hg2:=LG2.out;have hg3:=LG3.out;have hap:=AP.out;simp[Value.ownBlock] at e;have:=hg1 q hv;omega))
  clear G1t21
  have G2t22:Hid (wm3.ownsRow w5k.heap.size 84 2 (Value.slice h2 rs.length hk2) rs.length (pcells rs)):=G2t21.out.kept gr3 (by
   cases hv:(Value.slice h2 rs.length hk2).ownBlock with
   | none=>exact .inl rfl
   | some q=>exact .inr (fun e=>by have hz3:=Z3.out;have hlg:=Lg.out;have hg1:=LG1.out;have hg2:=LG2.out;have hg3:=LG3.out;have hap:=AP.out;simp[Value.ownBlock] at e;have:=hg2 q hv;omega))
  clear G2t21
  have G3t22:Hid (wm3.ownsRow w5k.heap.size 40 4 (Value.slice h3 ro.length hk3) ro.length (dcells ro)):=G3t21.out.kept gr3 (by
   cases hv:(Value.slice h3 ro.length hk3).ownBlock with
   | none=>exact .inl rfl
   | some q=>exact .inr (fun e=>by have hz3:=Z3.out;have hlg:=Lg.out;have hg1:=LG1.out;have hg2:=LG2.out;have hg3:=LG3.out;have hap:=AP.out;simp[Value.ownBlock] at e;have:=hg3 q hv;omega))
  clear G3t21
  have bgt22:Hid (wm3.heap[wr2c.heap.size]? = some (.cells #[.slice h1 rl.length hk1,.slice h2 rs.length hk2,.slice h3 ro.length hk3] 31 (0,0))):=(gr3.block (wr2c.heap.size) (lt_of_block bgt21.out) (fun e=>by have hz3:=Z3.out;have hlg:=Lg.out;have hg1:=LG1.out;have hg2:=LG2.out;have hg3:=LG3.out;have hap:=AP.out;simp[Value.ownBlock] at e;omega)).trans bgt21.out
  clear bgt21
  have Bt22:Below w.heap.size w wm3:=Bt21.grown gr3 Bt21.size (fun q hq=>by have hz3:=Z3.out;have hlg:=Lg.out;have hg1:=LG1.out;have hg2:=LG2.out;have hg3:=LG3.out;have hap:=AP.out;simp[Value.ownBlock] at hq;omega)
  clear Bt21
  clear mo1 mo2 mo3 gr1 gr2 gr3 mk0
  clear bxt22
  clear mk1 mk2
  have KM:=markZ_any ks ks.length w5.heap.size ks.length w5.heap.size (1+2*live.length+2*safe.length+4*ops.length) ((1:Int)+2*(live.length:Int)+2*(safe.length:Int)+4*(ops.length:Int)) wm3 (by push_cast;rfl) (by omega) rfl (by omega) X4t22.out
  go_wp2_with fail
  refine KM.mono ?_
  rintro e wm4 ⟨rfl,gr4⟩
  clear KM
  clear X4t22
  have aDt23:Hid (wm4.heap[w.heap.size]? = some (.cells #[.slice a1 live.length c1,.slice a2 safe.length c2,.slice a3 ops.length c3] 25 (0,0))):=(gr4.block (w.heap.size) (lt_of_block aDt22.out) (fun e=>by have hz3:=Z3.out;have hlg:=Lg.out;have hg1:=LG1.out;have hg2:=LG2.out;have hg3:=LG3.out;have hap:=AP.out;simp at e;omega)).trans aDt22.out
  clear aDt22
  have N1t23:Hid (NewQ wm4 wr1k.heap.size wr1c.heap.size y1 (pcells rl)):=N1t22.out.kept gr4 (fun q h1 h2 e=>by have hz3:=Z3.out;have hlg:=Lg.out;have hg1:=LG1.out;have hg2:=LG2.out;have hg3:=LG3.out;have hap:=AP.out;simp at e;omega)
  clear N1t22
  have N2t23:Hid (NewQ wm4 wr1k.heap.size wr1c.heap.size y2 (pcells rs)):=N2t22.out.kept gr4 (fun q h1 h2 e=>by have hz3:=Z3.out;have hlg:=Lg.out;have hg1:=LG1.out;have hg2:=LG2.out;have hg3:=LG3.out;have hap:=AP.out;simp at e;omega)
  clear N2t22
  have N3t23:Hid (NewQ wm4 wr1k.heap.size wr1c.heap.size y3 (dcells ro)):=N3t22.out.kept gr4 (fun q h1 h2 e=>by have hz3:=Z3.out;have hlg:=Lg.out;have hg1:=LG1.out;have hg2:=LG2.out;have hg3:=LG3.out;have hap:=AP.out;simp at e;omega)
  clear N3t22
  have bwt23:Hid (wm4.heap[wr1c.heap.size]? = some (.cells #[.slice y1 rl.length yk1,.slice y2 rs.length yk2,.slice y3 ro.length yk3] 31 (0,0))):=(gr4.block (wr1c.heap.size) (lt_of_block bwt22.out) (fun e=>by have hz3:=Z3.out;have hlg:=Lg.out;have hg1:=LG1.out;have hg2:=LG2.out;have hg3:=LG3.out;have hap:=AP.out;simp at e;omega)).trans bwt22.out
  clear bwt22
  have G1t23:Hid (wm4.ownsRow w5k.heap.size 84 2 (Value.slice h1 rl.length hk1) rl.length (pcells rl)):=G1t22.out.kept gr4 (by
   cases hv:(Value.slice h1 rl.length hk1).ownBlock with
   | none=>exact .inl rfl
   | some q=>exact .inr (fun e=>by have hz3:=Z3.out;have hlg:=Lg.out;have hg1:=LG1.out;have hg2:=LG2.out;have hg3:=LG3.out;have hap:=AP.out;simp at e;have:=hg1 q hv;omega))
  clear G1t22
  have G2t23:Hid (wm4.ownsRow w5k.heap.size 84 2 (Value.slice h2 rs.length hk2) rs.length (pcells rs)):=G2t22.out.kept gr4 (by
   cases hv:(Value.slice h2 rs.length hk2).ownBlock with
   | none=>exact .inl rfl
   | some q=>exact .inr (fun e=>by have hz3:=Z3.out;have hlg:=Lg.out;have hg1:=LG1.out;have hg2:=LG2.out;have hg3:=LG3.out;have hap:=AP.out;simp at e;have:=hg2 q hv;omega))
  clear G2t22
  have G3t23:Hid (wm4.ownsRow w5k.heap.size 40 4 (Value.slice h3 ro.length hk3) ro.length (dcells ro)):=G3t22.out.kept gr4 (by
   cases hv:(Value.slice h3 ro.length hk3).ownBlock with
   | none=>exact .inl rfl
   | some q=>exact .inr (fun e=>by have hz3:=Z3.out;have hlg:=Lg.out;have hg1:=LG1.out;have hg2:=LG2.out;have hg3:=LG3.out;have hap:=AP.out;simp at e;have:=hg3 q hv;omega))
  clear G3t22
  have bgt23:Hid (wm4.heap[wr2c.heap.size]? = some (.cells #[.slice h1 rl.length hk1,.slice h2 rs.length hk2,.slice h3 ro.length hk3] 31 (0,0))):=(gr4.block (wr2c.heap.size) (lt_of_block bgt22.out) (fun e=>by have hz3:=Z3.out;have hlg:=Lg.out;have hg1:=LG1.out;have hg2:=LG2.out;have hg3:=LG3.out;have hap:=AP.out;simp at e;omega)).trans bgt22.out
  clear bgt22
  have Bt23:Below w.heap.size w wm4:=Bt22.grown gr4 Bt22.size (fun q hq=>by have hz3:=Z3.out;have hlg:=Lg.out;have hg1:=LG1.out;have hg2:=LG2.out;have hg3:=LG3.out;have hap:=AP.out;simp at hq;omega)
  clear Bt22
  obtain⟨ky,hky⟩:∃ y:Int,y=((1+2*live.length+2*safe.length+4*ops.length:Nat):Int)+(ks.length:Int):=⟨_,rfl⟩
  rw[←hky]
  have mk1:¬ ky<0:=by rw[hky];omega
  have mk2:decide (ky<0)=false:=decide_eq_false mk1
  clear hky gr4
  obtain⟨bg0,bg1,bg2,_⟩:=three_cells bgt23.out
  obtain⟨bw0,bw1,bw2,_⟩:=three_cells bwt23.out
  go_wp2_with fail
  refine (eqDisk_same rl rs ro _ _ _ _ _ _ _ _ _ _ _ _ _ (by omega) (by omega) (by omega) ⟨(isPairs_own G1t23.out).2.2,N1t23.out.1.pairs⟩ ⟨(isPairs_own G2t23.out).2.2,N2t23.out.1.pairs⟩ ⟨(isDOps_own G3t23.out).2.2,N3t23.out.1.dops⟩).mono ?_
  rintro e wo ⟨rfl,b9⟩
  clear bg0 bg1 bg2
  clear bw0 bw1 bw2
  have aDt24:Hid (wo.heap[w.heap.size]? = some (.cells #[.slice a1 live.length c1,.slice a2 safe.length c2,.slice a3 ops.length c3] 25 (0,0))):=(b9.block (w.heap.size) (lt_of_block aDt23.out)).trans aDt23.out
  clear aDt23
  have N1t24:Hid (NewQ wo wr1k.heap.size wr1c.heap.size y1 (pcells rl)):=N1t23.out.later b9
  clear N1t23
  have N2t24:Hid (NewQ wo wr1k.heap.size wr1c.heap.size y2 (pcells rs)):=N2t23.out.later b9
  clear N2t23
  have N3t24:Hid (NewQ wo wr1k.heap.size wr1c.heap.size y3 (dcells ro)):=N3t23.out.later b9
  clear N3t23
  have bwt24:Hid (wo.heap[wr1c.heap.size]? = some (.cells #[.slice y1 rl.length yk1,.slice y2 rs.length yk2,.slice y3 ro.length yk3] 31 (0,0))):=(b9.block (wr1c.heap.size) (lt_of_block bwt23.out)).trans bwt23.out
  clear bwt23
  have G1t24:Hid (wo.ownsRow w5k.heap.size 84 2 (Value.slice h1 rl.length hk1) rl.length (pcells rl)):=kept2 G1t23.out b9
  clear G1t23
  have G2t24:Hid (wo.ownsRow w5k.heap.size 84 2 (Value.slice h2 rs.length hk2) rs.length (pcells rs)):=kept2 G2t23.out b9
  clear G2t23
  have G3t24:Hid (wo.ownsRow w5k.heap.size 40 4 (Value.slice h3 ro.length hk3) ro.length (dcells ro)):=kept4 G3t23.out b9
  clear G3t23
  have bgt24:Hid (wo.heap[wr2c.heap.size]? = some (.cells #[.slice h1 rl.length hk1,.slice h2 rs.length hk2,.slice h3 ro.length hk3] 31 (0,0))):=(b9.block (wr2c.heap.size) (lt_of_block bgt23.out)).trans bgt23.out
  clear bgt23
  have Bt24:Below w.heap.size w wo:=Bt23.trans (b9.mono Bt23.size)
  clear Bt23
  clear b9
  clear mk1 mk2
  obtain⟨bg0,bg1,bg2,_⟩:=three_cells bgt24.out
  have KM:=markDisk_any rl rs ro h1 h2 h3 rl.length hk1 rs.length hk2 ro.length hk3 w5k.heap.size 1 wo (by omega) (by omega) (by omega) (by omega) (by omega) (AP.out) G1t24.out G2t24.out G3t24.out
  have mk0:¬ ((1:Nat):Int)+2*(rl.length:Int)+2*(rs.length:Int)+4*(ro.length:Int)<0:=by omega
  have mk1:¬ (1:Int)+2*(rl.length:Int)+2*(rs.length:Int)+4*(ro.length:Int)<0:=by omega
  have mk2:decide ((1:Int)+2*(rl.length:Int)+2*(rs.length:Int)+4*(ro.length:Int)<0)=false:=decide_eq_false mk1
  go_wp2_with fail
  refine KM.mono ?_
  rintro e wp3 ⟨rfl,mo1,mo2,mo3,wp1,wp2,gr1,gr2,gr3⟩
  clear KM
  clear bg0 bg1 bg2
  clear G1t24
  clear G2t24
  clear G3t24
  have aDt25:Hid (wp1.heap[w.heap.size]? = some (.cells #[.slice a1 live.length c1,.slice a2 safe.length c2,.slice a3 ops.length c3] 25 (0,0))):=(gr1.block (w.heap.size) (lt_of_block aDt24.out) (fun e=>by have hz3:=Z3.out;have hlg:=Lg.out;have hg1:=LG1.out;have hg2:=LG2.out;have hg3:=LG3.out;have hap:=AP.out;have:=hg1 _ e.symm;omega)).trans aDt24.out
  clear aDt24
  have N1t25:Hid (NewQ wp1 wr1k.heap.size wr1c.heap.size y1 (pcells rl)):=N1t24.out.kept gr1 (fun q h1 h2 e=>by have hz3:=Z3.out;have hlg:=Lg.out;have hg1:=LG1.out;have hg2:=LG2.out;have hg3:=LG3.out;have hap:=AP.out;have:=hg1 _ e.symm;omega)
  clear N1t24
  have N2t25:Hid (NewQ wp1 wr1k.heap.size wr1c.heap.size y2 (pcells rs)):=N2t24.out.kept gr1 (fun q h1 h2 e=>by have hz3:=Z3.out;have hlg:=Lg.out;have hg1:=LG1.out;have hg2:=LG2.out;have hg3:=LG3.out;have hap:=AP.out;have:=hg1 _ e.symm;omega)
  clear N2t24
  have N3t25:Hid (NewQ wp1 wr1k.heap.size wr1c.heap.size y3 (dcells ro)):=N3t24.out.kept gr1 (fun q h1 h2 e=>by have hz3:=Z3.out;have hlg:=Lg.out;have hg1:=LG1.out;have hg2:=LG2.out;have hg3:=LG3.out;have hap:=AP.out;have:=hg1 _ e.symm;omega)
  clear N3t24
  have bwt25:Hid (wp1.heap[wr1c.heap.size]? = some (.cells #[.slice y1 rl.length yk1,.slice y2 rs.length yk2,.slice y3 ro.length yk3] 31 (0,0))):=(gr1.block (wr1c.heap.size) (lt_of_block bwt24.out) (fun e=>by have hz3:=Z3.out;have hlg:=Lg.out;have hg1:=LG1.out;have hg2:=LG2.out;have hg3:=LG3.out;have hap:=AP.out;have:=hg1 _ e.symm;omega)).trans bwt24.out
  clear bwt24
  have bgt25:Hid (wp1.heap[wr2c.heap.size]? = some (.cells #[.slice h1 rl.length hk1,.slice h2 rs.length hk2,.slice h3 ro.length hk3] 31 (0,0))):=(gr1.block (wr2c.heap.size) (lt_of_block bgt24.out) (fun e=>by have hz3:=Z3.out;have hlg:=Lg.out;have hg1:=LG1.out;have hg2:=LG2.out;have hg3:=LG3.out;have hap:=AP.out;have:=hg1 _ e.symm;omega)).trans bgt24.out
  clear bgt24
  have Bt25:Below w.heap.size w wp1:=Bt24.grown gr1 Bt24.size (fun q hq=>by have hz3:=Z3.out;have hlg:=Lg.out;have hg1:=LG1.out;have hg2:=LG2.out;have hg3:=LG3.out;have hap:=AP.out;have:=hg1 q hq;omega)
  clear Bt24
  have aDt26:Hid (wp2.heap[w.heap.size]? = some (.cells #[.slice a1 live.length c1,.slice a2 safe.length c2,.slice a3 ops.length c3] 25 (0,0))):=(gr2.block (w.heap.size) (lt_of_block aDt25.out) (fun e=>by have hz3:=Z3.out;have hlg:=Lg.out;have hg1:=LG1.out;have hg2:=LG2.out;have hg3:=LG3.out;have hap:=AP.out;have:=hg2 _ e.symm;omega)).trans aDt25.out
  clear aDt25
  have N1t26:Hid (NewQ wp2 wr1k.heap.size wr1c.heap.size y1 (pcells rl)):=N1t25.out.kept gr2 (fun q h1 h2 e=>by have hz3:=Z3.out;have hlg:=Lg.out;have hg1:=LG1.out;have hg2:=LG2.out;have hg3:=LG3.out;have hap:=AP.out;have:=hg2 _ e.symm;omega)
  clear N1t25
  have N2t26:Hid (NewQ wp2 wr1k.heap.size wr1c.heap.size y2 (pcells rs)):=N2t25.out.kept gr2 (fun q h1 h2 e=>by have hz3:=Z3.out;have hlg:=Lg.out;have hg1:=LG1.out;have hg2:=LG2.out;have hg3:=LG3.out;have hap:=AP.out;have:=hg2 _ e.symm;omega)
  clear N2t25
  have N3t26:Hid (NewQ wp2 wr1k.heap.size wr1c.heap.size y3 (dcells ro)):=N3t25.out.kept gr2 (fun q h1 h2 e=>by have hz3:=Z3.out;have hlg:=Lg.out;have hg1:=LG1.out;have hg2:=LG2.out;have hg3:=LG3.out;have hap:=AP.out;have:=hg2 _ e.symm;omega)
  clear N3t25
  have bwt26:Hid (wp2.heap[wr1c.heap.size]? = some (.cells #[.slice y1 rl.length yk1,.slice y2 rs.length yk2,.slice y3 ro.length yk3] 31 (0,0))):=(gr2.block (wr1c.heap.size) (lt_of_block bwt25.out) (fun e=>by have hz3:=Z3.out;have hlg:=Lg.out;have hg1:=LG1.out;have hg2:=LG2.out;have hg3:=LG3.out;have hap:=AP.out;have:=hg2 _ e.symm;omega)).trans bwt25.out
  clear bwt25
  have bgt26:Hid (wp2.heap[wr2c.heap.size]? = some (.cells #[.slice h1 rl.length hk1,.slice h2 rs.length hk2,.slice h3 ro.length hk3] 31 (0,0))):=(gr2.block (wr2c.heap.size) (lt_of_block bgt25.out) (fun e=>by have hz3:=Z3.out;have hlg:=Lg.out;have hg1:=LG1.out;have hg2:=LG2.out;have hg3:=LG3.out;have hap:=AP.out;have:=hg2 _ e.symm;omega)).trans bgt25.out
  clear bgt25
  have Bt26:Below w.heap.size w wp2:=Bt25.grown gr2 Bt25.size (fun q hq=>by have hz3:=Z3.out;have hlg:=Lg.out;have hg1:=LG1.out;have hg2:=LG2.out;have hg3:=LG3.out;have hap:=AP.out;have:=hg2 q hq;omega)
  clear Bt25
  have aDt27:Hid (wp3.heap[w.heap.size]? = some (.cells #[.slice a1 live.length c1,.slice a2 safe.length c2,.slice a3 ops.length c3] 25 (0,0))):=(gr3.block (w.heap.size) (lt_of_block aDt26.out) (fun e=>by have hz3:=Z3.out;have hlg:=Lg.out;have hg1:=LG1.out;have hg2:=LG2.out;have hg3:=LG3.out;have hap:=AP.out;have:=hg3 _ e.symm;omega)).trans aDt26.out
  clear aDt26
  have N1t27:Hid (NewQ wp3 wr1k.heap.size wr1c.heap.size y1 (pcells rl)):=N1t26.out.kept gr3 (fun q h1 h2 e=>by have hz3:=Z3.out;have hlg:=Lg.out;have hg1:=LG1.out;have hg2:=LG2.out;have hg3:=LG3.out;have hap:=AP.out;have:=hg3 _ e.symm;omega)
  clear N1t26
  have N2t27:Hid (NewQ wp3 wr1k.heap.size wr1c.heap.size y2 (pcells rs)):=N2t26.out.kept gr3 (fun q h1 h2 e=>by have hz3:=Z3.out;have hlg:=Lg.out;have hg1:=LG1.out;have hg2:=LG2.out;have hg3:=LG3.out;have hap:=AP.out;have:=hg3 _ e.symm;omega)
  clear N2t26
  have N3t27:Hid (NewQ wp3 wr1k.heap.size wr1c.heap.size y3 (dcells ro)):=N3t26.out.kept gr3 (fun q h1 h2 e=>by have hz3:=Z3.out;have hlg:=Lg.out;have hg1:=LG1.out;have hg2:=LG2.out;have hg3:=LG3.out;have hap:=AP.out;have:=hg3 _ e.symm;omega)
  clear N3t26
  have bwt27:Hid (wp3.heap[wr1c.heap.size]? = some (.cells #[.slice y1 rl.length yk1,.slice y2 rs.length yk2,.slice y3 ro.length yk3] 31 (0,0))):=(gr3.block (wr1c.heap.size) (lt_of_block bwt26.out) (fun e=>by have hz3:=Z3.out;have hlg:=Lg.out;have hg1:=LG1.out;have hg2:=LG2.out;have hg3:=LG3.out;have hap:=AP.out;have:=hg3 _ e.symm;omega)).trans bwt26.out
  clear bwt26
  have bgt27:Hid (wp3.heap[wr2c.heap.size]? = some (.cells #[.slice h1 rl.length hk1,.slice h2 rs.length hk2,.slice h3 ro.length hk3] 31 (0,0))):=(gr3.block (wr2c.heap.size) (lt_of_block bgt26.out) (fun e=>by have hz3:=Z3.out;have hlg:=Lg.out;have hg1:=LG1.out;have hg2:=LG2.out;have hg3:=LG3.out;have hap:=AP.out;have:=hg3 _ e.symm;omega)).trans bgt26.out
  clear bgt26
  have Bt27:Below w.heap.size w wp3:=Bt26.grown gr3 Bt26.size (fun q hq=>by have hz3:=Z3.out;have hlg:=Lg.out;have hg1:=LG1.out;have hg2:=LG2.out;have hg3:=LG3.out;have hap:=AP.out;have:=hg3 q hq;omega)
  clear Bt26
  have M1a:Hid (wp3.ownsRow w5k.heap.size 84 2 (Value.slice h1 rl.length hk1) rl.length (pcells (marksP 1 rl.length))):=mo1
  have M2a:Hid (wp3.ownsRow w5k.heap.size 84 2 (Value.slice h2 rs.length hk2) rs.length (pcells (marksP (1+2*rl.length) rs.length))):=mo2
  have M3a:Hid (wp3.ownsRow w5k.heap.size 40 4 (Value.slice h3 ro.length hk3) ro.length (dcells (marksD (1+2*rl.length+2*rs.length) ro.length))):=mo3
  clear mo1 mo2 mo3 gr1 gr2 gr3 mk0
  obtain⟨bg0,bg1,bg2,_⟩:=three_cells bgt27.out
  have KM:=heldDisk_any rl.length rs.length ro.length h1 h2 h3 rl.length hk1 rs.length hk2 ro.length hk3 _ 1 wp3 (by omega) (by omega) (by omega) (by omega) (by omega) M1a.out M2a.out M3a.out
  go_wp2_with fail
  refine KM.mono ?_
  rintro e wq ⟨rfl,bh⟩
  clear bg0 bg1 bg2
  have aDt28:Hid (wq.heap[w.heap.size]? = some (.cells #[.slice a1 live.length c1,.slice a2 safe.length c2,.slice a3 ops.length c3] 25 (0,0))):=(bh.block (w.heap.size) (lt_of_block aDt27.out)).trans aDt27.out
  clear aDt27
  have N1t28:Hid (NewQ wq wr1k.heap.size wr1c.heap.size y1 (pcells rl)):=N1t27.out.later bh
  clear N1t27
  have N2t28:Hid (NewQ wq wr1k.heap.size wr1c.heap.size y2 (pcells rs)):=N2t27.out.later bh
  clear N2t27
  have N3t28:Hid (NewQ wq wr1k.heap.size wr1c.heap.size y3 (dcells ro)):=N3t27.out.later bh
  clear N3t27
  have bwt28:Hid (wq.heap[wr1c.heap.size]? = some (.cells #[.slice y1 rl.length yk1,.slice y2 rs.length yk2,.slice y3 ro.length yk3] 31 (0,0))):=(bh.block (wr1c.heap.size) (lt_of_block bwt27.out)).trans bwt27.out
  clear bwt27
  have bgt28:Hid (wq.heap[wr2c.heap.size]? = some (.cells #[.slice h1 rl.length hk1,.slice h2 rs.length hk2,.slice h3 ro.length hk3] 31 (0,0))):=(bh.block (wr2c.heap.size) (lt_of_block bgt27.out)).trans bgt27.out
  clear bgt27
  have M1t28:Hid (wq.ownsRow w5k.heap.size 84 2 (Value.slice h1 rl.length hk1) rl.length (pcells (marksP 1 rl.length))):=kept2 M1a.out bh
  clear M1a
  have M2t28:Hid (wq.ownsRow w5k.heap.size 84 2 (Value.slice h2 rs.length hk2) rs.length (pcells (marksP (1+2*rl.length) rs.length))):=kept2 M2a.out bh
  clear M2a
  have M3t28:Hid (wq.ownsRow w5k.heap.size 40 4 (Value.slice h3 ro.length hk3) ro.length (dcells (marksD (1+2*rl.length+2*rs.length) ro.length))):=kept4 M3a.out bh
  clear M3a
  have Bt28:Below w.heap.size w wq:=Bt27.trans (bh.mono Bt27.size)
  clear Bt27
  clear KM bh
  obtain⟨aD0,aD1,aD2,_⟩:=three_cells aDt28.out
  go_wp2_with fail
  refine (HTN.out _ Bt28).mono ?_
  rintro e wr3a ⟨v1,v2,v3,rfl,va,vb,vo1,vo2,vo3,bwr3a⟩
  clear aD0 aD1 aD2
  have aDt29:Hid (wr3a.heap[w.heap.size]? = some (.cells #[.slice a1 live.length c1,.slice a2 safe.length c2,.slice a3 ops.length c3] 25 (0,0))):=(bwr3a.block (w.heap.size) (lt_of_block aDt28.out)).trans aDt28.out
  clear aDt28
  have N1t29:Hid (NewQ wr3a wr1k.heap.size wr1c.heap.size y1 (pcells rl)):=N1t28.out.later bwr3a
  clear N1t28
  have N2t29:Hid (NewQ wr3a wr1k.heap.size wr1c.heap.size y2 (pcells rs)):=N2t28.out.later bwr3a
  clear N2t28
  have N3t29:Hid (NewQ wr3a wr1k.heap.size wr1c.heap.size y3 (dcells ro)):=N3t28.out.later bwr3a
  clear N3t28
  have bwt29:Hid (wr3a.heap[wr1c.heap.size]? = some (.cells #[.slice y1 rl.length yk1,.slice y2 rs.length yk2,.slice y3 ro.length yk3] 31 (0,0))):=(bwr3a.block (wr1c.heap.size) (lt_of_block bwt28.out)).trans bwt28.out
  clear bwt28
  have bgt29:Hid (wr3a.heap[wr2c.heap.size]? = some (.cells #[.slice h1 rl.length hk1,.slice h2 rs.length hk2,.slice h3 ro.length hk3] 31 (0,0))):=(bwr3a.block (wr2c.heap.size) (lt_of_block bgt28.out)).trans bgt28.out
  clear bgt28
  have M1t29:Hid (wr3a.ownsRow w5k.heap.size 84 2 (Value.slice h1 rl.length hk1) rl.length (pcells (marksP 1 rl.length))):=kept2 M1t28.out bwr3a
  clear M1t28
  have M2t29:Hid (wr3a.ownsRow w5k.heap.size 84 2 (Value.slice h2 rs.length hk2) rs.length (pcells (marksP (1+2*rl.length) rs.length))):=kept2 M2t28.out bwr3a
  clear M2t28
  have M3t29:Hid (wr3a.ownsRow w5k.heap.size 40 4 (Value.slice h3 ro.length hk3) ro.length (dcells (marksD (1+2*rl.length+2*rs.length) ro.length))):=kept4 M3t28.out bwr3a
  clear M3t28
  have Bt29:Below w.heap.size w wr3a:=Bt28.trans (bwr3a.mono Bt28.size)
  clear Bt28
  have Iv:Hid (IsPairs wr3a (some ⟨v1,0,none⟩) live∧IsPairs wr3a (some ⟨v2,0,none⟩) safe∧IsDOps wr3a (some ⟨v3,0,none⟩) ops):=⟨(isPairs_own vo1).2.2,(isPairs_own vo2).2.2,(isDOps_own vo3).2.2⟩
  have Lv:Hid (wq.heap.size≤v1∧v1<v2∧v2<v3∧v3<wr3a.heap.size):=⟨(vo1.lt _ rfl).1,va,vb,(vo3.lt _ rfl).2⟩
  clear vo1 vo2 vo3 va vb bwr3a
  go_wp2_with fail
  refine (HTK.out _ Bt29).mono ?_
  rintro e wr3k ⟨rfl,ok1,bk1⟩
  have aDt30:Hid (wr3k.heap[w.heap.size]? = some (.cells #[.slice a1 live.length c1,.slice a2 safe.length c2,.slice a3 ops.length c3] 25 (0,0))):=(bk1.block (w.heap.size) (lt_of_block aDt29.out)).trans aDt29.out
  clear aDt29
  have N1t30:Hid (NewQ wr3k wr1k.heap.size wr1c.heap.size y1 (pcells rl)):=N1t29.out.later bk1
  clear N1t29
  have N2t30:Hid (NewQ wr3k wr1k.heap.size wr1c.heap.size y2 (pcells rs)):=N2t29.out.later bk1
  clear N2t29
  have N3t30:Hid (NewQ wr3k wr1k.heap.size wr1c.heap.size y3 (dcells ro)):=N3t29.out.later bk1
  clear N3t29
  have bwt30:Hid (wr3k.heap[wr1c.heap.size]? = some (.cells #[.slice y1 rl.length yk1,.slice y2 rs.length yk2,.slice y3 ro.length yk3] 31 (0,0))):=(bk1.block (wr1c.heap.size) (lt_of_block bwt29.out)).trans bwt29.out
  clear bwt29
  have bgt30:Hid (wr3k.heap[wr2c.heap.size]? = some (.cells #[.slice h1 rl.length hk1,.slice h2 rs.length hk2,.slice h3 ro.length hk3] 31 (0,0))):=(bk1.block (wr2c.heap.size) (lt_of_block bgt29.out)).trans bgt29.out
  clear bgt29
  have M1t30:Hid (wr3k.ownsRow w5k.heap.size 84 2 (Value.slice h1 rl.length hk1) rl.length (pcells (marksP 1 rl.length))):=kept2 M1t29.out bk1
  clear M1t29
  have M2t30:Hid (wr3k.ownsRow w5k.heap.size 84 2 (Value.slice h2 rs.length hk2) rs.length (pcells (marksP (1+2*rl.length) rs.length))):=kept2 M2t29.out bk1
  clear M2t29
  have M3t30:Hid (wr3k.ownsRow w5k.heap.size 40 4 (Value.slice h3 ro.length hk3) ro.length (dcells (marksD (1+2*rl.length+2*rs.length) ro.length))):=kept4 M3t29.out bk1
  clear M3t29
  have Bt30:Below w.heap.size w wr3k:=Bt29.trans (bk1.mono Bt29.size)
  clear Bt29
  have BKN:Hid (Below wr3a.heap.size wr3a wr3k):=bk1
  have KIwr3k:Hid (IsInts wr3k (some ⟨wr3a.heap.size,0,none⟩) ks):=isInts_own rfl ok1
  clear ok1 bk1
  go_wp2_with fail
  refine (HH2.out v1 v2 v3 wr3a.heap.size _ ⟨Iv.out.1.later BKN.out,Iv.out.2.1.later BKN.out,Iv.out.2.2.later BKN.out⟩ KIwr3k.out).mono ?_
  rintro e wr3c ⟨f1,f2,f3,fk1,fk2,fk3,rfl,n1,n2,n3,hap,b9⟩
  clear Iv Lv BKN KIwr3k
  have aDt31:Hid (wr3c.heap[w.heap.size]? = some (.cells #[.slice a1 live.length c1,.slice a2 safe.length c2,.slice a3 ops.length c3] 25 (0,0))):=(b9.block (w.heap.size) (lt_of_block aDt30.out)).trans aDt30.out
  clear aDt30
  have N1t31:Hid (NewQ wr3c wr1k.heap.size wr1c.heap.size y1 (pcells rl)):=N1t30.out.later b9
  clear N1t30
  have N2t31:Hid (NewQ wr3c wr1k.heap.size wr1c.heap.size y2 (pcells rs)):=N2t30.out.later b9
  clear N2t30
  have N3t31:Hid (NewQ wr3c wr1k.heap.size wr1c.heap.size y3 (dcells ro)):=N3t30.out.later b9
  clear N3t30
  have bwt31:Hid (wr3c.heap[wr1c.heap.size]? = some (.cells #[.slice y1 rl.length yk1,.slice y2 rs.length yk2,.slice y3 ro.length yk3] 31 (0,0))):=(b9.block (wr1c.heap.size) (lt_of_block bwt30.out)).trans bwt30.out
  clear bwt30
  have bgt31:Hid (wr3c.heap[wr2c.heap.size]? = some (.cells #[.slice h1 rl.length hk1,.slice h2 rs.length hk2,.slice h3 ro.length hk3] 31 (0,0))):=(b9.block (wr2c.heap.size) (lt_of_block bgt30.out)).trans bgt30.out
  clear bgt30
  have M1t31:Hid (wr3c.ownsRow w5k.heap.size 84 2 (Value.slice h1 rl.length hk1) rl.length (pcells (marksP 1 rl.length))):=kept2 M1t30.out b9
  clear M1t30
  have M2t31:Hid (wr3c.ownsRow w5k.heap.size 84 2 (Value.slice h2 rs.length hk2) rs.length (pcells (marksP (1+2*rl.length) rs.length))):=kept2 M2t30.out b9
  clear M2t30
  have M3t31:Hid (wr3c.ownsRow w5k.heap.size 40 4 (Value.slice h3 ro.length hk3) ro.length (dcells (marksD (1+2*rl.length+2*rs.length) ro.length))):=kept4 M3t30.out b9
  clear M3t30
  have Bt31:Below w.heap.size w wr3c:=Bt30.trans (b9.mono Bt30.size)
  clear Bt30
  have F1w3:Hid (wr3c.ownsRow wr3k.heap.size 84 2 (Value.slice f1 rl.length fk1) rl.length (pcells rl)):=n1
  have F2w3:Hid (wr3c.ownsRow wr3k.heap.size 84 2 (Value.slice f2 rs.length fk2) rs.length (pcells rs)):=n2
  have F3w3:Hid (wr3c.ownsRow wr3k.heap.size 40 4 (Value.slice f3 ro.length fk3) ro.length (dcells ro)):=n3
  have APF:Hid (Apart3 (Value.slice f1 rl.length fk1) (Value.slice f2 rs.length fk2) (Value.slice f3 ro.length fk3)):=hap
  have ZB3:Hid (wr3k.heap.size≤wr3c.heap.size):=b9.size
  clear n1 n2 n3 b9 hap
  have Xt32:Below wr3c.heap.size wr3c (wr3c.alloc (.cells #[.slice f1 rl.length fk1,.slice f2 rs.length fk2,.slice f3 ro.length fk3] 31)):=(Below.refl _ _).alloc (Nat.le_refl _) _
  have aDt33:Hid ((wr3c.alloc (.cells #[.slice f1 rl.length fk1,.slice f2 rs.length fk2,.slice f3 ro.length fk3] 31)).heap[w.heap.size]? = some (.cells #[.slice a1 live.length c1,.slice a2 safe.length c2,.slice a3 ops.length c3] 25 (0,0))):=(Xt32.block (w.heap.size) (lt_of_block aDt31.out)).trans aDt31.out
  clear aDt31
  have N1t33:Hid (NewQ (wr3c.alloc (.cells #[.slice f1 rl.length fk1,.slice f2 rs.length fk2,.slice f3 ro.length fk3] 31)) wr1k.heap.size wr1c.heap.size y1 (pcells rl)):=N1t31.out.later Xt32
  clear N1t31
  have N2t33:Hid (NewQ (wr3c.alloc (.cells #[.slice f1 rl.length fk1,.slice f2 rs.length fk2,.slice f3 ro.length fk3] 31)) wr1k.heap.size wr1c.heap.size y2 (pcells rs)):=N2t31.out.later Xt32
  clear N2t31
  have N3t33:Hid (NewQ (wr3c.alloc (.cells #[.slice f1 rl.length fk1,.slice f2 rs.length fk2,.slice f3 ro.length fk3] 31)) wr1k.heap.size wr1c.heap.size y3 (dcells ro)):=N3t31.out.later Xt32
  clear N3t31
  have bwt33:Hid ((wr3c.alloc (.cells #[.slice f1 rl.length fk1,.slice f2 rs.length fk2,.slice f3 ro.length fk3] 31)).heap[wr1c.heap.size]? = some (.cells #[.slice y1 rl.length yk1,.slice y2 rs.length yk2,.slice y3 ro.length yk3] 31 (0,0))):=(Xt32.block (wr1c.heap.size) (lt_of_block bwt31.out)).trans bwt31.out
  clear bwt31
  have bgt33:Hid ((wr3c.alloc (.cells #[.slice f1 rl.length fk1,.slice f2 rs.length fk2,.slice f3 ro.length fk3] 31)).heap[wr2c.heap.size]? = some (.cells #[.slice h1 rl.length hk1,.slice h2 rs.length hk2,.slice h3 ro.length hk3] 31 (0,0))):=(Xt32.block (wr2c.heap.size) (lt_of_block bgt31.out)).trans bgt31.out
  clear bgt31
  have M1t33:Hid ((wr3c.alloc (.cells #[.slice f1 rl.length fk1,.slice f2 rs.length fk2,.slice f3 ro.length fk3] 31)).ownsRow w5k.heap.size 84 2 (Value.slice h1 rl.length hk1) rl.length (pcells (marksP 1 rl.length))):=kept2 M1t31.out Xt32
  clear M1t31
  have M2t33:Hid ((wr3c.alloc (.cells #[.slice f1 rl.length fk1,.slice f2 rs.length fk2,.slice f3 ro.length fk3] 31)).ownsRow w5k.heap.size 84 2 (Value.slice h2 rs.length hk2) rs.length (pcells (marksP (1+2*rl.length) rs.length))):=kept2 M2t31.out Xt32
  clear M2t31
  have M3t33:Hid ((wr3c.alloc (.cells #[.slice f1 rl.length fk1,.slice f2 rs.length fk2,.slice f3 ro.length fk3] 31)).ownsRow w5k.heap.size 40 4 (Value.slice h3 ro.length hk3) ro.length (dcells (marksD (1+2*rl.length+2*rs.length) ro.length))):=kept4 M3t31.out Xt32
  clear M3t31
  have F1t33:Hid ((wr3c.alloc (.cells #[.slice f1 rl.length fk1,.slice f2 rs.length fk2,.slice f3 ro.length fk3] 31)).ownsRow wr3k.heap.size 84 2 (Value.slice f1 rl.length fk1) rl.length (pcells rl)):=kept2 F1w3.out Xt32
  clear F1w3
  have F2t33:Hid ((wr3c.alloc (.cells #[.slice f1 rl.length fk1,.slice f2 rs.length fk2,.slice f3 ro.length fk3] 31)).ownsRow wr3k.heap.size 84 2 (Value.slice f2 rs.length fk2) rs.length (pcells rs)):=kept2 F2w3.out Xt32
  clear F2w3
  have F3t33:Hid ((wr3c.alloc (.cells #[.slice f1 rl.length fk1,.slice f2 rs.length fk2,.slice f3 ro.length fk3] 31)).ownsRow wr3k.heap.size 40 4 (Value.slice f3 ro.length fk3) ro.length (dcells ro)):=kept4 F3w3.out Xt32
  clear F3w3
  have Bt33:Below w.heap.size w (wr3c.alloc (.cells #[.slice f1 rl.length fk1,.slice f2 rs.length fk2,.slice f3 ro.length fk3] 31)):=Bt31.trans (Xt32.mono Bt31.size)
  clear Bt31
  clear Xt32
  have bht32:Hid ((wr3c.alloc (.cells #[.slice f1 rl.length fk1,.slice f2 rs.length fk2,.slice f3 ro.length fk3] 31)).heap[wr3c.heap.size]? = some (.cells #[.slice f1 rl.length fk1,.slice f2 rs.length fk2,.slice f3 ro.length fk3] 31 (0,0))):=heap_alloc_new wr3c _
  obtain⟨bh0,bh1,bh2,_⟩:=three_cells bht32.out
  obtain⟨bw0,bw1,bw2,_⟩:=three_cells bwt33.out
  go_wp2_with fail
  refine (eqDisk_same rl rs ro _ _ _ _ _ _ _ _ _ _ _ _ _ (by omega) (by omega) (by omega) ⟨(isPairs_own F1t33.out).2.2,N1t33.out.1.pairs⟩ ⟨(isPairs_own F2t33.out).2.2,N2t33.out.1.pairs⟩ ⟨(isDOps_own F3t33.out).2.2,N3t33.out.1.dops⟩).mono ?_
  rintro e wt ⟨rfl,b9⟩
  clear bh0 bh1 bh2
  clear bw0 bw1 bw2
  have aDt34:Hid (wt.heap[w.heap.size]? = some (.cells #[.slice a1 live.length c1,.slice a2 safe.length c2,.slice a3 ops.length c3] 25 (0,0))):=(b9.block (w.heap.size) (lt_of_block aDt33.out)).trans aDt33.out
  clear aDt33
  have N1t34:Hid (NewQ wt wr1k.heap.size wr1c.heap.size y1 (pcells rl)):=N1t33.out.later b9
  clear N1t33
  have N2t34:Hid (NewQ wt wr1k.heap.size wr1c.heap.size y2 (pcells rs)):=N2t33.out.later b9
  clear N2t33
  have N3t34:Hid (NewQ wt wr1k.heap.size wr1c.heap.size y3 (dcells ro)):=N3t33.out.later b9
  clear N3t33
  have bwt34:Hid (wt.heap[wr1c.heap.size]? = some (.cells #[.slice y1 rl.length yk1,.slice y2 rs.length yk2,.slice y3 ro.length yk3] 31 (0,0))):=(b9.block (wr1c.heap.size) (lt_of_block bwt33.out)).trans bwt33.out
  clear bwt33
  have bgt34:Hid (wt.heap[wr2c.heap.size]? = some (.cells #[.slice h1 rl.length hk1,.slice h2 rs.length hk2,.slice h3 ro.length hk3] 31 (0,0))):=(b9.block (wr2c.heap.size) (lt_of_block bgt33.out)).trans bgt33.out
  clear bgt33
  have M1t34:Hid (wt.ownsRow w5k.heap.size 84 2 (Value.slice h1 rl.length hk1) rl.length (pcells (marksP 1 rl.length))):=kept2 M1t33.out b9
  clear M1t33
  have M2t34:Hid (wt.ownsRow w5k.heap.size 84 2 (Value.slice h2 rs.length hk2) rs.length (pcells (marksP (1+2*rl.length) rs.length))):=kept2 M2t33.out b9
  clear M2t33
  have M3t34:Hid (wt.ownsRow w5k.heap.size 40 4 (Value.slice h3 ro.length hk3) ro.length (dcells (marksD (1+2*rl.length+2*rs.length) ro.length))):=kept4 M3t33.out b9
  clear M3t33
  have F1t34:Hid (wt.ownsRow wr3k.heap.size 84 2 (Value.slice f1 rl.length fk1) rl.length (pcells rl)):=kept2 F1t33.out b9
  clear F1t33
  have F2t34:Hid (wt.ownsRow wr3k.heap.size 84 2 (Value.slice f2 rs.length fk2) rs.length (pcells rs)):=kept2 F2t33.out b9
  clear F2t33
  have F3t34:Hid (wt.ownsRow wr3k.heap.size 40 4 (Value.slice f3 ro.length fk3) ro.length (dcells ro)):=kept4 F3t33.out b9
  clear F3t33
  have bht34:Hid (wt.heap[wr3c.heap.size]? = some (.cells #[.slice f1 rl.length fk1,.slice f2 rs.length fk2,.slice f3 ro.length fk3] 31 (0,0))):=(b9.block (wr3c.heap.size) (lt_of_block bht32.out)).trans bht32.out
  clear bht32
  have Bt34:Below w.heap.size w wt:=Bt33.trans (b9.mono Bt33.size)
  clear Bt33
  clear b9
  obtain⟨bg0,bg1,bg2,_⟩:=three_cells bgt34.out
  have KM:=heldDisk_any rl.length rs.length ro.length h1 h2 h3 rl.length hk1 rs.length hk2 ro.length hk3 _ 1 wt (by omega) (by omega) (by omega) (by omega) (by omega) M1t34.out M2t34.out M3t34.out
  go_wp2_with fail
  refine KM.mono ?_
  rintro e wv ⟨rfl,bh⟩
  clear bg0 bg1 bg2
  have aDt35:Hid (wv.heap[w.heap.size]? = some (.cells #[.slice a1 live.length c1,.slice a2 safe.length c2,.slice a3 ops.length c3] 25 (0,0))):=(bh.block (w.heap.size) (lt_of_block aDt34.out)).trans aDt34.out
  clear aDt34
  have N1t35:Hid (NewQ wv wr1k.heap.size wr1c.heap.size y1 (pcells rl)):=N1t34.out.later bh
  clear N1t34
  have N2t35:Hid (NewQ wv wr1k.heap.size wr1c.heap.size y2 (pcells rs)):=N2t34.out.later bh
  clear N2t34
  have N3t35:Hid (NewQ wv wr1k.heap.size wr1c.heap.size y3 (dcells ro)):=N3t34.out.later bh
  clear N3t34
  have bwt35:Hid (wv.heap[wr1c.heap.size]? = some (.cells #[.slice y1 rl.length yk1,.slice y2 rs.length yk2,.slice y3 ro.length yk3] 31 (0,0))):=(bh.block (wr1c.heap.size) (lt_of_block bwt34.out)).trans bwt34.out
  clear bwt34
  have bgt35:Hid (wv.heap[wr2c.heap.size]? = some (.cells #[.slice h1 rl.length hk1,.slice h2 rs.length hk2,.slice h3 ro.length hk3] 31 (0,0))):=(bh.block (wr2c.heap.size) (lt_of_block bgt34.out)).trans bgt34.out
  clear bgt34
  have M1t35:Hid (wv.ownsRow w5k.heap.size 84 2 (Value.slice h1 rl.length hk1) rl.length (pcells (marksP 1 rl.length))):=kept2 M1t34.out bh
  clear M1t34
  have M2t35:Hid (wv.ownsRow w5k.heap.size 84 2 (Value.slice h2 rs.length hk2) rs.length (pcells (marksP (1+2*rl.length) rs.length))):=kept2 M2t34.out bh
  clear M2t34
  have M3t35:Hid (wv.ownsRow w5k.heap.size 40 4 (Value.slice h3 ro.length hk3) ro.length (dcells (marksD (1+2*rl.length+2*rs.length) ro.length))):=kept4 M3t34.out bh
  clear M3t34
  have F1t35:Hid (wv.ownsRow wr3k.heap.size 84 2 (Value.slice f1 rl.length fk1) rl.length (pcells rl)):=kept2 F1t34.out bh
  clear F1t34
  have F2t35:Hid (wv.ownsRow wr3k.heap.size 84 2 (Value.slice f2 rs.length fk2) rs.length (pcells rs)):=kept2 F2t34.out bh
  clear F2t34
  have F3t35:Hid (wv.ownsRow wr3k.heap.size 40 4 (Value.slice f3 ro.length fk3) ro.length (dcells ro)):=kept4 F3t34.out bh
  clear F3t34
  have bht35:Hid (wv.heap[wr3c.heap.size]? = some (.cells #[.slice f1 rl.length fk1,.slice f2 rs.length fk2,.slice f3 ro.length fk3] 31 (0,0))):=(bh.block (wr3c.heap.size) (lt_of_block bht34.out)).trans bht34.out
  clear bht34
  have Bt35:Below w.heap.size w wv:=Bt34.trans (bh.mono Bt34.size)
  clear Bt34
  clear KM bh
  go_wp2
  go_ret
  exact⟨rfl,Bt35⟩
set_option maxRecDepth 100000 in
theorem lifted (os:Os) (started:os.Started) (H:Type) (enc:TypeId × Value→H) :
 ReturnsInHanded {} Try.checked os 6 .any (Rows.fnExactCrashSpec.pre6 enc Try.prog Try.f6 Rows.fnExactCrashRow.domain false) (Rows.fnExactCrashSpec.post enc Try.prog Try.f6 false true false false):=by
 refine returnsInHanded_of_change (C:=Try.checked) own started (by kernel_rfl) Try.func6
  (ChangeSpec.witness6 (enc:=enc) (C:=Try.checked) false ⟨#[],#[.agg #[.slice none 0 0,.slice none 0 0,.slice none 0 0],.slice none 0 0,.int .i64 0],[]⟩ 8 (by kernel_rfl) (by kernel_rfl) (by kernel_rfl) (by kernel_rfl)) ?_
 intro W base args ds gs before hval0 hW hcnd _
 have hval:∀ (j:Nat) t v,Try.f6.params[j]? = some t→args[j]? = some v→Value.okWide Try.prog W .any base t v:=hval0
 have hW':=hW
 obtain⟨p,q,hA0,hV,rfl,hfz,hnd⟩:=hW
 have hA:DataW.TrodAll enc Try.prog W 0 (fun _=>true) true Try.f6.params.toList args.toList ds p:=hA0
 rw[Try.params6] at hA hval
 obtain⟨v0,vs0,d0,ds0,p0,q0,hargs,rfl,rfl,h0,r0⟩:=trodAll_cons hA
 obtain⟨v1,vs1,d1,ds1,p1,q1,hargs1,rfl,rfl,h1,r1⟩:=trodAll_cons r0
 obtain⟨v2,vs2,d2,ds2,p2,q2,hargs2,rfl,rfl,h2,r2⟩:=trodAll_cons r1
 obtain⟨rfl,rfl,rfl⟩:=trodAll_nil r2
 obtain rfl:args=#[v0,v1,v2]:=by cases args;simp_all
 obtain⟨rfl,rfl⟩:=trodVars_none hV
 have k0:=h0
 have k1:=h1
 have k2:=h2
 have lt0:∀ x∈p0,x.block<W.heap.size:=by obtain⟨m,hm⟩:=k0;exact DataW.trod_lt m _ _ _ hm
 have lt1:∀ x∈p1,x.block<W.heap.size:=by obtain⟨m,hm⟩:=k1;exact DataW.trod_lt m _ _ _ hm
 have lt2:∀ x∈p2,x.block<W.heap.size:=by obtain⟨m,hm⟩:=k2;exact DataW.trod_lt m _ _ _ hm
 obtain⟨a1,a2,a3,c1,c2,c3,live,safe,ops,hv0,⟨i1,l1,m1⟩,⟨i2,l2,m2⟩,⟨i3,l3,m3⟩⟩:=disk_of (hval 0 25 v0 rfl rfl) h0
 obtain⟨ka,kc,ks,hv1,hkl,hki⟩:∃ (a:Option Addr) (c:Nat) (ks:List Int),v1=.slice a ks.length c∧ks.length≤9223372036854775807∧IsInts W a ks:=by
  obtain⟨a9,n9,c9,rfl⟩:=okWide_slice Try.underlying45 (hval 1 45 v1 rfl rfl)
  obtain⟨fuel,hf⟩:=h1
  exact ints_of (by simpa [Value.cells] using hf)
 obtain⟨tn,hv2⟩:∃ tn:Int,v2=.int .i64 tn:=by
  obtain⟨n9,rfl,_⟩:=okWide_int Try.underlying2 (hval 2 2 v2 rfl rfl)
  exact⟨n9,rfl⟩
 clear hA0 hval0
 subst hv0 hv1 hv2
 simp only[List.append_nil] at hW'
 refine (walk a1 a2 a3 c1 c2 c3 live safe ops ka kc ks tn W l1 l2 l3 m1 m2 m3 i1 i2 i3 hkl hki).mono fun e W' ⟨he,bel⟩=>?_
 subst he
 exact⟨_,rfl,_,_,_,[],_,[],hW',trodAll_mk1 (shut_bool Try.underlying4 _),(trodAll_cons_mk (Below.trod laidOut (by kernel_rfl) (of_decide_eq_true (by kernel_rfl)) k0 bel lt0) (trodAll_cons_mk (Below.trod laidOut (by kernel_rfl) (of_decide_eq_true (by kernel_rfl)) k1 bel lt1) (trodAll_cons_mk (Below.trod laidOut (by kernel_rfl) (of_decide_eq_true (by kernel_rfl)) k2 bel lt2) trodAll_mk0))),rfl,bel.frame _,fun h=>by cases h⟩
theorem over:Rows.fnExactCrashRow.holds Try.pinned (OpenSpec.ofChange Rows.fnExactCrashSpec) :=
 OpenClaim.holds_of_wide 6 Try.f6 rfl rfl rfl rfl rfl rfl rfl ⟨rfl,rfl,rfl,rfl,rfl⟩ rfl rfl rfl rfl rfl (by kernel_rfl) Try.func6 (by kernel_rfl)
  (of_decide_eq_true (by kernel_rfl)) (by unfold Func.isWrapper;first | (rw[if_pos (by decide +kernel)];kernel_rfl) | (rw[if_neg (by decide +kernel)];exact⟨rfl,rfl⟩))
  (fun os started H enc _=>lifted os started H enc)
end Go.Proofs.Ytlllkdioojjaeaa.fnExactCrash
namespace Go.Proofs.Ytlllkdioojjaeaa
theorem fnExactCrash_holds:Rows.FnExactCrashSaid:=fnExactCrash.over
end Go.Proofs.Ytlllkdioojjaeaa
