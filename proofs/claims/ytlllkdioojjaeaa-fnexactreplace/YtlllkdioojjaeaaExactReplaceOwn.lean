/-
 At every disk, name and data Replace answers as its model; it writes into no argument and keeps nothing of one; its answer owns its memory. No condition.
-/
import Derived.Test.YtlllkdioojjaeaaSRep
import Derived.Test.YtlllkdioojjaeaaIRep
import Derived.Test.YtlllkdioojjaeaaDOpS
import Derived.Test.YtlllkdioojjaeaaDiskL
import Derived.Deep.RegionHeld3
import Derived.Deep.Cut
import Derived.ProofKit
import Derived.OpenShut
import Derived.ShutString
import Derived.ChangeOld
import Derived.Below
import Derived.Lib.SmallJoins
namespace Go.Proofs.Ytlllkdioojjaeaa.fnExactReplace
open Go.ChangeShapes Go.WideShapes Go.ChangeAt Go.RowKit
open Go.ChangeMaps (open_string shut_string)
set_option linter.unusedVariables false
theorem own:ownKnob Try.prog.godebug=none:=by kernel_rfl
theorem laidOut:laidOutB Try.prog=true:=by kernel_rfl
theorem sizes_le (ps:List PairL) (h:ps.length+sizeP ps≤1048576):∀ p∈ps,p.1.length≤1048576∧p.2.length≤1048576:=by
 intro p hp
 obtain⟨j,hj,rfl⟩:=List.getElem_of_mem hp
 have:=sizeP_le ps j hj
 exact⟨by omega,by omega⟩
theorem sizesD_le (ps:List DOpL) (h:ps.length+sizeD ps≤1048576):∀ p∈ps,p.n.length≤1048576∧p.t.length≤1048576∧p.d.length≤1048576:=by
 intro p hp
 obtain⟨j,hj,rfl⟩:=List.getElem_of_mem hp
 have:=sizeD_le ps j hj
 unfold opN at this
 exact⟨by omega,by omega,by omega⟩
def SReg (W0 wx:World) (bs:Nat) (x1 x2 x3:Option Addr) (k1 k2 k3:Nat) (rl rs:List PairL) (ro:List DOpL):Prop :=
 wx.heap[bs]? = some (.cells #[.slice x1 rl.length k1,.slice x2 rs.length k2,.slice x3 ro.length k3] 31 (0,0))∧W0.heap.size≤bs∧NewQ wx W0.heap.size wx.heap.size x1 (pcells rl)∧NewQ wx W0.heap.size wx.heap.size x2 (pcells rs)∧NewQ wx W0.heap.size wx.heap.size x3 (dcells ro)∧Below W0.heap.size W0 wx
def JReg (W0 wx:World) (bs:Nat) (x1 x2 x3:Option Addr) (k1 k2 k3:Nat) (rl rs:List PairL) (ro:List DOpL):Prop :=
 wx.heap[bs]? = some (.cells #[.slice x1 rl.length k1,.slice x2 rs.length k2,.slice x3 ro.length k3] 31 (0,0))∧W0.heap.size≤bs∧wx.ownsRow W0.heap.size 84 2 (.slice x1 rl.length k1) rl.length (pcells rl)∧wx.ownsRow W0.heap.size 84 2 (.slice x2 rs.length k2) rs.length (pcells rs)∧wx.ownsRow W0.heap.size 40 4 (.slice x3 ro.length k3) ro.length (dcells ro)∧Apart3 (.slice x1 rl.length k1) (.slice x2 rs.length k2) (.slice x3 ro.length k3)∧(∀ q,(Value.slice x1 rl.length k1).ownBlock=some q→q≠bs)∧(∀ q,(Value.slice x2 rs.length k2).ownBlock=some q→q≠bs)∧(∀ q,(Value.slice x3 ro.length k3).ownBlock=some q→q≠bs)∧Below W0.heap.size W0 wx
theorem newR_setQ {W:World} {lo:Nat} {a:Option Addr} {xs:List Value} (h:NewR W lo a xs) (p:Addr) (hp:p.block<lo∨W.heap.size≤p.block) (v:Value):NewR (W.setCell p v) lo a xs:=((newQ_of h).setAt p hp v).1
theorem sreg_store {W0 wb c9:World} {bs:Nat} {x1 x2 x3:Option Addr} {k1 k2 k3:Nat} {rl rs:List PairL} {ro:List DOpL} (hz:c9.heap[bs]? = some (.cells #[.slice none 0 0,.slice none 0 0,.slice none 0 0] 31 (0,0))) (hb:W0.heap.size≤bs) (hB:Below W0.heap.size W0 c9) (hs:W0.heap.size≤wb.heap.size) (hlt:bs<wb.heap.size) (n1:NewR c9 wb.heap.size x1 (pcells rl)) (n2:NewR c9 wb.heap.size x2 (pcells rs)) (n3:NewR c9 wb.heap.size x3 (dcells ro)):SReg W0 (((c9.setCell ⟨bs,0,none⟩ (.slice x1 rl.length k1)).setCell ⟨bs,1,none⟩ (.slice x2 rs.length k2)).setCell ⟨bs,2,none⟩ (.slice x3 ro.length k3)) bs x1 x2 x3 k1 k2 k3 rl rs ro :=
 ⟨dk_set (j:=2) (dk_set (j:=1) (dk_set (j:=0) hz)),hb,newQ_of ((((n1.setCell _ hlt _).setCell _ hlt _).setCell _ hlt _).lower hs),newQ_of ((((n2.setCell _ hlt _).setCell _ hlt _).setCell _ hlt _).lower hs),newQ_of ((((n3.setCell _ hlt _).setCell _ hlt _).setCell _ hlt _).lower hs),((hB.setCell hb _).setCell hb _).setCell hb _⟩
theorem sreg_new {W0 c9:World} {x1 x2 x3:Option Addr} {k1 k2 k3:Nat} {rl rs:List PairL} {ro:List DOpL} (hB:Below W0.heap.size W0 c9) (n1:NewR c9 W0.heap.size x1 (pcells rl)) (n2:NewR c9 W0.heap.size x2 (pcells rs)) (n3:NewR c9 W0.heap.size x3 (dcells ro)):SReg W0 (c9.alloc (.cells #[.slice x1 rl.length k1,.slice x2 rs.length k2,.slice x3 ro.length k3] 31)) c9.heap.size x1 x2 x3 k1 k2 k3 rl rs ro :=
 have b9:Below c9.heap.size c9 (c9.alloc (.cells #[.slice x1 rl.length k1,.slice x2 rs.length k2,.slice x3 ro.length k3] 31)):=(Below.refl _ _).alloc (Nat.le_refl _) _
 ⟨heap_alloc_new c9 _,hB.size,newQ_of (n1.later b9),newQ_of (n2.later b9),newQ_of (n3.later b9),hB.alloc hB.size _⟩
theorem jreg_store {W0 wb c9:World} {bs:Nat} {x1 x2 x3:Option Addr} {k1 k2 k3:Nat} {rl rs:List PairL} {ro:List DOpL} (hz:c9.heap[bs]? = some (.cells #[.slice none 0 0,.slice none 0 0,.slice none 0 0] 31 (0,0))) (hb:W0.heap.size≤bs) (hB:Below W0.heap.size W0 c9) (hs:W0.heap.size≤wb.heap.size) (hlt:bs<wb.heap.size) (n1:c9.ownsRow wb.heap.size 84 2 (.slice x1 rl.length k1) rl.length (pcells rl)) (n2:c9.ownsRow wb.heap.size 84 2 (.slice x2 rs.length k2) rs.length (pcells rs)) (n3:c9.ownsRow wb.heap.size 40 4 (.slice x3 ro.length k3) ro.length (dcells ro)) (hap:Apart3 (.slice x1 rl.length k1) (.slice x2 rs.length k2) (.slice x3 ro.length k3)):JReg W0 (((c9.setCell ⟨bs,0,none⟩ (.slice x1 rl.length k1)).setCell ⟨bs,1,none⟩ (.slice x2 rs.length k2)).setCell ⟨bs,2,none⟩ (.slice x3 ro.length k3)) bs x1 x2 x3 k1 k2 k3 rl rs ro :=
 ⟨dk_set (j:=2) (dk_set (j:=1) (dk_set (j:=0) hz)),hb,(own_set (own_set (own_set n1 _ hlt _) _ hlt _) _ hlt _).mono hs,(own_set (own_set (own_set n2 _ hlt _) _ hlt _) _ hlt _).mono hs,(own_set (own_set (own_set n3 _ hlt _) _ hlt _) _ hlt _).mono hs,hap,fun q h=>by have:=(n1.lt q h).1;omega,fun q h=>by have:=(n2.lt q h).1;omega,fun q h=>by have:=(n3.lt q h).1;omega,((hB.setCell hb _).setCell hb _).setCell hb _⟩
theorem jreg_new {W0 c9:World} {x1 x2 x3:Option Addr} {k1 k2 k3:Nat} {rl rs:List PairL} {ro:List DOpL} (hB:Below W0.heap.size W0 c9) (n1:c9.ownsRow W0.heap.size 84 2 (.slice x1 rl.length k1) rl.length (pcells rl)) (n2:c9.ownsRow W0.heap.size 84 2 (.slice x2 rs.length k2) rs.length (pcells rs)) (n3:c9.ownsRow W0.heap.size 40 4 (.slice x3 ro.length k3) ro.length (dcells ro)) (hap:Apart3 (.slice x1 rl.length k1) (.slice x2 rs.length k2) (.slice x3 ro.length k3)):JReg W0 (c9.alloc (.cells #[.slice x1 rl.length k1,.slice x2 rs.length k2,.slice x3 ro.length k3] 31)) c9.heap.size x1 x2 x3 k1 k2 k3 rl rs ro :=
 ⟨heap_alloc_new c9 _,hB.size,n1.alloc _,n2.alloc _,n3.alloc _,hap,fun q h=>by have:=(n1.lt q h).2;omega,fun q h=>by have:=(n2.lt q h).2;omega,fun q h=>by have:=(n3.lt q h).2;omega,hB.alloc hB.size _⟩
theorem is3_later {w W:World} {a b c:Option Addr} {live safe:List PairL} {ops:List DOpL} (h:IsPairs w a live∧IsPairs w b safe∧IsDOps w c ops) (hb:Below w.heap.size w W):IsPairs W a live∧IsPairs W b safe∧IsDOps W c ops:=⟨h.1.later hb,h.2.1.later hb,h.2.2.later hb⟩
theorem lt_block {W:World} {b:Nat} {o:Obj} (h:W.heap[b]? = some o):b<W.heap.size:=(Array.getElem?_eq_some_iff.1 h).1
theorem size_via {w W:World} (h:Below w.heap.size w W):w.heap.size≤W.heap.size:=h.size
theorem below_set9 {B:Nat} {w W:World} {p:Addr} {v:Value} (h:Below B w W) (hp:B≤p.block):Below B w (W.setCell p v):=h.setCell hp v
theorem repL_len (live safe:List PairL) (ops:List DOpL) (nm da:List UInt8) (h1:live.length≤1048576) (h2:safe.length≤1048576) (h3:ops.length≤1048576):(repL live safe ops nm da).1.length≤1048576∧(repL live safe ops nm da).2.1.length≤1048576∧(repL live safe ops nm da).2.2.1.length≤1048576:=by
 unfold repL
 split
 · rename_i hk
   unfold repEnd
   split
   · rename_i h0
     obtain⟨_,g1,g2,g3⟩:=fold_len (fold_ok _ (live,safe,ops,0) hk h0)
     exact⟨g1,g2,g3⟩
   · exact⟨h1,h2,h3⟩
 · exact⟨by simp,by simp,by simp⟩
theorem below_of_grownD {w w':World} (h:w.grownBy w' none):Below w.heap.size w w':=⟨h.os,h.tape,h.output,h.size,fun k hk=>h.block k hk (by simp)⟩
set_option maxRecDepth 100000 in
set_option maxHeartbeats 8000000 in
theorem walk (a1 a2 a3:Option Addr) (c1 c2 c3:Nat) (live safe:List PairL) (ops:List DOpL) (nm da:List UInt8) (w:World) (hl1:live.length≤9223372036854775807) (hl2:safe.length≤9223372036854775807) (hl3:ops.length≤9223372036854775807) (hm1:∀ p∈live,p.1.length≤9223372036854775807∧p.2.length≤9223372036854775807) (hm2:∀ p∈safe,p.1.length≤9223372036854775807∧p.2.length≤9223372036854775807) (hm3:∀ p∈ops,p.n.length≤9223372036854775807∧p.t.length≤9223372036854775807∧p.d.length≤9223372036854775807) (hs1:IsPairs w a1 live) (hs2:IsPairs w a2 safe) (hs3:IsDOps w a3 ops) (hn0:nm.length≤9223372036854775807) (hd0:da.length≤9223372036854775807) :
 Calls Try.prog 8 #[.agg #[.slice a1 live.length c1,.slice a2 safe.length c2,.slice a3 ops.length c3],.string ⟨nm.toArray⟩,.string ⟨da.toArray⟩] w fun e w'=>e=.returned (.bool true)∧Below w.heap.size w w':=by
 have HS:Hid (∀ W,Below w.heap.size w W→IsPairs W a1 live∧IsPairs W a2 safe∧IsDOps W a3 ops):=fun W hW=>⟨hs1.later hW,hs2.later hW,hs3.later hW⟩
 have Bz:Below w.heap.size w w:=Below.refl _ _
 have Xt1:Below w.heap.size w (w.alloc (.cells #[.slice a1 live.length c1,.slice a2 safe.length c2,.slice a3 ops.length c3] 25)):=(Below.refl _ _).alloc (Nat.le_refl _) _
 have Bt2:Below w.heap.size w (w.alloc (.cells #[.slice a1 live.length c1,.slice a2 safe.length c2,.slice a3 ops.length c3] 25)):=Bz.trans (Xt1.mono Bz.size)
 clear Bz
 clear Xt1
 have aDt1:Hid ((w.alloc (.cells #[.slice a1 live.length c1,.slice a2 safe.length c2,.slice a3 ops.length c3] 25)).heap[w.heap.size]? = some (.cells #[.slice a1 live.length c1,.slice a2 safe.length c2,.slice a3 ops.length c3] 25 (0,0))):=heap_alloc_new w _
 have KZ:=szDisk_any 1048576 (Nat.le_refl _) a1 a2 a3 c1 c2 c3 live safe ops (w.alloc (.cells #[.slice a1 live.length c1,.slice a2 safe.length c2,.slice a3 ops.length c3] 25)) hl1 hl2 hl3 hm1 hm2 hm3 (HS.out _ Bt2).1 (HS.out _ Bt2).2.1 (HS.out _ Bt2).2.2
 clear hs1 hs2 hs3 hm1 hm2 hm3
 obtain⟨aD0,aD1,aD2,_⟩:=three_cells aDt1.out
 by_cases hnm:(1048576:Int)<(nm.length:Int)
 · go_enter Try.func8,Try.ntmps8
   go_wp2
   go_ret
   exact⟨rfl,Bt2⟩
 by_cases hda:(1048576:Int)<(da.length:Int)
 · go_enter Try.func8,Try.ntmps8
   go_wp2
   go_ret
   exact⟨rfl,Bt2⟩
 go_enter Try.func8,Try.ntmps8
 go_wp2_with fail
 refine KZ.mono ?_
 rintro e w1 ⟨he,b1⟩
 clear aD0 aD1 aD2
 have aDt3:Hid (w1.heap[w.heap.size]? = some (.cells #[.slice a1 live.length c1,.slice a2 safe.length c2,.slice a3 ops.length c3] 25 (0,0))):=(b1.block (w.heap.size) (lt_of_block aDt1.out)).trans aDt1.out
 clear aDt1
 have Bt3:Below w.heap.size w w1:=Bt2.trans (b1.mono Bt2.size)
 clear Bt2
 clear KZ b1
 rcases he with rfl | ⟨hz1,hz2,hz3,q,hq,rfl⟩
 · go_wp2
   go_ret
   exact⟨rfl,Bt3⟩
 have q0:(0:Int)≤(q:Int):=by omega
 have hn1:live.length≤1048576:=by omega
 have hn2:safe.length≤1048576:=by omega
 have hn3:ops.length≤1048576:=by omega
 have hnn:nm.length≤1048576:=by omega
 have hdd:da.length≤1048576:=by omega
 have m1:=sizes_le live hz1
 have m2:=sizes_le safe hz2
 have m3:=sizesD_le ops hz3
 have H1:=fun (g1 g2 g3:Nat) W (h:(IsPairs W (some ⟨g1,0,none⟩) live∧IsPairs W (some ⟨g2,0,none⟩) safe∧IsDOps W (some ⟨g3,0,none⟩) ops))=>spec_replace (some ⟨g1,0,none⟩) (some ⟨g2,0,none⟩) (some ⟨g3,0,none⟩) live.length safe.length ops.length live safe ops nm da W (.inr ⟨g1,0,rfl⟩) (.inr ⟨g2,0,rfl⟩) hn1 m1 hn2 m2 hn3 m3 hnn hdd h.1 h.2.1 h.2.2
 have H2:=fun (g1 g2 g3:Nat) W (h:(IsPairs W (some ⟨g1,0,none⟩) live∧IsPairs W (some ⟨g2,0,none⟩) safe∧IsDOps W (some ⟨g3,0,none⟩) ops))=>impl_replace (some ⟨g1,0,none⟩) (some ⟨g2,0,none⟩) (some ⟨g3,0,none⟩) live.length safe.length ops.length live safe ops nm da W (.inr ⟨g1,0,rfl⟩) (by simp) (.inr ⟨g2,0,rfl⟩) (by simp) (.inr ⟨g3,0,rfl⟩) (by simp) ⟨hn1,m1,hn2,m2,hn3,m3⟩ hnn hdd h.1 h.2.1 h.2.2
 obtain⟨hr1,hr2,hr3⟩:=repL_len live safe ops nm da hn1 hn2 hn3
 unfold APost at H1
 unfold JPost at H2
 obtain⟨rr,hrr⟩:∃ x,x=repL live safe ops nm da:=⟨_,rfl⟩
 rw[←hrr] at H1 H2 hr1 hr2 hr3
 obtain⟨rl,rs,ro,cd⟩:=rr
 simp only at H1 H2 hr1 hr2 hr3
 have HH1:Hid (∀ (g1 g2 g3:Nat) W,(IsPairs W (some ⟨g1,0,none⟩) live∧IsPairs W (some ⟨g2,0,none⟩) safe∧IsDOps W (some ⟨g3,0,none⟩) ops)→Calls Try.prog 32 #[.agg #[.slice (some ⟨g1,0,none⟩) live.length live.length,.slice (some ⟨g2,0,none⟩) safe.length safe.length,.slice (some ⟨g3,0,none⟩) ops.length ops.length],.string ⟨nm.toArray⟩,.string ⟨da.toArray⟩] W fun e w'=>∃ x1 x2 x3 xk1 xk2 xk3,e=.returned (.tuple #[.agg #[.slice x1 rl.length xk1,.slice x2 rs.length xk2,.slice x3 ro.length xk3],.int .i64 cd])∧NewR w' W.heap.size x1 (pcells rl)∧NewR w' W.heap.size x2 (pcells rs)∧NewR w' W.heap.size x3 (dcells ro)∧Below W.heap.size W w'):=fun g1 g2 g3 W h=>(H1 g1 g2 g3 W h).mono fun e w' ⟨x1,x2,x3,y1,y2,y3,e0,e1,e2,e3,_,_,e4⟩=>⟨x1,x2,x3,y1,y2,y3,e0,e1,e2,e3,e4⟩
 have HH2:Hid (∀ (g1 g2 g3:Nat) W,(IsPairs W (some ⟨g1,0,none⟩) live∧IsPairs W (some ⟨g2,0,none⟩) safe∧IsDOps W (some ⟨g3,0,none⟩) ops)→Calls Try.prog 33 #[.agg #[.slice (some ⟨g1,0,none⟩) live.length live.length,.slice (some ⟨g2,0,none⟩) safe.length safe.length,.slice (some ⟨g3,0,none⟩) ops.length ops.length],.string ⟨nm.toArray⟩,.string ⟨da.toArray⟩] W fun e w'=>∃ x1 x2 x3 xk1 xk2 xk3,e=.returned (.tuple #[.agg #[.slice x1 rl.length xk1,.slice x2 rs.length xk2,.slice x3 ro.length xk3],.int .i64 cd])∧w'.ownsRow W.heap.size 84 2 (Value.slice x1 rl.length xk1) rl.length (pcells rl)∧w'.ownsRow W.heap.size 84 2 (Value.slice x2 rs.length xk2) rs.length (pcells rs)∧w'.ownsRow W.heap.size 40 4 (Value.slice x3 ro.length xk3) ro.length (dcells ro)∧Apart3 (Value.slice x1 rl.length xk1) (Value.slice x2 rs.length xk2) (Value.slice x3 ro.length xk3)∧Below W.heap.size W w'):=H2
 have HTN:Hid (∀ W,Below w.heap.size w W→Calls Try.prog 14 #[.agg #[.slice a1 live.length c1,.slice a2 safe.length c2,.slice a3 ops.length c3]] W fun e w'=>∃ g1 g2 g3:Nat,e=.returned (.agg #[.slice (some ⟨g1,0,none⟩) live.length live.length,.slice (some ⟨g2,0,none⟩) safe.length safe.length,.slice (some ⟨g3,0,none⟩) ops.length ops.length])∧g1<g2∧g2<g3∧w'.ownsRow W.heap.size 84 2 (Value.slice (some ⟨g1,0,none⟩) live.length live.length) live.length (pcells live)∧w'.ownsRow W.heap.size 84 2 (Value.slice (some ⟨g2,0,none⟩) safe.length safe.length) safe.length (pcells safe)∧w'.ownsRow W.heap.size 40 4 (Value.slice (some ⟨g3,0,none⟩) ops.length ops.length) ops.length (dcells ops)∧Below W.heap.size W w'):=fun W hW=>toDisk_any a1 a2 a3 c1 c2 c3 live safe ops W hn1 hn2 hn3 (HS.out W hW).1 (HS.out W hW).2.1 (HS.out W hW).2.2
 clear H1 H2 hrr m1 m2 m3 hz1 hz2 hz3 HS hl1 hl2 hl3 hq hn0 hd0
 obtain⟨aD0,aD1,aD2,_⟩:=three_cells aDt3.out
 go_wp2_with fail
 refine (HTN.out _ Bt3).mono ?_
 rintro e wr1a ⟨v1,v2,v3,rfl,va,vb,vo1,vo2,vo3,bwr1a⟩
 clear aD0 aD1 aD2
 have aDt4:Hid (wr1a.heap[w.heap.size]? = some (.cells #[.slice a1 live.length c1,.slice a2 safe.length c2,.slice a3 ops.length c3] 25 (0,0))):=(bwr1a.block (w.heap.size) (lt_of_block aDt3.out)).trans aDt3.out
 clear aDt3
 have Bt4:Below w.heap.size w wr1a:=Bt3.trans (bwr1a.mono Bt3.size)
 clear Bt3
 have Iv:Hid (IsPairs wr1a (some ⟨v1,0,none⟩) live∧IsPairs wr1a (some ⟨v2,0,none⟩) safe∧IsDOps wr1a (some ⟨v3,0,none⟩) ops):=⟨(isPairs_own vo1).2.2,(isPairs_own vo2).2.2,(isDOps_own vo3).2.2⟩
 have Lv:Hid (w1.heap.size≤v1∧v1<v2∧v2<v3∧v3<wr1a.heap.size):=⟨(vo1.lt _ rfl).1,va,vb,(vo3.lt _ rfl).2⟩
 clear vo1 vo2 vo3 va vb bwr1a
 have ZW0:Hid (w.heap.size<wr1a.heap.size):=lt_of_block aDt4.out
 go_wp2_with fail
 refine (HH1.out v1 v2 v3 _ Iv.out).mono ?_
 rintro e wr1c ⟨y1,y2,y3,yk1,yk2,yk3,rfl,n1,n2,n3,b9⟩
 clear Iv Lv
 have aDt5:Hid (wr1c.heap[w.heap.size]? = some (.cells #[.slice a1 live.length c1,.slice a2 safe.length c2,.slice a3 ops.length c3] 25 (0,0))):=(b9.block (w.heap.size) (lt_of_block aDt4.out)).trans aDt4.out
 clear aDt4
 have Bt5:Below w.heap.size w wr1c:=Bt4.trans (b9.mono Bt4.size)
 clear Bt4
 have N1w1:Hid (NewQ wr1c wr1a.heap.size wr1c.heap.size y1 (pcells rl)):=newQ_of n1
 have N2w1:Hid (NewQ wr1c wr1a.heap.size wr1c.heap.size y2 (pcells rs)):=newQ_of n2
 have N3w1:Hid (NewQ wr1c wr1a.heap.size wr1c.heap.size y3 (dcells ro)):=newQ_of n3
 have ZB1:Hid (wr1a.heap.size≤wr1c.heap.size):=b9.size
 clear n1 n2 n3 b9
 have Xt6:Below wr1c.heap.size wr1c (wr1c.alloc (.cells #[.slice y1 rl.length yk1,.slice y2 rs.length yk2,.slice y3 ro.length yk3] 31)):=(Below.refl _ _).alloc (Nat.le_refl _) _
 have aDt7:Hid ((wr1c.alloc (.cells #[.slice y1 rl.length yk1,.slice y2 rs.length yk2,.slice y3 ro.length yk3] 31)).heap[w.heap.size]? = some (.cells #[.slice a1 live.length c1,.slice a2 safe.length c2,.slice a3 ops.length c3] 25 (0,0))):=(Xt6.block (w.heap.size) (lt_of_block aDt5.out)).trans aDt5.out
 clear aDt5
 have N1t7:Hid (NewQ (wr1c.alloc (.cells #[.slice y1 rl.length yk1,.slice y2 rs.length yk2,.slice y3 ro.length yk3] 31)) wr1a.heap.size wr1c.heap.size y1 (pcells rl)):=N1w1.out.later Xt6
 clear N1w1
 have N2t7:Hid (NewQ (wr1c.alloc (.cells #[.slice y1 rl.length yk1,.slice y2 rs.length yk2,.slice y3 ro.length yk3] 31)) wr1a.heap.size wr1c.heap.size y2 (pcells rs)):=N2w1.out.later Xt6
 clear N2w1
 have N3t7:Hid (NewQ (wr1c.alloc (.cells #[.slice y1 rl.length yk1,.slice y2 rs.length yk2,.slice y3 ro.length yk3] 31)) wr1a.heap.size wr1c.heap.size y3 (dcells ro)):=N3w1.out.later Xt6
 clear N3w1
 have Bt7:Below w.heap.size w (wr1c.alloc (.cells #[.slice y1 rl.length yk1,.slice y2 rs.length yk2,.slice y3 ro.length yk3] 31)):=Bt5.trans (Xt6.mono Bt5.size)
 clear Bt5
 clear Xt6
 have bwt6:Hid ((wr1c.alloc (.cells #[.slice y1 rl.length yk1,.slice y2 rs.length yk2,.slice y3 ro.length yk3] 31)).heap[wr1c.heap.size]? = some (.cells #[.slice y1 rl.length yk1,.slice y2 rs.length yk2,.slice y3 ro.length yk3] 31 (0,0))):=heap_alloc_new wr1c _
 skip
 obtain⟨aD0,aD1,aD2,_⟩:=three_cells aDt7.out
 go_wp2_with fail
 refine (HTN.out _ Bt7).mono ?_
 rintro e w4 ⟨g1,g2,g3,rfl,ga,gb,go1,go2,go3,bw4⟩
 clear aD0 aD1 aD2
 have aDt8:Hid (w4.heap[w.heap.size]? = some (.cells #[.slice a1 live.length c1,.slice a2 safe.length c2,.slice a3 ops.length c3] 25 (0,0))):=(bw4.block (w.heap.size) (lt_of_block aDt7.out)).trans aDt7.out
 clear aDt7
 have N1t8:Hid (NewQ w4 wr1a.heap.size wr1c.heap.size y1 (pcells rl)):=N1t7.out.later bw4
 clear N1t7
 have N2t8:Hid (NewQ w4 wr1a.heap.size wr1c.heap.size y2 (pcells rs)):=N2t7.out.later bw4
 clear N2t7
 have N3t8:Hid (NewQ w4 wr1a.heap.size wr1c.heap.size y3 (dcells ro)):=N3t7.out.later bw4
 clear N3t7
 have bwt8:Hid (w4.heap[wr1c.heap.size]? = some (.cells #[.slice y1 rl.length yk1,.slice y2 rs.length yk2,.slice y3 ro.length yk3] 31 (0,0))):=(bw4.block (wr1c.heap.size) (lt_of_block bwt6.out)).trans bwt6.out
 clear bwt6
 have Bt8:Below w.heap.size w w4:=Bt7.trans (bw4.mono Bt7.size)
 clear Bt7
 have Ig:Hid (IsPairs w4 (some ⟨g1,0,none⟩) live∧IsPairs w4 (some ⟨g2,0,none⟩) safe∧IsDOps w4 (some ⟨g3,0,none⟩) ops):=⟨(isPairs_own go1).2.2,(isPairs_own go2).2.2,(isDOps_own go3).2.2⟩
 have Lg:Hid ((wr1c.alloc (.cells #[.slice y1 rl.length yk1,.slice y2 rs.length yk2,.slice y3 ro.length yk3] 31)).heap.size≤g1∧g1<g2∧g2<g3∧g3<w4.heap.size):=⟨(go1.lt _ rfl).1,ga,gb,(go3.lt _ rfl).2⟩
 have X1w4:Hid (w4.ownsRow (wr1c.alloc (.cells #[.slice y1 rl.length yk1,.slice y2 rs.length yk2,.slice y3 ro.length yk3] 31)).heap.size 84 2 (Value.slice (some ⟨g1,0,none⟩) live.length live.length) live.length (pcells live)):=go1
 have X2w4:Hid (w4.ownsRow (wr1c.alloc (.cells #[.slice y1 rl.length yk1,.slice y2 rs.length yk2,.slice y3 ro.length yk3] 31)).heap.size 84 2 (Value.slice (some ⟨g2,0,none⟩) safe.length safe.length) safe.length (pcells safe)):=go2
 have X3w4:Hid (w4.ownsRow (wr1c.alloc (.cells #[.slice y1 rl.length yk1,.slice y2 rs.length yk2,.slice y3 ro.length yk3] 31)).heap.size 40 4 (Value.slice (some ⟨g3,0,none⟩) ops.length ops.length) ops.length (dcells ops)):=go3
 clear go1 go2 go3 ga gb bw4
 have Xt9:Below w4.heap.size w4 (w4.alloc (.cells #[.slice (some ⟨g1,0,none⟩) live.length live.length,.slice (some ⟨g2,0,none⟩) safe.length safe.length,.slice (some ⟨g3,0,none⟩) ops.length ops.length] 31)):=(Below.refl _ _).alloc (Nat.le_refl _) _
 have aDt10:Hid ((w4.alloc (.cells #[.slice (some ⟨g1,0,none⟩) live.length live.length,.slice (some ⟨g2,0,none⟩) safe.length safe.length,.slice (some ⟨g3,0,none⟩) ops.length ops.length] 31)).heap[w.heap.size]? = some (.cells #[.slice a1 live.length c1,.slice a2 safe.length c2,.slice a3 ops.length c3] 25 (0,0))):=(Xt9.block (w.heap.size) (lt_of_block aDt8.out)).trans aDt8.out
 clear aDt8
 have N1t10:Hid (NewQ (w4.alloc (.cells #[.slice (some ⟨g1,0,none⟩) live.length live.length,.slice (some ⟨g2,0,none⟩) safe.length safe.length,.slice (some ⟨g3,0,none⟩) ops.length ops.length] 31)) wr1a.heap.size wr1c.heap.size y1 (pcells rl)):=N1t8.out.later Xt9
 clear N1t8
 have N2t10:Hid (NewQ (w4.alloc (.cells #[.slice (some ⟨g1,0,none⟩) live.length live.length,.slice (some ⟨g2,0,none⟩) safe.length safe.length,.slice (some ⟨g3,0,none⟩) ops.length ops.length] 31)) wr1a.heap.size wr1c.heap.size y2 (pcells rs)):=N2t8.out.later Xt9
 clear N2t8
 have N3t10:Hid (NewQ (w4.alloc (.cells #[.slice (some ⟨g1,0,none⟩) live.length live.length,.slice (some ⟨g2,0,none⟩) safe.length safe.length,.slice (some ⟨g3,0,none⟩) ops.length ops.length] 31)) wr1a.heap.size wr1c.heap.size y3 (dcells ro)):=N3t8.out.later Xt9
 clear N3t8
 have bwt10:Hid ((w4.alloc (.cells #[.slice (some ⟨g1,0,none⟩) live.length live.length,.slice (some ⟨g2,0,none⟩) safe.length safe.length,.slice (some ⟨g3,0,none⟩) ops.length ops.length] 31)).heap[wr1c.heap.size]? = some (.cells #[.slice y1 rl.length yk1,.slice y2 rs.length yk2,.slice y3 ro.length yk3] 31 (0,0))):=(Xt9.block (wr1c.heap.size) (lt_of_block bwt8.out)).trans bwt8.out
 clear bwt8
 have X1t10:Hid ((w4.alloc (.cells #[.slice (some ⟨g1,0,none⟩) live.length live.length,.slice (some ⟨g2,0,none⟩) safe.length safe.length,.slice (some ⟨g3,0,none⟩) ops.length ops.length] 31)).ownsRow (wr1c.alloc (.cells #[.slice y1 rl.length yk1,.slice y2 rs.length yk2,.slice y3 ro.length yk3] 31)).heap.size 84 2 (Value.slice (some ⟨g1,0,none⟩) live.length live.length) live.length (pcells live)):=kept2 X1w4.out Xt9
 clear X1w4
 have X2t10:Hid ((w4.alloc (.cells #[.slice (some ⟨g1,0,none⟩) live.length live.length,.slice (some ⟨g2,0,none⟩) safe.length safe.length,.slice (some ⟨g3,0,none⟩) ops.length ops.length] 31)).ownsRow (wr1c.alloc (.cells #[.slice y1 rl.length yk1,.slice y2 rs.length yk2,.slice y3 ro.length yk3] 31)).heap.size 84 2 (Value.slice (some ⟨g2,0,none⟩) safe.length safe.length) safe.length (pcells safe)):=kept2 X2w4.out Xt9
 clear X2w4
 have X3t10:Hid ((w4.alloc (.cells #[.slice (some ⟨g1,0,none⟩) live.length live.length,.slice (some ⟨g2,0,none⟩) safe.length safe.length,.slice (some ⟨g3,0,none⟩) ops.length ops.length] 31)).ownsRow (wr1c.alloc (.cells #[.slice y1 rl.length yk1,.slice y2 rs.length yk2,.slice y3 ro.length yk3] 31)).heap.size 40 4 (Value.slice (some ⟨g3,0,none⟩) ops.length ops.length) ops.length (dcells ops)):=kept4 X3w4.out Xt9
 clear X3w4
 have Bt10:Below w.heap.size w (w4.alloc (.cells #[.slice (some ⟨g1,0,none⟩) live.length live.length,.slice (some ⟨g2,0,none⟩) safe.length safe.length,.slice (some ⟨g3,0,none⟩) ops.length ops.length] 31)):=Bt8.trans (Xt9.mono Bt8.size)
 clear Bt8
 clear Xt9
 have bxt9:Hid ((w4.alloc (.cells #[.slice (some ⟨g1,0,none⟩) live.length live.length,.slice (some ⟨g2,0,none⟩) safe.length safe.length,.slice (some ⟨g3,0,none⟩) ops.length ops.length] 31)).heap[w4.heap.size]? = some (.cells #[.slice (some ⟨g1,0,none⟩) live.length live.length,.slice (some ⟨g2,0,none⟩) safe.length safe.length,.slice (some ⟨g3,0,none⟩) ops.length ops.length] 31 (0,0))):=heap_alloc_new w4 _
 clear Ig
 obtain⟨bx0,bx1,bx2,_⟩:=three_cells bxt9.out
 go_wp2_with fail
 refine (HH2.out g1 g2 g3 _ ⟨(isPairs_own X1t10.out).2.2,(isPairs_own X2t10.out).2.2,(isDOps_own X3t10.out).2.2⟩).mono ?_
 rintro e wr2c ⟨h1,h2,h3,hk1,hk2,hk3,rfl,n1,n2,n3,hap,b9⟩
 clear bx0 bx1 bx2
 have aDt11:Hid (wr2c.heap[w.heap.size]? = some (.cells #[.slice a1 live.length c1,.slice a2 safe.length c2,.slice a3 ops.length c3] 25 (0,0))):=(b9.block (w.heap.size) (lt_of_block aDt10.out)).trans aDt10.out
 clear aDt10
 have N1t11:Hid (NewQ wr2c wr1a.heap.size wr1c.heap.size y1 (pcells rl)):=N1t10.out.later b9
 clear N1t10
 have N2t11:Hid (NewQ wr2c wr1a.heap.size wr1c.heap.size y2 (pcells rs)):=N2t10.out.later b9
 clear N2t10
 have N3t11:Hid (NewQ wr2c wr1a.heap.size wr1c.heap.size y3 (dcells ro)):=N3t10.out.later b9
 clear N3t10
 have bwt11:Hid (wr2c.heap[wr1c.heap.size]? = some (.cells #[.slice y1 rl.length yk1,.slice y2 rs.length yk2,.slice y3 ro.length yk3] 31 (0,0))):=(b9.block (wr1c.heap.size) (lt_of_block bwt10.out)).trans bwt10.out
 clear bwt10
 have X1t11:Hid (wr2c.ownsRow (wr1c.alloc (.cells #[.slice y1 rl.length yk1,.slice y2 rs.length yk2,.slice y3 ro.length yk3] 31)).heap.size 84 2 (Value.slice (some ⟨g1,0,none⟩) live.length live.length) live.length (pcells live)):=kept2 X1t10.out b9
 clear X1t10
 have X2t11:Hid (wr2c.ownsRow (wr1c.alloc (.cells #[.slice y1 rl.length yk1,.slice y2 rs.length yk2,.slice y3 ro.length yk3] 31)).heap.size 84 2 (Value.slice (some ⟨g2,0,none⟩) safe.length safe.length) safe.length (pcells safe)):=kept2 X2t10.out b9
 clear X2t10
 have X3t11:Hid (wr2c.ownsRow (wr1c.alloc (.cells #[.slice y1 rl.length yk1,.slice y2 rs.length yk2,.slice y3 ro.length yk3] 31)).heap.size 40 4 (Value.slice (some ⟨g3,0,none⟩) ops.length ops.length) ops.length (dcells ops)):=kept4 X3t10.out b9
 clear X3t10
 have bxt11:Hid (wr2c.heap[w4.heap.size]? = some (.cells #[.slice (some ⟨g1,0,none⟩) live.length live.length,.slice (some ⟨g2,0,none⟩) safe.length safe.length,.slice (some ⟨g3,0,none⟩) ops.length ops.length] 31 (0,0))):=(b9.block (w4.heap.size) (lt_of_block bxt9.out)).trans bxt9.out
 clear bxt9
 have Bt11:Below w.heap.size w wr2c:=Bt10.trans (b9.mono Bt10.size)
 clear Bt10
 have G1w2:Hid (wr2c.ownsRow (w4.alloc (.cells #[.slice (some ⟨g1,0,none⟩) live.length live.length,.slice (some ⟨g2,0,none⟩) safe.length safe.length,.slice (some ⟨g3,0,none⟩) ops.length ops.length] 31)).heap.size 84 2 (Value.slice h1 rl.length hk1) rl.length (pcells rl)):=n1
 have LG1:Hid (∀ q,(Value.slice h1 rl.length hk1).ownBlock=some q→(w4.alloc (.cells #[.slice (some ⟨g1,0,none⟩) live.length live.length,.slice (some ⟨g2,0,none⟩) safe.length safe.length,.slice (some ⟨g3,0,none⟩) ops.length ops.length] 31)).heap.size≤q∧q<wr2c.heap.size):=fun q hq=>n1.lt q hq
 have G2w2:Hid (wr2c.ownsRow (w4.alloc (.cells #[.slice (some ⟨g1,0,none⟩) live.length live.length,.slice (some ⟨g2,0,none⟩) safe.length safe.length,.slice (some ⟨g3,0,none⟩) ops.length ops.length] 31)).heap.size 84 2 (Value.slice h2 rs.length hk2) rs.length (pcells rs)):=n2
 have LG2:Hid (∀ q,(Value.slice h2 rs.length hk2).ownBlock=some q→(w4.alloc (.cells #[.slice (some ⟨g1,0,none⟩) live.length live.length,.slice (some ⟨g2,0,none⟩) safe.length safe.length,.slice (some ⟨g3,0,none⟩) ops.length ops.length] 31)).heap.size≤q∧q<wr2c.heap.size):=fun q hq=>n2.lt q hq
 have G3w2:Hid (wr2c.ownsRow (w4.alloc (.cells #[.slice (some ⟨g1,0,none⟩) live.length live.length,.slice (some ⟨g2,0,none⟩) safe.length safe.length,.slice (some ⟨g3,0,none⟩) ops.length ops.length] 31)).heap.size 40 4 (Value.slice h3 ro.length hk3) ro.length (dcells ro)):=n3
 have LG3:Hid (∀ q,(Value.slice h3 ro.length hk3).ownBlock=some q→(w4.alloc (.cells #[.slice (some ⟨g1,0,none⟩) live.length live.length,.slice (some ⟨g2,0,none⟩) safe.length safe.length,.slice (some ⟨g3,0,none⟩) ops.length ops.length] 31)).heap.size≤q∧q<wr2c.heap.size):=fun q hq=>n3.lt q hq
 have AP:Hid (Apart3 (Value.slice h1 rl.length hk1) (Value.slice h2 rs.length hk2) (Value.slice h3 ro.length hk3)):=hap
 have ZB2:Hid ((w4.alloc (.cells #[.slice (some ⟨g1,0,none⟩) live.length live.length,.slice (some ⟨g2,0,none⟩) safe.length safe.length,.slice (some ⟨g3,0,none⟩) ops.length ops.length] 31)).heap.size≤wr2c.heap.size):=b9.size
 clear n1 n2 n3 b9 hap
 have Xt12:Below wr2c.heap.size wr2c (wr2c.alloc (.cells #[.slice h1 rl.length hk1,.slice h2 rs.length hk2,.slice h3 ro.length hk3] 31)):=(Below.refl _ _).alloc (Nat.le_refl _) _
 have aDt13:Hid ((wr2c.alloc (.cells #[.slice h1 rl.length hk1,.slice h2 rs.length hk2,.slice h3 ro.length hk3] 31)).heap[w.heap.size]? = some (.cells #[.slice a1 live.length c1,.slice a2 safe.length c2,.slice a3 ops.length c3] 25 (0,0))):=(Xt12.block (w.heap.size) (lt_of_block aDt11.out)).trans aDt11.out
 clear aDt11
 have N1t13:Hid (NewQ (wr2c.alloc (.cells #[.slice h1 rl.length hk1,.slice h2 rs.length hk2,.slice h3 ro.length hk3] 31)) wr1a.heap.size wr1c.heap.size y1 (pcells rl)):=N1t11.out.later Xt12
 clear N1t11
 have N2t13:Hid (NewQ (wr2c.alloc (.cells #[.slice h1 rl.length hk1,.slice h2 rs.length hk2,.slice h3 ro.length hk3] 31)) wr1a.heap.size wr1c.heap.size y2 (pcells rs)):=N2t11.out.later Xt12
 clear N2t11
 have N3t13:Hid (NewQ (wr2c.alloc (.cells #[.slice h1 rl.length hk1,.slice h2 rs.length hk2,.slice h3 ro.length hk3] 31)) wr1a.heap.size wr1c.heap.size y3 (dcells ro)):=N3t11.out.later Xt12
 clear N3t11
 have bwt13:Hid ((wr2c.alloc (.cells #[.slice h1 rl.length hk1,.slice h2 rs.length hk2,.slice h3 ro.length hk3] 31)).heap[wr1c.heap.size]? = some (.cells #[.slice y1 rl.length yk1,.slice y2 rs.length yk2,.slice y3 ro.length yk3] 31 (0,0))):=(Xt12.block (wr1c.heap.size) (lt_of_block bwt11.out)).trans bwt11.out
 clear bwt11
 have X1t13:Hid ((wr2c.alloc (.cells #[.slice h1 rl.length hk1,.slice h2 rs.length hk2,.slice h3 ro.length hk3] 31)).ownsRow (wr1c.alloc (.cells #[.slice y1 rl.length yk1,.slice y2 rs.length yk2,.slice y3 ro.length yk3] 31)).heap.size 84 2 (Value.slice (some ⟨g1,0,none⟩) live.length live.length) live.length (pcells live)):=kept2 X1t11.out Xt12
 clear X1t11
 have X2t13:Hid ((wr2c.alloc (.cells #[.slice h1 rl.length hk1,.slice h2 rs.length hk2,.slice h3 ro.length hk3] 31)).ownsRow (wr1c.alloc (.cells #[.slice y1 rl.length yk1,.slice y2 rs.length yk2,.slice y3 ro.length yk3] 31)).heap.size 84 2 (Value.slice (some ⟨g2,0,none⟩) safe.length safe.length) safe.length (pcells safe)):=kept2 X2t11.out Xt12
 clear X2t11
 have X3t13:Hid ((wr2c.alloc (.cells #[.slice h1 rl.length hk1,.slice h2 rs.length hk2,.slice h3 ro.length hk3] 31)).ownsRow (wr1c.alloc (.cells #[.slice y1 rl.length yk1,.slice y2 rs.length yk2,.slice y3 ro.length yk3] 31)).heap.size 40 4 (Value.slice (some ⟨g3,0,none⟩) ops.length ops.length) ops.length (dcells ops)):=kept4 X3t11.out Xt12
 clear X3t11
 have bxt13:Hid ((wr2c.alloc (.cells #[.slice h1 rl.length hk1,.slice h2 rs.length hk2,.slice h3 ro.length hk3] 31)).heap[w4.heap.size]? = some (.cells #[.slice (some ⟨g1,0,none⟩) live.length live.length,.slice (some ⟨g2,0,none⟩) safe.length safe.length,.slice (some ⟨g3,0,none⟩) ops.length ops.length] 31 (0,0))):=(Xt12.block (w4.heap.size) (lt_of_block bxt11.out)).trans bxt11.out
 clear bxt11
 have G1t13:Hid ((wr2c.alloc (.cells #[.slice h1 rl.length hk1,.slice h2 rs.length hk2,.slice h3 ro.length hk3] 31)).ownsRow (w4.alloc (.cells #[.slice (some ⟨g1,0,none⟩) live.length live.length,.slice (some ⟨g2,0,none⟩) safe.length safe.length,.slice (some ⟨g3,0,none⟩) ops.length ops.length] 31)).heap.size 84 2 (Value.slice h1 rl.length hk1) rl.length (pcells rl)):=kept2 G1w2.out Xt12
 clear G1w2
 have G2t13:Hid ((wr2c.alloc (.cells #[.slice h1 rl.length hk1,.slice h2 rs.length hk2,.slice h3 ro.length hk3] 31)).ownsRow (w4.alloc (.cells #[.slice (some ⟨g1,0,none⟩) live.length live.length,.slice (some ⟨g2,0,none⟩) safe.length safe.length,.slice (some ⟨g3,0,none⟩) ops.length ops.length] 31)).heap.size 84 2 (Value.slice h2 rs.length hk2) rs.length (pcells rs)):=kept2 G2w2.out Xt12
 clear G2w2
 have G3t13:Hid ((wr2c.alloc (.cells #[.slice h1 rl.length hk1,.slice h2 rs.length hk2,.slice h3 ro.length hk3] 31)).ownsRow (w4.alloc (.cells #[.slice (some ⟨g1,0,none⟩) live.length live.length,.slice (some ⟨g2,0,none⟩) safe.length safe.length,.slice (some ⟨g3,0,none⟩) ops.length ops.length] 31)).heap.size 40 4 (Value.slice h3 ro.length hk3) ro.length (dcells ro)):=kept4 G3w2.out Xt12
 clear G3w2
 have Bt13:Below w.heap.size w (wr2c.alloc (.cells #[.slice h1 rl.length hk1,.slice h2 rs.length hk2,.slice h3 ro.length hk3] 31)):=Bt11.trans (Xt12.mono Bt11.size)
 clear Bt11
 clear Xt12
 have bgt12:Hid ((wr2c.alloc (.cells #[.slice h1 rl.length hk1,.slice h2 rs.length hk2,.slice h3 ro.length hk3] 31)).heap[wr2c.heap.size]? = some (.cells #[.slice h1 rl.length hk1,.slice h2 rs.length hk2,.slice h3 ro.length hk3] 31 (0,0))):=heap_alloc_new wr2c _
 have Z3:Hid (wr1a.heap.size≤wr1c.heap.size∧(wr1c.alloc (.cells #[.slice y1 rl.length yk1,.slice y2 rs.length yk2,.slice y3 ro.length yk3] 31)).heap.size=wr1c.heap.size+1∧(w4.alloc (.cells #[.slice (some ⟨g1,0,none⟩) live.length live.length,.slice (some ⟨g2,0,none⟩) safe.length safe.length,.slice (some ⟨g3,0,none⟩) ops.length ops.length] 31)).heap.size=w4.heap.size+1∧(w4.alloc (.cells #[.slice (some ⟨g1,0,none⟩) live.length live.length,.slice (some ⟨g2,0,none⟩) safe.length safe.length,.slice (some ⟨g3,0,none⟩) ops.length ops.length] 31)).heap.size≤wr2c.heap.size∧w.heap.size<wr1a.heap.size):=⟨ZB1.out,by simp,by simp,ZB2.out,ZW0.out⟩
 obtain⟨bg0,bg1,bg2,_⟩:=three_cells bgt12.out
 obtain⟨bw0,bw1,bw2,_⟩:=three_cells bwt13.out
 go_wp2_with fail
 refine (eqDisk_same rl rs ro _ _ _ _ _ _ _ _ _ _ _ _ _ (by omega) (by omega) (by omega) ⟨(isPairs_own G1t13.out).2.2,N1t13.out.1.pairs⟩ ⟨(isPairs_own G2t13.out).2.2,N2t13.out.1.pairs⟩ ⟨(isDOps_own G3t13.out).2.2,N3t13.out.1.dops⟩).mono ?_
 rintro e w7 ⟨rfl,b9⟩
 clear bg0 bg1 bg2
 clear bw0 bw1 bw2
 have aDt14:Hid (w7.heap[w.heap.size]? = some (.cells #[.slice a1 live.length c1,.slice a2 safe.length c2,.slice a3 ops.length c3] 25 (0,0))):=(b9.block (w.heap.size) (lt_of_block aDt13.out)).trans aDt13.out
 clear aDt13
 have N1t14:Hid (NewQ w7 wr1a.heap.size wr1c.heap.size y1 (pcells rl)):=N1t13.out.later b9
 clear N1t13
 have N2t14:Hid (NewQ w7 wr1a.heap.size wr1c.heap.size y2 (pcells rs)):=N2t13.out.later b9
 clear N2t13
 have N3t14:Hid (NewQ w7 wr1a.heap.size wr1c.heap.size y3 (dcells ro)):=N3t13.out.later b9
 clear N3t13
 have bwt14:Hid (w7.heap[wr1c.heap.size]? = some (.cells #[.slice y1 rl.length yk1,.slice y2 rs.length yk2,.slice y3 ro.length yk3] 31 (0,0))):=(b9.block (wr1c.heap.size) (lt_of_block bwt13.out)).trans bwt13.out
 clear bwt13
 have X1t14:Hid (w7.ownsRow (wr1c.alloc (.cells #[.slice y1 rl.length yk1,.slice y2 rs.length yk2,.slice y3 ro.length yk3] 31)).heap.size 84 2 (Value.slice (some ⟨g1,0,none⟩) live.length live.length) live.length (pcells live)):=kept2 X1t13.out b9
 clear X1t13
 have X2t14:Hid (w7.ownsRow (wr1c.alloc (.cells #[.slice y1 rl.length yk1,.slice y2 rs.length yk2,.slice y3 ro.length yk3] 31)).heap.size 84 2 (Value.slice (some ⟨g2,0,none⟩) safe.length safe.length) safe.length (pcells safe)):=kept2 X2t13.out b9
 clear X2t13
 have X3t14:Hid (w7.ownsRow (wr1c.alloc (.cells #[.slice y1 rl.length yk1,.slice y2 rs.length yk2,.slice y3 ro.length yk3] 31)).heap.size 40 4 (Value.slice (some ⟨g3,0,none⟩) ops.length ops.length) ops.length (dcells ops)):=kept4 X3t13.out b9
 clear X3t13
 have bxt14:Hid (w7.heap[w4.heap.size]? = some (.cells #[.slice (some ⟨g1,0,none⟩) live.length live.length,.slice (some ⟨g2,0,none⟩) safe.length safe.length,.slice (some ⟨g3,0,none⟩) ops.length ops.length] 31 (0,0))):=(b9.block (w4.heap.size) (lt_of_block bxt13.out)).trans bxt13.out
 clear bxt13
 have G1t14:Hid (w7.ownsRow (w4.alloc (.cells #[.slice (some ⟨g1,0,none⟩) live.length live.length,.slice (some ⟨g2,0,none⟩) safe.length safe.length,.slice (some ⟨g3,0,none⟩) ops.length ops.length] 31)).heap.size 84 2 (Value.slice h1 rl.length hk1) rl.length (pcells rl)):=kept2 G1t13.out b9
 clear G1t13
 have G2t14:Hid (w7.ownsRow (w4.alloc (.cells #[.slice (some ⟨g1,0,none⟩) live.length live.length,.slice (some ⟨g2,0,none⟩) safe.length safe.length,.slice (some ⟨g3,0,none⟩) ops.length ops.length] 31)).heap.size 84 2 (Value.slice h2 rs.length hk2) rs.length (pcells rs)):=kept2 G2t13.out b9
 clear G2t13
 have G3t14:Hid (w7.ownsRow (w4.alloc (.cells #[.slice (some ⟨g1,0,none⟩) live.length live.length,.slice (some ⟨g2,0,none⟩) safe.length safe.length,.slice (some ⟨g3,0,none⟩) ops.length ops.length] 31)).heap.size 40 4 (Value.slice h3 ro.length hk3) ro.length (dcells ro)):=kept4 G3t13.out b9
 clear G3t13
 have bgt14:Hid (w7.heap[wr2c.heap.size]? = some (.cells #[.slice h1 rl.length hk1,.slice h2 rs.length hk2,.slice h3 ro.length hk3] 31 (0,0))):=(b9.block (wr2c.heap.size) (lt_of_block bgt12.out)).trans bgt12.out
 clear bgt12
 have Bt14:Below w.heap.size w w7:=Bt13.trans (b9.mono Bt13.size)
 clear Bt13
 clear b9
 have SB:Hid (∀ W,Below w7.heap.size w7 W→W.cell? ⟨w.heap.size,0,none⟩=some (.slice a1 live.length c1)∧W.cell? ⟨w.heap.size,1,none⟩=some (.slice a2 safe.length c2)∧W.cell? ⟨w.heap.size,2,none⟩=some (.slice a3 ops.length c3)∧W.cell? ⟨w4.heap.size,0,none⟩=some (.slice (some ⟨g1,0,none⟩) live.length live.length)∧W.cell? ⟨w4.heap.size,1,none⟩=some (.slice (some ⟨g2,0,none⟩) safe.length safe.length)∧W.cell? ⟨w4.heap.size,2,none⟩=some (.slice (some ⟨g3,0,none⟩) ops.length ops.length)):=fun W hW=>by
  obtain⟨u0,u1,u2,_⟩:=three_cells ((hW.block _ (lt_of_block aDt14.out)).trans aDt14.out)
  obtain⟨v0,v1,v2,_⟩:=three_cells ((hW.block _ (lt_of_block bxt14.out)).trans bxt14.out)
  exact⟨u0,u1,u2,v0,v1,v2⟩
 have BD:Below w7.heap.size w7 w7.drew:=⟨rfl,rfl,rfl,Nat.le_refl _,fun _ _=>rfl⟩
 have WD:Below w.heap.size w w7.drew:=Bt14.trans (BD.mono Bt14.size)
 go_wp2
 go_region_held3 (fun w'=>w'.cell? ⟨w.heap.size,0,none⟩=some (.slice a1 live.length c1)∧w'.cell? ⟨w.heap.size,1,none⟩=some (.slice a2 safe.length c2)∧w'.cell? ⟨w.heap.size,2,none⟩=some (.slice a3 ops.length c3)∧w'.cell? ⟨w4.heap.size,0,none⟩=some (.slice (some ⟨g1,0,none⟩) live.length live.length)∧w'.cell? ⟨w4.heap.size,1,none⟩=some (.slice (some ⟨g2,0,none⟩) safe.length safe.length)∧w'.cell? ⟨w4.heap.size,2,none⟩=some (.slice (some ⟨g3,0,none⟩) ops.length ops.length)) (first | with_reducible exact SB.out _ BC2 | with_reducible exact SB.out _ BC1 | with_reducible exact SB.out _ BD)
  (first
   | (go_at_call 14
      with_reducible refine (HTN.out w7.drew WD).mono ?_
      rintro e wc1 ⟨v1,v2,v3,rfl,_,_,vo1,vo2,vo3,b7⟩
      have BC1:Below w7.heap.size w7 wc1:=BD.trans (b7.mono BD.size)
      have J1:Hid ((IsPairs wc1 (some ⟨g1,0,none⟩) live∧IsPairs wc1 (some ⟨g2,0,none⟩) safe∧IsDOps wc1 (some ⟨g3,0,none⟩) ops)∧(IsPairs wc1 (some ⟨v1,0,none⟩) live∧IsPairs wc1 (some ⟨v2,0,none⟩) safe∧IsDOps wc1 (some ⟨v3,0,none⟩) ops)):=⟨⟨(isPairs_own (kept2 X1t14.out BC1)).2.2,(isPairs_own (kept2 X2t14.out BC1)).2.2,(isDOps_own (kept4 X3t14.out BC1)).2.2⟩,⟨(isPairs_own vo1).2.2,(isPairs_own vo2).2.2,(isDOps_own vo3).2.2⟩⟩
      clear vo1 vo2 vo3 b7)
   | (go_at_call 16
      with_reducible refine (eqDisk_same live safe ops (some ⟨g1,0,none⟩) (some ⟨g2,0,none⟩) (some ⟨g3,0,none⟩) (some ⟨v1,0,none⟩) (some ⟨v2,0,none⟩) (some ⟨v3,0,none⟩) live.length safe.length ops.length live.length safe.length ops.length wc1 (by omega) (by omega) (by omega) ⟨J1.out.1.1,J1.out.2.1⟩ ⟨J1.out.1.2.1,J1.out.2.2.1⟩ ⟨J1.out.1.2.2,J1.out.2.2.2⟩).mono ?_
      rintro e wc2 ⟨rfl,b8⟩
      have BC2:Below w7.heap.size w7 wc2:=BC1.trans (b8.mono BC1.size)
      clear b8))
 all_goals clear SB BD WD J1
 all_goals
  have b9:=BC2
  clear BC1 BC2
  have aDt15:Hid (wc2.heap[w.heap.size]? = some (.cells #[.slice a1 live.length c1,.slice a2 safe.length c2,.slice a3 ops.length c3] 25 (0,0))):=(b9.block (w.heap.size) (lt_of_block aDt14.out)).trans aDt14.out
  clear aDt14
  have N1t15:Hid (NewQ wc2 wr1a.heap.size wr1c.heap.size y1 (pcells rl)):=N1t14.out.later b9
  clear N1t14
  have N2t15:Hid (NewQ wc2 wr1a.heap.size wr1c.heap.size y2 (pcells rs)):=N2t14.out.later b9
  clear N2t14
  have N3t15:Hid (NewQ wc2 wr1a.heap.size wr1c.heap.size y3 (dcells ro)):=N3t14.out.later b9
  clear N3t14
  have bwt15:Hid (wc2.heap[wr1c.heap.size]? = some (.cells #[.slice y1 rl.length yk1,.slice y2 rs.length yk2,.slice y3 ro.length yk3] 31 (0,0))):=(b9.block (wr1c.heap.size) (lt_of_block bwt14.out)).trans bwt14.out
  clear bwt14
  have X1t15:Hid (wc2.ownsRow (wr1c.alloc (.cells #[.slice y1 rl.length yk1,.slice y2 rs.length yk2,.slice y3 ro.length yk3] 31)).heap.size 84 2 (Value.slice (some ⟨g1,0,none⟩) live.length live.length) live.length (pcells live)):=kept2 X1t14.out b9
  clear X1t14
  have X2t15:Hid (wc2.ownsRow (wr1c.alloc (.cells #[.slice y1 rl.length yk1,.slice y2 rs.length yk2,.slice y3 ro.length yk3] 31)).heap.size 84 2 (Value.slice (some ⟨g2,0,none⟩) safe.length safe.length) safe.length (pcells safe)):=kept2 X2t14.out b9
  clear X2t14
  have X3t15:Hid (wc2.ownsRow (wr1c.alloc (.cells #[.slice y1 rl.length yk1,.slice y2 rs.length yk2,.slice y3 ro.length yk3] 31)).heap.size 40 4 (Value.slice (some ⟨g3,0,none⟩) ops.length ops.length) ops.length (dcells ops)):=kept4 X3t14.out b9
  clear X3t14
  have bxt15:Hid (wc2.heap[w4.heap.size]? = some (.cells #[.slice (some ⟨g1,0,none⟩) live.length live.length,.slice (some ⟨g2,0,none⟩) safe.length safe.length,.slice (some ⟨g3,0,none⟩) ops.length ops.length] 31 (0,0))):=(b9.block (w4.heap.size) (lt_of_block bxt14.out)).trans bxt14.out
  clear bxt14
  have G1t15:Hid (wc2.ownsRow (w4.alloc (.cells #[.slice (some ⟨g1,0,none⟩) live.length live.length,.slice (some ⟨g2,0,none⟩) safe.length safe.length,.slice (some ⟨g3,0,none⟩) ops.length ops.length] 31)).heap.size 84 2 (Value.slice h1 rl.length hk1) rl.length (pcells rl)):=kept2 G1t14.out b9
  clear G1t14
  have G2t15:Hid (wc2.ownsRow (w4.alloc (.cells #[.slice (some ⟨g1,0,none⟩) live.length live.length,.slice (some ⟨g2,0,none⟩) safe.length safe.length,.slice (some ⟨g3,0,none⟩) ops.length ops.length] 31)).heap.size 84 2 (Value.slice h2 rs.length hk2) rs.length (pcells rs)):=kept2 G2t14.out b9
  clear G2t14
  have G3t15:Hid (wc2.ownsRow (w4.alloc (.cells #[.slice (some ⟨g1,0,none⟩) live.length live.length,.slice (some ⟨g2,0,none⟩) safe.length safe.length,.slice (some ⟨g3,0,none⟩) ops.length ops.length] 31)).heap.size 40 4 (Value.slice h3 ro.length hk3) ro.length (dcells ro)):=kept4 G3t14.out b9
  clear G3t14
  have bgt15:Hid (wc2.heap[wr2c.heap.size]? = some (.cells #[.slice h1 rl.length hk1,.slice h2 rs.length hk2,.slice h3 ro.length hk3] 31 (0,0))):=(b9.block (wr2c.heap.size) (lt_of_block bgt14.out)).trans bgt14.out
  clear bgt14
  have Bt15:Below w.heap.size w wc2:=Bt14.trans (b9.mono Bt14.size)
  clear Bt14
  clear b9
  obtain⟨bx0,bx1,bx2,_⟩:=three_cells bxt15.out
  have KM:=markDisk_any live safe ops (some ⟨g1,0,none⟩) (some ⟨g2,0,none⟩) (some ⟨g3,0,none⟩) live.length live.length safe.length safe.length ops.length ops.length (wr1c.alloc (.cells #[.slice y1 rl.length yk1,.slice y2 rs.length yk2,.slice y3 ro.length yk3] 31)).heap.size 1 wc2 (by omega) (by omega) (by omega) (by omega) (by omega) (fun q=>by have hlg:=Lg.out;exact⟨fun h=>⟨fun h2=>by simp[Value.ownBlock] at h h2;omega,fun h2=>by simp[Value.ownBlock] at h h2;omega⟩,fun h h2=>by simp[Value.ownBlock] at h h2;omega⟩) X1t15.out X2t15.out X3t15.out
  have mk0:¬ ((1:Nat):Int)+2*(live.length:Int)+2*(safe.length:Int)+4*(ops.length:Int)<0:=by omega
  have mk1:¬ (1:Int)+2*(live.length:Int)+2*(safe.length:Int)+4*(ops.length:Int)<0:=by omega
  have mk2:decide ((1:Int)+2*(live.length:Int)+2*(safe.length:Int)+4*(ops.length:Int)<0)=false:=decide_eq_false mk1
  go_wp2_with fail
  refine KM.mono ?_
  rintro e wm3 ⟨rfl,mo1,mo2,mo3,wm1,wm2,gr1,gr2,gr3⟩
  clear KM
  clear bx0 bx1 bx2
  clear X1t15
  clear X2t15
  clear X3t15
  have aDt16:Hid (wm1.heap[w.heap.size]? = some (.cells #[.slice a1 live.length c1,.slice a2 safe.length c2,.slice a3 ops.length c3] 25 (0,0))):=(gr1.block (w.heap.size) (lt_of_block aDt15.out) (fun e=>by have hz3:=Z3.out;have hlg:=Lg.out;have hg1:=LG1.out;have hg2:=LG2.out;have hg3:=LG3.out;have hap:=AP.out;simp[Value.ownBlock] at e;omega)).trans aDt15.out
  clear aDt15
  have N1t16:Hid (NewQ wm1 wr1a.heap.size wr1c.heap.size y1 (pcells rl)):=N1t15.out.kept gr1 (fun q h1 h2 e=>by have hz3:=Z3.out;have hlg:=Lg.out;have hg1:=LG1.out;have hg2:=LG2.out;have hg3:=LG3.out;have hap:=AP.out;simp[Value.ownBlock] at e;omega)
  clear N1t15
  have N2t16:Hid (NewQ wm1 wr1a.heap.size wr1c.heap.size y2 (pcells rs)):=N2t15.out.kept gr1 (fun q h1 h2 e=>by have hz3:=Z3.out;have hlg:=Lg.out;have hg1:=LG1.out;have hg2:=LG2.out;have hg3:=LG3.out;have hap:=AP.out;simp[Value.ownBlock] at e;omega)
  clear N2t15
  have N3t16:Hid (NewQ wm1 wr1a.heap.size wr1c.heap.size y3 (dcells ro)):=N3t15.out.kept gr1 (fun q h1 h2 e=>by have hz3:=Z3.out;have hlg:=Lg.out;have hg1:=LG1.out;have hg2:=LG2.out;have hg3:=LG3.out;have hap:=AP.out;simp[Value.ownBlock] at e;omega)
  clear N3t15
  have bwt16:Hid (wm1.heap[wr1c.heap.size]? = some (.cells #[.slice y1 rl.length yk1,.slice y2 rs.length yk2,.slice y3 ro.length yk3] 31 (0,0))):=(gr1.block (wr1c.heap.size) (lt_of_block bwt15.out) (fun e=>by have hz3:=Z3.out;have hlg:=Lg.out;have hg1:=LG1.out;have hg2:=LG2.out;have hg3:=LG3.out;have hap:=AP.out;simp[Value.ownBlock] at e;omega)).trans bwt15.out
  clear bwt15
  have bxt16:Hid (wm1.heap[w4.heap.size]? = some (.cells #[.slice (some ⟨g1,0,none⟩) live.length live.length,.slice (some ⟨g2,0,none⟩) safe.length safe.length,.slice (some ⟨g3,0,none⟩) ops.length ops.length] 31 (0,0))):=(gr1.block (w4.heap.size) (lt_of_block bxt15.out) (fun e=>by have hz3:=Z3.out;have hlg:=Lg.out;have hg1:=LG1.out;have hg2:=LG2.out;have hg3:=LG3.out;have hap:=AP.out;simp[Value.ownBlock] at e;omega)).trans bxt15.out
  clear bxt15
  have G1t16:Hid (wm1.ownsRow (w4.alloc (.cells #[.slice (some ⟨g1,0,none⟩) live.length live.length,.slice (some ⟨g2,0,none⟩) safe.length safe.length,.slice (some ⟨g3,0,none⟩) ops.length ops.length] 31)).heap.size 84 2 (Value.slice h1 rl.length hk1) rl.length (pcells rl)):=G1t15.out.kept gr1 (by
   cases hv:(Value.slice h1 rl.length hk1).ownBlock with
   | none=>exact .inl rfl
   | some q=>exact .inr (fun e=>by have hz3:=Z3.out;have hlg:=Lg.out;have hg1:=LG1.out;have hg2:=LG2.out;have hg3:=LG3.out;have hap:=AP.out;simp[Value.ownBlock] at e;have:=hg1 q hv;omega))
  clear G1t15
  have G2t16:Hid (wm1.ownsRow (w4.alloc (.cells #[.slice (some ⟨g1,0,none⟩) live.length live.length,.slice (some ⟨g2,0,none⟩) safe.length safe.length,.slice (some ⟨g3,0,none⟩) ops.length ops.length] 31)).heap.size 84 2 (Value.slice h2 rs.length hk2) rs.length (pcells rs)):=G2t15.out.kept gr1 (by
   cases hv:(Value.slice h2 rs.length hk2).ownBlock with
   | none=>exact .inl rfl
   | some q=>exact .inr (fun e=>by have hz3:=Z3.out;have hlg:=Lg.out;have hg1:=LG1.out;have hg2:=LG2.out;have hg3:=LG3.out;have hap:=AP.out;simp[Value.ownBlock] at e;have:=hg2 q hv;omega))
  clear G2t15
  have G3t16:Hid (wm1.ownsRow (w4.alloc (.cells #[.slice (some ⟨g1,0,none⟩) live.length live.length,.slice (some ⟨g2,0,none⟩) safe.length safe.length,.slice (some ⟨g3,0,none⟩) ops.length ops.length] 31)).heap.size 40 4 (Value.slice h3 ro.length hk3) ro.length (dcells ro)):=G3t15.out.kept gr1 (by
   cases hv:(Value.slice h3 ro.length hk3).ownBlock with
   | none=>exact .inl rfl
   | some q=>exact .inr (fun e=>by have hz3:=Z3.out;have hlg:=Lg.out;have hg1:=LG1.out;have hg2:=LG2.out;have hg3:=LG3.out;have hap:=AP.out;simp[Value.ownBlock] at e;have:=hg3 q hv;omega))
  clear G3t15
  have bgt16:Hid (wm1.heap[wr2c.heap.size]? = some (.cells #[.slice h1 rl.length hk1,.slice h2 rs.length hk2,.slice h3 ro.length hk3] 31 (0,0))):=(gr1.block (wr2c.heap.size) (lt_of_block bgt15.out) (fun e=>by have hz3:=Z3.out;have hlg:=Lg.out;have hg1:=LG1.out;have hg2:=LG2.out;have hg3:=LG3.out;have hap:=AP.out;simp[Value.ownBlock] at e;omega)).trans bgt15.out
  clear bgt15
  have Bt16:Below w.heap.size w wm1:=Bt15.grown gr1 Bt15.size (fun q hq=>by have hz3:=Z3.out;have hlg:=Lg.out;have hg1:=LG1.out;have hg2:=LG2.out;have hg3:=LG3.out;have hap:=AP.out;simp[Value.ownBlock] at hq;omega)
  clear Bt15
  have aDt17:Hid (wm2.heap[w.heap.size]? = some (.cells #[.slice a1 live.length c1,.slice a2 safe.length c2,.slice a3 ops.length c3] 25 (0,0))):=(gr2.block (w.heap.size) (lt_of_block aDt16.out) (fun e=>by have hz3:=Z3.out;have hlg:=Lg.out;have hg1:=LG1.out;have hg2:=LG2.out;have hg3:=LG3.out;have hap:=AP.out;simp[Value.ownBlock] at e;omega)).trans aDt16.out
  clear aDt16
  have N1t17:Hid (NewQ wm2 wr1a.heap.size wr1c.heap.size y1 (pcells rl)):=N1t16.out.kept gr2 (fun q h1 h2 e=>by have hz3:=Z3.out;have hlg:=Lg.out;have hg1:=LG1.out;have hg2:=LG2.out;have hg3:=LG3.out;have hap:=AP.out;simp[Value.ownBlock] at e;omega)
  clear N1t16
  have N2t17:Hid (NewQ wm2 wr1a.heap.size wr1c.heap.size y2 (pcells rs)):=N2t16.out.kept gr2 (fun q h1 h2 e=>by have hz3:=Z3.out;have hlg:=Lg.out;have hg1:=LG1.out;have hg2:=LG2.out;have hg3:=LG3.out;have hap:=AP.out;simp[Value.ownBlock] at e;omega)
  clear N2t16
  have N3t17:Hid (NewQ wm2 wr1a.heap.size wr1c.heap.size y3 (dcells ro)):=N3t16.out.kept gr2 (fun q h1 h2 e=>by have hz3:=Z3.out;have hlg:=Lg.out;have hg1:=LG1.out;have hg2:=LG2.out;have hg3:=LG3.out;have hap:=AP.out;simp[Value.ownBlock] at e;omega)
  clear N3t16
  have bwt17:Hid (wm2.heap[wr1c.heap.size]? = some (.cells #[.slice y1 rl.length yk1,.slice y2 rs.length yk2,.slice y3 ro.length yk3] 31 (0,0))):=(gr2.block (wr1c.heap.size) (lt_of_block bwt16.out) (fun e=>by have hz3:=Z3.out;have hlg:=Lg.out;have hg1:=LG1.out;have hg2:=LG2.out;have hg3:=LG3.out;have hap:=AP.out;simp[Value.ownBlock] at e;omega)).trans bwt16.out
  clear bwt16
  have bxt17:Hid (wm2.heap[w4.heap.size]? = some (.cells #[.slice (some ⟨g1,0,none⟩) live.length live.length,.slice (some ⟨g2,0,none⟩) safe.length safe.length,.slice (some ⟨g3,0,none⟩) ops.length ops.length] 31 (0,0))):=(gr2.block (w4.heap.size) (lt_of_block bxt16.out) (fun e=>by have hz3:=Z3.out;have hlg:=Lg.out;have hg1:=LG1.out;have hg2:=LG2.out;have hg3:=LG3.out;have hap:=AP.out;simp[Value.ownBlock] at e;omega)).trans bxt16.out
  clear bxt16
  have G1t17:Hid (wm2.ownsRow (w4.alloc (.cells #[.slice (some ⟨g1,0,none⟩) live.length live.length,.slice (some ⟨g2,0,none⟩) safe.length safe.length,.slice (some ⟨g3,0,none⟩) ops.length ops.length] 31)).heap.size 84 2 (Value.slice h1 rl.length hk1) rl.length (pcells rl)):=G1t16.out.kept gr2 (by
   cases hv:(Value.slice h1 rl.length hk1).ownBlock with
   | none=>exact .inl rfl
   | some q=>exact .inr (fun e=>by have hz3:=Z3.out;have hlg:=Lg.out;have hg1:=LG1.out;have hg2:=LG2.out;have hg3:=LG3.out;have hap:=AP.out;simp[Value.ownBlock] at e;have:=hg1 q hv;omega))
  clear G1t16
  have G2t17:Hid (wm2.ownsRow (w4.alloc (.cells #[.slice (some ⟨g1,0,none⟩) live.length live.length,.slice (some ⟨g2,0,none⟩) safe.length safe.length,.slice (some ⟨g3,0,none⟩) ops.length ops.length] 31)).heap.size 84 2 (Value.slice h2 rs.length hk2) rs.length (pcells rs)):=G2t16.out.kept gr2 (by
   cases hv:(Value.slice h2 rs.length hk2).ownBlock with
   | none=>exact .inl rfl
   | some q=>exact .inr (fun e=>by have hz3:=Z3.out;have hlg:=Lg.out;have hg1:=LG1.out;have hg2:=LG2.out;have hg3:=LG3.out;have hap:=AP.out;simp[Value.ownBlock] at e;have:=hg2 q hv;omega))
  clear G2t16
  have G3t17:Hid (wm2.ownsRow (w4.alloc (.cells #[.slice (some ⟨g1,0,none⟩) live.length live.length,.slice (some ⟨g2,0,none⟩) safe.length safe.length,.slice (some ⟨g3,0,none⟩) ops.length ops.length] 31)).heap.size 40 4 (Value.slice h3 ro.length hk3) ro.length (dcells ro)):=G3t16.out.kept gr2 (by
   cases hv:(Value.slice h3 ro.length hk3).ownBlock with
   | none=>exact .inl rfl
   | some q=>exact .inr (fun e=>by have hz3:=Z3.out;have hlg:=Lg.out;have hg1:=LG1.out;have hg2:=LG2.out;have hg3:=LG3.out;have hap:=AP.out;simp[Value.ownBlock] at e;have:=hg3 q hv;omega))
  clear G3t16
  have bgt17:Hid (wm2.heap[wr2c.heap.size]? = some (.cells #[.slice h1 rl.length hk1,.slice h2 rs.length hk2,.slice h3 ro.length hk3] 31 (0,0))):=(gr2.block (wr2c.heap.size) (lt_of_block bgt16.out) (fun e=>by have hz3:=Z3.out;have hlg:=Lg.out;have hg1:=LG1.out;have hg2:=LG2.out;have hg3:=LG3.out;have hap:=AP.out;simp[Value.ownBlock] at e;omega)).trans bgt16.out
  clear bgt16
  have Bt17:Below w.heap.size w wm2:=Bt16.grown gr2 Bt16.size (fun q hq=>by have hz3:=Z3.out;have hlg:=Lg.out;have hg1:=LG1.out;have hg2:=LG2.out;have hg3:=LG3.out;have hap:=AP.out;simp[Value.ownBlock] at hq;omega)
  clear Bt16
  have aDt18:Hid (wm3.heap[w.heap.size]? = some (.cells #[.slice a1 live.length c1,.slice a2 safe.length c2,.slice a3 ops.length c3] 25 (0,0))):=(gr3.block (w.heap.size) (lt_of_block aDt17.out) (fun e=>by have hz3:=Z3.out;have hlg:=Lg.out;have hg1:=LG1.out;have hg2:=LG2.out;have hg3:=LG3.out;have hap:=AP.out;simp[Value.ownBlock] at e;omega)).trans aDt17.out
  clear aDt17
  have N1t18:Hid (NewQ wm3 wr1a.heap.size wr1c.heap.size y1 (pcells rl)):=N1t17.out.kept gr3 (fun q h1 h2 e=>by have hz3:=Z3.out;have hlg:=Lg.out;have hg1:=LG1.out;have hg2:=LG2.out;have hg3:=LG3.out;have hap:=AP.out;simp[Value.ownBlock] at e;omega)
  clear N1t17
  have N2t18:Hid (NewQ wm3 wr1a.heap.size wr1c.heap.size y2 (pcells rs)):=N2t17.out.kept gr3 (fun q h1 h2 e=>by have hz3:=Z3.out;have hlg:=Lg.out;have hg1:=LG1.out;have hg2:=LG2.out;have hg3:=LG3.out;have hap:=AP.out;simp[Value.ownBlock] at e;omega)
  clear N2t17
  have N3t18:Hid (NewQ wm3 wr1a.heap.size wr1c.heap.size y3 (dcells ro)):=N3t17.out.kept gr3 (fun q h1 h2 e=>by have hz3:=Z3.out;have hlg:=Lg.out;have hg1:=LG1.out;have hg2:=LG2.out;have hg3:=LG3.out;have hap:=AP.out;simp[Value.ownBlock] at e;omega)
  clear N3t17
  have bwt18:Hid (wm3.heap[wr1c.heap.size]? = some (.cells #[.slice y1 rl.length yk1,.slice y2 rs.length yk2,.slice y3 ro.length yk3] 31 (0,0))):=(gr3.block (wr1c.heap.size) (lt_of_block bwt17.out) (fun e=>by have hz3:=Z3.out;have hlg:=Lg.out;have hg1:=LG1.out;have hg2:=LG2.out;have hg3:=LG3.out;have hap:=AP.out;simp[Value.ownBlock] at e;omega)).trans bwt17.out
  clear bwt17
  have bxt18:Hid (wm3.heap[w4.heap.size]? = some (.cells #[.slice (some ⟨g1,0,none⟩) live.length live.length,.slice (some ⟨g2,0,none⟩) safe.length safe.length,.slice (some ⟨g3,0,none⟩) ops.length ops.length] 31 (0,0))):=(gr3.block (w4.heap.size) (lt_of_block bxt17.out) (fun e=>by have hz3:=Z3.out;have hlg:=Lg.out;have hg1:=LG1.out;have hg2:=LG2.out;have hg3:=LG3.out;have hap:=AP.out;simp[Value.ownBlock] at e;omega)).trans bxt17.out
  clear bxt17
  have G1t18:Hid (wm3.ownsRow (w4.alloc (.cells #[.slice (some ⟨g1,0,none⟩) live.length live.length,.slice (some ⟨g2,0,none⟩) safe.length safe.length,.slice (some ⟨g3,0,none⟩) ops.length ops.length] 31)).heap.size 84 2 (Value.slice h1 rl.length hk1) rl.length (pcells rl)):=G1t17.out.kept gr3 (by
   cases hv:(Value.slice h1 rl.length hk1).ownBlock with
   | none=>exact .inl rfl
   | some q=>exact .inr (fun e=>by have hz3:=Z3.out;have hlg:=Lg.out;have hg1:=LG1.out;have hg2:=LG2.out;have hg3:=LG3.out;have hap:=AP.out;simp[Value.ownBlock] at e;have:=hg1 q hv;omega))
  clear G1t17
  have G2t18:Hid (wm3.ownsRow (w4.alloc (.cells #[.slice (some ⟨g1,0,none⟩) live.length live.length,.slice (some ⟨g2,0,none⟩) safe.length safe.length,.slice (some ⟨g3,0,none⟩) ops.length ops.length] 31)).heap.size 84 2 (Value.slice h2 rs.length hk2) rs.length (pcells rs)):=G2t17.out.kept gr3 (by
   cases hv:(Value.slice h2 rs.length hk2).ownBlock with
   | none=>exact .inl rfl
   | some q=>exact .inr (fun e=>by have hz3:=Z3.out;have hlg:=Lg.out;have hg1:=LG1.out;have hg2:=LG2.out;have hg3:=LG3.out;have hap:=AP.out;simp[Value.ownBlock] at e;have:=hg2 q hv;omega))
  clear G2t17
  have G3t18:Hid (wm3.ownsRow (w4.alloc (.cells #[.slice (some ⟨g1,0,none⟩) live.length live.length,.slice (some ⟨g2,0,none⟩) safe.length safe.length,.slice (some ⟨g3,0,none⟩) ops.length ops.length] 31)).heap.size 40 4 (Value.slice h3 ro.length hk3) ro.length (dcells ro)):=G3t17.out.kept gr3 (by
   cases hv:(Value.slice h3 ro.length hk3).ownBlock with
   | none=>exact .inl rfl
   | some q=>exact .inr (fun e=>by have hz3:=Z3.out;have hlg:=Lg.out;have hg1:=LG1.out;have hg2:=LG2.out;have hg3:=LG3.out;have hap:=AP.out;simp[Value.ownBlock] at e;have:=hg3 q hv;omega))
  clear G3t17
  have bgt18:Hid (wm3.heap[wr2c.heap.size]? = some (.cells #[.slice h1 rl.length hk1,.slice h2 rs.length hk2,.slice h3 ro.length hk3] 31 (0,0))):=(gr3.block (wr2c.heap.size) (lt_of_block bgt17.out) (fun e=>by have hz3:=Z3.out;have hlg:=Lg.out;have hg1:=LG1.out;have hg2:=LG2.out;have hg3:=LG3.out;have hap:=AP.out;simp[Value.ownBlock] at e;omega)).trans bgt17.out
  clear bgt17
  have Bt18:Below w.heap.size w wm3:=Bt17.grown gr3 Bt17.size (fun q hq=>by have hz3:=Z3.out;have hlg:=Lg.out;have hg1:=LG1.out;have hg2:=LG2.out;have hg3:=LG3.out;have hap:=AP.out;simp[Value.ownBlock] at hq;omega)
  clear Bt17
  clear mo1 mo2 mo3 gr1 gr2 gr3 mk0
  clear bxt18
  obtain⟨bg0,bg1,bg2,_⟩:=three_cells bgt18.out
  obtain⟨bw0,bw1,bw2,_⟩:=three_cells bwt18.out
  go_wp2_with fail
  refine (eqDisk_same rl rs ro _ _ _ _ _ _ _ _ _ _ _ _ _ (by omega) (by omega) (by omega) ⟨(isPairs_own G1t18.out).2.2,N1t18.out.1.pairs⟩ ⟨(isPairs_own G2t18.out).2.2,N2t18.out.1.pairs⟩ ⟨(isDOps_own G3t18.out).2.2,N3t18.out.1.dops⟩).mono ?_
  rintro e wo ⟨rfl,b9⟩
  clear bg0 bg1 bg2
  clear bw0 bw1 bw2
  have aDt19:Hid (wo.heap[w.heap.size]? = some (.cells #[.slice a1 live.length c1,.slice a2 safe.length c2,.slice a3 ops.length c3] 25 (0,0))):=(b9.block (w.heap.size) (lt_of_block aDt18.out)).trans aDt18.out
  clear aDt18
  have N1t19:Hid (NewQ wo wr1a.heap.size wr1c.heap.size y1 (pcells rl)):=N1t18.out.later b9
  clear N1t18
  have N2t19:Hid (NewQ wo wr1a.heap.size wr1c.heap.size y2 (pcells rs)):=N2t18.out.later b9
  clear N2t18
  have N3t19:Hid (NewQ wo wr1a.heap.size wr1c.heap.size y3 (dcells ro)):=N3t18.out.later b9
  clear N3t18
  have bwt19:Hid (wo.heap[wr1c.heap.size]? = some (.cells #[.slice y1 rl.length yk1,.slice y2 rs.length yk2,.slice y3 ro.length yk3] 31 (0,0))):=(b9.block (wr1c.heap.size) (lt_of_block bwt18.out)).trans bwt18.out
  clear bwt18
  have G1t19:Hid (wo.ownsRow (w4.alloc (.cells #[.slice (some ⟨g1,0,none⟩) live.length live.length,.slice (some ⟨g2,0,none⟩) safe.length safe.length,.slice (some ⟨g3,0,none⟩) ops.length ops.length] 31)).heap.size 84 2 (Value.slice h1 rl.length hk1) rl.length (pcells rl)):=kept2 G1t18.out b9
  clear G1t18
  have G2t19:Hid (wo.ownsRow (w4.alloc (.cells #[.slice (some ⟨g1,0,none⟩) live.length live.length,.slice (some ⟨g2,0,none⟩) safe.length safe.length,.slice (some ⟨g3,0,none⟩) ops.length ops.length] 31)).heap.size 84 2 (Value.slice h2 rs.length hk2) rs.length (pcells rs)):=kept2 G2t18.out b9
  clear G2t18
  have G3t19:Hid (wo.ownsRow (w4.alloc (.cells #[.slice (some ⟨g1,0,none⟩) live.length live.length,.slice (some ⟨g2,0,none⟩) safe.length safe.length,.slice (some ⟨g3,0,none⟩) ops.length ops.length] 31)).heap.size 40 4 (Value.slice h3 ro.length hk3) ro.length (dcells ro)):=kept4 G3t18.out b9
  clear G3t18
  have bgt19:Hid (wo.heap[wr2c.heap.size]? = some (.cells #[.slice h1 rl.length hk1,.slice h2 rs.length hk2,.slice h3 ro.length hk3] 31 (0,0))):=(b9.block (wr2c.heap.size) (lt_of_block bgt18.out)).trans bgt18.out
  clear bgt18
  have Bt19:Below w.heap.size w wo:=Bt18.trans (b9.mono Bt18.size)
  clear Bt18
  clear b9
  clear mk1 mk2
  obtain⟨bg0,bg1,bg2,_⟩:=three_cells bgt19.out
  have KM:=markDisk_any rl rs ro h1 h2 h3 rl.length hk1 rs.length hk2 ro.length hk3 (w4.alloc (.cells #[.slice (some ⟨g1,0,none⟩) live.length live.length,.slice (some ⟨g2,0,none⟩) safe.length safe.length,.slice (some ⟨g3,0,none⟩) ops.length ops.length] 31)).heap.size 1 wo (by omega) (by omega) (by omega) (by omega) (by omega) (AP.out) G1t19.out G2t19.out G3t19.out
  have mk0:¬ ((1:Nat):Int)+2*(rl.length:Int)+2*(rs.length:Int)+4*(ro.length:Int)<0:=by omega
  have mk1:¬ (1:Int)+2*(rl.length:Int)+2*(rs.length:Int)+4*(ro.length:Int)<0:=by omega
  have mk2:decide ((1:Int)+2*(rl.length:Int)+2*(rs.length:Int)+4*(ro.length:Int)<0)=false:=decide_eq_false mk1
  go_wp2_with fail
  refine KM.mono ?_
  rintro e wp3 ⟨rfl,mo1,mo2,mo3,wp1,wp2,gr1,gr2,gr3⟩
  clear KM
  clear bg0 bg1 bg2
  clear G1t19
  clear G2t19
  clear G3t19
  have aDt20:Hid (wp1.heap[w.heap.size]? = some (.cells #[.slice a1 live.length c1,.slice a2 safe.length c2,.slice a3 ops.length c3] 25 (0,0))):=(gr1.block (w.heap.size) (lt_of_block aDt19.out) (fun e=>by have hz3:=Z3.out;have hlg:=Lg.out;have hg1:=LG1.out;have hg2:=LG2.out;have hg3:=LG3.out;have hap:=AP.out;have:=hg1 _ e.symm;omega)).trans aDt19.out
  clear aDt19
  have N1t20:Hid (NewQ wp1 wr1a.heap.size wr1c.heap.size y1 (pcells rl)):=N1t19.out.kept gr1 (fun q h1 h2 e=>by have hz3:=Z3.out;have hlg:=Lg.out;have hg1:=LG1.out;have hg2:=LG2.out;have hg3:=LG3.out;have hap:=AP.out;have:=hg1 _ e.symm;omega)
  clear N1t19
  have N2t20:Hid (NewQ wp1 wr1a.heap.size wr1c.heap.size y2 (pcells rs)):=N2t19.out.kept gr1 (fun q h1 h2 e=>by have hz3:=Z3.out;have hlg:=Lg.out;have hg1:=LG1.out;have hg2:=LG2.out;have hg3:=LG3.out;have hap:=AP.out;have:=hg1 _ e.symm;omega)
  clear N2t19
  have N3t20:Hid (NewQ wp1 wr1a.heap.size wr1c.heap.size y3 (dcells ro)):=N3t19.out.kept gr1 (fun q h1 h2 e=>by have hz3:=Z3.out;have hlg:=Lg.out;have hg1:=LG1.out;have hg2:=LG2.out;have hg3:=LG3.out;have hap:=AP.out;have:=hg1 _ e.symm;omega)
  clear N3t19
  have bwt20:Hid (wp1.heap[wr1c.heap.size]? = some (.cells #[.slice y1 rl.length yk1,.slice y2 rs.length yk2,.slice y3 ro.length yk3] 31 (0,0))):=(gr1.block (wr1c.heap.size) (lt_of_block bwt19.out) (fun e=>by have hz3:=Z3.out;have hlg:=Lg.out;have hg1:=LG1.out;have hg2:=LG2.out;have hg3:=LG3.out;have hap:=AP.out;have:=hg1 _ e.symm;omega)).trans bwt19.out
  clear bwt19
  have bgt20:Hid (wp1.heap[wr2c.heap.size]? = some (.cells #[.slice h1 rl.length hk1,.slice h2 rs.length hk2,.slice h3 ro.length hk3] 31 (0,0))):=(gr1.block (wr2c.heap.size) (lt_of_block bgt19.out) (fun e=>by have hz3:=Z3.out;have hlg:=Lg.out;have hg1:=LG1.out;have hg2:=LG2.out;have hg3:=LG3.out;have hap:=AP.out;have:=hg1 _ e.symm;omega)).trans bgt19.out
  clear bgt19
  have Bt20:Below w.heap.size w wp1:=Bt19.grown gr1 Bt19.size (fun q hq=>by have hz3:=Z3.out;have hlg:=Lg.out;have hg1:=LG1.out;have hg2:=LG2.out;have hg3:=LG3.out;have hap:=AP.out;have:=hg1 q hq;omega)
  clear Bt19
  have aDt21:Hid (wp2.heap[w.heap.size]? = some (.cells #[.slice a1 live.length c1,.slice a2 safe.length c2,.slice a3 ops.length c3] 25 (0,0))):=(gr2.block (w.heap.size) (lt_of_block aDt20.out) (fun e=>by have hz3:=Z3.out;have hlg:=Lg.out;have hg1:=LG1.out;have hg2:=LG2.out;have hg3:=LG3.out;have hap:=AP.out;have:=hg2 _ e.symm;omega)).trans aDt20.out
  clear aDt20
  have N1t21:Hid (NewQ wp2 wr1a.heap.size wr1c.heap.size y1 (pcells rl)):=N1t20.out.kept gr2 (fun q h1 h2 e=>by have hz3:=Z3.out;have hlg:=Lg.out;have hg1:=LG1.out;have hg2:=LG2.out;have hg3:=LG3.out;have hap:=AP.out;have:=hg2 _ e.symm;omega)
  clear N1t20
  have N2t21:Hid (NewQ wp2 wr1a.heap.size wr1c.heap.size y2 (pcells rs)):=N2t20.out.kept gr2 (fun q h1 h2 e=>by have hz3:=Z3.out;have hlg:=Lg.out;have hg1:=LG1.out;have hg2:=LG2.out;have hg3:=LG3.out;have hap:=AP.out;have:=hg2 _ e.symm;omega)
  clear N2t20
  have N3t21:Hid (NewQ wp2 wr1a.heap.size wr1c.heap.size y3 (dcells ro)):=N3t20.out.kept gr2 (fun q h1 h2 e=>by have hz3:=Z3.out;have hlg:=Lg.out;have hg1:=LG1.out;have hg2:=LG2.out;have hg3:=LG3.out;have hap:=AP.out;have:=hg2 _ e.symm;omega)
  clear N3t20
  have bwt21:Hid (wp2.heap[wr1c.heap.size]? = some (.cells #[.slice y1 rl.length yk1,.slice y2 rs.length yk2,.slice y3 ro.length yk3] 31 (0,0))):=(gr2.block (wr1c.heap.size) (lt_of_block bwt20.out) (fun e=>by have hz3:=Z3.out;have hlg:=Lg.out;have hg1:=LG1.out;have hg2:=LG2.out;have hg3:=LG3.out;have hap:=AP.out;have:=hg2 _ e.symm;omega)).trans bwt20.out
  clear bwt20
  have bgt21:Hid (wp2.heap[wr2c.heap.size]? = some (.cells #[.slice h1 rl.length hk1,.slice h2 rs.length hk2,.slice h3 ro.length hk3] 31 (0,0))):=(gr2.block (wr2c.heap.size) (lt_of_block bgt20.out) (fun e=>by have hz3:=Z3.out;have hlg:=Lg.out;have hg1:=LG1.out;have hg2:=LG2.out;have hg3:=LG3.out;have hap:=AP.out;have:=hg2 _ e.symm;omega)).trans bgt20.out
  clear bgt20
  have Bt21:Below w.heap.size w wp2:=Bt20.grown gr2 Bt20.size (fun q hq=>by have hz3:=Z3.out;have hlg:=Lg.out;have hg1:=LG1.out;have hg2:=LG2.out;have hg3:=LG3.out;have hap:=AP.out;have:=hg2 q hq;omega)
  clear Bt20
  have aDt22:Hid (wp3.heap[w.heap.size]? = some (.cells #[.slice a1 live.length c1,.slice a2 safe.length c2,.slice a3 ops.length c3] 25 (0,0))):=(gr3.block (w.heap.size) (lt_of_block aDt21.out) (fun e=>by have hz3:=Z3.out;have hlg:=Lg.out;have hg1:=LG1.out;have hg2:=LG2.out;have hg3:=LG3.out;have hap:=AP.out;have:=hg3 _ e.symm;omega)).trans aDt21.out
  clear aDt21
  have N1t22:Hid (NewQ wp3 wr1a.heap.size wr1c.heap.size y1 (pcells rl)):=N1t21.out.kept gr3 (fun q h1 h2 e=>by have hz3:=Z3.out;have hlg:=Lg.out;have hg1:=LG1.out;have hg2:=LG2.out;have hg3:=LG3.out;have hap:=AP.out;have:=hg3 _ e.symm;omega)
  clear N1t21
  have N2t22:Hid (NewQ wp3 wr1a.heap.size wr1c.heap.size y2 (pcells rs)):=N2t21.out.kept gr3 (fun q h1 h2 e=>by have hz3:=Z3.out;have hlg:=Lg.out;have hg1:=LG1.out;have hg2:=LG2.out;have hg3:=LG3.out;have hap:=AP.out;have:=hg3 _ e.symm;omega)
  clear N2t21
  have N3t22:Hid (NewQ wp3 wr1a.heap.size wr1c.heap.size y3 (dcells ro)):=N3t21.out.kept gr3 (fun q h1 h2 e=>by have hz3:=Z3.out;have hlg:=Lg.out;have hg1:=LG1.out;have hg2:=LG2.out;have hg3:=LG3.out;have hap:=AP.out;have:=hg3 _ e.symm;omega)
  clear N3t21
  have bwt22:Hid (wp3.heap[wr1c.heap.size]? = some (.cells #[.slice y1 rl.length yk1,.slice y2 rs.length yk2,.slice y3 ro.length yk3] 31 (0,0))):=(gr3.block (wr1c.heap.size) (lt_of_block bwt21.out) (fun e=>by have hz3:=Z3.out;have hlg:=Lg.out;have hg1:=LG1.out;have hg2:=LG2.out;have hg3:=LG3.out;have hap:=AP.out;have:=hg3 _ e.symm;omega)).trans bwt21.out
  clear bwt21
  have bgt22:Hid (wp3.heap[wr2c.heap.size]? = some (.cells #[.slice h1 rl.length hk1,.slice h2 rs.length hk2,.slice h3 ro.length hk3] 31 (0,0))):=(gr3.block (wr2c.heap.size) (lt_of_block bgt21.out) (fun e=>by have hz3:=Z3.out;have hlg:=Lg.out;have hg1:=LG1.out;have hg2:=LG2.out;have hg3:=LG3.out;have hap:=AP.out;have:=hg3 _ e.symm;omega)).trans bgt21.out
  clear bgt21
  have Bt22:Below w.heap.size w wp3:=Bt21.grown gr3 Bt21.size (fun q hq=>by have hz3:=Z3.out;have hlg:=Lg.out;have hg1:=LG1.out;have hg2:=LG2.out;have hg3:=LG3.out;have hap:=AP.out;have:=hg3 q hq;omega)
  clear Bt21
  have M1a:Hid (wp3.ownsRow (w4.alloc (.cells #[.slice (some ⟨g1,0,none⟩) live.length live.length,.slice (some ⟨g2,0,none⟩) safe.length safe.length,.slice (some ⟨g3,0,none⟩) ops.length ops.length] 31)).heap.size 84 2 (Value.slice h1 rl.length hk1) rl.length (pcells (marksP 1 rl.length))):=mo1
  have M2a:Hid (wp3.ownsRow (w4.alloc (.cells #[.slice (some ⟨g1,0,none⟩) live.length live.length,.slice (some ⟨g2,0,none⟩) safe.length safe.length,.slice (some ⟨g3,0,none⟩) ops.length ops.length] 31)).heap.size 84 2 (Value.slice h2 rs.length hk2) rs.length (pcells (marksP (1+2*rl.length) rs.length))):=mo2
  have M3a:Hid (wp3.ownsRow (w4.alloc (.cells #[.slice (some ⟨g1,0,none⟩) live.length live.length,.slice (some ⟨g2,0,none⟩) safe.length safe.length,.slice (some ⟨g3,0,none⟩) ops.length ops.length] 31)).heap.size 40 4 (Value.slice h3 ro.length hk3) ro.length (dcells (marksD (1+2*rl.length+2*rs.length) ro.length))):=mo3
  clear mo1 mo2 mo3 gr1 gr2 gr3 mk0
  obtain⟨bg0,bg1,bg2,_⟩:=three_cells bgt22.out
  have KM:=heldDisk_any rl.length rs.length ro.length h1 h2 h3 rl.length hk1 rs.length hk2 ro.length hk3 _ 1 wp3 (by omega) (by omega) (by omega) (by omega) (by omega) M1a.out M2a.out M3a.out
  go_wp2_with fail
  refine KM.mono ?_
  rintro e wq ⟨rfl,bh⟩
  clear bg0 bg1 bg2
  have aDt23:Hid (wq.heap[w.heap.size]? = some (.cells #[.slice a1 live.length c1,.slice a2 safe.length c2,.slice a3 ops.length c3] 25 (0,0))):=(bh.block (w.heap.size) (lt_of_block aDt22.out)).trans aDt22.out
  clear aDt22
  have N1t23:Hid (NewQ wq wr1a.heap.size wr1c.heap.size y1 (pcells rl)):=N1t22.out.later bh
  clear N1t22
  have N2t23:Hid (NewQ wq wr1a.heap.size wr1c.heap.size y2 (pcells rs)):=N2t22.out.later bh
  clear N2t22
  have N3t23:Hid (NewQ wq wr1a.heap.size wr1c.heap.size y3 (dcells ro)):=N3t22.out.later bh
  clear N3t22
  have bwt23:Hid (wq.heap[wr1c.heap.size]? = some (.cells #[.slice y1 rl.length yk1,.slice y2 rs.length yk2,.slice y3 ro.length yk3] 31 (0,0))):=(bh.block (wr1c.heap.size) (lt_of_block bwt22.out)).trans bwt22.out
  clear bwt22
  have bgt23:Hid (wq.heap[wr2c.heap.size]? = some (.cells #[.slice h1 rl.length hk1,.slice h2 rs.length hk2,.slice h3 ro.length hk3] 31 (0,0))):=(bh.block (wr2c.heap.size) (lt_of_block bgt22.out)).trans bgt22.out
  clear bgt22
  have M1t23:Hid (wq.ownsRow (w4.alloc (.cells #[.slice (some ⟨g1,0,none⟩) live.length live.length,.slice (some ⟨g2,0,none⟩) safe.length safe.length,.slice (some ⟨g3,0,none⟩) ops.length ops.length] 31)).heap.size 84 2 (Value.slice h1 rl.length hk1) rl.length (pcells (marksP 1 rl.length))):=kept2 M1a.out bh
  clear M1a
  have M2t23:Hid (wq.ownsRow (w4.alloc (.cells #[.slice (some ⟨g1,0,none⟩) live.length live.length,.slice (some ⟨g2,0,none⟩) safe.length safe.length,.slice (some ⟨g3,0,none⟩) ops.length ops.length] 31)).heap.size 84 2 (Value.slice h2 rs.length hk2) rs.length (pcells (marksP (1+2*rl.length) rs.length))):=kept2 M2a.out bh
  clear M2a
  have M3t23:Hid (wq.ownsRow (w4.alloc (.cells #[.slice (some ⟨g1,0,none⟩) live.length live.length,.slice (some ⟨g2,0,none⟩) safe.length safe.length,.slice (some ⟨g3,0,none⟩) ops.length ops.length] 31)).heap.size 40 4 (Value.slice h3 ro.length hk3) ro.length (dcells (marksD (1+2*rl.length+2*rs.length) ro.length))):=kept4 M3a.out bh
  clear M3a
  have Bt23:Below w.heap.size w wq:=Bt22.trans (bh.mono Bt22.size)
  clear Bt22
  clear KM bh
  obtain⟨aD0,aD1,aD2,_⟩:=three_cells aDt23.out
  go_wp2_with fail
  refine (HTN.out _ Bt23).mono ?_
  rintro e wr3a ⟨v1,v2,v3,rfl,va,vb,vo1,vo2,vo3,bwr3a⟩
  clear aD0 aD1 aD2
  have aDt24:Hid (wr3a.heap[w.heap.size]? = some (.cells #[.slice a1 live.length c1,.slice a2 safe.length c2,.slice a3 ops.length c3] 25 (0,0))):=(bwr3a.block (w.heap.size) (lt_of_block aDt23.out)).trans aDt23.out
  clear aDt23
  have N1t24:Hid (NewQ wr3a wr1a.heap.size wr1c.heap.size y1 (pcells rl)):=N1t23.out.later bwr3a
  clear N1t23
  have N2t24:Hid (NewQ wr3a wr1a.heap.size wr1c.heap.size y2 (pcells rs)):=N2t23.out.later bwr3a
  clear N2t23
  have N3t24:Hid (NewQ wr3a wr1a.heap.size wr1c.heap.size y3 (dcells ro)):=N3t23.out.later bwr3a
  clear N3t23
  have bwt24:Hid (wr3a.heap[wr1c.heap.size]? = some (.cells #[.slice y1 rl.length yk1,.slice y2 rs.length yk2,.slice y3 ro.length yk3] 31 (0,0))):=(bwr3a.block (wr1c.heap.size) (lt_of_block bwt23.out)).trans bwt23.out
  clear bwt23
  have bgt24:Hid (wr3a.heap[wr2c.heap.size]? = some (.cells #[.slice h1 rl.length hk1,.slice h2 rs.length hk2,.slice h3 ro.length hk3] 31 (0,0))):=(bwr3a.block (wr2c.heap.size) (lt_of_block bgt23.out)).trans bgt23.out
  clear bgt23
  have M1t24:Hid (wr3a.ownsRow (w4.alloc (.cells #[.slice (some ⟨g1,0,none⟩) live.length live.length,.slice (some ⟨g2,0,none⟩) safe.length safe.length,.slice (some ⟨g3,0,none⟩) ops.length ops.length] 31)).heap.size 84 2 (Value.slice h1 rl.length hk1) rl.length (pcells (marksP 1 rl.length))):=kept2 M1t23.out bwr3a
  clear M1t23
  have M2t24:Hid (wr3a.ownsRow (w4.alloc (.cells #[.slice (some ⟨g1,0,none⟩) live.length live.length,.slice (some ⟨g2,0,none⟩) safe.length safe.length,.slice (some ⟨g3,0,none⟩) ops.length ops.length] 31)).heap.size 84 2 (Value.slice h2 rs.length hk2) rs.length (pcells (marksP (1+2*rl.length) rs.length))):=kept2 M2t23.out bwr3a
  clear M2t23
  have M3t24:Hid (wr3a.ownsRow (w4.alloc (.cells #[.slice (some ⟨g1,0,none⟩) live.length live.length,.slice (some ⟨g2,0,none⟩) safe.length safe.length,.slice (some ⟨g3,0,none⟩) ops.length ops.length] 31)).heap.size 40 4 (Value.slice h3 ro.length hk3) ro.length (dcells (marksD (1+2*rl.length+2*rs.length) ro.length))):=kept4 M3t23.out bwr3a
  clear M3t23
  have Bt24:Below w.heap.size w wr3a:=Bt23.trans (bwr3a.mono Bt23.size)
  clear Bt23
  have Iv:Hid (IsPairs wr3a (some ⟨v1,0,none⟩) live∧IsPairs wr3a (some ⟨v2,0,none⟩) safe∧IsDOps wr3a (some ⟨v3,0,none⟩) ops):=⟨(isPairs_own vo1).2.2,(isPairs_own vo2).2.2,(isDOps_own vo3).2.2⟩
  have Lv:Hid (wq.heap.size≤v1∧v1<v2∧v2<v3∧v3<wr3a.heap.size):=⟨(vo1.lt _ rfl).1,va,vb,(vo3.lt _ rfl).2⟩
  clear vo1 vo2 vo3 va vb bwr3a
  go_wp2_with fail
  refine (HH2.out v1 v2 v3 _ Iv.out).mono ?_
  rintro e wr3c ⟨f1,f2,f3,fk1,fk2,fk3,rfl,n1,n2,n3,hap,b9⟩
  clear Iv Lv
  have aDt25:Hid (wr3c.heap[w.heap.size]? = some (.cells #[.slice a1 live.length c1,.slice a2 safe.length c2,.slice a3 ops.length c3] 25 (0,0))):=(b9.block (w.heap.size) (lt_of_block aDt24.out)).trans aDt24.out
  clear aDt24
  have N1t25:Hid (NewQ wr3c wr1a.heap.size wr1c.heap.size y1 (pcells rl)):=N1t24.out.later b9
  clear N1t24
  have N2t25:Hid (NewQ wr3c wr1a.heap.size wr1c.heap.size y2 (pcells rs)):=N2t24.out.later b9
  clear N2t24
  have N3t25:Hid (NewQ wr3c wr1a.heap.size wr1c.heap.size y3 (dcells ro)):=N3t24.out.later b9
  clear N3t24
  have bwt25:Hid (wr3c.heap[wr1c.heap.size]? = some (.cells #[.slice y1 rl.length yk1,.slice y2 rs.length yk2,.slice y3 ro.length yk3] 31 (0,0))):=(b9.block (wr1c.heap.size) (lt_of_block bwt24.out)).trans bwt24.out
  clear bwt24
  have bgt25:Hid (wr3c.heap[wr2c.heap.size]? = some (.cells #[.slice h1 rl.length hk1,.slice h2 rs.length hk2,.slice h3 ro.length hk3] 31 (0,0))):=(b9.block (wr2c.heap.size) (lt_of_block bgt24.out)).trans bgt24.out
  clear bgt24
  have M1t25:Hid (wr3c.ownsRow (w4.alloc (.cells #[.slice (some ⟨g1,0,none⟩) live.length live.length,.slice (some ⟨g2,0,none⟩) safe.length safe.length,.slice (some ⟨g3,0,none⟩) ops.length ops.length] 31)).heap.size 84 2 (Value.slice h1 rl.length hk1) rl.length (pcells (marksP 1 rl.length))):=kept2 M1t24.out b9
  clear M1t24
  have M2t25:Hid (wr3c.ownsRow (w4.alloc (.cells #[.slice (some ⟨g1,0,none⟩) live.length live.length,.slice (some ⟨g2,0,none⟩) safe.length safe.length,.slice (some ⟨g3,0,none⟩) ops.length ops.length] 31)).heap.size 84 2 (Value.slice h2 rs.length hk2) rs.length (pcells (marksP (1+2*rl.length) rs.length))):=kept2 M2t24.out b9
  clear M2t24
  have M3t25:Hid (wr3c.ownsRow (w4.alloc (.cells #[.slice (some ⟨g1,0,none⟩) live.length live.length,.slice (some ⟨g2,0,none⟩) safe.length safe.length,.slice (some ⟨g3,0,none⟩) ops.length ops.length] 31)).heap.size 40 4 (Value.slice h3 ro.length hk3) ro.length (dcells (marksD (1+2*rl.length+2*rs.length) ro.length))):=kept4 M3t24.out b9
  clear M3t24
  have Bt25:Below w.heap.size w wr3c:=Bt24.trans (b9.mono Bt24.size)
  clear Bt24
  have F1w3:Hid (wr3c.ownsRow wr3a.heap.size 84 2 (Value.slice f1 rl.length fk1) rl.length (pcells rl)):=n1
  have F2w3:Hid (wr3c.ownsRow wr3a.heap.size 84 2 (Value.slice f2 rs.length fk2) rs.length (pcells rs)):=n2
  have F3w3:Hid (wr3c.ownsRow wr3a.heap.size 40 4 (Value.slice f3 ro.length fk3) ro.length (dcells ro)):=n3
  have APF:Hid (Apart3 (Value.slice f1 rl.length fk1) (Value.slice f2 rs.length fk2) (Value.slice f3 ro.length fk3)):=hap
  have ZB3:Hid (wr3a.heap.size≤wr3c.heap.size):=b9.size
  clear n1 n2 n3 b9 hap
  have Xt26:Below wr3c.heap.size wr3c (wr3c.alloc (.cells #[.slice f1 rl.length fk1,.slice f2 rs.length fk2,.slice f3 ro.length fk3] 31)):=(Below.refl _ _).alloc (Nat.le_refl _) _
  have aDt27:Hid ((wr3c.alloc (.cells #[.slice f1 rl.length fk1,.slice f2 rs.length fk2,.slice f3 ro.length fk3] 31)).heap[w.heap.size]? = some (.cells #[.slice a1 live.length c1,.slice a2 safe.length c2,.slice a3 ops.length c3] 25 (0,0))):=(Xt26.block (w.heap.size) (lt_of_block aDt25.out)).trans aDt25.out
  clear aDt25
  have N1t27:Hid (NewQ (wr3c.alloc (.cells #[.slice f1 rl.length fk1,.slice f2 rs.length fk2,.slice f3 ro.length fk3] 31)) wr1a.heap.size wr1c.heap.size y1 (pcells rl)):=N1t25.out.later Xt26
  clear N1t25
  have N2t27:Hid (NewQ (wr3c.alloc (.cells #[.slice f1 rl.length fk1,.slice f2 rs.length fk2,.slice f3 ro.length fk3] 31)) wr1a.heap.size wr1c.heap.size y2 (pcells rs)):=N2t25.out.later Xt26
  clear N2t25
  have N3t27:Hid (NewQ (wr3c.alloc (.cells #[.slice f1 rl.length fk1,.slice f2 rs.length fk2,.slice f3 ro.length fk3] 31)) wr1a.heap.size wr1c.heap.size y3 (dcells ro)):=N3t25.out.later Xt26
  clear N3t25
  have bwt27:Hid ((wr3c.alloc (.cells #[.slice f1 rl.length fk1,.slice f2 rs.length fk2,.slice f3 ro.length fk3] 31)).heap[wr1c.heap.size]? = some (.cells #[.slice y1 rl.length yk1,.slice y2 rs.length yk2,.slice y3 ro.length yk3] 31 (0,0))):=(Xt26.block (wr1c.heap.size) (lt_of_block bwt25.out)).trans bwt25.out
  clear bwt25
  have bgt27:Hid ((wr3c.alloc (.cells #[.slice f1 rl.length fk1,.slice f2 rs.length fk2,.slice f3 ro.length fk3] 31)).heap[wr2c.heap.size]? = some (.cells #[.slice h1 rl.length hk1,.slice h2 rs.length hk2,.slice h3 ro.length hk3] 31 (0,0))):=(Xt26.block (wr2c.heap.size) (lt_of_block bgt25.out)).trans bgt25.out
  clear bgt25
  have M1t27:Hid ((wr3c.alloc (.cells #[.slice f1 rl.length fk1,.slice f2 rs.length fk2,.slice f3 ro.length fk3] 31)).ownsRow (w4.alloc (.cells #[.slice (some ⟨g1,0,none⟩) live.length live.length,.slice (some ⟨g2,0,none⟩) safe.length safe.length,.slice (some ⟨g3,0,none⟩) ops.length ops.length] 31)).heap.size 84 2 (Value.slice h1 rl.length hk1) rl.length (pcells (marksP 1 rl.length))):=kept2 M1t25.out Xt26
  clear M1t25
  have M2t27:Hid ((wr3c.alloc (.cells #[.slice f1 rl.length fk1,.slice f2 rs.length fk2,.slice f3 ro.length fk3] 31)).ownsRow (w4.alloc (.cells #[.slice (some ⟨g1,0,none⟩) live.length live.length,.slice (some ⟨g2,0,none⟩) safe.length safe.length,.slice (some ⟨g3,0,none⟩) ops.length ops.length] 31)).heap.size 84 2 (Value.slice h2 rs.length hk2) rs.length (pcells (marksP (1+2*rl.length) rs.length))):=kept2 M2t25.out Xt26
  clear M2t25
  have M3t27:Hid ((wr3c.alloc (.cells #[.slice f1 rl.length fk1,.slice f2 rs.length fk2,.slice f3 ro.length fk3] 31)).ownsRow (w4.alloc (.cells #[.slice (some ⟨g1,0,none⟩) live.length live.length,.slice (some ⟨g2,0,none⟩) safe.length safe.length,.slice (some ⟨g3,0,none⟩) ops.length ops.length] 31)).heap.size 40 4 (Value.slice h3 ro.length hk3) ro.length (dcells (marksD (1+2*rl.length+2*rs.length) ro.length))):=kept4 M3t25.out Xt26
  clear M3t25
  have F1t27:Hid ((wr3c.alloc (.cells #[.slice f1 rl.length fk1,.slice f2 rs.length fk2,.slice f3 ro.length fk3] 31)).ownsRow wr3a.heap.size 84 2 (Value.slice f1 rl.length fk1) rl.length (pcells rl)):=kept2 F1w3.out Xt26
  clear F1w3
  have F2t27:Hid ((wr3c.alloc (.cells #[.slice f1 rl.length fk1,.slice f2 rs.length fk2,.slice f3 ro.length fk3] 31)).ownsRow wr3a.heap.size 84 2 (Value.slice f2 rs.length fk2) rs.length (pcells rs)):=kept2 F2w3.out Xt26
  clear F2w3
  have F3t27:Hid ((wr3c.alloc (.cells #[.slice f1 rl.length fk1,.slice f2 rs.length fk2,.slice f3 ro.length fk3] 31)).ownsRow wr3a.heap.size 40 4 (Value.slice f3 ro.length fk3) ro.length (dcells ro)):=kept4 F3w3.out Xt26
  clear F3w3
  have Bt27:Below w.heap.size w (wr3c.alloc (.cells #[.slice f1 rl.length fk1,.slice f2 rs.length fk2,.slice f3 ro.length fk3] 31)):=Bt25.trans (Xt26.mono Bt25.size)
  clear Bt25
  clear Xt26
  have bht26:Hid ((wr3c.alloc (.cells #[.slice f1 rl.length fk1,.slice f2 rs.length fk2,.slice f3 ro.length fk3] 31)).heap[wr3c.heap.size]? = some (.cells #[.slice f1 rl.length fk1,.slice f2 rs.length fk2,.slice f3 ro.length fk3] 31 (0,0))):=heap_alloc_new wr3c _
  obtain⟨bh0,bh1,bh2,_⟩:=three_cells bht26.out
  obtain⟨bw0,bw1,bw2,_⟩:=three_cells bwt27.out
  go_wp2_with fail
  refine (eqDisk_same rl rs ro _ _ _ _ _ _ _ _ _ _ _ _ _ (by omega) (by omega) (by omega) ⟨(isPairs_own F1t27.out).2.2,N1t27.out.1.pairs⟩ ⟨(isPairs_own F2t27.out).2.2,N2t27.out.1.pairs⟩ ⟨(isDOps_own F3t27.out).2.2,N3t27.out.1.dops⟩).mono ?_
  rintro e wt ⟨rfl,b9⟩
  clear bh0 bh1 bh2
  clear bw0 bw1 bw2
  have aDt28:Hid (wt.heap[w.heap.size]? = some (.cells #[.slice a1 live.length c1,.slice a2 safe.length c2,.slice a3 ops.length c3] 25 (0,0))):=(b9.block (w.heap.size) (lt_of_block aDt27.out)).trans aDt27.out
  clear aDt27
  have N1t28:Hid (NewQ wt wr1a.heap.size wr1c.heap.size y1 (pcells rl)):=N1t27.out.later b9
  clear N1t27
  have N2t28:Hid (NewQ wt wr1a.heap.size wr1c.heap.size y2 (pcells rs)):=N2t27.out.later b9
  clear N2t27
  have N3t28:Hid (NewQ wt wr1a.heap.size wr1c.heap.size y3 (dcells ro)):=N3t27.out.later b9
  clear N3t27
  have bwt28:Hid (wt.heap[wr1c.heap.size]? = some (.cells #[.slice y1 rl.length yk1,.slice y2 rs.length yk2,.slice y3 ro.length yk3] 31 (0,0))):=(b9.block (wr1c.heap.size) (lt_of_block bwt27.out)).trans bwt27.out
  clear bwt27
  have bgt28:Hid (wt.heap[wr2c.heap.size]? = some (.cells #[.slice h1 rl.length hk1,.slice h2 rs.length hk2,.slice h3 ro.length hk3] 31 (0,0))):=(b9.block (wr2c.heap.size) (lt_of_block bgt27.out)).trans bgt27.out
  clear bgt27
  have M1t28:Hid (wt.ownsRow (w4.alloc (.cells #[.slice (some ⟨g1,0,none⟩) live.length live.length,.slice (some ⟨g2,0,none⟩) safe.length safe.length,.slice (some ⟨g3,0,none⟩) ops.length ops.length] 31)).heap.size 84 2 (Value.slice h1 rl.length hk1) rl.length (pcells (marksP 1 rl.length))):=kept2 M1t27.out b9
  clear M1t27
  have M2t28:Hid (wt.ownsRow (w4.alloc (.cells #[.slice (some ⟨g1,0,none⟩) live.length live.length,.slice (some ⟨g2,0,none⟩) safe.length safe.length,.slice (some ⟨g3,0,none⟩) ops.length ops.length] 31)).heap.size 84 2 (Value.slice h2 rs.length hk2) rs.length (pcells (marksP (1+2*rl.length) rs.length))):=kept2 M2t27.out b9
  clear M2t27
  have M3t28:Hid (wt.ownsRow (w4.alloc (.cells #[.slice (some ⟨g1,0,none⟩) live.length live.length,.slice (some ⟨g2,0,none⟩) safe.length safe.length,.slice (some ⟨g3,0,none⟩) ops.length ops.length] 31)).heap.size 40 4 (Value.slice h3 ro.length hk3) ro.length (dcells (marksD (1+2*rl.length+2*rs.length) ro.length))):=kept4 M3t27.out b9
  clear M3t27
  have F1t28:Hid (wt.ownsRow wr3a.heap.size 84 2 (Value.slice f1 rl.length fk1) rl.length (pcells rl)):=kept2 F1t27.out b9
  clear F1t27
  have F2t28:Hid (wt.ownsRow wr3a.heap.size 84 2 (Value.slice f2 rs.length fk2) rs.length (pcells rs)):=kept2 F2t27.out b9
  clear F2t27
  have F3t28:Hid (wt.ownsRow wr3a.heap.size 40 4 (Value.slice f3 ro.length fk3) ro.length (dcells ro)):=kept4 F3t27.out b9
  clear F3t27
  have bht28:Hid (wt.heap[wr3c.heap.size]? = some (.cells #[.slice f1 rl.length fk1,.slice f2 rs.length fk2,.slice f3 ro.length fk3] 31 (0,0))):=(b9.block (wr3c.heap.size) (lt_of_block bht26.out)).trans bht26.out
  clear bht26
  have Bt28:Below w.heap.size w wt:=Bt27.trans (b9.mono Bt27.size)
  clear Bt27
  clear b9
  obtain⟨bg0,bg1,bg2,_⟩:=three_cells bgt28.out
  have KM:=heldDisk_any rl.length rs.length ro.length h1 h2 h3 rl.length hk1 rs.length hk2 ro.length hk3 _ 1 wt (by omega) (by omega) (by omega) (by omega) (by omega) M1t28.out M2t28.out M3t28.out
  go_wp2_with fail
  refine KM.mono ?_
  rintro e wv ⟨rfl,bh⟩
  clear bg0 bg1 bg2
  have aDt29:Hid (wv.heap[w.heap.size]? = some (.cells #[.slice a1 live.length c1,.slice a2 safe.length c2,.slice a3 ops.length c3] 25 (0,0))):=(bh.block (w.heap.size) (lt_of_block aDt28.out)).trans aDt28.out
  clear aDt28
  have N1t29:Hid (NewQ wv wr1a.heap.size wr1c.heap.size y1 (pcells rl)):=N1t28.out.later bh
  clear N1t28
  have N2t29:Hid (NewQ wv wr1a.heap.size wr1c.heap.size y2 (pcells rs)):=N2t28.out.later bh
  clear N2t28
  have N3t29:Hid (NewQ wv wr1a.heap.size wr1c.heap.size y3 (dcells ro)):=N3t28.out.later bh
  clear N3t28
  have bwt29:Hid (wv.heap[wr1c.heap.size]? = some (.cells #[.slice y1 rl.length yk1,.slice y2 rs.length yk2,.slice y3 ro.length yk3] 31 (0,0))):=(bh.block (wr1c.heap.size) (lt_of_block bwt28.out)).trans bwt28.out
  clear bwt28
  have bgt29:Hid (wv.heap[wr2c.heap.size]? = some (.cells #[.slice h1 rl.length hk1,.slice h2 rs.length hk2,.slice h3 ro.length hk3] 31 (0,0))):=(bh.block (wr2c.heap.size) (lt_of_block bgt28.out)).trans bgt28.out
  clear bgt28
  have M1t29:Hid (wv.ownsRow (w4.alloc (.cells #[.slice (some ⟨g1,0,none⟩) live.length live.length,.slice (some ⟨g2,0,none⟩) safe.length safe.length,.slice (some ⟨g3,0,none⟩) ops.length ops.length] 31)).heap.size 84 2 (Value.slice h1 rl.length hk1) rl.length (pcells (marksP 1 rl.length))):=kept2 M1t28.out bh
  clear M1t28
  have M2t29:Hid (wv.ownsRow (w4.alloc (.cells #[.slice (some ⟨g1,0,none⟩) live.length live.length,.slice (some ⟨g2,0,none⟩) safe.length safe.length,.slice (some ⟨g3,0,none⟩) ops.length ops.length] 31)).heap.size 84 2 (Value.slice h2 rs.length hk2) rs.length (pcells (marksP (1+2*rl.length) rs.length))):=kept2 M2t28.out bh
  clear M2t28
  have M3t29:Hid (wv.ownsRow (w4.alloc (.cells #[.slice (some ⟨g1,0,none⟩) live.length live.length,.slice (some ⟨g2,0,none⟩) safe.length safe.length,.slice (some ⟨g3,0,none⟩) ops.length ops.length] 31)).heap.size 40 4 (Value.slice h3 ro.length hk3) ro.length (dcells (marksD (1+2*rl.length+2*rs.length) ro.length))):=kept4 M3t28.out bh
  clear M3t28
  have F1t29:Hid (wv.ownsRow wr3a.heap.size 84 2 (Value.slice f1 rl.length fk1) rl.length (pcells rl)):=kept2 F1t28.out bh
  clear F1t28
  have F2t29:Hid (wv.ownsRow wr3a.heap.size 84 2 (Value.slice f2 rs.length fk2) rs.length (pcells rs)):=kept2 F2t28.out bh
  clear F2t28
  have F3t29:Hid (wv.ownsRow wr3a.heap.size 40 4 (Value.slice f3 ro.length fk3) ro.length (dcells ro)):=kept4 F3t28.out bh
  clear F3t28
  have bht29:Hid (wv.heap[wr3c.heap.size]? = some (.cells #[.slice f1 rl.length fk1,.slice f2 rs.length fk2,.slice f3 ro.length fk3] 31 (0,0))):=(bh.block (wr3c.heap.size) (lt_of_block bht28.out)).trans bht28.out
  clear bht28
  have Bt29:Below w.heap.size w wv:=Bt28.trans (bh.mono Bt28.size)
  clear Bt28
  clear KM bh
  go_wp2
  go_ret
  exact⟨rfl,Bt29⟩
set_option maxRecDepth 100000 in
theorem lifted (os:Os) (started:os.Started) (H:Type) (enc:TypeId × Value→H) :
 ReturnsInHanded {} Try.checked os 8 .any (Rows.fnExactReplaceSpec.pre6 enc Try.prog Try.f8 Rows.fnExactReplaceRow.domain false) (Rows.fnExactReplaceSpec.post enc Try.prog Try.f8 false true false false):=by
 refine returnsInHanded_of_change (C:=Try.checked) own started (by kernel_rfl) Try.func8
  (ChangeSpec.witness6 (enc:=enc) (C:=Try.checked) false ⟨#[],#[.agg #[.slice none 0 0,.slice none 0 0,.slice none 0 0],.string ByteArray.empty,.string ByteArray.empty],[]⟩ 8 (by kernel_rfl) (by kernel_rfl) (by kernel_rfl) (by kernel_rfl)) ?_
 intro W base args ds gs before hval0 hW hcnd _
 have hval:∀ (j:Nat) t v,Try.f8.params[j]? = some t→args[j]? = some v→Value.okWide Try.prog W .any base t v:=hval0
 have hW':=hW
 obtain⟨p,q,hA0,hV,rfl,hfz,hnd⟩:=hW
 have hA:DataW.TrodAll enc Try.prog W 0 (fun _=>true) true Try.f8.params.toList args.toList ds p:=hA0
 rw[Try.params8] at hA hval
 obtain⟨v0,vs0,d0,ds0,p0,q0,hargs,rfl,rfl,h0,r0⟩:=trodAll_cons hA
 obtain⟨v1,vs1,d1,ds1,p1,q1,hargs1,rfl,rfl,h1,r1⟩:=trodAll_cons r0
 obtain⟨v2,vs2,d2,ds2,p2,q2,hargs2,rfl,rfl,h2,r2⟩:=trodAll_cons r1
 obtain⟨rfl,rfl,rfl⟩:=trodAll_nil r2
 obtain rfl:args=#[v0,v1,v2]:=by cases args;simp_all
 obtain⟨rfl,rfl⟩:=trodVars_none hV
 have k0:=h0
 have k1:=h1
 have k2:=h2
 have lt0:∀ x∈p0,x.block<W.heap.size:=by obtain⟨m,hm⟩:=k0;exact DataW.trod_lt m _ _ _ hm
 have lt1:∀ x∈p1,x.block<W.heap.size:=by obtain⟨m,hm⟩:=k1;exact DataW.trod_lt m _ _ _ hm
 have lt2:∀ x∈p2,x.block<W.heap.size:=by obtain⟨m,hm⟩:=k2;exact DataW.trod_lt m _ _ _ hm
 obtain⟨a1,a2,a3,c1,c2,c3,live,safe,ops,hv0,⟨i1,l1,m1⟩,⟨i2,l2,m2⟩,⟨i3,l3,m3⟩⟩:=disk_of (hval 0 25 v0 rfl rfl) h0
 obtain⟨nm,hv1,hnl⟩:∃ nm:List UInt8,v1=.string ⟨nm.toArray⟩∧nm.length≤9223372036854775807:=by
  obtain⟨s0,rfl⟩:=okWide_string Try.underlying9 (hval 1 9 v1 rfl rfl)
  obtain⟨fuel,hf⟩:=h1
  obtain⟨s1,hs1,_,hw⟩:=DataW.trod_string Try.underlying9 (by simpa [Value.cells] using hf)
  simp at hs1
  subst hs1
  unfold maxLen at hw
  exact⟨s0.data.toList,by simp,by simp only[Array.length_toList];exact hw⟩
 obtain⟨da,hv2,hdl⟩:∃ da:List UInt8,v2=.string ⟨da.toArray⟩∧da.length≤9223372036854775807:=by
  obtain⟨s0,rfl⟩:=okWide_string Try.underlying9 (hval 2 9 v2 rfl rfl)
  obtain⟨fuel,hf⟩:=h2
  obtain⟨s1,hs1,_,hw⟩:=DataW.trod_string Try.underlying9 (by simpa [Value.cells] using hf)
  simp at hs1
  subst hs1
  unfold maxLen at hw
  exact⟨s0.data.toList,by simp,by simp only[Array.length_toList];exact hw⟩
 clear hA0 hval0
 subst hv0 hv1 hv2
 simp only[List.append_nil] at hW'
 refine (walk a1 a2 a3 c1 c2 c3 live safe ops nm da W l1 l2 l3 m1 m2 m3 i1 i2 i3 hnl hdl).mono fun e W' ⟨he,bel⟩=>?_
 subst he
 exact⟨_,rfl,_,_,_,[],_,[],hW',trodAll_mk1 (shut_bool Try.underlying4 _),(trodAll_cons_mk (Below.trod laidOut (by kernel_rfl) (of_decide_eq_true (by kernel_rfl)) k0 bel lt0) (trodAll_cons_mk (Below.trod laidOut (by kernel_rfl) (of_decide_eq_true (by kernel_rfl)) k1 bel lt1) (trodAll_cons_mk (Below.trod laidOut (by kernel_rfl) (of_decide_eq_true (by kernel_rfl)) k2 bel lt2) trodAll_mk0))),rfl,bel.frame _,fun h=>by cases h⟩
theorem over:Rows.fnExactReplaceRow.holds Try.pinned (OpenSpec.ofChange Rows.fnExactReplaceSpec) :=
 OpenClaim.holds_of_wide 8 Try.f8 rfl rfl rfl rfl rfl rfl rfl ⟨rfl,rfl,rfl,rfl,rfl⟩ rfl rfl rfl rfl rfl (by kernel_rfl) Try.func8 (by kernel_rfl)
  (of_decide_eq_true (by kernel_rfl)) (by unfold Func.isWrapper;first | (rw[if_pos (by decide +kernel)];kernel_rfl) | (rw[if_neg (by decide +kernel)];exact⟨rfl,rfl⟩))
  (fun os started H enc _=>lifted os started H enc)
end Go.Proofs.Ytlllkdioojjaeaa.fnExactReplace
namespace Go.Proofs.Ytlllkdioojjaeaa
theorem fnExactReplace_holds:Rows.FnExactReplaceSaid:=fnExactReplace.over
end Go.Proofs.Ytlllkdioojjaeaa
