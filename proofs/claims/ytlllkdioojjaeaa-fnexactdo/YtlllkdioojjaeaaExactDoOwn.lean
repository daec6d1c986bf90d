/-
 At every disk and op Do answers as its model; it writes into no argument and keeps nothing of one; its answer owns its memory. No condition.
-/
import Derived.Test.YtlllkdioojjaeaaSActs
import Derived.Test.YtlllkdioojjaeaaIDos
import Derived.Test.YtlllkdioojjaeaaDOpS
import Derived.Test.YtlllkdioojjaeaaDiskL
import Derived.Deep.RegionHeld3
import Derived.Deep.Cut
import Derived.ProofKit
import Derived.OpenShut
import Derived.ShutString
import Derived.ChangeOld
import Derived.Below
import Derived.Lib.SmallJoins
namespace Go.Proofs.Ytlllkdioojjaeaa.fnExactDo
open Go.ChangeShapes Go.WideShapes Go.ChangeAt Go.RowKit
open Go.ChangeMaps (open_string shut_string)
set_option linter.unusedVariables false
theorem own:ownKnob Try.prog.godebug=none:=by kernel_rfl
theorem laidOut:laidOutB Try.prog=true:=by kernel_rfl
theorem sizes_le (ps:List PairL) (h:ps.length+sizeP ps≤1048576):∀ p∈ps,p.1.length≤1048576∧p.2.length≤1048576:=by
 intro p hp
 obtain⟨j,hj,rfl⟩:=List.getElem_of_mem hp
 have:=sizeP_le ps j hj
 exact⟨by omega,by omega⟩
theorem sizesD_le (ps:List DOpL) (h:ps.length+sizeD ps≤1048576):∀ p∈ps,p.n.length≤1048576∧p.t.length≤1048576∧p.d.length≤1048576:=by
 intro p hp
 obtain⟨j,hj,rfl⟩:=List.getElem_of_mem hp
 have:=sizeD_le ps j hj
 unfold opN at this
 exact⟨by omega,by omega,by omega⟩
set_option maxRecDepth 100000 in
theorem dop_of {H:Type} {enc:TypeId × Value→H} {W:World} {r:Reach} {b0:Nat} {v:Value} {d:DataW H} {p:List MemPlace} (hv:Value.okWide Try.prog W r b0 36 v) (h:DataW.Trod enc Try.prog W 0 (fun _=>true) true 36 v d p) :
 ∃ (kk:Int) (nn tt dd:List UInt8),v=.agg #[.int .i64 kk,.string ⟨nn.toArray⟩,.string ⟨tt.toArray⟩,.string ⟨dd.toArray⟩]∧nn.length≤9223372036854775807∧tt.length≤9223372036854775807∧dd.length≤9223372036854775807:=by
 obtain⟨u0,u1,u2,u3,y0,y1,y2,y3,n,rfl,_,_,t0,t1,t2,t3⟩:=Go.Joins.open_agg4 Try.underlying36 (by kernel_rfl) (by kernel_rfl) hv h
 obtain⟨i0,hi0,_,_⟩:=DataW.trod_int Try.underlying2 t0
 obtain⟨s1,hs1,_,w1⟩:=DataW.trod_string Try.underlying9 t1
 obtain⟨s2,hs2,_,w2⟩:=DataW.trod_string Try.underlying9 t2
 obtain⟨s3,hs3,_,w3⟩:=DataW.trod_string Try.underlying9 t3
 simp at hi0 hs1 hs2 hs3
 subst hi0 hs1 hs2 hs3
 unfold maxLen at w1 w2 w3
 exact⟨i0,s1.data.toList,s2.data.toList,s3.data.toList,by simp,by simp only[Array.length_toList];exact w1,by simp only[Array.length_toList];exact w2,by simp only[Array.length_toList];exact w3⟩
def SReg (W0 wx:World) (bs:Nat) (x1 x2 x3:Option Addr) (k1 k2 k3:Nat) (rl rs:List PairL) (ro:List DOpL):Prop :=
 wx.heap[bs]? = some (.cells #[.slice x1 rl.length k1,.slice x2 rs.length k2,.slice x3 ro.length k3] 31 (0,0))∧W0.heap.size≤bs∧NewQ wx W0.heap.size wx.heap.size x1 (pcells rl)∧NewQ wx W0.heap.size wx.heap.size x2 (pcells rs)∧NewQ wx W0.heap.size wx.heap.size x3 (dcells ro)∧Below W0.heap.size W0 wx
def JReg (W0 wx:World) (bs:Nat) (x1 x2 x3:Option Addr) (k1 k2 k3:Nat) (rl rs:List PairL) (ro:List DOpL):Prop :=
 wx.heap[bs]? = some (.cells #[.slice x1 rl.length k1,.slice x2 rs.length k2,.slice x3 ro.length k3] 31 (0,0))∧W0.heap.size≤bs∧wx.ownsRow W0.heap.size 84 2 (.slice x1 rl.length k1) rl.length (pcells rl)∧wx.ownsRow W0.heap.size 84 2 (.slice x2 rs.length k2) rs.length (pcells rs)∧wx.ownsRow W0.heap.size 40 4 (.slice x3 ro.length k3) ro.length (dcells ro)∧Apart3 (.slice x1 rl.length k1) (.slice x2 rs.length k2) (.slice x3 ro.length k3)∧(∀ q,(Value.slice x1 rl.length k1).ownBlock=some q→q≠bs)∧(∀ q,(Value.slice x2 rs.length k2).ownBlock=some q→q≠bs)∧(∀ q,(Value.slice x3 ro.length k3).ownBlock=some q→q≠bs)∧Below W0.heap.size W0 wx
theorem newR_setQ {W:World} {lo:Nat} {a:Option Addr} {xs:List Value} (h:NewR W lo a xs) (p:Addr) (hp:p.block<lo∨W.heap.size≤p.block) (v:Value):NewR (W.setCell p v) lo a xs:=((newQ_of h).setAt p hp v).1
theorem sreg_store {W0 wb c9:World} {bs:Nat} {x1 x2 x3:Option Addr} {k1 k2 k3:Nat} {rl rs:List PairL} {ro:List DOpL} (hz:c9.heap[bs]? = some (.cells #[.slice none 0 0,.slice none 0 0,.slice none 0 0] 31 (0,0))) (hb:W0.heap.size≤bs) (hB:Below W0.heap.size W0 c9) (hs:W0.heap.size≤wb.heap.size) (hlt:bs<wb.heap.size) (n1:NewR c9 wb.heap.size x1 (pcells rl)) (n2:NewR c9 wb.heap.size x2 (pcells rs)) (n3:NewR c9 wb.heap.size x3 (dcells ro)):SReg W0 (((c9.setCell ⟨bs,0,none⟩ (.slice x1 rl.length k1)).setCell ⟨bs,1,none⟩ (.slice x2 rs.length k2)).setCell ⟨bs,2,none⟩ (.slice x3 ro.length k3)) bs x1 x2 x3 k1 k2 k3 rl rs ro :=
 ⟨dk_set (j:=2) (dk_set (j:=1) (dk_set (j:=0) hz)),hb,newQ_of ((((n1.setCell _ hlt _).setCell _ hlt _).setCell _ hlt _).lower hs),newQ_of ((((n2.setCell _ hlt _).setCell _ hlt _).setCell _ hlt _).lower hs),newQ_of ((((n3.setCell _ hlt _).setCell _ hlt _).setCell _ hlt _).lower hs),((hB.setCell hb _).setCell hb _).setCell hb _⟩
theorem sreg_new {W0 c9:World} {x1 x2 x3:Option Addr} {k1 k2 k3:Nat} {rl rs:List PairL} {ro:List DOpL} (hB:Below W0.heap.size W0 c9) (n1:NewR c9 W0.heap.size x1 (pcells rl)) (n2:NewR c9 W0.heap.size x2 (pcells rs)) (n3:NewR c9 W0.heap.size x3 (dcells ro)):SReg W0 (c9.alloc (.cells #[.slice x1 rl.length k1,.slice x2 rs.length k2,.slice x3 ro.length k3] 31)) c9.heap.size x1 x2 x3 k1 k2 k3 rl rs ro :=
 have b9:Below c9.heap.size c9 (c9.alloc (.cells #[.slice x1 rl.length k1,.slice x2 rs.length k2,.slice x3 ro.length k3] 31)):=(Below.refl _ _).alloc (Nat.le_refl _) _
 ⟨heap_alloc_new c9 _,hB.size,newQ_of (n1.later b9),newQ_of (n2.later b9),newQ_of (n3.later b9),hB.alloc hB.size _⟩
theorem jreg_store {W0 wb c9:World} {bs:Nat} {x1 x2 x3:Option Addr} {k1 k2 k3:Nat} {rl rs:List PairL} {ro:List DOpL} (hz:c9.heap[bs]? = some (.cells #[.slice none 0 0,.slice none 0 0,.slice none 0 0] 31 (0,0))) (hb:W0.heap.size≤bs) (hB:Below W0.heap.size W0 c9) (hs:W0.heap.size≤wb.heap.size) (hlt:bs<wb.heap.size) (n1:c9.ownsRow wb.heap.size 84 2 (.slice x1 rl.length k1) rl.length (pcells rl)) (n2:c9.ownsRow wb.heap.size 84 2 (.slice x2 rs.length k2) rs.length (pcells rs)) (n3:c9.ownsRow wb.heap.size 40 4 (.slice x3 ro.length k3) ro.length (dcells ro)) (hap:Apart3 (.slice x1 rl.length k1) (.slice x2 rs.length k2) (.slice x3 ro.length k3)):JReg W0 (((c9.setCell ⟨bs,0,none⟩ (.slice x1 rl.length k1)).setCell ⟨bs,1,none⟩ (.slice x2 rs.length k2)).setCell ⟨bs,2,none⟩ (.slice x3 ro.length k3)) bs x1 x2 x3 k1 k2 k3 rl rs ro :=
 ⟨dk_set (j:=2) (dk_set (j:=1) (dk_set (j:=0) hz)),hb,(own_set (own_set (own_set n1 _ hlt _) _ hlt _) _ hlt _).mono hs,(own_set (own_set (own_set n2 _ hlt _) _ hlt _) _ hlt _).mono hs,(own_set (own_set (own_set n3 _ hlt _) _ hlt _) _ hlt _).mono hs,hap,fun q h=>by have:=(n1.lt q h).1;omega,fun q h=>by have:=(n2.lt q h).1;omega,fun q h=>by have:=(n3.lt q h).1;omega,((hB.setCell hb _).setCell hb _).setCell hb _⟩
theorem jreg_new {W0 c9:World} {x1 x2 x3:Option Addr} {k1 k2 k3:Nat} {rl rs:List PairL} {ro:List DOpL} (hB:Below W0.heap.size W0 c9) (n1:c9.ownsRow W0.heap.size 84 2 (.slice x1 rl.length k1) rl.length (pcells rl)) (n2:c9.ownsRow W0.heap.size 84 2 (.slice x2 rs.length k2) rs.length (pcells rs)) (n3:c9.ownsRow W0.heap.size 40 4 (.slice x3 ro.length k3) ro.length (dcells ro)) (hap:Apart3 (.slice x1 rl.length k1) (.slice x2 rs.length k2) (.slice x3 ro.length k3)):JReg W0 (c9.alloc (.cells #[.slice x1 rl.length k1,.slice x2 rs.length k2,.slice x3 ro.length k3] 31)) c9.heap.size x1 x2 x3 k1 k2 k3 rl rs ro :=
 ⟨heap_alloc_new c9 _,hB.size,n1.alloc _,n2.alloc _,n3.alloc _,hap,fun q h=>by have:=(n1.lt q h).2;omega,fun q h=>by have:=(n2.lt q h).2;omega,fun q h=>by have:=(n3.lt q h).2;omega,hB.alloc hB.size _⟩
theorem is3_later {w W:World} {a b c:Option Addr} {live safe:List PairL} {ops:List DOpL} (h:IsPairs w a live∧IsPairs w b safe∧IsDOps w c ops) (hb:Below w.heap.size w W):IsPairs W a live∧IsPairs W b safe∧IsDOps W c ops:=⟨h.1.later hb,h.2.1.later hb,h.2.2.later hb⟩
theorem lt_block {W:World} {b:Nat} {o:Obj} (h:W.heap[b]? = some o):b<W.heap.size:=(Array.getElem?_eq_some_iff.1 h).1
theorem size_via {w W:World} (h:Below w.heap.size w W):w.heap.size≤W.heap.size:=h.size
theorem below_set9 {B:Nat} {w W:World} {p:Addr} {v:Value} (h:Below B w W) (hp:B≤p.block):Below B w (W.setCell p v):=h.setCell hp v
theorem doL_len (live safe:List PairL) (ops:List DOpL) (o:DOpL) (h1:live.length≤1048576) (h2:safe.length≤1048576) (h3:ops.length≤1048576):(doL live safe ops o).1.length≤1048576∧(doL live safe ops o).2.1.length≤1048576∧(doL live safe ops o).2.2.1.length≤1048576:=by
 unfold doL
 split
 · rename_i hk
   have hf:filesOk live=true:=by cases h:filesOk live with | true=>rfl | false=>rw[disk_no1 h] at hk;cases hk
   have hp:ops.length≤200:=by
    by_cases h:ops.length≤200
    · exact h
    · rw[disk_no3 h] at hk;cases hk
   have hri:=rise_files hf
   have hd:=do_len hri.1 o
   have h60:=hri.2.2.1
   unfold actL
   split
   · exact⟨h1,h2,h3⟩
   · split
     · exact⟨h1,h2,h3⟩
     · split
       · exact⟨h1,h2,h3⟩
       · refine⟨?_,h2,?_⟩
         · simp only;omega
         · simp only[List.length_append,List.length_cons,List.length_nil];omega
 · exact⟨by simp,by simp,by simp⟩
theorem below_of_grownD {w w':World} (h:w.grownBy w' none):Below w.heap.size w w':=⟨h.os,h.tape,h.output,h.size,fun k hk=>h.block k hk (by simp)⟩
set_option maxRecDepth 100000 in
set_option maxHeartbeats 8000000 in
theorem walk (a1 a2 a3 : Option Addr) (c1 c2 c3 : Nat) (live safe : List PairL) (ops : List DOpL) (kk : Int) (nn tt dd : List UInt8) (w : World) (hl1 : live.length ≤ 9223372036854775807) (hl2 : safe.length ≤ 9223372036854775807) (hl3 : ops.length ≤ 9223372036854775807) (hm1 : ∀ p ∈ live, p.1.length ≤ 9223372036854775807 ∧ p.2.length ≤ 9223372036854775807) (hm2 : ∀ p ∈ safe, p.1.length ≤ 9223372036854775807 ∧ p.2.length ≤ 9223372036854775807) (hm3 : ∀ p ∈ ops, p.n.length ≤ 9223372036854775807 ∧ p.t.length ≤ 9223372036854775807 ∧ p.d.length ≤ 9223372036854775807) (hs1 : IsPairs w a1 live) (hs2 : IsPairs w a2 safe) (hs3 : IsDOps w a3 ops) (hn0 : nn.length ≤ 9223372036854775807) (ht0 : tt.length ≤ 9223372036854775807) (hd0 : dd.length ≤ 9223372036854775807) :
 Calls Try.prog 4 #[.agg #[.slice a1 live.length c1,.slice a2 safe.length c2,.slice a3 ops.length c3],.agg #[.int .i64 kk,.string ⟨nn.toArray⟩,.string ⟨tt.toArray⟩,.string ⟨dd.toArray⟩]] w fun e w'=>e=.returned (.bool true)∧Below w.heap.size w w':=by
 have HS:Hid (∀ W,Below w.heap.size w W→IsPairs W a1 live∧IsPairs W a2 safe∧IsDOps W a3 ops):=fun W hW=>⟨hs1.later hW,hs2.later hW,hs3.later hW⟩
 have Bz:Below w.heap.size w w:=Below.refl _ _
 have Xt1:Below w.heap.size w (w.alloc (.cells #[.slice a1 live.length c1,.slice a2 safe.length c2,.slice a3 ops.length c3] 25)):=(Below.refl _ _).alloc (Nat.le_refl _) _
 have Bt2:Below w.heap.size w (w.alloc (.cells #[.slice a1 live.length c1,.slice a2 safe.length c2,.slice a3 ops.length c3] 25)):=Bz.trans (Xt1.mono Bz.size)
 clear Bz
 clear Xt1
 have aDt1:Hid ((w.alloc (.cells #[.slice a1 live.length c1,.slice a2 safe.length c2,.slice a3 ops.length c3] 25)).heap[w.heap.size]? = some (.cells #[.slice a1 live.length c1,.slice a2 safe.length c2,.slice a3 ops.length c3] 25 (0,0))):=heap_alloc_new w _
 have Xo:Below (w.alloc (.cells #[.slice a1 live.length c1,.slice a2 safe.length c2,.slice a3 ops.length c3] 25)).heap.size (w.alloc (.cells #[.slice a1 live.length c1,.slice a2 safe.length c2,.slice a3 ops.length c3] 25)) ((w.alloc (.cells #[.slice a1 live.length c1,.slice a2 safe.length c2,.slice a3 ops.length c3] 25)).alloc (.cells #[.int .i64 kk,.string ⟨nn.toArray⟩,.string ⟨tt.toArray⟩,.string ⟨dd.toArray⟩] 36)):=(Below.refl _ _).alloc (Nat.le_refl _) _
 have aDt3:Hid (((w.alloc (.cells #[.slice a1 live.length c1,.slice a2 safe.length c2,.slice a3 ops.length c3] 25)).alloc (.cells #[.int .i64 kk,.string ⟨nn.toArray⟩,.string ⟨tt.toArray⟩,.string ⟨dd.toArray⟩] 36)).heap[w.heap.size]? = some (.cells #[.slice a1 live.length c1,.slice a2 safe.length c2,.slice a3 ops.length c3] 25 (0,0))):=(Xo.block (w.heap.size) (lt_of_block aDt1.out)).trans aDt1.out
 clear aDt1
 have Bt3:Below w.heap.size w ((w.alloc (.cells #[.slice a1 live.length c1,.slice a2 safe.length c2,.slice a3 ops.length c3] 25)).alloc (.cells #[.int .i64 kk,.string ⟨nn.toArray⟩,.string ⟨tt.toArray⟩,.string ⟨dd.toArray⟩] 36)):=Bt2.trans (Xo.mono Bt2.size)
 clear Bt2
 clear Xo
 have aOz:Hid (((w.alloc (.cells #[.slice a1 live.length c1,.slice a2 safe.length c2,.slice a3 ops.length c3] 25)).alloc (.cells #[.int .i64 kk,.string ⟨nn.toArray⟩,.string ⟨tt.toArray⟩,.string ⟨dd.toArray⟩] 36)).heap[w.heap.size+1]? = some (.cells #[.int .i64 kk,.string ⟨nn.toArray⟩,.string ⟨tt.toArray⟩,.string ⟨dd.toArray⟩] 36 (0,0))):=by
  rw[Hid]
  have:=heap_alloc_new (w.alloc (.cells #[.slice a1 live.length c1,.slice a2 safe.length c2,.slice a3 ops.length c3] 25)) (.cells #[.int .i64 kk,.string ⟨nn.toArray⟩,.string ⟨tt.toArray⟩,.string ⟨dd.toArray⟩] 36)
  simpa using this
 have KZ:=szDisk_any 1048576 (Nat.le_refl _) a1 a2 a3 c1 c2 c3 live safe ops ((w.alloc (.cells #[.slice a1 live.length c1,.slice a2 safe.length c2,.slice a3 ops.length c3] 25)).alloc (.cells #[.int .i64 kk,.string ⟨nn.toArray⟩,.string ⟨tt.toArray⟩,.string ⟨dd.toArray⟩] 36)) hl1 hl2 hl3 hm1 hm2 hm3 (HS.out _ Bt3).1 (HS.out _ Bt3).2.1 (HS.out _ Bt3).2.2
 clear hs1 hs2 hs3 hm1 hm2 hm3
 obtain⟨aD0,aD1,aD2,_⟩:=three_cells aDt3.out
 go_enter Try.func4,Try.ntmps4
 go_wp2_with fail
 refine KZ.mono ?_
 rintro e w1 ⟨he,b1⟩
 clear aD0 aD1 aD2
 have aDt4:Hid (w1.heap[w.heap.size]? = some (.cells #[.slice a1 live.length c1,.slice a2 safe.length c2,.slice a3 ops.length c3] 25 (0,0))):=(b1.block (w.heap.size) (lt_of_block aDt3.out)).trans aDt3.out
 clear aDt3
 have aOt4:Hid (w1.heap[w.heap.size+1]? = some (.cells #[.int .i64 kk,.string ⟨nn.toArray⟩,.string ⟨tt.toArray⟩,.string ⟨dd.toArray⟩] 36 (0,0))):=(b1.block (w.heap.size+1) (lt_of_block aOz.out)).trans aOz.out
 clear aOz
 have Bt4:Below w.heap.size w w1:=Bt3.trans (b1.mono Bt3.size)
 clear Bt3
 clear KZ b1
 rcases he with rfl | ⟨hz1,hz2,hz3,q,hq,rfl⟩
 · go_wp2
   go_ret
   exact⟨rfl,Bt4⟩
 have q0:(0:Int)≤(q:Int):=by omega
 have KY:=szDOp_any kk nn tt dd q w1 (by omega) hn0 ht0 hd0
 obtain⟨aO0,aO1,aO2,aO3,_⟩:=four_cells aOt4.out
 go_wp2_with fail
 refine KY.mono ?_
 rintro e w1b ⟨he,b1⟩
 clear aO0 aO1 aO2 aO3
 have aDt5:Hid (w1b.heap[w.heap.size]? = some (.cells #[.slice a1 live.length c1,.slice a2 safe.length c2,.slice a3 ops.length c3] 25 (0,0))):=(b1.block (w.heap.size) (lt_of_block aDt4.out)).trans aDt4.out
 clear aDt4
 have aOt5:Hid (w1b.heap[w.heap.size+1]? = some (.cells #[.int .i64 kk,.string ⟨nn.toArray⟩,.string ⟨tt.toArray⟩,.string ⟨dd.toArray⟩] 36 (0,0))):=(b1.block (w.heap.size+1) (lt_of_block aOt4.out)).trans aOt4.out
 clear aOt4
 have Bt5:Below w.heap.size w w1b:=Bt4.trans (b1.mono Bt4.size)
 clear Bt4
 clear KY b1
 rcases he with ⟨_,rfl⟩ | ⟨hle,rfl⟩
 · go_wp2
   go_ret
   exact⟨rfl,Bt5⟩
 obtain⟨q9,hq9⟩:∃ x,x=q - (nn.length+tt.length+dd.length):=⟨_,rfl⟩
 rw[←hq9]
 have q90:(0:Int)≤(q9:Int):=by omega
 have hn1:live.length≤1048576:=by omega
 have hn2:safe.length≤1048576:=by omega
 have hn3:ops.length≤1048576:=by omega
 have hnn:nn.length≤1048576:=by omega
 have htt:tt.length≤1048576:=by omega
 have hdd:dd.length≤1048576:=by omega
 have m1:=sizes_le live hz1
 have m2:=sizes_le safe hz2
 have m3:=sizesD_le ops hz3
 have H1:=fun (g1 g2 g3:Nat) W (h:(IsPairs W (some ⟨g1,0,none⟩) live∧IsPairs W (some ⟨g2,0,none⟩) safe∧IsDOps W (some ⟨g3,0,none⟩) ops))=>spec_doX (some ⟨g1,0,none⟩) (some ⟨g2,0,none⟩) (some ⟨g3,0,none⟩) live.length safe.length ops.length live safe ops kk nn tt dd W (.inr ⟨g1,0,rfl⟩) (.inr ⟨g2,0,rfl⟩) hn1 m1 hn2 m2 hn3 m3 (by omega) (by omega) hdd h.1 h.2.1 h.2.2
 have H2:=fun (g1 g2 g3:Nat) W (h:(IsPairs W (some ⟨g1,0,none⟩) live∧IsPairs W (some ⟨g2,0,none⟩) safe∧IsDOps W (some ⟨g3,0,none⟩) ops))=>impl_doX (some ⟨g1,0,none⟩) (some ⟨g2,0,none⟩) (some ⟨g3,0,none⟩) live.length safe.length ops.length live safe ops kk nn tt dd W (.inr ⟨g1,0,rfl⟩) (by simp) (.inr ⟨g2,0,rfl⟩) (by simp) (.inr ⟨g3,0,rfl⟩) (by simp) hn1 m1 hn2 m2 hn3 m3 (by omega) (by omega) hdd h.1 h.2.1 h.2.2
 obtain⟨hr1,hr2,hr3⟩:=doL_len live safe ops ⟨kk,nn,tt,dd⟩ hn1 hn2 hn3
 unfold APost at H1
 unfold JPost at H2
 obtain⟨rr,hrr⟩:∃ x,x=doL live safe ops ⟨kk,nn,tt,dd⟩:=⟨_,rfl⟩
 rw[←hrr] at H1 H2 hr1 hr2 hr3
 obtain⟨rl,rs,ro,cd⟩:=rr
 simp only at H1 H2 hr1 hr2 hr3
 have HH1:Hid (∀ (g1 g2 g3:Nat) W,(IsPairs W (some ⟨g1,0,none⟩) live∧IsPairs W (some ⟨g2,0,none⟩) safe∧IsDOps W (some ⟨g3,0,none⟩) ops)→Calls Try.prog 18 #[.agg #[.slice (some ⟨g1,0,none⟩) live.length live.length,.slice (some ⟨g2,0,none⟩) safe.length safe.length,.slice (some ⟨g3,0,none⟩) ops.length ops.length],.agg #[.int .i64 kk,.string ⟨nn.toArray⟩,.string ⟨tt.toArray⟩,.string ⟨dd.toArray⟩]] W fun e w'=>∃ x1 x2 x3 xk1 xk2 xk3,e=.returned (.tuple #[.agg #[.slice x1 rl.length xk1,.slice x2 rs.length xk2,.slice x3 ro.length xk3],.int .i64 cd])∧NewR w' W.heap.size x1 (pcells rl)∧NewR w' W.heap.size x2 (pcells rs)∧NewR w' W.heap.size x3 (dcells ro)∧Below W.heap.size W w'):=fun g1 g2 g3 W h=>(H1 g1 g2 g3 W h).mono fun e w' ⟨x1,x2,x3,y1,y2,y3,e0,e1,e2,e3,_,_,e4⟩=>⟨x1,x2,x3,y1,y2,y3,e0,e1,e2,e3,e4⟩
 have HH2:Hid (∀ (g1 g2 g3:Nat) W,(IsPairs W (some ⟨g1,0,none⟩) live∧IsPairs W (some ⟨g2,0,none⟩) safe∧IsDOps W (some ⟨g3,0,none⟩) ops)→Calls Try.prog 20 #[.agg #[.slice (some ⟨g1,0,none⟩) live.length live.length,.slice (some ⟨g2,0,none⟩) safe.length safe.length,.slice (some ⟨g3,0,none⟩) ops.length ops.length],.agg #[.int .i64 kk,.string ⟨nn.toArray⟩,.string ⟨tt.toArray⟩,.string ⟨dd.toArray⟩]] W fun e w'=>∃ x1 x2 x3 xk1 xk2 xk3,e=.returned (.tuple #[.agg #[.slice x1 rl.length xk1,.slice x2 rs.length xk2,.slice x3 ro.length xk3],.int .i64 cd])∧w'.ownsRow W.heap.size 84 2 (Value.slice x1 rl.length xk1) rl.length (pcells rl)∧w'.ownsRow W.heap.size 84 2 (Value.slice x2 rs.length xk2) rs.length (pcells rs)∧w'.ownsRow W.heap.size 40 4 (Value.slice x3 ro.length xk3) ro.length (dcells ro)∧Apart3 (Value.slice x1 rl.length xk1) (Value.slice x2 rs.length xk2) (Value.slice x3 ro.length xk3)∧Below W.heap.size W w'):=H2
 have HTN:Hid (∀ W,Below w.heap.size w W→Calls Try.prog 14 #[.agg #[.slice a1 live.length c1,.slice a2 safe.length c2,.slice a3 ops.length c3]] W fun e w'=>∃ g1 g2 g3:Nat,e=.returned (.agg #[.slice (some ⟨g1,0,none⟩) live.length live.length,.slice (some ⟨g2,0,none⟩) safe.length safe.length,.slice (some ⟨g3,0,none⟩) ops.length ops.length])∧g1<g2∧g2<g3∧w'.ownsRow W.heap.size 84 2 (Value.slice (some ⟨g1,0,none⟩) live.length live.length) live.length (pcells live)∧w'.ownsRow W.heap.size 84 2 (Value.slice (some ⟨g2,0,none⟩) safe.length safe.length) safe.length (pcells safe)∧w'.ownsRow W.heap.size 40 4 (Value.slice (some ⟨g3,0,none⟩) ops.length ops.length) ops.length (dcells ops)∧Below W.heap.size W w'):=fun W hW=>toDisk_any a1 a2 a3 c1 c2 c3 live safe ops W hn1 hn2 hn3 (HS.out W hW).1 (HS.out W hW).2.1 (HS.out W hW).2.2
 clear H1 H2 hrr m1 m2 m3 hz1 hz2 hz3 HS hl1 hl2 hl3 hq hle hq9 hn0 ht0 hd0
 have SB:Hid (∀ W,Below w1b.heap.size w1b W→W.cell? ⟨w.heap.size,0,none⟩=some (.slice a1 live.length c1)∧W.cell? ⟨w.heap.size,1,none⟩=some (.slice a2 safe.length c2)∧W.cell? ⟨w.heap.size,2,none⟩=some (.slice a3 ops.length c3)∧W.cell? ⟨w.heap.size+1,0,none⟩=some (.int .i64 kk)∧W.cell? ⟨w.heap.size+1,1,none⟩=some (.string ⟨nn.toArray⟩)∧W.cell? ⟨w.heap.size+1,2,none⟩=some (.string ⟨tt.toArray⟩)∧W.cell? ⟨w.heap.size+1,3,none⟩=some (.string ⟨dd.toArray⟩)):=fun W hW=>by
  obtain⟨u0,u1,u2,_⟩:=three_cells ((hW.block _ (lt_of_block aDt5.out)).trans aDt5.out)
  obtain⟨v0,v1,v2,v3,_⟩:=four_cells ((hW.block _ (lt_of_block aOt5.out)).trans aOt5.out)
  exact⟨u0,u1,u2,v0,v1,v2,v3⟩
 have BR:Below w1b.heap.size w1b w1b:=Below.refl _ _
 have HT2:Hid (∀ W,Below w1b.heap.size w1b W→Calls Try.prog 14 #[.agg #[.slice a1 live.length c1,.slice a2 safe.length c2,.slice a3 ops.length c3]] W fun e w'=>∃ g1 g2 g3:Nat,e=.returned (.agg #[.slice (some ⟨g1,0,none⟩) live.length live.length,.slice (some ⟨g2,0,none⟩) safe.length safe.length,.slice (some ⟨g3,0,none⟩) ops.length ops.length])∧(IsPairs w' (some ⟨g1,0,none⟩) live∧IsPairs w' (some ⟨g2,0,none⟩) safe∧IsDOps w' (some ⟨g3,0,none⟩) ops)∧Below W.heap.size W w'):=fun W hW=>(HTN.out W (Bt5.trans (hW.mono Bt5.size))).mono fun e w' ⟨g1,g2,g3,h1,_,_,r1,r2,r3,h4⟩=>⟨g1,g2,g3,h1,⟨(isPairs_own r1).2.2,(isPairs_own r2).2.2,(isDOps_own r3).2.2⟩,h4⟩
 obtain⟨aD0,aD1,aD2,_⟩:=three_cells aDt5.out
 obtain⟨aO0,aO1,aO2,aO3,_⟩:=four_cells aOt5.out
 go_wp2
 go_cut [6,7] from 26 (fun v6 v7 wx=>∃ (bs:Nat) (x1 x2 x3:Option Addr) (xk1 xk2 xk3:Nat),v6=.pointer (some ⟨bs,0,none⟩)∧v7=.int .i64 cd∧Hid (SReg w1b wx bs x1 x2 x3 xk1 xk2 xk3 rl rs ro))
 case first =>
  go_region_held3 (fun w'=>w'.cell? ⟨w.heap.size,0,none⟩=some (.slice a1 live.length c1)∧w'.cell? ⟨w.heap.size,1,none⟩=some (.slice a2 safe.length c2)∧w'.cell? ⟨w.heap.size,2,none⟩=some (.slice a3 ops.length c3)∧w'.cell? ⟨w.heap.size+1,0,none⟩=some (.int .i64 kk)∧w'.cell? ⟨w.heap.size+1,1,none⟩=some (.string ⟨nn.toArray⟩)∧w'.cell? ⟨w.heap.size+1,2,none⟩=some (.string ⟨tt.toArray⟩)∧w'.cell? ⟨w.heap.size+1,3,none⟩=some (.string ⟨dd.toArray⟩))
   (first | exact SB.out _ (by repeat' first | with_reducible exact BC3 | with_reducible exact BC2 | with_reducible exact BC1 | with_reducible exact BR | with_reducible apply below_drew1 | (with_reducible refine below_lit ?_ (Nat.le_refl _) _) | with_reducible apply below_set9 | exact Nat.le_refl _ | exact BC1.size | exact BC2.size | exact BC3.size))
   (first
    | (go_at_call 14
       with_reducible refine (HT2.out _ (by repeat' first | with_reducible exact BR | with_reducible apply below_drew1 | (with_reducible refine below_lit ?_ (Nat.le_refl _) _))).mono ?_
       rintro e wr1a ⟨v1,v2,v3,rfl,i7,b7⟩
       have BC1:Below w1b.heap.size w1b wr1a:=below_via (by repeat' first | with_reducible exact BR | with_reducible apply below_drew1 | (with_reducible refine below_lit ?_ (Nat.le_refl _) _)) (Nat.le_refl _) b7
       have J1:Hid ((IsPairs wr1a (some ⟨v1,0,none⟩) live∧IsPairs wr1a (some ⟨v2,0,none⟩) safe∧IsDOps wr1a (some ⟨v3,0,none⟩) ops)):=i7
       have V1:=blk_via b7
       clear i7 b7)
    | (go_at_call 19
       with_reducible refine (toDOp_any kk nn tt dd _).mono ?_
       rintro e wr1b ⟨rfl,b8⟩
       have BC2:Below w1b.heap.size w1b wr1b:=below_via (by repeat' first | with_reducible exact BC1 | with_reducible exact BR | with_reducible apply below_drew1 | (with_reducible refine below_lit ?_ (Nat.le_refl _) _)) (Nat.le_refl _) b8
       have J2:Hid ((IsPairs wr1b (some ⟨v1,0,none⟩) live∧IsPairs wr1b (some ⟨v2,0,none⟩) safe∧IsDOps wr1b (some ⟨v3,0,none⟩) ops)):=is3_later J1.out (below_via (by repeat' first | with_reducible exact Below.refl _ _ | with_reducible apply below_drew1 | (with_reducible refine below_lit ?_ (Nat.le_refl _) _)) (Nat.le_refl _) b8)
       have V2:=blk_via b8
       clear b8)
    | (go_at_call 18
       with_reducible refine (HH1.out v1 v2 v3 _ (is3_later J2.out (by repeat' first | with_reducible exact Below.refl _ _ | with_reducible apply below_drew1 | (with_reducible refine below_lit ?_ (Nat.le_refl _) _)))).mono ?_
       rintro e wr1c ⟨y1,y2,y3,yk1,yk2,yk3,rfl,n1,n2,n3,b9⟩
       have BC3:Below w1b.heap.size w1b wr1c:=below_via (by repeat' first | with_reducible exact BC2 | with_reducible exact BC1 | with_reducible exact BR | with_reducible apply below_drew1 | (with_reducible refine below_lit ?_ (Nat.le_refl _) _)) (Nat.le_refl _) b9
       have V3:=blk_via b9
       skip
       have M1:Hid (NewR wr1c w1b.heap.size y1 (pcells rl)):=new_via (by repeat' first | with_reducible exact BC2 | with_reducible exact BC1 | with_reducible exact BR | with_reducible apply below_drew1 | (with_reducible refine below_lit ?_ (Nat.le_refl _) _)) (Nat.le_refl _) n1
       have M2:Hid (NewR wr1c w1b.heap.size y2 (pcells rs)):=new_via (by repeat' first | with_reducible exact BC2 | with_reducible exact BC1 | with_reducible exact BR | with_reducible apply below_drew1 | (with_reducible refine below_lit ?_ (Nat.le_refl _) _)) (Nat.le_refl _) n2
       have M3:Hid (NewR wr1c w1b.heap.size y3 (dcells ro)):=new_via (by repeat' first | with_reducible exact BC2 | with_reducible exact BC1 | with_reducible exact BR | with_reducible apply below_drew1 | (with_reducible refine below_lit ?_ (Nat.le_refl _) _)) (Nat.le_refl _) n3
       first
        | (have HN : Hid (wr1c.heap[wr1b.heap.size]? = some (.cells #[.slice none 0 0, .slice none 0 0, .slice none 0 0] 31 (0, 0))) := V3 _ _ (heap_alloc_new wr1b (.cells #[.slice none 0 0, .slice none 0 0, .slice none 0 0] 31))
           have TS:Hid (SReg w1b (((wr1c.setCell ⟨wr1b.heap.size,0,none⟩ (.slice y1 rl.length yk1)).setCell ⟨wr1b.heap.size,1,none⟩ (.slice y2 rs.length yk2)).setCell ⟨wr1b.heap.size,2,none⟩ (.slice y3 ro.length yk3)) (wr1b.heap.size) y1 y2 y3 yk1 yk2 yk3 rl rs ro):=sreg_store HN.out BC2.size BC3 (size_via (by repeat' first | with_reducible exact BC2 | with_reducible exact BC1 | with_reducible exact BR | with_reducible apply below_drew1 | (with_reducible refine below_lit ?_ (Nat.le_refl _) _))) (lt_block (heap_alloc_new wr1b (.cells #[.slice none 0 0,.slice none 0 0,.slice none 0 0] 31))) n1 n2 n3
           obtain⟨z0,z1,z2,zf⟩:=three_cells HN.out
           have zf0:=zf 0
           have zf1:=zf 1
           have zf2:=zf 2
           clear zf)
        | (have HN : Hid (wr1c.heap[wr1a.heap.size]? = some (.cells #[.slice none 0 0, .slice none 0 0, .slice none 0 0] 31 (0, 0))) := V3 _ _ (V2 _ _ (heap_alloc_new wr1a (.cells #[.slice none 0 0, .slice none 0 0, .slice none 0 0] 31)))
           have TS:Hid (SReg w1b (((wr1c.setCell ⟨wr1a.heap.size,0,none⟩ (.slice y1 rl.length yk1)).setCell ⟨wr1a.heap.size,1,none⟩ (.slice y2 rs.length yk2)).setCell ⟨wr1a.heap.size,2,none⟩ (.slice y3 ro.length yk3)) (wr1a.heap.size) y1 y2 y3 yk1 yk2 yk3 rl rs ro):=sreg_store HN.out BC1.size BC3 (size_via (by repeat' first | with_reducible exact BC2 | with_reducible exact BC1 | with_reducible exact BR | with_reducible apply below_drew1 | (with_reducible refine below_lit ?_ (Nat.le_refl _) _))) (lt_block (V2 _ _ (heap_alloc_new wr1a (.cells #[.slice none 0 0,.slice none 0 0,.slice none 0 0] 31)))) n1 n2 n3
           obtain⟨z0,z1,z2,zf⟩:=three_cells HN.out
           have zf0:=zf 0
           have zf1:=zf 1
           have zf2:=zf 2
           clear zf)
        | (have HN : Hid (wr1c.heap[w1b.heap.size]? = some (.cells #[.slice none 0 0, .slice none 0 0, .slice none 0 0] 31 (0, 0))) := V3 _ _ (V2 _ _ (V1 _ _ (heap_alloc_new w1b.drew (.cells #[.slice none 0 0, .slice none 0 0, .slice none 0 0] 31))))
           have TS:Hid (SReg w1b (((wr1c.setCell ⟨w1b.heap.size,0,none⟩ (.slice y1 rl.length yk1)).setCell ⟨w1b.heap.size,1,none⟩ (.slice y2 rs.length yk2)).setCell ⟨w1b.heap.size,2,none⟩ (.slice y3 ro.length yk3)) (w1b.heap.size) y1 y2 y3 yk1 yk2 yk3 rl rs ro):=sreg_store HN.out (Nat.le_refl _) BC3 (size_via (by repeat' first | with_reducible exact BC2 | with_reducible exact BC1 | with_reducible exact BR | with_reducible apply below_drew1 | (with_reducible refine below_lit ?_ (Nat.le_refl _) _))) (lt_block (V2 _ _ (V1 _ _ (heap_alloc_new w1b.drew (.cells #[.slice none 0 0,.slice none 0 0,.slice none 0 0] 31))))) n1 n2 n3
           obtain⟨z0,z1,z2,zf⟩:=three_cells HN.out
           have zf0:=zf 0
           have zf1:=zf 1
           have zf2:=zf 2
           clear zf)
        | skip
       clear n1 n2 n3 b9))
  all_goals go_wp2_with fail
  all_goals go_meet
  all_goals first
   | exact⟨_,y1,y2,y3,yk1,yk2,yk3,rfl,rfl,TS.out⟩
   | exact⟨wr1c.heap.size,y1,y2,y3,yk1,yk2,yk3,rfl,rfl,sreg_new BC3 M1.out M2.out M3.out⟩
 case rest =>
  obtain⟨bwa,y1,y2,y3,yk1,yk2,yk3,rfl,rfl,HR⟩:=hcut
  obtain⟨wk1,rfl⟩:∃ W,W=wc:=⟨_,rfl⟩
  obtain⟨R1,R2,R3,R4,R5,bk⟩:=HR.out
  clear HR SB BR HT2
  clear aD0 aD1 aD2
  clear aO0 aO1 aO2 aO3
  have ZW:Hid (w.heap.size+1<w1b.heap.size):=lt_of_block aOt5.out
  have Z3:Hid (w1b.heap.size≤bwa∧bwa<wk1.heap.size):=⟨R2,lt_of_block R1⟩
  have aDt6:Hid (wk1.heap[w.heap.size]? = some (.cells #[.slice a1 live.length c1,.slice a2 safe.length c2,.slice a3 ops.length c3] 25 (0,0))):=(bk.block (w.heap.size) (lt_of_block aDt5.out)).trans aDt5.out
  clear aDt5
  have aOt6:Hid (wk1.heap[w.heap.size+1]? = some (.cells #[.int .i64 kk,.string ⟨nn.toArray⟩,.string ⟨tt.toArray⟩,.string ⟨dd.toArray⟩] 36 (0,0))):=(bk.block (w.heap.size+1) (lt_of_block aOt5.out)).trans aOt5.out
  clear aOt5
  have Bt6:Below w.heap.size w wk1:=Bt5.trans (bk.mono Bt5.size)
  clear Bt5
  have bww:Hid (wk1.heap[bwa]? = some (.cells #[.slice y1 rl.length yk1,.slice y2 rs.length yk2,.slice y3 ro.length yk3] 31 (0,0))):=R1
  have N1w3:Hid (NewQ wk1 w1b.heap.size wk1.heap.size y1 (pcells rl)):=R3
  have N2w3:Hid (NewQ wk1 w1b.heap.size wk1.heap.size y2 (pcells rs)):=R4
  have N3w3:Hid (NewQ wk1 w1b.heap.size wk1.heap.size y3 (dcells ro)):=R5
  clear R1 R2 R3 R4 R5 bk
  obtain⟨aD0,aD1,aD2,_⟩:=three_cells aDt6.out
  go_wp2_with fail
  refine (HTN.out _ Bt6).mono ?_
  rintro e w4 ⟨g1,g2,g3,rfl,ga,gb,go1,go2,go3,bw4⟩
  clear aD0 aD1 aD2
  have aDt7:Hid (w4.heap[w.heap.size]? = some (.cells #[.slice a1 live.length c1,.slice a2 safe.length c2,.slice a3 ops.length c3] 25 (0,0))):=(bw4.block (w.heap.size) (lt_of_block aDt6.out)).trans aDt6.out
  clear aDt6
  have aOt7:Hid (w4.heap[w.heap.size+1]? = some (.cells #[.int .i64 kk,.string ⟨nn.toArray⟩,.string ⟨tt.toArray⟩,.string ⟨dd.toArray⟩] 36 (0,0))):=(bw4.block (w.heap.size+1) (lt_of_block aOt6.out)).trans aOt6.out
  clear aOt6
  have bwt7:Hid (w4.heap[bwa]? = some (.cells #[.slice y1 rl.length yk1,.slice y2 rs.length yk2,.slice y3 ro.length yk3] 31 (0,0))):=(bw4.block (bwa) (lt_of_block bww.out)).trans bww.out
  clear bww
  have N1t7:Hid (NewQ w4 w1b.heap.size wk1.heap.size y1 (pcells rl)):=N1w3.out.later bw4
  clear N1w3
  have N2t7:Hid (NewQ w4 w1b.heap.size wk1.heap.size y2 (pcells rs)):=N2w3.out.later bw4
  clear N2w3
  have N3t7:Hid (NewQ w4 w1b.heap.size wk1.heap.size y3 (dcells ro)):=N3w3.out.later bw4
  clear N3w3
  have Bt7:Below w.heap.size w w4:=Bt6.trans (bw4.mono Bt6.size)
  clear Bt6
  have Ig:Hid (IsPairs w4 (some ⟨g1,0,none⟩) live∧IsPairs w4 (some ⟨g2,0,none⟩) safe∧IsDOps w4 (some ⟨g3,0,none⟩) ops):=⟨(isPairs_own go1).2.2,(isPairs_own go2).2.2,(isDOps_own go3).2.2⟩
  have Lg:Hid (wk1.heap.size≤g1∧g1<g2∧g2<g3∧g3<w4.heap.size):=⟨(go1.lt _ rfl).1,ga,gb,(go3.lt _ rfl).2⟩
  have X1w4:Hid (w4.ownsRow wk1.heap.size 84 2 (Value.slice (some ⟨g1,0,none⟩) live.length live.length) live.length (pcells live)):=go1
  have X2w4:Hid (w4.ownsRow wk1.heap.size 84 2 (Value.slice (some ⟨g2,0,none⟩) safe.length safe.length) safe.length (pcells safe)):=go2
  have X3w4:Hid (w4.ownsRow wk1.heap.size 40 4 (Value.slice (some ⟨g3,0,none⟩) ops.length ops.length) ops.length (dcells ops)):=go3
  clear go1 go2 go3 ga gb bw4
  have Z4:Hid (wk1.heap.size=wk1.heap.size):=rfl
  have Xt8:Below w4.heap.size w4 (w4.alloc (.cells #[.slice (some ⟨g1,0,none⟩) live.length live.length,.slice (some ⟨g2,0,none⟩) safe.length safe.length,.slice (some ⟨g3,0,none⟩) ops.length ops.length] 31)):=(Below.refl _ _).alloc (Nat.le_refl _) _
  have aDt9:Hid ((w4.alloc (.cells #[.slice (some ⟨g1,0,none⟩) live.length live.length,.slice (some ⟨g2,0,none⟩) safe.length safe.length,.slice (some ⟨g3,0,none⟩) ops.length ops.length] 31)).heap[w.heap.size]? = some (.cells #[.slice a1 live.length c1,.slice a2 safe.length c2,.slice a3 ops.length c3] 25 (0,0))):=(Xt8.block (w.heap.size) (lt_of_block aDt7.out)).trans aDt7.out
  clear aDt7
  have aOt9:Hid ((w4.alloc (.cells #[.slice (some ⟨g1,0,none⟩) live.length live.length,.slice (some ⟨g2,0,none⟩) safe.length safe.length,.slice (some ⟨g3,0,none⟩) ops.length ops.length] 31)).heap[w.heap.size+1]? = some (.cells #[.int .i64 kk,.string ⟨nn.toArray⟩,.string ⟨tt.toArray⟩,.string ⟨dd.toArray⟩] 36 (0,0))):=(Xt8.block (w.heap.size+1) (lt_of_block aOt7.out)).trans aOt7.out
  clear aOt7
  have bwt9:Hid ((w4.alloc (.cells #[.slice (some ⟨g1,0,none⟩) live.length live.length,.slice (some ⟨g2,0,none⟩) safe.length safe.length,.slice (some ⟨g3,0,none⟩) ops.length ops.length] 31)).heap[bwa]? = some (.cells #[.slice y1 rl.length yk1,.slice y2 rs.length yk2,.slice y3 ro.length yk3] 31 (0,0))):=(Xt8.block (bwa) (lt_of_block bwt7.out)).trans bwt7.out
  clear bwt7
  have N1t9:Hid (NewQ (w4.alloc (.cells #[.slice (some ⟨g1,0,none⟩) live.length live.length,.slice (some ⟨g2,0,none⟩) safe.length safe.length,.slice (some ⟨g3,0,none⟩) ops.length ops.length] 31)) w1b.heap.size wk1.heap.size y1 (pcells rl)):=N1t7.out.later Xt8
  clear N1t7
  have N2t9:Hid (NewQ (w4.alloc (.cells #[.slice (some ⟨g1,0,none⟩) live.length live.length,.slice (some ⟨g2,0,none⟩) safe.length safe.length,.slice (some ⟨g3,0,none⟩) ops.length ops.length] 31)) w1b.heap.size wk1.heap.size y2 (pcells rs)):=N2t7.out.later Xt8
  clear N2t7
  have N3t9:Hid (NewQ (w4.alloc (.cells #[.slice (some ⟨g1,0,none⟩) live.length live.length,.slice (some ⟨g2,0,none⟩) safe.length safe.length,.slice (some ⟨g3,0,none⟩) ops.length ops.length] 31)) w1b.heap.size wk1.heap.size y3 (dcells ro)):=N3t7.out.later Xt8
  clear N3t7
  have X1t9:Hid ((w4.alloc (.cells #[.slice (some ⟨g1,0,none⟩) live.length live.length,.slice (some ⟨g2,0,none⟩) safe.length safe.length,.slice (some ⟨g3,0,none⟩) ops.length ops.length] 31)).ownsRow wk1.heap.size 84 2 (Value.slice (some ⟨g1,0,none⟩) live.length live.length) live.length (pcells live)):=kept2 X1w4.out Xt8
  clear X1w4
  have X2t9:Hid ((w4.alloc (.cells #[.slice (some ⟨g1,0,none⟩) live.length live.length,.slice (some ⟨g2,0,none⟩) safe.length safe.length,.slice (some ⟨g3,0,none⟩) ops.length ops.length] 31)).ownsRow wk1.heap.size 84 2 (Value.slice (some ⟨g2,0,none⟩) safe.length safe.length) safe.length (pcells safe)):=kept2 X2w4.out Xt8
  clear X2w4
  have X3t9:Hid ((w4.alloc (.cells #[.slice (some ⟨g1,0,none⟩) live.length live.length,.slice (some ⟨g2,0,none⟩) safe.length safe.length,.slice (some ⟨g3,0,none⟩) ops.length ops.length] 31)).ownsRow wk1.heap.size 40 4 (Value.slice (some ⟨g3,0,none⟩) ops.length ops.length) ops.length (dcells ops)):=kept4 X3w4.out Xt8
  clear X3w4
  have Bt9:Below w.heap.size w (w4.alloc (.cells #[.slice (some ⟨g1,0,none⟩) live.length live.length,.slice (some ⟨g2,0,none⟩) safe.length safe.length,.slice (some ⟨g3,0,none⟩) ops.length ops.length] 31)):=Bt7.trans (Xt8.mono Bt7.size)
  clear Bt7
  clear Xt8
  have bxt8:Hid ((w4.alloc (.cells #[.slice (some ⟨g1,0,none⟩) live.length live.length,.slice (some ⟨g2,0,none⟩) safe.length safe.length,.slice (some ⟨g3,0,none⟩) ops.length ops.length] 31)).heap[w4.heap.size]? = some (.cells #[.slice (some ⟨g1,0,none⟩) live.length live.length,.slice (some ⟨g2,0,none⟩) safe.length safe.length,.slice (some ⟨g3,0,none⟩) ops.length ops.length] 31 (0,0))):=heap_alloc_new w4 _
  clear Ig
  go_wp2
  obtain⟨w5,hw5⟩:∃ W,W=(w4.alloc (.cells #[.slice (some ⟨g1,0,none⟩) live.length live.length,.slice (some ⟨g2,0,none⟩) safe.length safe.length,.slice (some ⟨g3,0,none⟩) ops.length ops.length] 31)):=⟨_,rfl⟩
  rw[←hw5] at ⊢ Bt9 aDt9 aOt9 bwt9 N1t9 N2t9 N3t9 X1t9 X2t9 X3t9 bxt8
  have Z50:Hid (w5.heap.size=w4.heap.size+1):=by rw[hw5,Hid];simp
  clear hw5
  have SB:Hid (∀ W,Below w5.heap.size w5 W→W.cell? ⟨w4.heap.size,0,none⟩=some (.slice (some ⟨g1,0,none⟩) live.length live.length)∧W.cell? ⟨w4.heap.size,1,none⟩=some (.slice (some ⟨g2,0,none⟩) safe.length safe.length)∧W.cell? ⟨w4.heap.size,2,none⟩=some (.slice (some ⟨g3,0,none⟩) ops.length ops.length)∧W.cell? ⟨w.heap.size+1,0,none⟩=some (.int .i64 kk)∧W.cell? ⟨w.heap.size+1,1,none⟩=some (.string ⟨nn.toArray⟩)∧W.cell? ⟨w.heap.size+1,2,none⟩=some (.string ⟨tt.toArray⟩)∧W.cell? ⟨w.heap.size+1,3,none⟩=some (.string ⟨dd.toArray⟩)):=fun W hW=>by
   obtain⟨u0,u1,u2,_⟩:=three_cells ((hW.block _ (lt_of_block bxt8.out)).trans bxt8.out)
   obtain⟨v0,v1,v2,v3,_⟩:=four_cells ((hW.block _ (lt_of_block aOt9.out)).trans aOt9.out)
   exact⟨u0,u1,u2,v0,v1,v2,v3⟩
  have BR:Below w5.heap.size w5 w5:=Below.refl _ _
  have HI0:Hid (∀ W,Below w5.heap.size w5 W→(IsPairs W (some ⟨g1,0,none⟩) live∧IsPairs W (some ⟨g2,0,none⟩) safe∧IsDOps W (some ⟨g3,0,none⟩) ops)):=fun W hW=>is3_later ⟨(isPairs_own X1t9.out).2.2,(isPairs_own X2t9.out).2.2,(isDOps_own X3t9.out).2.2⟩ hW
  obtain⟨bx0,bx1,bx2,_⟩:=three_cells bxt8.out
  obtain⟨aO0,aO1,aO2,aO3,_⟩:=four_cells aOt9.out
  go_wp2
  go_cut [9,10] from 36 (fun v6 v7 wx=>∃ (bs:Nat) (x1 x2 x3:Option Addr) (xk1 xk2 xk3:Nat),v6=.pointer (some ⟨bs,0,none⟩)∧v7=.int .i64 cd∧Hid (JReg w5 wx bs x1 x2 x3 xk1 xk2 xk3 rl rs ro))
  case first =>
   go_region_held3 (fun w'=>w'.cell? ⟨w4.heap.size,0,none⟩=some (.slice (some ⟨g1,0,none⟩) live.length live.length)∧w'.cell? ⟨w4.heap.size,1,none⟩=some (.slice (some ⟨g2,0,none⟩) safe.length safe.length)∧w'.cell? ⟨w4.heap.size,2,none⟩=some (.slice (some ⟨g3,0,none⟩) ops.length ops.length)∧w'.cell? ⟨w.heap.size+1,0,none⟩=some (.int .i64 kk)∧w'.cell? ⟨w.heap.size+1,1,none⟩=some (.string ⟨nn.toArray⟩)∧w'.cell? ⟨w.heap.size+1,2,none⟩=some (.string ⟨tt.toArray⟩)∧w'.cell? ⟨w.heap.size+1,3,none⟩=some (.string ⟨dd.toArray⟩))
    (first | exact SB.out _ (by repeat' first | with_reducible exact BC3 | with_reducible exact BC2 | with_reducible exact BC1 | with_reducible exact BR | with_reducible apply below_drew1 | (with_reducible refine below_lit ?_ (Nat.le_refl _) _) | with_reducible apply below_set9 | exact Nat.le_refl _ | exact BC1.size | exact BC2.size | exact BC3.size))
    (first
     | (go_at_call 19
        with_reducible refine (toDOp_any kk nn tt dd _).mono ?_
        rintro e wr2b ⟨rfl,b8⟩
        have BC2:Below w5.heap.size w5 wr2b:=below_via (by repeat' first | with_reducible exact BR | with_reducible apply below_drew1 | (with_reducible refine below_lit ?_ (Nat.le_refl _) _)) (Nat.le_refl _) b8
        have J2:Hid ((IsPairs wr2b (some ⟨g1,0,none⟩) live∧IsPairs wr2b (some ⟨g2,0,none⟩) safe∧IsDOps wr2b (some ⟨g3,0,none⟩) ops)):=HI0.out _ BC2
        have V2:=blk_via b8
        clear b8)
     | (go_at_call 20
        with_reducible refine (HH2.out g1 g2 g3 _ (is3_later J2.out (by repeat' first | with_reducible exact Below.refl _ _ | with_reducible apply below_drew1 | (with_reducible refine below_lit ?_ (Nat.le_refl _) _)))).mono ?_
        rintro e wr2c ⟨h1,h2,h3,hk1,hk2,hk3,rfl,n1,n2,n3,hap,b9⟩
        have BC3:Below w5.heap.size w5 wr2c:=below_via (by repeat' first | with_reducible exact BC2 | with_reducible exact BC1 | with_reducible exact BR | with_reducible apply below_drew1 | (with_reducible refine below_lit ?_ (Nat.le_refl _) _)) (Nat.le_refl _) b9
        have V3:=blk_via b9
        skip
        have M1:Hid (wr2c.ownsRow w5.heap.size 84 2 (.slice h1 rl.length hk1) rl.length (pcells rl)):=own_via (by repeat' first | with_reducible exact BC2 | with_reducible exact BC1 | with_reducible exact BR | with_reducible apply below_drew1 | (with_reducible refine below_lit ?_ (Nat.le_refl _) _)) (Nat.le_refl _) n1
        have M2:Hid (wr2c.ownsRow w5.heap.size 84 2 (.slice h2 rs.length hk2) rs.length (pcells rs)):=own_via (by repeat' first | with_reducible exact BC2 | with_reducible exact BC1 | with_reducible exact BR | with_reducible apply below_drew1 | (with_reducible refine below_lit ?_ (Nat.le_refl _) _)) (Nat.le_refl _) n2
        have M3:Hid (wr2c.ownsRow w5.heap.size 40 4 (.slice h3 ro.length hk3) ro.length (dcells ro)):=own_via (by repeat' first | with_reducible exact BC2 | with_reducible exact BC1 | with_reducible exact BR | with_reducible apply below_drew1 | (with_reducible refine below_lit ?_ (Nat.le_refl _) _)) (Nat.le_refl _) n3
        have HAQ:Hid (Apart3 (Value.slice h1 rl.length hk1) (Value.slice h2 rs.length hk2) (Value.slice h3 ro.length hk3)):=hap
        first
         | (have HN : Hid (wr2c.heap[wr2b.heap.size]? = some (.cells #[.slice none 0 0, .slice none 0 0, .slice none 0 0] 31 (0, 0))) := V3 _ _ (heap_alloc_new wr2b (.cells #[.slice none 0 0, .slice none 0 0, .slice none 0 0] 31))
            have TS:Hid (JReg w5 (((wr2c.setCell ⟨wr2b.heap.size,0,none⟩ (.slice h1 rl.length hk1)).setCell ⟨wr2b.heap.size,1,none⟩ (.slice h2 rs.length hk2)).setCell ⟨wr2b.heap.size,2,none⟩ (.slice h3 ro.length hk3)) (wr2b.heap.size) h1 h2 h3 hk1 hk2 hk3 rl rs ro):=jreg_store HN.out BC2.size BC3 (size_via (by repeat' first | with_reducible exact BC2 | with_reducible exact BC1 | with_reducible exact BR | with_reducible apply below_drew1 | (with_reducible refine below_lit ?_ (Nat.le_refl _) _))) (lt_block (heap_alloc_new wr2b (.cells #[.slice none 0 0,.slice none 0 0,.slice none 0 0] 31))) n1 n2 n3 hap
            obtain⟨z0,z1,z2,zf⟩:=three_cells HN.out
            have zf0:=zf 0
            have zf1:=zf 1
            have zf2:=zf 2
            clear zf)
         | (have HN : Hid (wr2c.heap[w5.heap.size]? = some (.cells #[.slice none 0 0, .slice none 0 0, .slice none 0 0] 31 (0, 0))) := V3 _ _ (V2 _ _ (heap_alloc_new w5.drew (.cells #[.slice none 0 0, .slice none 0 0, .slice none 0 0] 31)))
            have TS:Hid (JReg w5 (((wr2c.setCell ⟨w5.heap.size,0,none⟩ (.slice h1 rl.length hk1)).setCell ⟨w5.heap.size,1,none⟩ (.slice h2 rs.length hk2)).setCell ⟨w5.heap.size,2,none⟩ (.slice h3 ro.length hk3)) (w5.heap.size) h1 h2 h3 hk1 hk2 hk3 rl rs ro):=jreg_store HN.out (Nat.le_refl _) BC3 (size_via (by repeat' first | with_reducible exact BC2 | with_reducible exact BC1 | with_reducible exact BR | with_reducible apply below_drew1 | (with_reducible refine below_lit ?_ (Nat.le_refl _) _))) (lt_block (V2 _ _ (heap_alloc_new w5.drew (.cells #[.slice none 0 0,.slice none 0 0,.slice none 0 0] 31)))) n1 n2 n3 hap
            obtain⟨z0,z1,z2,zf⟩:=three_cells HN.out
            have zf0:=zf 0
            have zf1:=zf 1
            have zf2:=zf 2
            clear zf)
         | skip
        clear n1 n2 n3 hap b9))
   all_goals go_wp2_with fail
   all_goals go_meet
   all_goals first
    | exact⟨_,h1,h2,h3,hk1,hk2,hk3,rfl,rfl,TS.out⟩
    | exact⟨wr2c.heap.size,h1,h2,h3,hk1,hk2,hk3,rfl,rfl,jreg_new BC3 M1.out M2.out M3.out HAQ.out⟩
  case rest =>
   obtain⟨bga,h1,h2,h3,hk1,hk2,hk3,rfl,rfl,HR⟩:=hcut
   obtain⟨wk2,rfl⟩:∃ W,W=wc:=⟨_,rfl⟩
   obtain⟨R1,R2,R3,R4,R5,R6,R7,R8,R9,bk⟩:=HR.out
   clear HR SB BR HI0
   clear bx0 bx1 bx2
   clear aO0 aO1 aO2 aO3
   have Z5:Hid (w5.heap.size=w4.heap.size+1∧w5.heap.size≤wk2.heap.size∧w5.heap.size≤bga):=⟨Z50.out,bk.size,R2⟩
   clear Z50
   have aDt10:Hid (wk2.heap[w.heap.size]? = some (.cells #[.slice a1 live.length c1,.slice a2 safe.length c2,.slice a3 ops.length c3] 25 (0,0))):=(bk.block (w.heap.size) (lt_of_block aDt9.out)).trans aDt9.out
   clear aDt9
   have aOt10:Hid (wk2.heap[w.heap.size+1]? = some (.cells #[.int .i64 kk,.string ⟨nn.toArray⟩,.string ⟨tt.toArray⟩,.string ⟨dd.toArray⟩] 36 (0,0))):=(bk.block (w.heap.size+1) (lt_of_block aOt9.out)).trans aOt9.out
   clear aOt9
   have bwt10:Hid (wk2.heap[bwa]? = some (.cells #[.slice y1 rl.length yk1,.slice y2 rs.length yk2,.slice y3 ro.length yk3] 31 (0,0))):=(bk.block (bwa) (lt_of_block bwt9.out)).trans bwt9.out
   clear bwt9
   have N1t10:Hid (NewQ wk2 w1b.heap.size wk1.heap.size y1 (pcells rl)):=N1t9.out.later bk
   clear N1t9
   have N2t10:Hid (NewQ wk2 w1b.heap.size wk1.heap.size y2 (pcells rs)):=N2t9.out.later bk
   clear N2t9
   have N3t10:Hid (NewQ wk2 w1b.heap.size wk1.heap.size y3 (dcells ro)):=N3t9.out.later bk
   clear N3t9
   have X1t10:Hid (wk2.ownsRow wk1.heap.size 84 2 (Value.slice (some ⟨g1,0,none⟩) live.length live.length) live.length (pcells live)):=kept2 X1t9.out bk
   clear X1t9
   have X2t10:Hid (wk2.ownsRow wk1.heap.size 84 2 (Value.slice (some ⟨g2,0,none⟩) safe.length safe.length) safe.length (pcells safe)):=kept2 X2t9.out bk
   clear X2t9
   have X3t10:Hid (wk2.ownsRow wk1.heap.size 40 4 (Value.slice (some ⟨g3,0,none⟩) ops.length ops.length) ops.length (dcells ops)):=kept4 X3t9.out bk
   clear X3t9
   have bxt10:Hid (wk2.heap[w4.heap.size]? = some (.cells #[.slice (some ⟨g1,0,none⟩) live.length live.length,.slice (some ⟨g2,0,none⟩) safe.length safe.length,.slice (some ⟨g3,0,none⟩) ops.length ops.length] 31 (0,0))):=(bk.block (w4.heap.size) (lt_of_block bxt8.out)).trans bxt8.out
   clear bxt8
   have Bt10:Below w.heap.size w wk2:=Bt9.trans (bk.mono Bt9.size)
   clear Bt9
   have bgw:Hid (wk2.heap[bga]? = some (.cells #[.slice h1 rl.length hk1,.slice h2 rs.length hk2,.slice h3 ro.length hk3] 31 (0,0))):=R1
   have G1w6:Hid (wk2.ownsRow w5.heap.size 84 2 (Value.slice h1 rl.length hk1) rl.length (pcells rl)):=R3
   have LG1:Hid (∀ q,(Value.slice h1 rl.length hk1).ownBlock=some q→w5.heap.size≤q∧q<wk2.heap.size∧q≠bga):=fun q hq=>⟨(R3.lt q hq).1,(R3.lt q hq).2,R7 q hq⟩
   have G2w6:Hid (wk2.ownsRow w5.heap.size 84 2 (Value.slice h2 rs.length hk2) rs.length (pcells rs)):=R4
   have LG2:Hid (∀ q,(Value.slice h2 rs.length hk2).ownBlock=some q→w5.heap.size≤q∧q<wk2.heap.size∧q≠bga):=fun q hq=>⟨(R4.lt q hq).1,(R4.lt q hq).2,R8 q hq⟩
   have G3w6:Hid (wk2.ownsRow w5.heap.size 40 4 (Value.slice h3 ro.length hk3) ro.length (dcells ro)):=R5
   have LG3:Hid (∀ q,(Value.slice h3 ro.length hk3).ownBlock=some q→w5.heap.size≤q∧q<wk2.heap.size∧q≠bga):=fun q hq=>⟨(R5.lt q hq).1,(R5.lt q hq).2,R9 q hq⟩
   have AP:Hid (Apart3 (Value.slice h1 rl.length hk1) (Value.slice h2 rs.length hk2) (Value.slice h3 ro.length hk3)):=R6
   clear R1 R2 R3 R4 R5 R6 R7 R8 R9 bk
   obtain⟨bg0,bg1,bg2,_⟩:=three_cells bgw.out
   obtain⟨bw0,bw1,bw2,_⟩:=three_cells bwt10.out
   go_wp2_with fail
   refine (eqDisk_same rl rs ro _ _ _ _ _ _ _ _ _ _ _ _ _ (by omega) (by omega) (by omega) ⟨(isPairs_own G1w6.out).2.2,N1t10.out.1.pairs⟩ ⟨(isPairs_own G2w6.out).2.2,N2t10.out.1.pairs⟩ ⟨(isDOps_own G3w6.out).2.2,N3t10.out.1.dops⟩).mono ?_
   rintro e w7 ⟨rfl,b9⟩
   clear bg0 bg1 bg2
   clear bw0 bw1 bw2
   have aDt11:Hid (w7.heap[w.heap.size]? = some (.cells #[.slice a1 live.length c1,.slice a2 safe.length c2,.slice a3 ops.length c3] 25 (0,0))):=(b9.block (w.heap.size) (lt_of_block aDt10.out)).trans aDt10.out
   clear aDt10
   have aOt11:Hid (w7.heap[w.heap.size+1]? = some (.cells #[.int .i64 kk,.string ⟨nn.toArray⟩,.string ⟨tt.toArray⟩,.string ⟨dd.toArray⟩] 36 (0,0))):=(b9.block (w.heap.size+1) (lt_of_block aOt10.out)).trans aOt10.out
   clear aOt10
   have bwt11:Hid (w7.heap[bwa]? = some (.cells #[.slice y1 rl.length yk1,.slice y2 rs.length yk2,.slice y3 ro.length yk3] 31 (0,0))):=(b9.block (bwa) (lt_of_block bwt10.out)).trans bwt10.out
   clear bwt10
   have N1t11:Hid (NewQ w7 w1b.heap.size wk1.heap.size y1 (pcells rl)):=N1t10.out.later b9
   clear N1t10
   have N2t11:Hid (NewQ w7 w1b.heap.size wk1.heap.size y2 (pcells rs)):=N2t10.out.later b9
   clear N2t10
   have N3t11:Hid (NewQ w7 w1b.heap.size wk1.heap.size y3 (dcells ro)):=N3t10.out.later b9
   clear N3t10
   have X1t11:Hid (w7.ownsRow wk1.heap.size 84 2 (Value.slice (some ⟨g1,0,none⟩) live.length live.length) live.length (pcells live)):=kept2 X1t10.out b9
   clear X1t10
   have X2t11:Hid (w7.ownsRow wk1.heap.size 84 2 (Value.slice (some ⟨g2,0,none⟩) safe.length safe.length) safe.length (pcells safe)):=kept2 X2t10.out b9
   clear X2t10
   have X3t11:Hid (w7.ownsRow wk1.heap.size 40 4 (Value.slice (some ⟨g3,0,none⟩) ops.length ops.length) ops.length (dcells ops)):=kept4 X3t10.out b9
   clear X3t10
   have bxt11:Hid (w7.heap[w4.heap.size]? = some (.cells #[.slice (some ⟨g1,0,none⟩) live.length live.length,.slice (some ⟨g2,0,none⟩) safe.length safe.length,.slice (some ⟨g3,0,none⟩) ops.length ops.length] 31 (0,0))):=(b9.block (w4.heap.size) (lt_of_block bxt10.out)).trans bxt10.out
   clear bxt10
   have bgt11:Hid (w7.heap[bga]? = some (.cells #[.slice h1 rl.length hk1,.slice h2 rs.length hk2,.slice h3 ro.length hk3] 31 (0,0))):=(b9.block (bga) (lt_of_block bgw.out)).trans bgw.out
   clear bgw
   have G1t11:Hid (w7.ownsRow w5.heap.size 84 2 (Value.slice h1 rl.length hk1) rl.length (pcells rl)):=kept2 G1w6.out b9
   clear G1w6
   have G2t11:Hid (w7.ownsRow w5.heap.size 84 2 (Value.slice h2 rs.length hk2) rs.length (pcells rs)):=kept2 G2w6.out b9
   clear G2w6
   have G3t11:Hid (w7.ownsRow w5.heap.size 40 4 (Value.slice h3 ro.length hk3) ro.length (dcells ro)):=kept4 G3w6.out b9
   clear G3w6
   have Bt11:Below w.heap.size w w7:=Bt10.trans (b9.mono Bt10.size)
   clear Bt10
   clear b9
   have SB:Hid (∀ W,Below w7.heap.size w7 W→W.cell? ⟨w.heap.size,0,none⟩=some (.slice a1 live.length c1)∧W.cell? ⟨w.heap.size,1,none⟩=some (.slice a2 safe.length c2)∧W.cell? ⟨w.heap.size,2,none⟩=some (.slice a3 ops.length c3)∧W.cell? ⟨w4.heap.size,0,none⟩=some (.slice (some ⟨g1,0,none⟩) live.length live.length)∧W.cell? ⟨w4.heap.size,1,none⟩=some (.slice (some ⟨g2,0,none⟩) safe.length safe.length)∧W.cell? ⟨w4.heap.size,2,none⟩=some (.slice (some ⟨g3,0,none⟩) ops.length ops.length)):=fun W hW=>by
    obtain⟨u0,u1,u2,_⟩:=three_cells ((hW.block _ (lt_of_block aDt11.out)).trans aDt11.out)
    obtain⟨v0,v1,v2,_⟩:=three_cells ((hW.block _ (lt_of_block bxt11.out)).trans bxt11.out)
    exact⟨u0,u1,u2,v0,v1,v2⟩
   have BD:Below w7.heap.size w7 w7.drew:=⟨rfl,rfl,rfl,Nat.le_refl _,fun _ _=>rfl⟩
   have WD:Below w.heap.size w w7.drew:=Bt11.trans (BD.mono Bt11.size)
   go_wp2
   go_region_held3 (fun w'=>w'.cell? ⟨w.heap.size,0,none⟩=some (.slice a1 live.length c1)∧w'.cell? ⟨w.heap.size,1,none⟩=some (.slice a2 safe.length c2)∧w'.cell? ⟨w.heap.size,2,none⟩=some (.slice a3 ops.length c3)∧w'.cell? ⟨w4.heap.size,0,none⟩=some (.slice (some ⟨g1,0,none⟩) live.length live.length)∧w'.cell? ⟨w4.heap.size,1,none⟩=some (.slice (some ⟨g2,0,none⟩) safe.length safe.length)∧w'.cell? ⟨w4.heap.size,2,none⟩=some (.slice (some ⟨g3,0,none⟩) ops.length ops.length)) (first | with_reducible exact SB.out _ BC2 | with_reducible exact SB.out _ BC1 | with_reducible exact SB.out _ BD)
    (first
     | (go_at_call 14
        with_reducible refine (HTN.out w7.drew WD).mono ?_
        rintro e wc1 ⟨v1,v2,v3,rfl,_,_,vo1,vo2,vo3,b7⟩
        have BC1:Below w7.heap.size w7 wc1:=BD.trans (b7.mono BD.size)
        have J1:Hid ((IsPairs wc1 (some ⟨g1,0,none⟩) live∧IsPairs wc1 (some ⟨g2,0,none⟩) safe∧IsDOps wc1 (some ⟨g3,0,none⟩) ops)∧(IsPairs wc1 (some ⟨v1,0,none⟩) live∧IsPairs wc1 (some ⟨v2,0,none⟩) safe∧IsDOps wc1 (some ⟨v3,0,none⟩) ops)):=⟨⟨(isPairs_own (kept2 X1t11.out BC1)).2.2,(isPairs_own (kept2 X2t11.out BC1)).2.2,(isDOps_own (kept4 X3t11.out BC1)).2.2⟩,⟨(isPairs_own vo1).2.2,(isPairs_own vo2).2.2,(isDOps_own vo3).2.2⟩⟩
        clear vo1 vo2 vo3 b7)
     | (go_at_call 16
        with_reducible refine (eqDisk_same live safe ops (some ⟨g1,0,none⟩) (some ⟨g2,0,none⟩) (some ⟨g3,0,none⟩) (some ⟨v1,0,none⟩) (some ⟨v2,0,none⟩) (some ⟨v3,0,none⟩) live.length safe.length ops.length live.length safe.length ops.length wc1 (by omega) (by omega) (by omega) ⟨J1.out.1.1,J1.out.2.1⟩ ⟨J1.out.1.2.1,J1.out.2.2.1⟩ ⟨J1.out.1.2.2,J1.out.2.2.2⟩).mono ?_
        rintro e wc2 ⟨rfl,b8⟩
        have BC2:Below w7.heap.size w7 wc2:=BC1.trans (b8.mono BC1.size)
        clear b8))
   all_goals clear SB BD WD J1
   all_goals
    have b9:=BC2
    clear BC1 BC2
    have aDt12:Hid (wc2.heap[w.heap.size]? = some (.cells #[.slice a1 live.length c1,.slice a2 safe.length c2,.slice a3 ops.length c3] 25 (0,0))):=(b9.block (w.heap.size) (lt_of_block aDt11.out)).trans aDt11.out
    clear aDt11
    have aOt12:Hid (wc2.heap[w.heap.size+1]? = some (.cells #[.int .i64 kk,.string ⟨nn.toArray⟩,.string ⟨tt.toArray⟩,.string ⟨dd.toArray⟩] 36 (0,0))):=(b9.block (w.heap.size+1) (lt_of_block aOt11.out)).trans aOt11.out
    clear aOt11
    have bwt12:Hid (wc2.heap[bwa]? = some (.cells #[.slice y1 rl.length yk1,.slice y2 rs.length yk2,.slice y3 ro.length yk3] 31 (0,0))):=(b9.block (bwa) (lt_of_block bwt11.out)).trans bwt11.out
    clear bwt11
    have N1t12:Hid (NewQ wc2 w1b.heap.size wk1.heap.size y1 (pcells rl)):=N1t11.out.later b9
    clear N1t11
    have N2t12:Hid (NewQ wc2 w1b.heap.size wk1.heap.size y2 (pcells rs)):=N2t11.out.later b9
    clear N2t11
    have N3t12:Hid (NewQ wc2 w1b.heap.size wk1.heap.size y3 (dcells ro)):=N3t11.out.later b9
    clear N3t11
    have X1t12:Hid (wc2.ownsRow wk1.heap.size 84 2 (Value.slice (some ⟨g1,0,none⟩) live.length live.length) live.length (pcells live)):=kept2 X1t11.out b9
    clear X1t11
    have X2t12:Hid (wc2.ownsRow wk1.heap.size 84 2 (Value.slice (some ⟨g2,0,none⟩) safe.length safe.length) safe.length (pcells safe)):=kept2 X2t11.out b9
    clear X2t11
    have X3t12:Hid (wc2.ownsRow wk1.heap.size 40 4 (Value.slice (some ⟨g3,0,none⟩) ops.length ops.length) ops.length (dcells ops)):=kept4 X3t11.out b9
    clear X3t11
    have bxt12:Hid (wc2.heap[w4.heap.size]? = some (.cells #[.slice (some ⟨g1,0,none⟩) live.length live.length,.slice (some ⟨g2,0,none⟩) safe.length safe.length,.slice (some ⟨g3,0,none⟩) ops.length ops.length] 31 (0,0))):=(b9.block (w4.heap.size) (lt_of_block bxt11.out)).trans bxt11.out
    clear bxt11
    have bgt12:Hid (wc2.heap[bga]? = some (.cells #[.slice h1 rl.length hk1,.slice h2 rs.length hk2,.slice h3 ro.length hk3] 31 (0,0))):=(b9.block (bga) (lt_of_block bgt11.out)).trans bgt11.out
    clear bgt11
    have G1t12:Hid (wc2.ownsRow w5.heap.size 84 2 (Value.slice h1 rl.length hk1) rl.length (pcells rl)):=kept2 G1t11.out b9
    clear G1t11
    have G2t12:Hid (wc2.ownsRow w5.heap.size 84 2 (Value.slice h2 rs.length hk2) rs.length (pcells rs)):=kept2 G2t11.out b9
    clear G2t11
    have G3t12:Hid (wc2.ownsRow w5.heap.size 40 4 (Value.slice h3 ro.length hk3) ro.length (dcells ro)):=kept4 G3t11.out b9
    clear G3t11
    have Bt12:Below w.heap.size w wc2:=Bt11.trans (b9.mono Bt11.size)
    clear Bt11
    clear b9
    obtain⟨bx0,bx1,bx2,_⟩:=three_cells bxt12.out
    have KM:=markDisk_any live safe ops (some ⟨g1,0,none⟩) (some ⟨g2,0,none⟩) (some ⟨g3,0,none⟩) live.length live.length safe.length safe.length ops.length ops.length wk1.heap.size 1 wc2 (by omega) (by omega) (by omega) (by omega) (by omega) (fun q=>by have hlg:=Lg.out;exact⟨fun h=>⟨fun h2=>by simp[Value.ownBlock] at h h2;omega,fun h2=>by simp[Value.ownBlock] at h h2;omega⟩,fun h h2=>by simp[Value.ownBlock] at h h2;omega⟩) X1t12.out X2t12.out X3t12.out
    have mk0:¬ ((1:Nat):Int)+2*(live.length:Int)+2*(safe.length:Int)+4*(ops.length:Int)<0:=by omega
    have mk1:¬ (1:Int)+2*(live.length:Int)+2*(safe.length:Int)+4*(ops.length:Int)<0:=by omega
    have mk2:decide ((1:Int)+2*(live.length:Int)+2*(safe.length:Int)+4*(ops.length:Int)<0)=false:=decide_eq_false mk1
    go_wp2_with fail
    refine KM.mono ?_
    rintro e wm3 ⟨rfl,mo1,mo2,mo3,wm1,wm2,gr1,gr2,gr3⟩
    clear KM
    clear bx0 bx1 bx2
    clear X1t12
    clear X2t12
    clear X3t12
    have aDt13:Hid (wm1.heap[w.heap.size]? = some (.cells #[.slice a1 live.length c1,.slice a2 safe.length c2,.slice a3 ops.length c3] 25 (0,0))):=(gr1.block (w.heap.size) (lt_of_block aDt12.out) (fun e=>by have hz3:=Z3.out;have hz4:=Z4.out;have hz5:=Z5.out;have hlg:=Lg.out;have hg1:=LG1.out;have hg2:=LG2.out;have hg3:=LG3.out;have hap:=AP.out;have hww:=ZW.out;simp[Value.ownBlock] at e;omega)).trans aDt12.out
    clear aDt12
    have aOt13:Hid (wm1.heap[w.heap.size+1]? = some (.cells #[.int .i64 kk,.string ⟨nn.toArray⟩,.string ⟨tt.toArray⟩,.string ⟨dd.toArray⟩] 36 (0,0))):=(gr1.block (w.heap.size+1) (lt_of_block aOt12.out) (fun e=>by have hz3:=Z3.out;have hz4:=Z4.out;have hz5:=Z5.out;have hlg:=Lg.out;have hg1:=LG1.out;have hg2:=LG2.out;have hg3:=LG3.out;have hap:=AP.out;have hww:=ZW.out;simp[Value.ownBlock] at e;omega)).trans aOt12.out
    clear aOt12
    have bwt13:Hid (wm1.heap[bwa]? = some (.cells #[.slice y1 rl.length yk1,.slice y2 rs.length yk2,.slice y3 ro.length yk3] 31 (0,0))):=(gr1.block (bwa) (lt_of_block bwt12.out) (fun e=>by have hz3:=Z3.out;have hz4:=Z4.out;have hz5:=Z5.out;have hlg:=Lg.out;have hg1:=LG1.out;have hg2:=LG2.out;have hg3:=LG3.out;have hap:=AP.out;have hww:=ZW.out;simp[Value.ownBlock] at e;omega)).trans bwt12.out
    clear bwt12
    have N1t13:Hid (NewQ wm1 w1b.heap.size wk1.heap.size y1 (pcells rl)):=N1t12.out.kept gr1 (fun q h1 h2 e=>by have hz3:=Z3.out;have hz4:=Z4.out;have hz5:=Z5.out;have hlg:=Lg.out;have hg1:=LG1.out;have hg2:=LG2.out;have hg3:=LG3.out;have hap:=AP.out;have hww:=ZW.out;simp[Value.ownBlock] at e;omega)
    clear N1t12
    have N2t13:Hid (NewQ wm1 w1b.heap.size wk1.heap.size y2 (pcells rs)):=N2t12.out.kept gr1 (fun q h1 h2 e=>by have hz3:=Z3.out;have hz4:=Z4.out;have hz5:=Z5.out;have hlg:=Lg.out;have hg1:=LG1.out;have hg2:=LG2.out;have hg3:=LG3.out;have hap:=AP.out;have hww:=ZW.out;simp[Value.ownBlock] at e;omega)
    clear N2t12
    have N3t13:Hid (NewQ wm1 w1b.heap.size wk1.heap.size y3 (dcells ro)):=N3t12.out.kept gr1 (fun q h1 h2 e=>by have hz3:=Z3.out;have hz4:=Z4.out;have hz5:=Z5.out;have hlg:=Lg.out;have hg1:=LG1.out;have hg2:=LG2.out;have hg3:=LG3.out;have hap:=AP.out;have hww:=ZW.out;simp[Value.ownBlock] at e;omega)
    clear N3t12
    have bxt13:Hid (wm1.heap[w4.heap.size]? = some (.cells #[.slice (some ⟨g1,0,none⟩) live.length live.length,.slice (some ⟨g2,0,none⟩) safe.length safe.length,.slice (some ⟨g3,0,none⟩) ops.length ops.length] 31 (0,0))):=(gr1.block (w4.heap.size) (lt_of_block bxt12.out) (fun e=>by have hz3:=Z3.out;have hz4:=Z4.out;have hz5:=Z5.out;have hlg:=Lg.out;have hg1:=LG1.out;have hg2:=LG2.out;have hg3:=LG3.out;have hap:=AP.out;have hww:=ZW.out;simp[Value.ownBlock] at e;omega)).trans bxt12.out
    clear bxt12
    have bgt13:Hid (wm1.heap[bga]? = some (.cells #[.slice h1 rl.length hk1,.slice h2 rs.length hk2,.slice h3 ro.length hk3] 31 (0,0))):=(gr1.block (bga) (lt_of_block bgt12.out) (fun e=>by have hz3:=Z3.out;have hz4:=Z4.out;have hz5:=Z5.out;have hlg:=Lg.out;have hg1:=LG1.out;have hg2:=LG2.out;have hg3:=LG3.out;have hap:=AP.out;have hww:=ZW.out;simp[Value.ownBlock] at e;omega)).trans bgt12.out
    clear bgt12
    have G1t13:Hid (wm1.ownsRow w5.heap.size 84 2 (Value.slice h1 rl.length hk1) rl.length (pcells rl)):=G1t12.out.kept gr1 (by
     cases hv:(Value.slice h1 rl.length hk1).ownBlock with
     | none=>exact .inl rfl
     | some q=>exact .inr (fun e=>by have hz3:=Z3.out;have hz4:=Z4.out;have hz5:=Z5.out;have hlg:=Lg.out;have hg1:=LG1.out;have hg2:=LG2.out;have hg3:=LG3.out;have hap:=AP.out;have hww:=ZW.out;simp[Value.ownBlock] at e;have:=hg1 q hv;omega))
    clear G1t12
    have G2t13:Hid (wm1.ownsRow w5.heap.size 84 2 (Value.slice h2 rs.length hk2) rs.length (pcells rs)):=G2t12.out.kept gr1 (by
     cases hv:(Value.slice h2 rs.length hk2).ownBlock with
     | none=>exact .inl rfl
     | some q=>exact .inr (fun e=>by have hz3:=Z3.out;have hz4:=Z4.out;have hz5:=Z5.out;have hlg:=Lg.out;have hg1:=LG1.out;have hg2:=LG2.out;have hg3:=LG3.out;have hap:=AP.out;have hww:=ZW.out;simp[Value.ownBlock] at e;have:=hg2 q hv;omega))
    clear G2t12
    have G3t13:Hid (wm1.ownsRow w5.heap.size 40 4 (Value.slice h3 ro.length hk3) ro.length (dcells ro)):=G3t12.out.kept gr1 (by
     cases hv:(Value.slice h3 ro.length hk3).ownBlock with
     | none=>exact .inl rfl
     | some q=>exact .inr (fun e=>by have hz3:=Z3.out;have hz4:=Z4.out;have hz5:=Z5.out;have hlg:=Lg.out;have hg1:=LG1.out;have hg2:=LG2.out;have hg3:=LG3.out;have hap:=AP.out;have hww:=ZW.out;simp[Value.ownBlock] at e;have:=hg3 q hv;omega))
    clear G3t12
    have Bt13:Below w.heap.size w wm1:=Bt12.grown gr1 Bt12.size (fun q hq=>by have hz3:=Z3.out;have hz4:=Z4.out;have hz5:=Z5.out;have hlg:=Lg.out;have hg1:=LG1.out;have hg2:=LG2.out;have hg3:=LG3.out;have hap:=AP.out;have hww:=ZW.out;simp[Value.ownBlock] at hq;omega)
    clear Bt12
    have aDt14:Hid (wm2.heap[w.heap.size]? = some (.cells #[.slice a1 live.length c1,.slice a2 safe.length c2,.slice a3 ops.length c3] 25 (0,0))):=(gr2.block (w.heap.size) (lt_of_block aDt13.out) (fun e=>by have hz3:=Z3.out;have hz4:=Z4.out;have hz5:=Z5.out;have hlg:=Lg.out;have hg1:=LG1.out;have hg2:=LG2.out;have hg3:=LG3.out;have hap:=AP.out;have hww:=ZW.out;simp[Value.ownBlock] at e;omega)).trans aDt13.out
    clear aDt13
    have aOt14:Hid (wm2.heap[w.heap.size+1]? = some (.cells #[.int .i64 kk,.string ⟨nn.toArray⟩,.string ⟨tt.toArray⟩,.string ⟨dd.toArray⟩] 36 (0,0))):=(gr2.block (w.heap.size+1) (lt_of_block aOt13.out) (fun e=>by have hz3:=Z3.out;have hz4:=Z4.out;have hz5:=Z5.out;have hlg:=Lg.out;have hg1:=LG1.out;have hg2:=LG2.out;have hg3:=LG3.out;have hap:=AP.out;have hww:=ZW.out;simp[Value.ownBlock] at e;omega)).trans aOt13.out
    clear aOt13
    have bwt14:Hid (wm2.heap[bwa]? = some (.cells #[.slice y1 rl.length yk1,.slice y2 rs.length yk2,.slice y3 ro.length yk3] 31 (0,0))):=(gr2.block (bwa) (lt_of_block bwt13.out) (fun e=>by have hz3:=Z3.out;have hz4:=Z4.out;have hz5:=Z5.out;have hlg:=Lg.out;have hg1:=LG1.out;have hg2:=LG2.out;have hg3:=LG3.out;have hap:=AP.out;have hww:=ZW.out;simp[Value.ownBlock] at e;omega)).trans bwt13.out
    clear bwt13
    have N1t14:Hid (NewQ wm2 w1b.heap.size wk1.heap.size y1 (pcells rl)):=N1t13.out.kept gr2 (fun q h1 h2 e=>by have hz3:=Z3.out;have hz4:=Z4.out;have hz5:=Z5.out;have hlg:=Lg.out;have hg1:=LG1.out;have hg2:=LG2.out;have hg3:=LG3.out;have hap:=AP.out;have hww:=ZW.out;simp[Value.ownBlock] at e;omega)
    clear N1t13
    have N2t14:Hid (NewQ wm2 w1b.heap.size wk1.heap.size y2 (pcells rs)):=N2t13.out.kept gr2 (fun q h1 h2 e=>by have hz3:=Z3.out;have hz4:=Z4.out;have hz5:=Z5.out;have hlg:=Lg.out;have hg1:=LG1.out;have hg2:=LG2.out;have hg3:=LG3.out;have hap:=AP.out;have hww:=ZW.out;simp[Value.ownBlock] at e;omega)
    clear N2t13
    have N3t14:Hid (NewQ wm2 w1b.heap.size wk1.heap.size y3 (dcells ro)):=N3t13.out.kept gr2 (fun q h1 h2 e=>by have hz3:=Z3.out;have hz4:=Z4.out;have hz5:=Z5.out;have hlg:=Lg.out;have hg1:=LG1.out;have hg2:=LG2.out;have hg3:=LG3.out;have hap:=AP.out;have hww:=ZW.out;simp[Value.ownBlock] at e;omega)
    clear N3t13
    have bxt14:Hid (wm2.heap[w4.heap.size]? = some (.cells #[.slice (some ⟨g1,0,none⟩) live.length live.length,.slice (some ⟨g2,0,none⟩) safe.length safe.length,.slice (some ⟨g3,0,none⟩) ops.length ops.length] 31 (0,0))):=(gr2.block (w4.heap.size) (lt_of_block bxt13.out) (fun e=>by have hz3:=Z3.out;have hz4:=Z4.out;have hz5:=Z5.out;have hlg:=Lg.out;have hg1:=LG1.out;have hg2:=LG2.out;have hg3:=LG3.out;have hap:=AP.out;have hww:=ZW.out;simp[Value.ownBlock] at e;omega)).trans bxt13.out
    clear bxt13
    have bgt14:Hid (wm2.heap[bga]? = some (.cells #[.slice h1 rl.length hk1,.slice h2 rs.length hk2,.slice h3 ro.length hk3] 31 (0,0))):=(gr2.block (bga) (lt_of_block bgt13.out) (fun e=>by have hz3:=Z3.out;have hz4:=Z4.out;have hz5:=Z5.out;have hlg:=Lg.out;have hg1:=LG1.out;have hg2:=LG2.out;have hg3:=LG3.out;have hap:=AP.out;have hww:=ZW.out;simp[Value.ownBlock] at e;omega)).trans bgt13.out
    clear bgt13
    have G1t14:Hid (wm2.ownsRow w5.heap.size 84 2 (Value.slice h1 rl.length hk1) rl.length (pcells rl)):=G1t13.out.kept gr2 (by
     cases hv:(Value.slice h1 rl.length hk1).ownBlock with
     | none=>exact .inl rfl
     | some q=>exact .inr (fun e=>by have hz3:=Z3.out;have hz4:=Z4.out;have hz5:=Z5.out;have hlg:=Lg.out;have hg1:=LG1.out;have hg2:=LG2.out;have hg3:=LG3.out;have hap:=AP.out;have hww:=ZW.out;simp[Value.ownBlock] at e;have:=hg1 q hv;omega))
    clear G1t13
    have G2t14:Hid (wm2.ownsRow w5.heap.size 84 2 (Value.slice h2 rs.length hk2) rs.length (pcells rs)):=G2t13.out.kept gr2 (by
     cases hv:(Value.slice h2 rs.length hk2).ownBlock with
     | none=>exact .inl rfl
     | some q=>exact .inr (fun e=>by have hz3:=Z3.out;have hz4:=Z4.out;have hz5:=Z5.out;have hlg:=Lg.out;have hg1:=LG1.out;have hg2:=LG2.out;have hg3:=LG3.out;have hap:=AP.out;have hww:=ZW.out;simp[Value.ownBlock] at e;have:=hg2 q hv;omega))
    clear G2t13
    have G3t14:Hid (wm2.ownsRow w5.heap.size 40 4 (Value.slice h3 ro.length hk3) ro.length (dcells ro)):=G3t13.out.kept gr2 (by
     cases hv:(Value.slice h3 ro.length hk3).ownBlock with
     | none=>exact .inl rfl
     | some q=>exact .inr (fun e=>by have hz3:=Z3.out;have hz4:=Z4.out;have hz5:=Z5.out;have hlg:=Lg.out;have hg1:=LG1.out;have hg2:=LG2.out;have hg3:=LG3.out;have hap:=AP.out;have hww:=ZW.out;simp[Value.ownBlock] at e;have:=hg3 q hv;omega))
    clear G3t13
    have Bt14:Below w.heap.size w wm2:=Bt13.grown gr2 Bt13.size (fun q hq=>by have hz3:=Z3.out;have hz4:=Z4.out;have hz5:=Z5.out;have hlg:=Lg.out;have hg1:=LG1.out;have hg2:=LG2.out;have hg3:=LG3.out;have hap:=AP.out;have hww:=ZW.out;simp[Value.ownBlock] at hq;omega)
    clear Bt13
    have aDt15:Hid (wm3.heap[w.heap.size]? = some (.cells #[.slice a1 live.length c1,.slice a2 safe.length c2,.slice a3 ops.length c3] 25 (0,0))):=(gr3.block (w.heap.size) (lt_of_block aDt14.out) (fun e=>by have hz3:=Z3.out;have hz4:=Z4.out;have hz5:=Z5.out;have hlg:=Lg.out;have hg1:=LG1.out;have hg2:=LG2.out;have hg3:=LG3.out;have hap:=AP.out;have hww:=ZW.out;simp[Value.ownBlock] at e;omega)).trans aDt14.out
    clear aDt14
    have aOt15:Hid (wm3.heap[w.heap.size+1]? = some (.cells #[.int .i64 kk,.string ⟨nn.toArray⟩,.string ⟨tt.toArray⟩,.string ⟨dd.toArray⟩] 36 (0,0))):=(gr3.block (w.heap.size+1) (lt_of_block aOt14.out) (fun e=>by have hz3:=Z3.out;have hz4:=Z4.out;have hz5:=Z5.out;have hlg:=Lg.out;have hg1:=LG1.out;have hg2:=LG2.out;have hg3:=LG3.out;have hap:=AP.out;have hww:=ZW.out;simp[Value.ownBlock] at e;omega)).trans aOt14.out
    clear aOt14
    have bwt15:Hid (wm3.heap[bwa]? = some (.cells #[.slice y1 rl.length yk1,.slice y2 rs.length yk2,.slice y3 ro.length yk3] 31 (0,0))):=(gr3.block (bwa) (lt_of_block bwt14.out) (fun e=>by have hz3:=Z3.out;have hz4:=Z4.out;have hz5:=Z5.out;have hlg:=Lg.out;have hg1:=LG1.out;have hg2:=LG2.out;have hg3:=LG3.out;have hap:=AP.out;have hww:=ZW.out;simp[Value.ownBlock] at e;omega)).trans bwt14.out
    clear bwt14
    have N1t15:Hid (NewQ wm3 w1b.heap.size wk1.heap.size y1 (pcells rl)):=N1t14.out.kept gr3 (fun q h1 h2 e=>by have hz3:=Z3.out;have hz4:=Z4.out;have hz5:=Z5.out;have hlg:=Lg.out;have hg1:=LG1.out;have hg2:=LG2.out;have hg3:=LG3.out;have hap:=AP.out;have hww:=ZW.out;simp[Value.ownBlock] at e;omega)
    clear N1t14
    have N2t15:Hid (NewQ wm3 w1b.heap.size wk1.heap.size y2 (pcells rs)):=N2t14.out.kept gr3 (fun q h1 h2 e=>by have hz3:=Z3.out;have hz4:=Z4.out;have hz5:=Z5.out;have hlg:=Lg.out;have hg1:=LG1.out;have hg2:=LG2.out;have hg3:=LG3.out;have hap:=AP.out;have hww:=ZW.out;simp[Value.ownBlock] at e;omega)
    clear N2t14
    have N3t15:Hid (NewQ wm3 w1b.heap.size wk1.heap.size y3 (dcells ro)):=N3t14.out.kept gr3 (fun q h1 h2 e=>by have hz3:=Z3.out;have hz4:=Z4.out;have hz5:=Z5.out;have hlg:=Lg.out;have hg1:=LG1.out;have hg2:=LG2.out;have hg3:=LG3.out;have hap:=AP.out;have hww:=ZW.out;simp[Value.ownBlock] at e;omega)
    clear N3t14
    have bxt15:Hid (wm3.heap[w4.heap.size]? = some (.cells #[.slice (some ⟨g1,0,none⟩) live.length live.length,.slice (some ⟨g2,0,none⟩) safe.length safe.length,.slice (some ⟨g3,0,none⟩) ops.length ops.length] 31 (0,0))):=(gr3.block (w4.heap.size) (lt_of_block bxt14.out) (fun e=>by have hz3:=Z3.out;have hz4:=Z4.out;have hz5:=Z5.out;have hlg:=Lg.out;have hg1:=LG1.out;have hg2:=LG2.out;have hg3:=LG3.out;have hap:=AP.out;have hww:=ZW.out;simp[Value.ownBlock] at e;omega)).trans bxt14.out
    clear bxt14
    have bgt15:Hid (wm3.heap[bga]? = some (.cells #[.slice h1 rl.length hk1,.slice h2 rs.length hk2,.slice h3 ro.length hk3] 31 (0,0))):=(gr3.block (bga) (lt_of_block bgt14.out) (fun e=>by have hz3:=Z3.out;have hz4:=Z4.out;have hz5:=Z5.out;have hlg:=Lg.out;have hg1:=LG1.out;have hg2:=LG2.out;have hg3:=LG3.out;have hap:=AP.out;have hww:=ZW.out;simp[Value.ownBlock] at e;omega)).trans bgt14.out
    clear bgt14
    have G1t15:Hid (wm3.ownsRow w5.heap.size 84 2 (Value.slice h1 rl.length hk1) rl.length (pcells rl)):=G1t14.out.kept gr3 (by
     cases hv:(Value.slice h1 rl.length hk1).ownBlock with
     | none=>exact .inl rfl
     | some q=>exact .inr (fun e=>by have hz3:=Z3.out;have hz4:=Z4.out;have hz5:=Z5.out;have hlg:=Lg.out;have hg1:=LG1.out;have hg2:=LG2.out;have hg3:=LG3.out;have hap:=AP.out;have hww:=ZW.out;simp[Value.ownBlock] at e;have:=hg1 q hv;omega))
    clear G1t14
    have G2t15:Hid (wm3.ownsRow w5.heap.size 84 2 (Value.slice h2 rs.length hk2) rs.length (pcells rs)):=G2t14.out.kept gr3 (by
     cases hv:(Value.slice h2 rs.length hk2).ownBlock with
     | none=>exact .inl rfl
     | some q=>exact .inr (fun e=>by have hz3:=Z3.out;have hz4:=Z4.out;have hz5:=Z5.out;have hlg:=Lg.out;have hg1:=LG1.out;have hg2:=LG2.out;have hg3:=LG3.out;have hap:=AP.out;have hww:=ZW.out;simp[Value.ownBlock] at e;have:=hg2 q hv;omega))
    clear G2t14
    have G3t15:Hid (wm3.ownsRow w5.heap.size 40 4 (Value.slice h3 ro.length hk3) ro.length (dcells ro)):=G3t14.out.kept gr3 (by
     cases hv:(Value.slice h3 ro.length hk3).ownBlock with
     | none=>exact .inl rfl
     | some q=>exact .inr (fun e=>by have hz3:=Z3.out;have hz4:=Z4.out;have hz5:=Z5.out;have hlg:=Lg.out;have hg1:=LG1.out;have hg2:=LG2.out;have hg3:=LG3.out;have hap:=AP.out;have hww:=ZW.out;simp[Value.ownBlock] at e;have:=hg3 q hv;omega))
    clear G3t14
    have Bt15:Below w.heap.size w wm3:=Bt14.grown gr3 Bt14.size (fun q hq=>by have hz3:=Z3.out;have hz4:=Z4.out;have hz5:=Z5.out;have hlg:=Lg.out;have hg1:=LG1.out;have hg2:=LG2.out;have hg3:=LG3.out;have hap:=AP.out;have hww:=ZW.out;simp[Value.ownBlock] at hq;omega)
    clear Bt14
    clear mo1 mo2 mo3 gr1 gr2 gr3 mk0
    clear bxt15
    obtain⟨bg0,bg1,bg2,_⟩:=three_cells bgt15.out
    obtain⟨bw0,bw1,bw2,_⟩:=three_cells bwt15.out
    go_wp2_with fail
    refine (eqDisk_same rl rs ro _ _ _ _ _ _ _ _ _ _ _ _ _ (by omega) (by omega) (by omega) ⟨(isPairs_own G1t15.out).2.2,N1t15.out.1.pairs⟩ ⟨(isPairs_own G2t15.out).2.2,N2t15.out.1.pairs⟩ ⟨(isDOps_own G3t15.out).2.2,N3t15.out.1.dops⟩).mono ?_
    rintro e wo ⟨rfl,b9⟩
    clear bg0 bg1 bg2
    clear bw0 bw1 bw2
    have aDt16:Hid (wo.heap[w.heap.size]? = some (.cells #[.slice a1 live.length c1,.slice a2 safe.length c2,.slice a3 ops.length c3] 25 (0,0))):=(b9.block (w.heap.size) (lt_of_block aDt15.out)).trans aDt15.out
    clear aDt15
    have aOt16:Hid (wo.heap[w.heap.size+1]? = some (.cells #[.int .i64 kk,.string ⟨nn.toArray⟩,.string ⟨tt.toArray⟩,.string ⟨dd.toArray⟩] 36 (0,0))):=(b9.block (w.heap.size+1) (lt_of_block aOt15.out)).trans aOt15.out
    clear aOt15
    have bwt16:Hid (wo.heap[bwa]? = some (.cells #[.slice y1 rl.length yk1,.slice y2 rs.length yk2,.slice y3 ro.length yk3] 31 (0,0))):=(b9.block (bwa) (lt_of_block bwt15.out)).trans bwt15.out
    clear bwt15
    have N1t16:Hid (NewQ wo w1b.heap.size wk1.heap.size y1 (pcells rl)):=N1t15.out.later b9
    clear N1t15
    have N2t16:Hid (NewQ wo w1b.heap.size wk1.heap.size y2 (pcells rs)):=N2t15.out.later b9
    clear N2t15
    have N3t16:Hid (NewQ wo w1b.heap.size wk1.heap.size y3 (dcells ro)):=N3t15.out.later b9
    clear N3t15
    have bgt16:Hid (wo.heap[bga]? = some (.cells #[.slice h1 rl.length hk1,.slice h2 rs.length hk2,.slice h3 ro.length hk3] 31 (0,0))):=(b9.block (bga) (lt_of_block bgt15.out)).trans bgt15.out
    clear bgt15
    have G1t16:Hid (wo.ownsRow w5.heap.size 84 2 (Value.slice h1 rl.length hk1) rl.length (pcells rl)):=kept2 G1t15.out b9
    clear G1t15
    have G2t16:Hid (wo.ownsRow w5.heap.size 84 2 (Value.slice h2 rs.length hk2) rs.length (pcells rs)):=kept2 G2t15.out b9
    clear G2t15
    have G3t16:Hid (wo.ownsRow w5.heap.size 40 4 (Value.slice h3 ro.length hk3) ro.length (dcells ro)):=kept4 G3t15.out b9
    clear G3t15
    have Bt16:Below w.heap.size w wo:=Bt15.trans (b9.mono Bt15.size)
    clear Bt15
    clear b9
    clear mk1 mk2
    obtain⟨bg0,bg1,bg2,_⟩:=three_cells bgt16.out
    have KM:=markDisk_any rl rs ro h1 h2 h3 rl.length hk1 rs.length hk2 ro.length hk3 w5.heap.size 1 wo (by omega) (by omega) (by omega) (by omega) (by omega) (AP.out) G1t16.out G2t16.out G3t16.out
    have mk0:¬ ((1:Nat):Int)+2*(rl.length:Int)+2*(rs.length:Int)+4*(ro.length:Int)<0:=by omega
    have mk1:¬ (1:Int)+2*(rl.length:Int)+2*(rs.length:Int)+4*(ro.length:Int)<0:=by omega
    have mk2:decide ((1:Int)+2*(rl.length:Int)+2*(rs.length:Int)+4*(ro.length:Int)<0)=false:=decide_eq_false mk1
    go_wp2_with fail
    refine KM.mono ?_
    rintro e wp3 ⟨rfl,mo1,mo2,mo3,wp1,wp2,gr1,gr2,gr3⟩
    clear KM
    clear bg0 bg1 bg2
    clear G1t16
    clear G2t16
    clear G3t16
    have aDt17:Hid (wp1.heap[w.heap.size]? = some (.cells #[.slice a1 live.length c1,.slice a2 safe.length c2,.slice a3 ops.length c3] 25 (0,0))):=(gr1.block (w.heap.size) (lt_of_block aDt16.out) (fun e=>by have hz3:=Z3.out;have hz4:=Z4.out;have hz5:=Z5.out;have hlg:=Lg.out;have hg1:=LG1.out;have hg2:=LG2.out;have hg3:=LG3.out;have hap:=AP.out;have hww:=ZW.out;have:=hg1 _ e.symm;omega)).trans aDt16.out
    clear aDt16
    have aOt17:Hid (wp1.heap[w.heap.size+1]? = some (.cells #[.int .i64 kk,.string ⟨nn.toArray⟩,.string ⟨tt.toArray⟩,.string ⟨dd.toArray⟩] 36 (0,0))):=(gr1.block (w.heap.size+1) (lt_of_block aOt16.out) (fun e=>by have hz3:=Z3.out;have hz4:=Z4.out;have hz5:=Z5.out;have hlg:=Lg.out;have hg1:=LG1.out;have hg2:=LG2.out;have hg3:=LG3.out;have hap:=AP.out;have hww:=ZW.out;have:=hg1 _ e.symm;omega)).trans aOt16.out
    clear aOt16
    have bwt17:Hid (wp1.heap[bwa]? = some (.cells #[.slice y1 rl.length yk1,.slice y2 rs.length yk2,.slice y3 ro.length yk3] 31 (0,0))):=(gr1.block (bwa) (lt_of_block bwt16.out) (fun e=>by have hz3:=Z3.out;have hz4:=Z4.out;have hz5:=Z5.out;have hlg:=Lg.out;have hg1:=LG1.out;have hg2:=LG2.out;have hg3:=LG3.out;have hap:=AP.out;have hww:=ZW.out;have:=hg1 _ e.symm;omega)).trans bwt16.out
    clear bwt16
    have N1t17:Hid (NewQ wp1 w1b.heap.size wk1.heap.size y1 (pcells rl)):=N1t16.out.kept gr1 (fun q h1 h2 e=>by have hz3:=Z3.out;have hz4:=Z4.out;have hz5:=Z5.out;have hlg:=Lg.out;have hg1:=LG1.out;have hg2:=LG2.out;have hg3:=LG3.out;have hap:=AP.out;have hww:=ZW.out;have:=hg1 _ e.symm;omega)
    clear N1t16
    have N2t17:Hid (NewQ wp1 w1b.heap.size wk1.heap.size y2 (pcells rs)):=N2t16.out.kept gr1 (fun q h1 h2 e=>by have hz3:=Z3.out;have hz4:=Z4.out;have hz5:=Z5.out;have hlg:=Lg.out;have hg1:=LG1.out;have hg2:=LG2.out;have hg3:=LG3.out;have hap:=AP.out;have hww:=ZW.out;have:=hg1 _ e.symm;omega)
    clear N2t16
    have N3t17:Hid (NewQ wp1 w1b.heap.size wk1.heap.size y3 (dcells ro)):=N3t16.out.kept gr1 (fun q h1 h2 e=>by have hz3:=Z3.out;have hz4:=Z4.out;have hz5:=Z5.out;have hlg:=Lg.out;have hg1:=LG1.out;have hg2:=LG2.out;have hg3:=LG3.out;have hap:=AP.out;have hww:=ZW.out;have:=hg1 _ e.symm;omega)
    clear N3t16
    have bgt17:Hid (wp1.heap[bga]? = some (.cells #[.slice h1 rl.length hk1,.slice h2 rs.length hk2,.slice h3 ro.length hk3] 31 (0,0))):=(gr1.block (bga) (lt_of_block bgt16.out) (fun e=>by have hz3:=Z3.out;have hz4:=Z4.out;have hz5:=Z5.out;have hlg:=Lg.out;have hg1:=LG1.out;have hg2:=LG2.out;have hg3:=LG3.out;have hap:=AP.out;have hww:=ZW.out;have:=hg1 _ e.symm;omega)).trans bgt16.out
    clear bgt16
    have Bt17:Below w.heap.size w wp1:=Bt16.grown gr1 Bt16.size (fun q hq=>by have hz3:=Z3.out;have hz4:=Z4.out;have hz5:=Z5.out;have hlg:=Lg.out;have hg1:=LG1.out;have hg2:=LG2.out;have hg3:=LG3.out;have hap:=AP.out;have hww:=ZW.out;have:=hg1 q hq;omega)
    clear Bt16
    have aDt18:Hid (wp2.heap[w.heap.size]? = some (.cells #[.slice a1 live.length c1,.slice a2 safe.length c2,.slice a3 ops.length c3] 25 (0,0))):=(gr2.block (w.heap.size) (lt_of_block aDt17.out) (fun e=>by have hz3:=Z3.out;have hz4:=Z4.out;have hz5:=Z5.out;have hlg:=Lg.out;have hg1:=LG1.out;have hg2:=LG2.out;have hg3:=LG3.out;have hap:=AP.out;have hww:=ZW.out;have:=hg2 _ e.symm;omega)).trans aDt17.out
    clear aDt17
    have aOt18:Hid (wp2.heap[w.heap.size+1]? = some (.cells #[.int .i64 kk,.string ⟨nn.toArray⟩,.string ⟨tt.toArray⟩,.string ⟨dd.toArray⟩] 36 (0,0))):=(gr2.block (w.heap.size+1) (lt_of_block aOt17.out) (fun e=>by have hz3:=Z3.out;have hz4:=Z4.out;have hz5:=Z5.out;have hlg:=Lg.out;have hg1:=LG1.out;have hg2:=LG2.out;have hg3:=LG3.out;have hap:=AP.out;have hww:=ZW.out;have:=hg2 _ e.symm;omega)).trans aOt17.out
    clear aOt17
    have bwt18:Hid (wp2.heap[bwa]? = some (.cells #[.slice y1 rl.length yk1,.slice y2 rs.length yk2,.slice y3 ro.length yk3] 31 (0,0))):=(gr2.block (bwa) (lt_of_block bwt17.out) (fun e=>by have hz3:=Z3.out;have hz4:=Z4.out;have hz5:=Z5.out;have hlg:=Lg.out;have hg1:=LG1.out;have hg2:=LG2.out;have hg3:=LG3.out;have hap:=AP.out;have hww:=ZW.out;have:=hg2 _ e.symm;omega)).trans bwt17.out
    clear bwt17
    have N1t18:Hid (NewQ wp2 w1b.heap.size wk1.heap.size y1 (pcells rl)):=N1t17.out.kept gr2 (fun q h1 h2 e=>by have hz3:=Z3.out;have hz4:=Z4.out;have hz5:=Z5.out;have hlg:=Lg.out;have hg1:=LG1.out;have hg2:=LG2.out;have hg3:=LG3.out;have hap:=AP.out;have hww:=ZW.out;have:=hg2 _ e.symm;omega)
    clear N1t17
    have N2t18:Hid (NewQ wp2 w1b.heap.size wk1.heap.size y2 (pcells rs)):=N2t17.out.kept gr2 (fun q h1 h2 e=>by have hz3:=Z3.out;have hz4:=Z4.out;have hz5:=Z5.out;have hlg:=Lg.out;have hg1:=LG1.out;have hg2:=LG2.out;have hg3:=LG3.out;have hap:=AP.out;have hww:=ZW.out;have:=hg2 _ e.symm;omega)
    clear N2t17
    have N3t18:Hid (NewQ wp2 w1b.heap.size wk1.heap.size y3 (dcells ro)):=N3t17.out.kept gr2 (fun q h1 h2 e=>by have hz3:=Z3.out;have hz4:=Z4.out;have hz5:=Z5.out;have hlg:=Lg.out;have hg1:=LG1.out;have hg2:=LG2.out;have hg3:=LG3.out;have hap:=AP.out;have hww:=ZW.out;have:=hg2 _ e.symm;omega)
    clear N3t17
    have bgt18:Hid (wp2.heap[bga]? = some (.cells #[.slice h1 rl.length hk1,.slice h2 rs.length hk2,.slice h3 ro.length hk3] 31 (0,0))):=(gr2.block (bga) (lt_of_block bgt17.out) (fun e=>by have hz3:=Z3.out;have hz4:=Z4.out;have hz5:=Z5.out;have hlg:=Lg.out;have hg1:=LG1.out;have hg2:=LG2.out;have hg3:=LG3.out;have hap:=AP.out;have hww:=ZW.out;have:=hg2 _ e.symm;omega)).trans bgt17.out
    clear bgt17
    have Bt18:Below w.heap.size w wp2:=Bt17.grown gr2 Bt17.size (fun q hq=>by have hz3:=Z3.out;have hz4:=Z4.out;have hz5:=Z5.out;have hlg:=Lg.out;have hg1:=LG1.out;have hg2:=LG2.out;have hg3:=LG3.out;have hap:=AP.out;have hww:=ZW.out;have:=hg2 q hq;omega)
    clear Bt17
    have aDt19:Hid (wp3.heap[w.heap.size]? = some (.cells #[.slice a1 live.length c1,.slice a2 safe.length c2,.slice a3 ops.length c3] 25 (0,0))):=(gr3.block (w.heap.size) (lt_of_block aDt18.out) (fun e=>by have hz3:=Z3.out;have hz4:=Z4.out;have hz5:=Z5.out;have hlg:=Lg.out;have hg1:=LG1.out;have hg2:=LG2.out;have hg3:=LG3.out;have hap:=AP.out;have hww:=ZW.out;have:=hg3 _ e.symm;omega)).trans aDt18.out
    clear aDt18
    have aOt19:Hid (wp3.heap[w.heap.size+1]? = some (.cells #[.int .i64 kk,.string ⟨nn.toArray⟩,.string ⟨tt.toArray⟩,.string ⟨dd.toArray⟩] 36 (0,0))):=(gr3.block (w.heap.size+1) (lt_of_block aOt18.out) (fun e=>by have hz3:=Z3.out;have hz4:=Z4.out;have hz5:=Z5.out;have hlg:=Lg.out;have hg1:=LG1.out;have hg2:=LG2.out;have hg3:=LG3.out;have hap:=AP.out;have hww:=ZW.out;have:=hg3 _ e.symm;omega)).trans aOt18.out
    clear aOt18
    have bwt19:Hid (wp3.heap[bwa]? = some (.cells #[.slice y1 rl.length yk1,.slice y2 rs.length yk2,.slice y3 ro.length yk3] 31 (0,0))):=(gr3.block (bwa) (lt_of_block bwt18.out) (fun e=>by have hz3:=Z3.out;have hz4:=Z4.out;have hz5:=Z5.out;have hlg:=Lg.out;have hg1:=LG1.out;have hg2:=LG2.out;have hg3:=LG3.out;have hap:=AP.out;have hww:=ZW.out;have:=hg3 _ e.symm;omega)).trans bwt18.out
    clear bwt18
    have N1t19:Hid (NewQ wp3 w1b.heap.size wk1.heap.size y1 (pcells rl)):=N1t18.out.kept gr3 (fun q h1 h2 e=>by have hz3:=Z3.out;have hz4:=Z4.out;have hz5:=Z5.out;have hlg:=Lg.out;have hg1:=LG1.out;have hg2:=LG2.out;have hg3:=LG3.out;have hap:=AP.out;have hww:=ZW.out;have:=hg3 _ e.symm;omega)
    clear N1t18
    have N2t19:Hid (NewQ wp3 w1b.heap.size wk1.heap.size y2 (pcells rs)):=N2t18.out.kept gr3 (fun q h1 h2 e=>by have hz3:=Z3.out;have hz4:=Z4.out;have hz5:=Z5.out;have hlg:=Lg.out;have hg1:=LG1.out;have hg2:=LG2.out;have hg3:=LG3.out;have hap:=AP.out;have hww:=ZW.out;have:=hg3 _ e.symm;omega)
    clear N2t18
    have N3t19:Hid (NewQ wp3 w1b.heap.size wk1.heap.size y3 (dcells ro)):=N3t18.out.kept gr3 (fun q h1 h2 e=>by have hz3:=Z3.out;have hz4:=Z4.out;have hz5:=Z5.out;have hlg:=Lg.out;have hg1:=LG1.out;have hg2:=LG2.out;have hg3:=LG3.out;have hap:=AP.out;have hww:=ZW.out;have:=hg3 _ e.symm;omega)
    clear N3t18
    have bgt19:Hid (wp3.heap[bga]? = some (.cells #[.slice h1 rl.length hk1,.slice h2 rs.length hk2,.slice h3 ro.length hk3] 31 (0,0))):=(gr3.block (bga) (lt_of_block bgt18.out) (fun e=>by have hz3:=Z3.out;have hz4:=Z4.out;have hz5:=Z5.out;have hlg:=Lg.out;have hg1:=LG1.out;have hg2:=LG2.out;have hg3:=LG3.out;have hap:=AP.out;have hww:=ZW.out;have:=hg3 _ e.symm;omega)).trans bgt18.out
    clear bgt18
    have Bt19:Below w.heap.size w wp3:=Bt18.grown gr3 Bt18.size (fun q hq=>by have hz3:=Z3.out;have hz4:=Z4.out;have hz5:=Z5.out;have hlg:=Lg.out;have hg1:=LG1.out;have hg2:=LG2.out;have hg3:=LG3.out;have hap:=AP.out;have hww:=ZW.out;have:=hg3 q hq;omega)
    clear Bt18
    have M1a:Hid (wp3.ownsRow w5.heap.size 84 2 (Value.slice h1 rl.length hk1) rl.length (pcells (marksP 1 rl.length))):=mo1
    have M2a:Hid (wp3.ownsRow w5.heap.size 84 2 (Value.slice h2 rs.length hk2) rs.length (pcells (marksP (1+2*rl.length) rs.length))):=mo2
    have M3a:Hid (wp3.ownsRow w5.heap.size 40 4 (Value.slice h3 ro.length hk3) ro.length (dcells (marksD (1+2*rl.length+2*rs.length) ro.length))):=mo3
    clear mo1 mo2 mo3 gr1 gr2 gr3 mk0
    obtain⟨bg0,bg1,bg2,_⟩:=three_cells bgt19.out
    have KM:=heldDisk_any rl.length rs.length ro.length h1 h2 h3 rl.length hk1 rs.length hk2 ro.length hk3 _ 1 wp3 (by omega) (by omega) (by omega) (by omega) (by omega) M1a.out M2a.out M3a.out
    go_wp2_with fail
    refine KM.mono ?_
    rintro e wq ⟨rfl,bh⟩
    clear bg0 bg1 bg2
    have aDt20:Hid (wq.heap[w.heap.size]? = some (.cells #[.slice a1 live.length c1,.slice a2 safe.length c2,.slice a3 ops.length c3] 25 (0,0))):=(bh.block (w.heap.size) (lt_of_block aDt19.out)).trans aDt19.out
    clear aDt19
    have aOt20:Hid (wq.heap[w.heap.size+1]? = some (.cells #[.int .i64 kk,.string ⟨nn.toArray⟩,.string ⟨tt.toArray⟩,.string ⟨dd.toArray⟩] 36 (0,0))):=(bh.block (w.heap.size+1) (lt_of_block aOt19.out)).trans aOt19.out
    clear aOt19
    have bwt20:Hid (wq.heap[bwa]? = some (.cells #[.slice y1 rl.length yk1,.slice y2 rs.length yk2,.slice y3 ro.length yk3] 31 (0,0))):=(bh.block (bwa) (lt_of_block bwt19.out)).trans bwt19.out
    clear bwt19
    have N1t20:Hid (NewQ wq w1b.heap.size wk1.heap.size y1 (pcells rl)):=N1t19.out.later bh
    clear N1t19
    have N2t20:Hid (NewQ wq w1b.heap.size wk1.heap.size y2 (pcells rs)):=N2t19.out.later bh
    clear N2t19
    have N3t20:Hid (NewQ wq w1b.heap.size wk1.heap.size y3 (dcells ro)):=N3t19.out.later bh
    clear N3t19
    have bgt20:Hid (wq.heap[bga]? = some (.cells #[.slice h1 rl.length hk1,.slice h2 rs.length hk2,.slice h3 ro.length hk3] 31 (0,0))):=(bh.block (bga) (lt_of_block bgt19.out)).trans bgt19.out
    clear bgt19
    have M1t20:Hid (wq.ownsRow w5.heap.size 84 2 (Value.slice h1 rl.length hk1) rl.length (pcells (marksP 1 rl.length))):=kept2 M1a.out bh
    clear M1a
    have M2t20:Hid (wq.ownsRow w5.heap.size 84 2 (Value.slice h2 rs.length hk2) rs.length (pcells (marksP (1+2*rl.length) rs.length))):=kept2 M2a.out bh
    clear M2a
    have M3t20:Hid (wq.ownsRow w5.heap.size 40 4 (Value.slice h3 ro.length hk3) ro.length (dcells (marksD (1+2*rl.length+2*rs.length) ro.length))):=kept4 M3a.out bh
    clear M3a
    have Bt20:Below w.heap.size w wq:=Bt19.trans (bh.mono Bt19.size)
    clear Bt19
    clear KM bh
    have SB:Hid (∀ W,Below wq.heap.size wq W→W.cell? ⟨w.heap.size,0,none⟩=some (.slice a1 live.length c1)∧W.cell? ⟨w.heap.size,1,none⟩=some (.slice a2 safe.length c2)∧W.cell? ⟨w.heap.size,2,none⟩=some (.slice a3 ops.length c3)∧W.cell? ⟨w.heap.size+1,0,none⟩=some (.int .i64 kk)∧W.cell? ⟨w.heap.size+1,1,none⟩=some (.string ⟨nn.toArray⟩)∧W.cell? ⟨w.heap.size+1,2,none⟩=some (.string ⟨tt.toArray⟩)∧W.cell? ⟨w.heap.size+1,3,none⟩=some (.string ⟨dd.toArray⟩)):=fun W hW=>by
     obtain⟨u0,u1,u2,_⟩:=three_cells ((hW.block _ (lt_of_block aDt20.out)).trans aDt20.out)
     obtain⟨v0,v1,v2,v3,_⟩:=four_cells ((hW.block _ (lt_of_block aOt20.out)).trans aOt20.out)
     exact⟨u0,u1,u2,v0,v1,v2,v3⟩
    have BR:Below wq.heap.size wq wq:=Below.refl _ _
    have HT2:Hid (∀ W,Below wq.heap.size wq W→Calls Try.prog 14 #[.agg #[.slice a1 live.length c1,.slice a2 safe.length c2,.slice a3 ops.length c3]] W fun e w'=>∃ g1 g2 g3:Nat,e=.returned (.agg #[.slice (some ⟨g1,0,none⟩) live.length live.length,.slice (some ⟨g2,0,none⟩) safe.length safe.length,.slice (some ⟨g3,0,none⟩) ops.length ops.length])∧(IsPairs w' (some ⟨g1,0,none⟩) live∧IsPairs w' (some ⟨g2,0,none⟩) safe∧IsDOps w' (some ⟨g3,0,none⟩) ops)∧Below W.heap.size W w'):=fun W hW=>(HTN.out W (Bt20.trans (hW.mono Bt20.size))).mono fun e w' ⟨g1,g2,g3,h1,_,_,r1,r2,r3,h4⟩=>⟨g1,g2,g3,h1,⟨(isPairs_own r1).2.2,(isPairs_own r2).2.2,(isDOps_own r3).2.2⟩,h4⟩
    obtain⟨aD0,aD1,aD2,_⟩:=three_cells aDt20.out
    obtain⟨aO0,aO1,aO2,aO3,_⟩:=four_cells aOt20.out
    go_wp2
    go_cut [14,15] from 84 (fun v6 v7 wx=>∃ (bs:Nat) (x1 x2 x3:Option Addr) (xk1 xk2 xk3:Nat),v6=.pointer (some ⟨bs,0,none⟩)∧v7=.int .i64 cd∧Hid (JReg wq wx bs x1 x2 x3 xk1 xk2 xk3 rl rs ro))
    case first =>
     go_region_held3 (fun w'=>w'.cell? ⟨w.heap.size,0,none⟩=some (.slice a1 live.length c1)∧w'.cell? ⟨w.heap.size,1,none⟩=some (.slice a2 safe.length c2)∧w'.cell? ⟨w.heap.size,2,none⟩=some (.slice a3 ops.length c3)∧w'.cell? ⟨w.heap.size+1,0,none⟩=some (.int .i64 kk)∧w'.cell? ⟨w.heap.size+1,1,none⟩=some (.string ⟨nn.toArray⟩)∧w'.cell? ⟨w.heap.size+1,2,none⟩=some (.string ⟨tt.toArray⟩)∧w'.cell? ⟨w.heap.size+1,3,none⟩=some (.string ⟨dd.toArray⟩))
      (first | exact SB.out _ (by repeat' first | with_reducible exact BC3 | with_reducible exact BC2 | with_reducible exact BC1 | with_reducible exact BR | with_reducible apply below_drew1 | (with_reducible refine below_lit ?_ (Nat.le_refl _) _) | with_reducible apply below_set9 | exact Nat.le_refl _ | exact BC1.size | exact BC2.size | exact BC3.size))
      (first
       | (go_at_call 14
          with_reducible refine (HT2.out _ (by repeat' first | with_reducible exact BR | with_reducible apply below_drew1 | (with_reducible refine below_lit ?_ (Nat.le_refl _) _))).mono ?_
          rintro e wr3a ⟨v1,v2,v3,rfl,i7,b7⟩
          have BC1:Below wq.heap.size wq wr3a:=below_via (by repeat' first | with_reducible exact BR | with_reducible apply below_drew1 | (with_reducible refine below_lit ?_ (Nat.le_refl _) _)) (Nat.le_refl _) b7
          have J1:Hid ((IsPairs wr3a (some ⟨v1,0,none⟩) live∧IsPairs wr3a (some ⟨v2,0,none⟩) safe∧IsDOps wr3a (some ⟨v3,0,none⟩) ops)):=i7
          have V1:=blk_via b7
          clear i7 b7)
       | (go_at_call 19
          with_reducible refine (toDOp_any kk nn tt dd _).mono ?_
          rintro e wr3b ⟨rfl,b8⟩
          have BC2:Below wq.heap.size wq wr3b:=below_via (by repeat' first | with_reducible exact BC1 | with_reducible exact BR | with_reducible apply below_drew1 | (with_reducible refine below_lit ?_ (Nat.le_refl _) _)) (Nat.le_refl _) b8
          have J2:Hid ((IsPairs wr3b (some ⟨v1,0,none⟩) live∧IsPairs wr3b (some ⟨v2,0,none⟩) safe∧IsDOps wr3b (some ⟨v3,0,none⟩) ops)):=is3_later J1.out (below_via (by repeat' first | with_reducible exact Below.refl _ _ | with_reducible apply below_drew1 | (with_reducible refine below_lit ?_ (Nat.le_refl _) _)) (Nat.le_refl _) b8)
          have V2:=blk_via b8
          clear b8)
       | (go_at_call 20
          with_reducible refine (HH2.out v1 v2 v3 _ (is3_later J2.out (by repeat' first | with_reducible exact Below.refl _ _ | with_reducible apply below_drew1 | (with_reducible refine below_lit ?_ (Nat.le_refl _) _)))).mono ?_
          rintro e wr3c ⟨f1,f2,f3,fk1,fk2,fk3,rfl,n1,n2,n3,hap,b9⟩
          have BC3:Below wq.heap.size wq wr3c:=below_via (by repeat' first | with_reducible exact BC2 | with_reducible exact BC1 | with_reducible exact BR | with_reducible apply below_drew1 | (with_reducible refine below_lit ?_ (Nat.le_refl _) _)) (Nat.le_refl _) b9
          have V3:=blk_via b9
          skip
          have M1:Hid (wr3c.ownsRow wq.heap.size 84 2 (.slice f1 rl.length fk1) rl.length (pcells rl)):=own_via (by repeat' first | with_reducible exact BC2 | with_reducible exact BC1 | with_reducible exact BR | with_reducible apply below_drew1 | (with_reducible refine below_lit ?_ (Nat.le_refl _) _)) (Nat.le_refl _) n1
          have M2:Hid (wr3c.ownsRow wq.heap.size 84 2 (.slice f2 rs.length fk2) rs.length (pcells rs)):=own_via (by repeat' first | with_reducible exact BC2 | with_reducible exact BC1 | with_reducible exact BR | with_reducible apply below_drew1 | (with_reducible refine below_lit ?_ (Nat.le_refl _) _)) (Nat.le_refl _) n2
          have M3:Hid (wr3c.ownsRow wq.heap.size 40 4 (.slice f3 ro.length fk3) ro.length (dcells ro)):=own_via (by repeat' first | with_reducible exact BC2 | with_reducible exact BC1 | with_reducible exact BR | with_reducible apply below_drew1 | (with_reducible refine below_lit ?_ (Nat.le_refl _) _)) (Nat.le_refl _) n3
          have HAQ:Hid (Apart3 (Value.slice f1 rl.length fk1) (Value.slice f2 rs.length fk2) (Value.slice f3 ro.length fk3)):=hap
          first
           | (have HN : Hid (wr3c.heap[wr3b.heap.size]? = some (.cells #[.slice none 0 0, .slice none 0 0, .slice none 0 0] 31 (0, 0))) := V3 _ _ (heap_alloc_new wr3b (.cells #[.slice none 0 0, .slice none 0 0, .slice none 0 0] 31))
              have TS:Hid (JReg wq (((wr3c.setCell ⟨wr3b.heap.size,0,none⟩ (.slice f1 rl.length fk1)).setCell ⟨wr3b.heap.size,1,none⟩ (.slice f2 rs.length fk2)).setCell ⟨wr3b.heap.size,2,none⟩ (.slice f3 ro.length fk3)) (wr3b.heap.size) f1 f2 f3 fk1 fk2 fk3 rl rs ro):=jreg_store HN.out BC2.size BC3 (size_via (by repeat' first | with_reducible exact BC2 | with_reducible exact BC1 | with_reducible exact BR | with_reducible apply below_drew1 | (with_reducible refine below_lit ?_ (Nat.le_refl _) _))) (lt_block (heap_alloc_new wr3b (.cells #[.slice none 0 0,.slice none 0 0,.slice none 0 0] 31))) n1 n2 n3 hap
              obtain⟨z0,z1,z2,zf⟩:=three_cells HN.out
              have zf0:=zf 0
              have zf1:=zf 1
              have zf2:=zf 2
              clear zf)
           | (have HN : Hid (wr3c.heap[wr3a.heap.size]? = some (.cells #[.slice none 0 0, .slice none 0 0, .slice none 0 0] 31 (0, 0))) := V3 _ _ (V2 _ _ (heap_alloc_new wr3a (.cells #[.slice none 0 0, .slice none 0 0, .slice none 0 0] 31)))
              have TS:Hid (JReg wq (((wr3c.setCell ⟨wr3a.heap.size,0,none⟩ (.slice f1 rl.length fk1)).setCell ⟨wr3a.heap.size,1,none⟩ (.slice f2 rs.length fk2)).setCell ⟨wr3a.heap.size,2,none⟩ (.slice f3 ro.length fk3)) (wr3a.heap.size) f1 f2 f3 fk1 fk2 fk3 rl rs ro):=jreg_store HN.out BC1.size BC3 (size_via (by repeat' first | with_reducible exact BC2 | with_reducible exact BC1 | with_reducible exact BR | with_reducible apply below_drew1 | (with_reducible refine below_lit ?_ (Nat.le_refl _) _))) (lt_block (V2 _ _ (heap_alloc_new wr3a (.cells #[.slice none 0 0,.slice none 0 0,.slice none 0 0] 31)))) n1 n2 n3 hap
              obtain⟨z0,z1,z2,zf⟩:=three_cells HN.out
              have zf0:=zf 0
              have zf1:=zf 1
              have zf2:=zf 2
              clear zf)
           | (have HN : Hid (wr3c.heap[wq.heap.size]? = some (.cells #[.slice none 0 0, .slice none 0 0, .slice none 0 0] 31 (0, 0))) := V3 _ _ (V2 _ _ (V1 _ _ (heap_alloc_new wq.drew (.cells #[.slice none 0 0, .slice none 0 0, .slice none 0 0] 31))))
              have TS:Hid (JReg wq (((wr3c.setCell ⟨wq.heap.size,0,none⟩ (.slice f1 rl.length fk1)).setCell ⟨wq.heap.size,1,none⟩ (.slice f2 rs.length fk2)).setCell ⟨wq.heap.size,2,none⟩ (.slice f3 ro.length fk3)) (wq.heap.size) f1 f2 f3 fk1 fk2 fk3 rl rs ro):=jreg_store HN.out (Nat.le_refl _) BC3 (size_via (by repeat' first | with_reducible exact BC2 | with_reducible exact BC1 | with_reducible exact BR | with_reducible apply below_drew1 | (with_reducible refine below_lit ?_ (Nat.le_refl _) _))) (lt_block (V2 _ _ (V1 _ _ (heap_alloc_new wq.drew (.cells #[.slice none 0 0,.slice none 0 0,.slice none 0 0] 31))))) n1 n2 n3 hap
              obtain⟨z0,z1,z2,zf⟩:=three_cells HN.out
              have zf0:=zf 0
              have zf1:=zf 1
              have zf2:=zf 2
              clear zf)
           | skip
          clear n1 n2 n3 hap b9))
     all_goals go_wp2_with fail
     all_goals go_meet
     all_goals first
      | exact⟨_,f1,f2,f3,fk1,fk2,fk3,rfl,rfl,TS.out⟩
      | exact⟨wr3c.heap.size,f1,f2,f3,fk1,fk2,fk3,rfl,rfl,jreg_new BC3 M1.out M2.out M3.out HAQ.out⟩
    case rest =>
     obtain⟨bha,f1,f2,f3,fk1,fk2,fk3,rfl,rfl,HR⟩:=hcut
     obtain⟨wk3,rfl⟩:∃ W,W=wc:=⟨_,rfl⟩
     obtain⟨R1,R2,R3,R4,R5,R6,R7,R8,R9,bk⟩:=HR.out
     clear HR SB BR HT2
     clear aD0 aD1 aD2
     clear aO0 aO1 aO2 aO3
     have aDt21:Hid (wk3.heap[w.heap.size]? = some (.cells #[.slice a1 live.length c1,.slice a2 safe.length c2,.slice a3 ops.length c3] 25 (0,0))):=(bk.block (w.heap.size) (lt_of_block aDt20.out)).trans aDt20.out
     clear aDt20
     have aOt21:Hid (wk3.heap[w.heap.size+1]? = some (.cells #[.int .i64 kk,.string ⟨nn.toArray⟩,.string ⟨tt.toArray⟩,.string ⟨dd.toArray⟩] 36 (0,0))):=(bk.block (w.heap.size+1) (lt_of_block aOt20.out)).trans aOt20.out
     clear aOt20
     have bwt21:Hid (wk3.heap[bwa]? = some (.cells #[.slice y1 rl.length yk1,.slice y2 rs.length yk2,.slice y3 ro.length yk3] 31 (0,0))):=(bk.block (bwa) (lt_of_block bwt20.out)).trans bwt20.out
     clear bwt20
     have N1t21:Hid (NewQ wk3 w1b.heap.size wk1.heap.size y1 (pcells rl)):=N1t20.out.later bk
     clear N1t20
     have N2t21:Hid (NewQ wk3 w1b.heap.size wk1.heap.size y2 (pcells rs)):=N2t20.out.later bk
     clear N2t20
     have N3t21:Hid (NewQ wk3 w1b.heap.size wk1.heap.size y3 (dcells ro)):=N3t20.out.later bk
     clear N3t20
     have bgt21:Hid (wk3.heap[bga]? = some (.cells #[.slice h1 rl.length hk1,.slice h2 rs.length hk2,.slice h3 ro.length hk3] 31 (0,0))):=(bk.block (bga) (lt_of_block bgt20.out)).trans bgt20.out
     clear bgt20
     have M1t21:Hid (wk3.ownsRow w5.heap.size 84 2 (Value.slice h1 rl.length hk1) rl.length (pcells (marksP 1 rl.length))):=kept2 M1t20.out bk
     clear M1t20
     have M2t21:Hid (wk3.ownsRow w5.heap.size 84 2 (Value.slice h2 rs.length hk2) rs.length (pcells (marksP (1+2*rl.length) rs.length))):=kept2 M2t20.out bk
     clear M2t20
     have M3t21:Hid (wk3.ownsRow w5.heap.size 40 4 (Value.slice h3 ro.length hk3) ro.length (dcells (marksD (1+2*rl.length+2*rs.length) ro.length))):=kept4 M3t20.out bk
     clear M3t20
     have Bt21:Below w.heap.size w wk3:=Bt20.trans (bk.mono Bt20.size)
     clear Bt20
     have bhw:Hid (wk3.heap[bha]? = some (.cells #[.slice f1 rl.length fk1,.slice f2 rs.length fk2,.slice f3 ro.length fk3] 31 (0,0))):=R1
     have F1s:Hid (wk3.ownsRow wq.heap.size 84 2 (Value.slice f1 rl.length fk1) rl.length (pcells rl)):=R3
     have F2s:Hid (wk3.ownsRow wq.heap.size 84 2 (Value.slice f2 rs.length fk2) rs.length (pcells rs)):=R4
     have F3s:Hid (wk3.ownsRow wq.heap.size 40 4 (Value.slice f3 ro.length fk3) ro.length (dcells ro)):=R5
     clear R1 R2 R3 R4 R5 R6 R7 R8 R9 bk
     obtain⟨bh0,bh1,bh2,_⟩:=three_cells bhw.out
     obtain⟨bw0,bw1,bw2,_⟩:=three_cells bwt21.out
     go_wp2_with fail
     refine (eqDisk_same rl rs ro _ _ _ _ _ _ _ _ _ _ _ _ _ (by omega) (by omega) (by omega) ⟨(isPairs_own F1s.out).2.2,N1t21.out.1.pairs⟩ ⟨(isPairs_own F2s.out).2.2,N2t21.out.1.pairs⟩ ⟨(isDOps_own F3s.out).2.2,N3t21.out.1.dops⟩).mono ?_
     rintro e wt ⟨rfl,b9⟩
     clear bh0 bh1 bh2
     clear bw0 bw1 bw2
     have aDt22:Hid (wt.heap[w.heap.size]? = some (.cells #[.slice a1 live.length c1,.slice a2 safe.length c2,.slice a3 ops.length c3] 25 (0,0))):=(b9.block (w.heap.size) (lt_of_block aDt21.out)).trans aDt21.out
     clear aDt21
     have aOt22:Hid (wt.heap[w.heap.size+1]? = some (.cells #[.int .i64 kk,.string ⟨nn.toArray⟩,.string ⟨tt.toArray⟩,.string ⟨dd.toArray⟩] 36 (0,0))):=(b9.block (w.heap.size+1) (lt_of_block aOt21.out)).trans aOt21.out
     clear aOt21
     have bwt22:Hid (wt.heap[bwa]? = some (.cells #[.slice y1 rl.length yk1,.slice y2 rs.length yk2,.slice y3 ro.length yk3] 31 (0,0))):=(b9.block (bwa) (lt_of_block bwt21.out)).trans bwt21.out
     clear bwt21
     have N1t22:Hid (NewQ wt w1b.heap.size wk1.heap.size y1 (pcells rl)):=N1t21.out.later b9
     clear N1t21
     have N2t22:Hid (NewQ wt w1b.heap.size wk1.heap.size y2 (pcells rs)):=N2t21.out.later b9
     clear N2t21
     have N3t22:Hid (NewQ wt w1b.heap.size wk1.heap.size y3 (dcells ro)):=N3t21.out.later b9
     clear N3t21
     have bgt22:Hid (wt.heap[bga]? = some (.cells #[.slice h1 rl.length hk1,.slice h2 rs.length hk2,.slice h3 ro.length hk3] 31 (0,0))):=(b9.block (bga) (lt_of_block bgt21.out)).trans bgt21.out
     clear bgt21
     have M1t22:Hid (wt.ownsRow w5.heap.size 84 2 (Value.slice h1 rl.length hk1) rl.length (pcells (marksP 1 rl.length))):=kept2 M1t21.out b9
     clear M1t21
     have M2t22:Hid (wt.ownsRow w5.heap.size 84 2 (Value.slice h2 rs.length hk2) rs.length (pcells (marksP (1+2*rl.length) rs.length))):=kept2 M2t21.out b9
     clear M2t21
     have M3t22:Hid (wt.ownsRow w5.heap.size 40 4 (Value.slice h3 ro.length hk3) ro.length (dcells (marksD (1+2*rl.length+2*rs.length) ro.length))):=kept4 M3t21.out b9
     clear M3t21
     have bht22:Hid (wt.heap[bha]? = some (.cells #[.slice f1 rl.length fk1,.slice f2 rs.length fk2,.slice f3 ro.length fk3] 31 (0,0))):=(b9.block (bha) (lt_of_block bhw.out)).trans bhw.out
     clear bhw
     have F1t22:Hid (wt.ownsRow wq.heap.size 84 2 (Value.slice f1 rl.length fk1) rl.length (pcells rl)):=kept2 F1s.out b9
     clear F1s
     have F2t22:Hid (wt.ownsRow wq.heap.size 84 2 (Value.slice f2 rs.length fk2) rs.length (pcells rs)):=kept2 F2s.out b9
     clear F2s
     have F3t22:Hid (wt.ownsRow wq.heap.size 40 4 (Value.slice f3 ro.length fk3) ro.length (dcells ro)):=kept4 F3s.out b9
     clear F3s
     have Bt22:Below w.heap.size w wt:=Bt21.trans (b9.mono Bt21.size)
     clear Bt21
     clear b9
     obtain⟨bg0,bg1,bg2,_⟩:=three_cells bgt22.out
     have KM:=heldDisk_any rl.length rs.length ro.length h1 h2 h3 rl.length hk1 rs.length hk2 ro.length hk3 _ 1 wt (by omega) (by omega) (by omega) (by omega) (by omega) M1t22.out M2t22.out M3t22.out
     go_wp2_with fail
     refine KM.mono ?_
     rintro e wv ⟨rfl,bh⟩
     clear bg0 bg1 bg2
     have aDt23:Hid (wv.heap[w.heap.size]? = some (.cells #[.slice a1 live.length c1,.slice a2 safe.length c2,.slice a3 ops.length c3] 25 (0,0))):=(bh.block (w.heap.size) (lt_of_block aDt22.out)).trans aDt22.out
     clear aDt22
     have aOt23:Hid (wv.heap[w.heap.size+1]? = some (.cells #[.int .i64 kk,.string ⟨nn.toArray⟩,.string ⟨tt.toArray⟩,.string ⟨dd.toArray⟩] 36 (0,0))):=(bh.block (w.heap.size+1) (lt_of_block aOt22.out)).trans aOt22.out
     clear aOt22
     have bwt23:Hid (wv.heap[bwa]? = some (.cells #[.slice y1 rl.length yk1,.slice y2 rs.length yk2,.slice y3 ro.length yk3] 31 (0,0))):=(bh.block (bwa) (lt_of_block bwt22.out)).trans bwt22.out
     clear bwt22
     have N1t23:Hid (NewQ wv w1b.heap.size wk1.heap.size y1 (pcells rl)):=N1t22.out.later bh
     clear N1t22
     have N2t23:Hid (NewQ wv w1b.heap.size wk1.heap.size y2 (pcells rs)):=N2t22.out.later bh
     clear N2t22
     have N3t23:Hid (NewQ wv w1b.heap.size wk1.heap.size y3 (dcells ro)):=N3t22.out.later bh
     clear N3t22
     have bgt23:Hid (wv.heap[bga]? = some (.cells #[.slice h1 rl.length hk1,.slice h2 rs.length hk2,.slice h3 ro.length hk3] 31 (0,0))):=(bh.block (bga) (lt_of_block bgt22.out)).trans bgt22.out
     clear bgt22
     have M1t23:Hid (wv.ownsRow w5.heap.size 84 2 (Value.slice h1 rl.length hk1) rl.length (pcells (marksP 1 rl.length))):=kept2 M1t22.out bh
     clear M1t22
     have M2t23:Hid (wv.ownsRow w5.heap.size 84 2 (Value.slice h2 rs.length hk2) rs.length (pcells (marksP (1+2*rl.length) rs.length))):=kept2 M2t22.out bh
     clear M2t22
     have M3t23:Hid (wv.ownsRow w5.heap.size 40 4 (Value.slice h3 ro.length hk3) ro.length (dcells (marksD (1+2*rl.length+2*rs.length) ro.length))):=kept4 M3t22.out bh
     clear M3t22
     have bht23:Hid (wv.heap[bha]? = some (.cells #[.slice f1 rl.length fk1,.slice f2 rs.length fk2,.slice f3 ro.length fk3] 31 (0,0))):=(bh.block (bha) (lt_of_block bht22.out)).trans bht22.out
     clear bht22
     have F1t23:Hid (wv.ownsRow wq.heap.size 84 2 (Value.slice f1 rl.length fk1) rl.length (pcells rl)):=kept2 F1t22.out bh
     clear F1t22
     have F2t23:Hid (wv.ownsRow wq.heap.size 84 2 (Value.slice f2 rs.length fk2) rs.length (pcells rs)):=kept2 F2t22.out bh
     clear F2t22
     have F3t23:Hid (wv.ownsRow wq.heap.size 40 4 (Value.slice f3 ro.length fk3) ro.length (dcells ro)):=kept4 F3t22.out bh
     clear F3t22
     have Bt23:Below w.heap.size w wv:=Bt22.trans (bh.mono Bt22.size)
     clear Bt22
     clear KM bh
     go_wp2
     go_ret
     exact⟨rfl,Bt23⟩
set_option maxRecDepth 100000 in
theorem lifted (os:Os) (started:os.Started) (H:Type) (enc:TypeId × Value→H) :
 ReturnsInHanded {} Try.checked os 4 .any (Rows.fnExactDoSpec.pre6 enc Try.prog Try.f4 Rows.fnExactDoRow.domain false) (Rows.fnExactDoSpec.post enc Try.prog Try.f4 false true false false):=by
 refine returnsInHanded_of_change (C:=Try.checked) own started (by kernel_rfl) Try.func4
  (ChangeSpec.witness6 (enc:=enc) (C:=Try.checked) false ⟨#[],#[.agg #[.slice none 0 0,.slice none 0 0,.slice none 0 0],.agg #[.int .i64 0,.string ByteArray.empty,.string ByteArray.empty,.string ByteArray.empty]],[]⟩ 8 (by kernel_rfl) (by kernel_rfl) (by kernel_rfl) (by kernel_rfl)) ?_
 intro W base args ds gs before hval0 hW hcnd _
 have hval:∀ (j:Nat) t v,Try.f4.params[j]? = some t→args[j]? = some v→Value.okWide Try.prog W .any base t v:=hval0
 have hW':=hW
 obtain⟨p,q,hA0,hV,rfl,hfz,hnd⟩:=hW
 have hA:DataW.TrodAll enc Try.prog W 0 (fun _=>true) true Try.f4.params.toList args.toList ds p:=hA0
 rw[Try.params4] at hA hval
 obtain⟨v0,vs0,d0,ds0,p0,q0,hargs,rfl,rfl,h0,r0⟩:=trodAll_cons hA
 obtain⟨v1,vs1,d1,ds1,p1,q1,hargs1,rfl,rfl,h1,r1⟩:=trodAll_cons r0
 obtain⟨rfl,rfl,rfl⟩:=trodAll_nil r1
 obtain rfl:args=#[v0,v1]:=by cases args;simp_all
 obtain⟨rfl,rfl⟩:=trodVars_none hV
 have k0:=h0
 have k1:=h1
 have lt0:∀ x∈p0,x.block<W.heap.size:=by obtain⟨m,hm⟩:=k0;exact DataW.trod_lt m _ _ _ hm
 have lt1:∀ x∈p1,x.block<W.heap.size:=by obtain⟨m,hm⟩:=k1;exact DataW.trod_lt m _ _ _ hm
 obtain⟨a1,a2,a3,c1,c2,c3,live,safe,ops,hv0,⟨i1,l1,m1⟩,⟨i2,l2,m2⟩,⟨i3,l3,m3⟩⟩:=disk_of (hval 0 25 v0 rfl rfl) h0
 obtain⟨kk,nn,tt,dd,hv1,hn1,hn2,hn3⟩:=dop_of (hval 1 36 v1 rfl rfl) h1
 clear hA0 hval0
 subst hv0 hv1
 simp only[List.append_nil] at hW'
 refine (walk a1 a2 a3 c1 c2 c3 live safe ops kk nn tt dd W l1 l2 l3 m1 m2 m3 i1 i2 i3 hn1 hn2 hn3).mono fun e W' ⟨he,bel⟩=>?_
 subst he
 exact⟨_,rfl,_,_,_,[],_,[],hW',trodAll_mk1 (shut_bool Try.underlying4 _),(trodAll_cons_mk (Below.trod laidOut (by kernel_rfl) (of_decide_eq_true (by kernel_rfl)) k0 bel lt0) (trodAll_cons_mk (Below.trod laidOut (by kernel_rfl) (of_decide_eq_true (by kernel_rfl)) k1 bel lt1) trodAll_mk0)),rfl,bel.frame _,fun h=>by cases h⟩
theorem over:Rows.fnExactDoRow.holds Try.pinned (OpenSpec.ofChange Rows.fnExactDoSpec) :=
 OpenClaim.holds_of_wide 4 Try.f4 rfl rfl rfl rfl rfl rfl rfl ⟨rfl,rfl,rfl,rfl,rfl⟩ rfl rfl rfl rfl rfl (by kernel_rfl) Try.func4 (by kernel_rfl)
  (of_decide_eq_true (by kernel_rfl)) (by unfold Func.isWrapper;first | (rw[if_pos (by decide +kernel)];kernel_rfl) | (rw[if_neg (by decide +kernel)];exact⟨rfl,rfl⟩))
  (fun os started H enc _=>lifted os started H enc)
end Go.Proofs.Ytlllkdioojjaeaa.fnExactDo
namespace Go.Proofs.Ytlllkdioojjaeaa
theorem fnExactDo_holds:Rows.FnExactDoSaid:=fnExactDo.over
end Go.Proofs.Ytlllkdioojjaeaa
