/-
 Contracts: what a deed does to a map of files.
-/
import Derived.Test.YtlllkdioojjaeaaFmOps
import Derived.Test.YtlllkdioojjaeaaSForm
import Derived.Deep.RegionHeld3
namespace Go.Proofs.Ytlllkdioojjaeaa
open Go.RowKit Go.Maps
set_option linter.unusedVariables false
theorem box2 {W:World} {c t:Nat} {x y:Value} (h:W.heap[c]? = some (.cells #[x,y] t (0,0))):W.cell? ⟨c,0,none⟩=some x∧W.cell? ⟨c,1,none⟩=some y:=by
 constructor <;> simp only[World.cell?,h] <;> rfl
theorem box1 {W:World} {c t:Nat} {x:Value} (h:W.heap[c]? = some (.cells #[x] t (0,0))):W.cell? ⟨c,0,none⟩=some x:=by
 simp only[World.cell?,h];rfl
theorem FMap.under {w:World} {base mb n:Nat} {L:List PairL} {D:DataW Value} {S} (h:FMap w base mb n L D S):∀ p∈L,(S p.1).ownBlock≠some w.heap.size:=fun p hp e=>by
 have:=((h.rows p hp).lt _ e).2
 omega
set_option maxRecDepth 100000 in
set_option maxHeartbeats 1000000 in
theorem impl_appendOn (k d:List UInt8) (base mb n:Nat) (L:List PairL) (D:DataW Value) (S:List UInt8→Value) (w:World) (hk:k.length≤16777216) (hd:(datF L k).length+d.length≤1099511627776) (hn:n<1048576) (hb:base≤w.heap.size) (hF:FMap w base mb n L D S) :
 Calls Try.prog 135 #[.agg #[.string ⟨k.toArray⟩,.string ⟨d.toArray⟩],.map (some mb)] w fun e w'=>e=.returned (.bool true)∧Below base w w'∧∃ D' S',FMap w' base mb (n+1) (putL L k (datF L k ++ d)) D' S':=by
 have A0:=heap_alloc_new w (.cells #[.string ⟨k.toArray⟩,.string ⟨d.toArray⟩] 111)
 obtain⟨wa,hwa⟩:∃ wa,wa=w.alloc (.cells #[.string ⟨k.toArray⟩,.string ⟨d.toArray⟩] 111):=⟨_,rfl⟩
 have HA0:Hid (wa.heap[w.heap.size]? = some (.cells #[.string ⟨k.toArray⟩,.string ⟨d.toArray⟩] 111 (0,0))):=by rw[hwa];exact A0
 have BA:Below base w wa:=by rw[hwa];exact (Below.refl _ _).alloc hb _
 have hsz:wa.heap.size=w.heap.size+1:=by rw[hwa];simp
 have FA:FMap wa.drew base mb n L D S:=by have:=hF.alloc (.cells #[.string ⟨k.toArray⟩,.string ⟨d.toArray⟩] 111);rw[←hwa] at this;exact this.kept ⟨rfl,rfl,rfl,Nat.le_refl _,fun _ _ _=>rfl⟩
 have hL:=FA.look k hk
 obtain⟨v',w4,w5,D',S',hrun4,hrun5,F5,B5,hc⟩:=FA.app k d hk hd hn (Nat.le_trans hb BA.size)
 obtain⟨h4,h5⟩:=hc w.heap.size (by show w.heap.size<wa.heap.size;omega) (by have:=hF.own.lt;omega) hF.under
 have HP:Hid (∃ D' S',FMap w5 base mb (n+1) (putL L k (datF L k ++ d)) D' S'):=⟨D',S',F5⟩
 have HB5:Hid (Below base w w5):=BA.trans ⟨B5.os,B5.tape,B5.output,B5.size,B5.block⟩
 have Sd:Hid (wa.drew.cell? ⟨w.heap.size,0,none⟩=some (.string ⟨k.toArray⟩)∧wa.drew.cell? ⟨w.heap.size,1,none⟩=some (.string ⟨d.toArray⟩)):=box2 HA0.out
 have S4:Hid (w4.cell? ⟨w.heap.size,0,none⟩=some (.string ⟨k.toArray⟩)∧w4.cell? ⟨w.heap.size,1,none⟩=some (.string ⟨d.toArray⟩)):=box2 (h4.trans HA0.out)
 have S5:Hid (w5.cell? ⟨w.heap.size,0,none⟩=some (.string ⟨k.toArray⟩)∧w5.cell? ⟨w.heap.size,1,none⟩=some (.string ⟨d.toArray⟩)):=box2 (h5.trans HA0.out)
 have HR4:Hid (∀ ty,(Builtin.append_ #[57,9] ty #[rowOf L S k,.string ⟨d.toArray⟩]).run Try.prog wa.drew=.ok v' w4):=hrun4
 obtain⟨r0,hr0⟩:∃ r,r=rowOf L S k:=⟨_,rfl⟩
 rw[←hr0] at hL HR4
 clear F5 B5 hc h4 h5 FA hF BA hsz hd hn hb A0 hrun4 hr0
 go_enter Try.func135,Try.ntmps135
 go_wp2_with fail
 rw[←hwa]
 clear hwa
 go_region_held3 (fun w'=>w'.cell? ⟨w.heap.size,0,none⟩=some (.string ⟨k.toArray⟩)∧w'.cell? ⟨w.heap.size,1,none⟩=some (.string ⟨d.toArray⟩))
  (first | with_reducible exact S5.out | with_reducible exact S4.out | with_reducible exact Sd.out)
  ((refine step_append_run rfl (.tmp 11) (.tmp 13) 57 9 rfl r0 (.string ⟨d.toArray⟩) v' (by simp[Act.eval]) (by simp[Act.eval]) HR4.out ?_))
 all_goals
  go_wp2
  go_ret
  exact⟨rfl,HB5.out,HP.out⟩
set_option maxRecDepth 100000 in
set_option maxHeartbeats 1000000 in
theorem impl_renameOn (k t:List UInt8) (base mb n:Nat) (L:List PairL) (D:DataW Value) (S:List UInt8→Value) (w:World) (hk:k.length≤16777216) (ht:t.length≤16777216) (hn:n<1048576) (hb:base≤w.heap.size) (hF:FMap w base mb n L D S) :
 Calls Try.prog 137 #[.agg #[.string ⟨k.toArray⟩,.string ⟨t.toArray⟩],.map (some mb)] w fun e w'=>e=.returned (.bool (inK k L))∧Below base w w'∧∃ D' S',FMap w' base mb (n+1) (if inK k L=true then putL (cutF L k) t (datF L k) else L) D' S':=by
 have A0:=heap_alloc_new w (.cells #[.string ⟨k.toArray⟩,.string ⟨t.toArray⟩] 113)
 obtain⟨wa,hwa⟩:∃ wa,wa=w.alloc (.cells #[.string ⟨k.toArray⟩,.string ⟨t.toArray⟩] 113):=⟨_,rfl⟩
 have HA0:Hid (wa.heap[w.heap.size]? = some (.cells #[.string ⟨k.toArray⟩,.string ⟨t.toArray⟩] 113 (0,0))):=by rw[hwa];exact A0
 have BA:Below base w wa:=by rw[hwa];exact (Below.refl _ _).alloc hb _
 have hsz:wa.heap.size=w.heap.size+1:=by rw[hwa];simp
 have FA:FMap wa base mb n L D S:=by rw[hwa];exact hF.alloc _
 have hL:=FA.lookOk k hk
 obtain⟨c1,c2⟩:=box2 HA0.out
 have hmb:=hF.own.lt
 cases hi:inK k L with
 | false =>
   rw[hi] at hL
   have HP:Hid (Below base w wa∧∃ D' S',FMap wa base mb (n+1) (if false=true then putL (cutF L k) t (datF L k) else L) D' S'):=⟨BA,D,S,FA.mono (by omega)⟩
   obtain⟨r0,hr0⟩:∃ r,r=rowOf L S k:=⟨_,rfl⟩
   rw[←hr0] at hL
   clear FA hF BA hsz hn hb A0 hi HA0 hr0
   subst hwa
   go_enter Try.func137,Try.ntmps137
   go_wp2
   go_ret
   exact⟨rfl,HP.out.1,HP.out.2⟩
 | true =>
   rw[hi] at hL
   obtain⟨u,hu⟩:=(inK_iff k L).1 hi
   have hdat:datF L k=u:=(at_in hF.rise hu).2
   have hr0:rowOf L S k=S k:=by rw[rowOf,if_pos hi]
   rw[hr0] at hL
   obtain⟨w2,hrun2,F2,hg2⟩:=FA.drop k hk
   obtain⟨w3,D',S',hrun3,F3,hg3⟩:=FA.ren k t u ht hn hu F2 hg2
   have HP:Hid (Below base w w3∧∃ D' S',FMap w3 base mb (n+1) (if true=true then putL (cutF L k) t (datF L k) else L) D' S'):=⟨BA.trans ((below_mb hg2 FA.low (Nat.le_trans hb BA.size)).trans (below_mb hg3 FA.low (Nat.le_trans hb (Nat.le_trans BA.size hg2.size)))),D',S',by rw[if_pos rfl,hdat];exact F3⟩
   have e2:w2.heap[w.heap.size]? = some (.cells #[.string ⟨k.toArray⟩,.string ⟨t.toArray⟩] 113 (0,0)):=(hg2.block w.heap.size (by omega) (fun e=>by cases e;omega)).trans HA0.out
   obtain⟨d1,d2⟩:=box2 e2
   have hrun2':=hrun2 0
   obtain⟨a',c',hsl⟩:=(FA.rows _ hu).slice
   have hsl':S k=.slice a' u.length c':=hsl
   rw[hsl'] at hL hrun3
   obtain⟨ul,hul⟩:∃ ul,ul=u.length:=⟨_,rfl⟩
   rw[←hul] at hL hrun3
   clear FA hF F2 F3 hg2 hg3 BA hsz hn hb A0 hi HA0 hr0 e2 hsl hsl' hdat hu hmb hrun2 hul
   subst hwa
   go_enter Try.func137,Try.ntmps137
   go_wp2
   go_ret
   exact⟨rfl,HP.out.1,HP.out.2⟩
set_option maxRecDepth 100000 in
set_option maxHeartbeats 1000000 in
theorem impl_removeOn (k:List UInt8) (base mb n:Nat) (L:List PairL) (D:DataW Value) (S:List UInt8→Value) (w:World) (hk:k.length≤16777216) (hb:base≤w.heap.size) (hF:FMap w base mb n L D S) :
 Calls Try.prog 139 #[.agg #[.string ⟨k.toArray⟩],.map (some mb)] w fun e w'=>e=.returned (.bool (inK k L))∧Below base w w'∧∃ D' S',FMap w' base mb (n+1) (cutF L k) D' S':=by
 have A0:=heap_alloc_new w (.cells #[.string ⟨k.toArray⟩] 115)
 obtain⟨wa,hwa⟩:∃ wa,wa=w.alloc (.cells #[.string ⟨k.toArray⟩] 115):=⟨_,rfl⟩
 have HA0:Hid (wa.heap[w.heap.size]? = some (.cells #[.string ⟨k.toArray⟩] 115 (0,0))):=by rw[hwa];exact A0
 have BA:Below base w wa:=by rw[hwa];exact (Below.refl _ _).alloc hb _
 have FA:FMap wa base mb n L D S:=by rw[hwa];exact hF.alloc _
 have hL:=FA.lookOk k hk
 have c1:=box1 HA0.out
 obtain⟨w2,hrun2,F2,hg2⟩:=FA.drop k hk
 have HP:Hid (Below base w w2∧∃ D' S',FMap w2 base mb (n+1) (cutF L k) D' S'):=⟨BA.trans (below_mb hg2 FA.low (Nat.le_trans hb BA.size)),_,S,F2.mono (by omega)⟩
 have hrun2':=hrun2 0
 obtain⟨r0,hr0⟩:∃ r,r=rowOf L S k:=⟨_,rfl⟩
 obtain⟨i0,hi0⟩:∃ r,r=inK k L:=⟨_,rfl⟩
 rw[←hr0,←hi0] at hL
 rw[←hi0]
 clear FA hF F2 hg2 BA hb A0 HA0 hrun2 hr0 hi0
 subst hwa
 go_enter Try.func139,Try.ntmps139
 go_wp2
 go_ret
 exact⟨rfl,HP.out.1,HP.out.2⟩
end Go.Proofs.Ytlllkdioojjaeaa
