/-
 Contracts: the program's chains: a byte's text, the climber's steps, the way up.
-/
import Derived.Test.YtkagiehbjnfabaaDoorITag
import Derived.Test.YtkagiehbjnfabaaDoorMath2
import Derived.Deep.RegionWith
namespace Go.Proofs.YtkagiehbjnfabaaDoor
open Go.RowKit
set_option linter.unusedVariables false
theorem below_drewI {b:Nat} {w w1:World} (h:Below b w w1):Below b w w1.drew:=⟨h.os,h.tape,h.output,h.size,h.block⟩
theorem below_undrewI {b:Nat} {w w1:World} (h:Below b w.drew w1):Below b w w1:=⟨h.os,h.tape,h.output,h.size,h.block⟩
set_option maxRecDepth 100000 in
theorem byteText_any (n:Nat) (w:World) (hn:n<256) :
 Calls Tryd.prog 88 #[.int .i64 (n:Int)] w fun e w'=>e=.returned (.string ⟨(byteL n).toArray⟩)∧Below w.heap.size w w':=by
 obtain⟨c,hc⟩:∃ c,c=UInt8.ofNat n:=⟨_,rfl⟩
 have hcv:=lit_string [c] #[.int .u8 (n:Int)] (by simp only[bcells,List.map_cons,List.map_nil];rw[hc,byte_of];congr 2;omega) 1 rfl (by decide)
 have hb:byteL n=[c]:=by rw[hc];rfl
 have hn':(n:Int)<256:=by omega
 rw[hb]
 clear hc hb
 go_enter Tryd.func88,Tryd.ntmps88
 go_wp2
 go_ret
 exact⟨rfl,(Below.refl _ _).alloc (Nat.le_refl _) _⟩
theorem tag3_flat (a b c:List UInt8) : [a,b,c].flatten.length=a.length+(b.length+c.length):=by simp
set_option maxRecDepth 100000 in
set_option maxHeartbeats 2000000 in
theorem step_any (c h:Nat) (x:List UInt8) (bc bh bt B:Nat) (w:World) (hc:c<256) (hh:h<255) (hx:x.length≤1000) (hT:Tab w) (h1:w.heap[bc]? = some (.cells #[.int .i64 (c:Int)] 2 (0,0))) (h2:w.heap[bh]? = some (.cells #[.int .i64 (h:Int)] 2 (0,0))) (h3:w.heap[bt]? = some (.cells #[.string ⟨x.toArray⟩] 9 (0,0))) (hb1:B≤bh) (hb2:B≤bt) (n1:bc≠bh) (n2:bc≠bt) (n3:bh≠bt) :
 Calls Tryd.prog 87 #[.pointer (some ⟨bc,0,none⟩),.pointer (some ⟨bh,0,none⟩),.pointer (some ⟨bt,0,none⟩)] w fun e w'=>e=.returned (.string ⟨(tagL tChain [byteL c,byteL h,x]).toArray⟩)∧w'.heap[bc]? = some (.cells #[.int .i64 (c:Int)] 2 (0,0))∧w'.heap[bh]? = some (.cells #[.int .i64 ((h+1:Nat):Int)] 2 (0,0))∧w'.heap[bt]? = some (.cells #[.string ⟨(tagL tChain [byteL c,byteL h,x]).toArray⟩] 9 (0,0))∧Below B w w':=by
 have c1:=cell_of_one h1
 have c2:=cell_of_one h2
 have c3:=cell_of_one h3
 have l1:=lt_of_block h1
 have l2:=lt_of_block h2
 have l3:=lt_of_block h3
 have HT:Hid (Tab w):=hT
 have HH1:Hid (w.heap[bc]? = some (.cells #[.int .i64 (c:Int)] 2 (0,0))):=h1
 have HH2:Hid (w.heap[bh]? = some (.cells #[.int .i64 (h:Int)] 2 (0,0))):=h2
 have HH3:Hid (w.heap[bt]? = some (.cells #[.string ⟨x.toArray⟩] 9 (0,0))):=h3
 obtain⟨y,hy⟩:∃ y,y=tagL tChain [byteL c,byteL h,x]:=⟨_,rfl⟩
 obtain⟨p,hp⟩:∃ p,p=byteL c:=⟨_,rfl⟩
 obtain⟨q,hq⟩:∃ q,q=byteL h:=⟨_,rfl⟩
 have K1:=byteText_any c w.drew hc
 have K2:=fun W=>byteText_any h W (by omega)
 have K3:=fun g cap b0 W h1 h2=>impl_tagged tChain g cap [p,q,x] b0 W (by decide) (by rw[hp,hq,tag3_flat];simp[byteL];omega) h1 h2
 rw[hp,hq,←hy,←hp,←hq] at K3
 rw[←hy]
 rw[←hp] at K1
 rw[←hq] at K2
 clear hT h1 h2 h3 hy hp hq
 go_enter Tryd.func87,Tryd.ntmps87
 go_wp2_with fail
 go_region_with (first
  | (go_at_call 88
     refine (K2 w1).mono ?_
     rintro e w2 ⟨rfl,b2⟩
     have B2:=B1.trans (b2.mono B1.size)
     have e3:=(B2.cell (p:=⟨bt,0,none⟩) l3).trans c3
     clear b2)
  | (go_at_call 33
     refine (K3 w2.heap.size 3 w2.heap.size _ (HT.out.later (B2.alloc B2.size _)) (World.ownsRow_lit w2 #[.string ⟨p.toArray⟩,.string ⟨q.toArray⟩,.string ⟨x.toArray⟩] 3 (Nat.le_refl _) (by decide) rfl)).mono ?_
     rintro e w3 ⟨rfl,b3⟩
     have B3:=(B2.alloc B2.size _).trans (b3.mono (Nat.le_trans B2.size (by simp)))
     have f2:=(B3.cell (p:=⟨bh,0,none⟩) l2).trans c2
     have f3:=(B3.cell (p:=⟨bt,0,none⟩) l3).trans c3
     have HB3:Hid (Below w.heap.size w w3):=B3
     have z2:=(free_of_one ((B3.block bh l2).trans HH2.out))
     have z3:=(free_of_one ((B3.block bt l3).trans HH3.out))
     clear b3 B3)
  | (go_at_call 88
     refine K1.mono ?_
     rintro e w1 ⟨rfl,b1⟩
     have B1:=below_undrewI b1
     have d2:=(B1.cell (p:=⟨bh,0,none⟩) l2).trans c2
     have d3:=(B1.cell (p:=⟨bt,0,none⟩) l3).trans c3
     clear b1))
 all_goals
  go_wp2
  go_ret
  have g1:=(HB3.out.block bc l1).trans HH1.out
  have g2:=(HB3.out.block bh l2).trans HH2.out
  have g3:=(HB3.out.block bt l3).trans HH3.out
  have k3:=one_setCell (u:=.string ⟨y.toArray⟩) g3
  have k2:(w3.setCell ⟨bt,0,none⟩ (.string ⟨y.toArray⟩)).heap[bh]? = _:=(Below.heap_setCell _ _ _ _ (by simpa using n3)).trans g2
  have k1:(w3.setCell ⟨bt,0,none⟩ (.string ⟨y.toArray⟩)).heap[bc]? = _:=(Below.heap_setCell _ _ _ _ (by simpa using n2)).trans g1
  have m2:=one_setCell (u:=.int .i64 ((h+1:Nat):Int)) k2
  exact⟨rfl,(Below.heap_setCell _ _ _ _ (by simpa using n1)).trans k1,m2,(Below.heap_setCell _ _ _ _ (by simpa using n3.symm)).trans k3,((HB3.out.mono (Nat.le_of_lt (Nat.lt_of_le_of_lt hb1 l2))).setCell (p:=⟨bt,0,none⟩) hb2 _).setCell (p:=⟨bh,0,none⟩) hb1 _⟩
end Go.Proofs.YtkagiehbjnfabaaDoor
