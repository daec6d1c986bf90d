import Derived.Test.YtgjddhlmmljabaaDoorSOnce
import Derived.Test.YtgjddhlmmljabaaDoorSSigns
namespace Go.Proofs.YtgjddhlmmljabaaDoor
open Go.RowKit
set_option linter.unusedVariables false
set_option maxRecDepth 100000 in
set_option maxHeartbeats 400000 in
theorem spec_leaf (seed:List UInt8) (c:Nat) (w:World) (hs:seed.length=32) (hc:c≤3) :
 Calls Tryd.prog 47 #[.string ⟨seed.toArray⟩,.int .i64 (c:Int)] w fun e w'=>e=.returned (.tuple #[.string ⟨(leafL seed c).toArray⟩,.bool true])∧Below w.heap.size w w':=by
 have hs':(seed.length:Int)=32:=by omega
 have K0:=l1In_yes (c:Int) 0 3 w (by omega)
 have K1:=l3Byte_any c w (by omega)
 have K2:=fun W=>stag2 tLeaf seed (byteL c) W (by decide) (by simp[byteL,hs])
 have HE:Hid (leafL seed c=tagL tLeaf [seed,byteL c]):=rfl
 rw[←HE.out] at K2
 obtain⟨y,hy⟩:∃ y,y=leafL seed c:=⟨_,rfl⟩
 rw[←hy] at K2 ⊢
 obtain⟨p,hp⟩:∃ p,p=byteL c:=⟨_,rfl⟩
 rw[←hp] at K1 K2
 clear HE hy hp
 go_enter Tryd.func47,Tryd.ntmps47
 go_wp2_with fail
 refine K0.mono ?_
 rintro e w0 ⟨rfl,rfl⟩
 go_wp2_with fail
 refine K1.mono ?_
 rintro e w1 ⟨rfl,b1⟩
 go_wp2_with fail
 refine (K2 w1).mono ?_
 rintro e w2 ⟨rfl,b2⟩
 have B2:=b1.trans (b2.mono b1.size)
 go_wp2
 go_ret2
 exact⟨rfl,B2⟩
set_option maxRecDepth 100000 in
set_option maxHeartbeats 400000 in
theorem spec_leaf_no (seed:List UInt8) (c:Int) (w:World) (hl:seed.length≤1048576) (h:¬ (seed.length=32∧0≤c∧c≤3)) :
 Calls Tryd.prog 47 #[.string ⟨seed.toArray⟩,.int .i64 c] w fun e w'=>e=.returned (.tuple #[.string ⟨#[]⟩,.bool false])∧w'=w:=by
 by_cases hs:seed.length=32
 · have hs':(seed.length:Int)=32:=by omega
   have K0:=l1In_no c 0 3 w (fun hc=>h ⟨hs,hc⟩)
   clear h
   go_enter Tryd.func47,Tryd.ntmps47
   go_wp2_with fail
   refine K0.mono ?_
   rintro e w0 ⟨rfl,rfl⟩
   go_wp2
   go_ret2
   exact⟨rfl,rfl⟩
 · have hs':¬ (seed.length:Int)=32:=by omega
   clear h
   go_enter Tryd.func47,Tryd.ntmps47
   go_wp2
   go_ret2
   exact⟨rfl,rfl⟩
theorem three_cellsS {w:World} (u v x:Value) (t:TypeId):(w.alloc (.cells #[u,v,x] t)).cell? ⟨w.heap.size,0,none⟩=some u∧(w.alloc (.cells #[u,v,x] t)).cell? ⟨w.heap.size,1,none⟩=some v∧(w.alloc (.cells #[u,v,x] t)).cell? ⟨w.heap.size,2,none⟩=some x:=by
 have h:=heap_alloc_new w (.cells #[u,v,x] t)
 simp only[World.cell?,h]
 exact⟨rfl,rfl,rfl⟩
theorem snode_any (a b:List UInt8) (W:World) (ha:a.length=32) (hb:b.length=32) :
 Calls Tryd.prog 49 #[.string ⟨tNode.toArray⟩,.slice (some ⟨W.heap.size,0,none⟩) 2 2] (W.alloc (.cells #[.string ⟨a.toArray⟩,.string ⟨b.toArray⟩] 9)) fun e w'=>e=.returned (.string ⟨(nodeL a b).toArray⟩)∧Below W.heap.size W w' :=
 stag2 tNode a b W (by decide) (by omega)
theorem isStrs_later {w w':World} {a:Option Addr} {ls:List (List UInt8)} (h:IsStrs w a ls) (hb:Below w.heap.size w w'):IsStrs w' a ls:=by
 rcases h with h | ⟨b,off,h1,h2⟩
 · exact .inl h
 · exact .inr ⟨b,off,h1,fun j h=>(hb.cell (p:=⟨b,off+j,none⟩) (World.block_lt_of_cell? w _ (h2 j h))).trans (h2 j h)⟩
end Go.Proofs.YtgjddhlmmljabaaDoor
