/-
 Texts that are laid as one: SLeaf, SRoot, SRootN, SVer.
-/
import Derived.Test.YtllmclmcncolcaaGreatDoorSSigs
namespace Go.Proofs.YtllmclmcncolcaaGreatDoor
open Go.RowKit
set_option linter.unusedVariables false
theorem three_cellsS {w:World} (u v x:Value) (t:TypeId):(w.alloc (.cells #[u,v,x] t)).cell? ⟨w.heap.size,0,none⟩=some u∧(w.alloc (.cells #[u,v,x] t)).cell? ⟨w.heap.size,1,none⟩=some v∧(w.alloc (.cells #[u,v,x] t)).cell? ⟨w.heap.size,2,none⟩=some x:=by
 have h:=heap_alloc_new w (.cells #[u,v,x] t)
 simp only[World.cell?,h]
 exact⟨rfl,rfl,rfl⟩
theorem snode_any (a b:List UInt8) (W:World) (ha:a.length=32) (hb:b.length=32) :
 Calls Tryz.prog 78 #[.string ⟨tNode.toArray⟩,.slice (some ⟨W.heap.size,0,none⟩) 2 2] (W.alloc (.cells #[.string ⟨a.toArray⟩,.string ⟨b.toArray⟩] 9)) fun e w'=>e=.returned (.string ⟨(nodeL a b).toArray⟩)∧Below W.heap.size W w' :=
 stag2 tNode a b W (by decide) (by omega)
theorem isStrs_later {w w':World} {a:Option Addr} {ls:List (List UInt8)} (h:IsStrs w a ls) (hb:Below w.heap.size w w'):IsStrs w' a ls:=by
 rcases h with h | ⟨b,off,h1,h2⟩
 · exact .inl h
 · exact .inr ⟨b,off,h1,fun j h=>(hb.cell (p:=⟨b,off+j,none⟩) (World.block_lt_of_cell? w _ (h2 j h))).trans (h2 j h)⟩
set_option maxRecDepth 100000 in
set_option maxHeartbeats 2000000 in
theorem spec_root0 (msg:List UInt8) (ao ap:Option Addr) (co cp:Nat) (os:List (List UInt8)) (p q:List UInt8) (w:World) (hm:msg.length≤1048576) (h19:os.length=19) (h32:∀ l∈os,l.length=32) (hpl:p.length=32) (hql:q.length=32) (hs:IsStrs w ao os) (hp:IsStrs w ap [p,q]) :
 Calls Tryz.prog 80 #[.string ⟨msg.toArray⟩,.agg #[.int .i64 0,.slice ao 19 co,.slice ap 2 cp]] w fun e w'=>e=.returned (.tuple #[.string ⟨(leadsL 0 (publicOfL msg os) p q).toArray⟩,.bool true])∧Below w.heap.size w w':=by
 obtain⟨c0,c1,c2⟩:=three_cellsS (w:=w) (.int .i64 0) (.slice ao 19 co) (.slice ap 2 cp) 72
 have B1:Below w.heap.size w (w.alloc (.cells #[.int .i64 0,.slice ao 19 co,.slice ap 2 cp] 72)):=(Below.refl _ _).alloc (Nat.le_refl _) _
 have K1:=spec_publicOf msg ao co os (w.alloc (.cells #[.int .i64 0,.slice ao 19 co,.slice ap 2 cp] 72)) hm h19 h32 (isStrs_later hs B1)
 rw[h19] at K1
 have hpo:=publicOfL_len msg os h19 h32
 have HPQ:Hid (∀ W,Below w.heap.size w W→IsStrs W ap [p,q]):=fun W hW=>isStrs_later hp hW
 obtain⟨b,off,hap,hcell⟩:∃ b off,ap=some ⟨b,off,none⟩∧∀ j (h:j < [p,q].length),w.cell? ⟨b,off+j,none⟩=some (.string ⟨[p,q][j].toArray⟩):=by
  rcases hp with h | h
  · cases h
  · exact h
 have d0:=hcell 0 (by simp)
 have d1:=hcell 1 (by simp)
 have hblt:b<w.heap.size:=World.block_lt_of_cell? w _ d0
 simp only[List.getElem_cons_zero,List.getElem_cons_succ,Nat.add_zero] at d0 d1
 obtain⟨x,hx⟩:∃ x,x=publicOfL msg os:=⟨_,rfl⟩
 rw[←hx] at K1 hpo ⊢
 subst hap
 clear hx hs h32 hcell h19
 have hpl':(p.length:Int)=32:=by omega
 have hql':(q.length:Int)=32:=by omega
 have N1:=fun W=>snode_any x p W hpo hpl
 have hyl:=nodeL_len x p hpo hpl
 have HL:Hid (leadsL 0 x p q=nodeL (nodeL x p) q):=by rw[Hid];simp[leadsL,upL]
 obtain⟨y,hy⟩:∃ y,y=nodeL x p:=⟨_,rfl⟩
 rw[←hy] at N1 HL hyl
 have N2:=fun W=>snode_any y q W hyl hql
 rw[HL.out]
 obtain⟨z,hz⟩:∃ z,z=nodeL y q:=⟨_,rfl⟩
 rw[←hz] at N2 ⊢
 clear hy hz HL hyl hpo
 go_enter Tryz.func80,Tryz.ntmps80
 go_wp2_with fail
 refine K1.mono ?_
 rintro e w2 ⟨rfl,b2⟩
 have B2:=B1.trans (b2.mono (by simp))
 have f0:=(b2.cell (p:=⟨w.heap.size,0,none⟩) (by simp)).trans c0
 have f2:=(b2.cell (p:=⟨w.heap.size,2,none⟩) (by simp)).trans c2
 have e0:=(B2.cell (p:=⟨b,off,none⟩) hblt).trans d0
 have e1:=(B2.cell (p:=⟨b,off+1,none⟩) hblt).trans d1
 have hw2:w.heap.size<w2.heap.size:=by have:=b2.size;simp at this;omega
 clear K1 b2 c0 c1 c2 d0 d1 B1
 have K2:=l1In_yes 0 0 3 w2 (by decide)
 go_wp2_with fail
 refine K2.mono ?_
 rintro e w2 ⟨rfl,rfl⟩
 clear K2
 go_wp2
 refine wp_loop_rounds 3 ?_
 rw[rounds_succ]
 go_wp2
 rw[rounds_succ]
 go_wp2
 rw[rounds_succ]
 go_wp2
 refine wp_loop_rounds 3 ?_
 rw[rounds_succ]
 go_wp2_with fail
 refine (N1 w2).mono ?_
 rintro e w3 ⟨rfl,b3⟩
 have B3:=B2.trans (b3.mono B2.size)
 have g1:=(B3.cell (p:=⟨b,off+1,none⟩) hblt).trans ((B2.cell (p:=⟨b,off+1,none⟩) hblt).symm.trans e1)
 have g2:=(b3.cell (p:=⟨w.heap.size,2,none⟩) hw2).trans f2
 have hw3:w.heap.size<w3.heap.size:=Nat.lt_of_lt_of_le hw2 b3.size
 clear N1 b3 e0 e1 f2 f0
 go_wp2
 rw[rounds_succ]
 go_wp2_with fail
 refine (N2 w3).mono ?_
 rintro e w4 ⟨rfl,b4⟩
 have B4:=B3.trans (b4.mono B3.size)
 have k2:=(b4.cell (p:=⟨w.heap.size,2,none⟩) hw3).trans g2
 clear N2 b4 g2 g1
 go_wp2
 rw[rounds_succ]
 go_wp2
 go_ret2
 exact⟨rfl,B4⟩
set_option maxRecDepth 100000 in
set_option maxHeartbeats 2000000 in
theorem spec_root1 (msg:List UInt8) (ao ap:Option Addr) (co cp:Nat) (os:List (List UInt8)) (p q:List UInt8) (w:World) (hm:msg.length≤1048576) (h19:os.length=19) (h32:∀ l∈os,l.length=32) (hpl:p.length=32) (hql:q.length=32) (hs:IsStrs w ao os) (hp:IsStrs w ap [p,q]) :
 Calls Tryz.prog 80 #[.string ⟨msg.toArray⟩,.agg #[.int .i64 1,.slice ao 19 co,.slice ap 2 cp]] w fun e w'=>e=.returned (.tuple #[.string ⟨(leadsL 1 (publicOfL msg os) p q).toArray⟩,.bool true])∧Below w.heap.size w w':=by
 obtain⟨c0,c1,c2⟩:=three_cellsS (w:=w) (.int .i64 1) (.slice ao 19 co) (.slice ap 2 cp) 72
 have B1:Below w.heap.size w (w.alloc (.cells #[.int .i64 1,.slice ao 19 co,.slice ap 2 cp] 72)):=(Below.refl _ _).alloc (Nat.le_refl _) _
 have K1:=spec_publicOf msg ao co os (w.alloc (.cells #[.int .i64 1,.slice ao 19 co,.slice ap 2 cp] 72)) hm h19 h32 (isStrs_later hs B1)
 rw[h19] at K1
 have hpo:=publicOfL_len msg os h19 h32
 have HPQ:Hid (∀ W,Below w.heap.size w W→IsStrs W ap [p,q]):=fun W hW=>isStrs_later hp hW
 obtain⟨b,off,hap,hcell⟩:∃ b off,ap=some ⟨b,off,none⟩∧∀ j (h:j < [p,q].length),w.cell? ⟨b,off+j,none⟩=some (.string ⟨[p,q][j].toArray⟩):=by
  rcases hp with h | h
  · cases h
  · exact h
 have d0:=hcell 0 (by simp)
 have d1:=hcell 1 (by simp)
 have hblt:b<w.heap.size:=World.block_lt_of_cell? w _ d0
 simp only[List.getElem_cons_zero,List.getElem_cons_succ,Nat.add_zero] at d0 d1
 obtain⟨x,hx⟩:∃ x,x=publicOfL msg os:=⟨_,rfl⟩
 rw[←hx] at K1 hpo ⊢
 subst hap
 clear hx hs h32 hcell h19
 have hpl':(p.length:Int)=32:=by omega
 have hql':(q.length:Int)=32:=by omega
 have N1:=fun W=>snode_any p x W hpl hpo
 have hyl:=nodeL_len p x hpl hpo
 have HL:Hid (leadsL 1 x p q=nodeL (nodeL p x) q):=by rw[Hid];simp[leadsL,upL]
 obtain⟨y,hy⟩:∃ y,y=nodeL p x:=⟨_,rfl⟩
 rw[←hy] at N1 HL hyl
 have N2:=fun W=>snode_any y q W hyl hql
 rw[HL.out]
 obtain⟨z,hz⟩:∃ z,z=nodeL y q:=⟨_,rfl⟩
 rw[←hz] at N2 ⊢
 clear hy hz HL hyl hpo
 go_enter Tryz.func80,Tryz.ntmps80
 go_wp2_with fail
 refine K1.mono ?_
 rintro e w2 ⟨rfl,b2⟩
 have B2:=B1.trans (b2.mono (by simp))
 have f0:=(b2.cell (p:=⟨w.heap.size,0,none⟩) (by simp)).trans c0
 have f2:=(b2.cell (p:=⟨w.heap.size,2,none⟩) (by simp)).trans c2
 have e0:=(B2.cell (p:=⟨b,off,none⟩) hblt).trans d0
 have e1:=(B2.cell (p:=⟨b,off+1,none⟩) hblt).trans d1
 have hw2:w.heap.size<w2.heap.size:=by have:=b2.size;simp at this;omega
 clear K1 b2 c0 c1 c2 d0 d1 B1
 have K2:=l1In_yes 1 0 3 w2 (by decide)
 go_wp2_with fail
 refine K2.mono ?_
 rintro e w2 ⟨rfl,rfl⟩
 clear K2
 go_wp2
 refine wp_loop_rounds 3 ?_
 rw[rounds_succ]
 go_wp2
 rw[rounds_succ]
 go_wp2
 rw[rounds_succ]
 go_wp2
 refine wp_loop_rounds 3 ?_
 rw[rounds_succ]
 go_wp2_with fail
 refine (N1 w2).mono ?_
 rintro e w3 ⟨rfl,b3⟩
 have B3:=B2.trans (b3.mono B2.size)
 have g1:=(B3.cell (p:=⟨b,off+1,none⟩) hblt).trans ((B2.cell (p:=⟨b,off+1,none⟩) hblt).symm.trans e1)
 have g2:=(b3.cell (p:=⟨w.heap.size,2,none⟩) hw2).trans f2
 have hw3:w.heap.size<w3.heap.size:=Nat.lt_of_lt_of_le hw2 b3.size
 clear N1 b3 e0 e1 f2 f0
 go_wp2
 rw[rounds_succ]
 go_wp2_with fail
 refine (N2 w3).mono ?_
 rintro e w4 ⟨rfl,b4⟩
 have B4:=B3.trans (b4.mono B3.size)
 have k2:=(b4.cell (p:=⟨w.heap.size,2,none⟩) hw3).trans g2
 clear N2 b4 g2 g1
 go_wp2
 rw[rounds_succ]
 go_wp2
 go_ret2
 exact⟨rfl,B4⟩
set_option maxRecDepth 100000 in
set_option maxHeartbeats 2000000 in
theorem spec_root2 (msg:List UInt8) (ao ap:Option Addr) (co cp:Nat) (os:List (List UInt8)) (p q:List UInt8) (w:World) (hm:msg.length≤1048576) (h19:os.length=19) (h32:∀ l∈os,l.length=32) (hpl:p.length=32) (hql:q.length=32) (hs:IsStrs w ao os) (hp:IsStrs w ap [p,q]) :
 Calls Tryz.prog 80 #[.string ⟨msg.toArray⟩,.agg #[.int .i64 2,.slice ao 19 co,.slice ap 2 cp]] w fun e w'=>e=.returned (.tuple #[.string ⟨(leadsL 2 (publicOfL msg os) p q).toArray⟩,.bool true])∧Below w.heap.size w w':=by
 obtain⟨c0,c1,c2⟩:=three_cellsS (w:=w) (.int .i64 2) (.slice ao 19 co) (.slice ap 2 cp) 72
 have B1:Below w.heap.size w (w.alloc (.cells #[.int .i64 2,.slice ao 19 co,.slice ap 2 cp] 72)):=(Below.refl _ _).alloc (Nat.le_refl _) _
 have K1:=spec_publicOf msg ao co os (w.alloc (.cells #[.int .i64 2,.slice ao 19 co,.slice ap 2 cp] 72)) hm h19 h32 (isStrs_later hs B1)
 rw[h19] at K1
 have hpo:=publicOfL_len msg os h19 h32
 have HPQ:Hid (∀ W,Below w.heap.size w W→IsStrs W ap [p,q]):=fun W hW=>isStrs_later hp hW
 obtain⟨b,off,hap,hcell⟩:∃ b off,ap=some ⟨b,off,none⟩∧∀ j (h:j < [p,q].length),w.cell? ⟨b,off+j,none⟩=some (.string ⟨[p,q][j].toArray⟩):=by
  rcases hp with h | h
  · cases h
  · exact h
 have d0:=hcell 0 (by simp)
 have d1:=hcell 1 (by simp)
 have hblt:b<w.heap.size:=World.block_lt_of_cell? w _ d0
 simp only[List.getElem_cons_zero,List.getElem_cons_succ,Nat.add_zero] at d0 d1
 obtain⟨x,hx⟩:∃ x,x=publicOfL msg os:=⟨_,rfl⟩
 rw[←hx] at K1 hpo ⊢
 subst hap
 clear hx hs h32 hcell h19
 have hpl':(p.length:Int)=32:=by omega
 have hql':(q.length:Int)=32:=by omega
 have N1:=fun W=>snode_any x p W hpo hpl
 have hyl:=nodeL_len x p hpo hpl
 have HL:Hid (leadsL 2 x p q=nodeL q (nodeL x p)):=by rw[Hid];simp[leadsL,upL]
 obtain⟨y,hy⟩:∃ y,y=nodeL x p:=⟨_,rfl⟩
 rw[←hy] at N1 HL hyl
 have N2:=fun W=>snode_any q y W hql hyl
 rw[HL.out]
 obtain⟨z,hz⟩:∃ z,z=nodeL q y:=⟨_,rfl⟩
 rw[←hz] at N2 ⊢
 clear hy hz HL hyl hpo
 go_enter Tryz.func80,Tryz.ntmps80
 go_wp2_with fail
 refine K1.mono ?_
 rintro e w2 ⟨rfl,b2⟩
 have B2:=B1.trans (b2.mono (by simp))
 have f0:=(b2.cell (p:=⟨w.heap.size,0,none⟩) (by simp)).trans c0
 have f2:=(b2.cell (p:=⟨w.heap.size,2,none⟩) (by simp)).trans c2
 have e0:=(B2.cell (p:=⟨b,off,none⟩) hblt).trans d0
 have e1:=(B2.cell (p:=⟨b,off+1,none⟩) hblt).trans d1
 have hw2:w.heap.size<w2.heap.size:=by have:=b2.size;simp at this;omega
 clear K1 b2 c0 c1 c2 d0 d1 B1
 have K2:=l1In_yes 2 0 3 w2 (by decide)
 go_wp2_with fail
 refine K2.mono ?_
 rintro e w2 ⟨rfl,rfl⟩
 clear K2
 go_wp2
 refine wp_loop_rounds 3 ?_
 rw[rounds_succ]
 go_wp2
 rw[rounds_succ]
 go_wp2
 rw[rounds_succ]
 go_wp2
 refine wp_loop_rounds 3 ?_
 rw[rounds_succ]
 go_wp2_with fail
 refine (N1 w2).mono ?_
 rintro e w3 ⟨rfl,b3⟩
 have B3:=B2.trans (b3.mono B2.size)
 have g1:=(B3.cell (p:=⟨b,off+1,none⟩) hblt).trans ((B2.cell (p:=⟨b,off+1,none⟩) hblt).symm.trans e1)
 have g2:=(b3.cell (p:=⟨w.heap.size,2,none⟩) hw2).trans f2
 have hw3:w.heap.size<w3.heap.size:=Nat.lt_of_lt_of_le hw2 b3.size
 clear N1 b3 e0 e1 f2 f0
 go_wp2
 rw[rounds_succ]
 go_wp2_with fail
 refine (N2 w3).mono ?_
 rintro e w4 ⟨rfl,b4⟩
 have B4:=B3.trans (b4.mono B3.size)
 have k2:=(b4.cell (p:=⟨w.heap.size,2,none⟩) hw3).trans g2
 clear N2 b4 g2 g1
 go_wp2
 rw[rounds_succ]
 go_wp2
 go_ret2
 exact⟨rfl,B4⟩
set_option maxRecDepth 100000 in
set_option maxHeartbeats 2000000 in
theorem spec_root3 (msg:List UInt8) (ao ap:Option Addr) (co cp:Nat) (os:List (List UInt8)) (p q:List UInt8) (w:World) (hm:msg.length≤1048576) (h19:os.length=19) (h32:∀ l∈os,l.length=32) (hpl:p.length=32) (hql:q.length=32) (hs:IsStrs w ao os) (hp:IsStrs w ap [p,q]) :
 Calls Tryz.prog 80 #[.string ⟨msg.toArray⟩,.agg #[.int .i64 3,.slice ao 19 co,.slice ap 2 cp]] w fun e w'=>e=.returned (.tuple #[.string ⟨(leadsL 3 (publicOfL msg os) p q).toArray⟩,.bool true])∧Below w.heap.size w w':=by
 obtain⟨c0,c1,c2⟩:=three_cellsS (w:=w) (.int .i64 3) (.slice ao 19 co) (.slice ap 2 cp) 72
 have B1:Below w.heap.size w (w.alloc (.cells #[.int .i64 3,.slice ao 19 co,.slice ap 2 cp] 72)):=(Below.refl _ _).alloc (Nat.le_refl _) _
 have K1:=spec_publicOf msg ao co os (w.alloc (.cells #[.int .i64 3,.slice ao 19 co,.slice ap 2 cp] 72)) hm h19 h32 (isStrs_later hs B1)
 rw[h19] at K1
 have hpo:=publicOfL_len msg os h19 h32
 have HPQ:Hid (∀ W,Below w.heap.size w W→IsStrs W ap [p,q]):=fun W hW=>isStrs_later hp hW
 obtain⟨b,off,hap,hcell⟩:∃ b off,ap=some ⟨b,off,none⟩∧∀ j (h:j < [p,q].length),w.cell? ⟨b,off+j,none⟩=some (.string ⟨[p,q][j].toArray⟩):=by
  rcases hp with h | h
  · cases h
  · exact h
 have d0:=hcell 0 (by simp)
 have d1:=hcell 1 (by simp)
 have hblt:b<w.heap.size:=World.block_lt_of_cell? w _ d0
 simp only[List.getElem_cons_zero,List.getElem_cons_succ,Nat.add_zero] at d0 d1
 obtain⟨x,hx⟩:∃ x,x=publicOfL msg os:=⟨_,rfl⟩
 rw[←hx] at K1 hpo ⊢
 subst hap
 clear hx hs h32 hcell h19
 have hpl':(p.length:Int)=32:=by omega
 have hql':(q.length:Int)=32:=by omega
 have N1:=fun W=>snode_any p x W hpl hpo
 have hyl:=nodeL_len p x hpl hpo
 have HL:Hid (leadsL 3 x p q=nodeL q (nodeL p x)):=by rw[Hid];simp[leadsL,upL]
 obtain⟨y,hy⟩:∃ y,y=nodeL p x:=⟨_,rfl⟩
 rw[←hy] at N1 HL hyl
 have N2:=fun W=>snode_any q y W hql hyl
 rw[HL.out]
 obtain⟨z,hz⟩:∃ z,z=nodeL q y:=⟨_,rfl⟩
 rw[←hz] at N2 ⊢
 clear hy hz HL hyl hpo
 go_enter Tryz.func80,Tryz.ntmps80
 go_wp2_with fail
 refine K1.mono ?_
 rintro e w2 ⟨rfl,b2⟩
 have B2:=B1.trans (b2.mono (by simp))
 have f0:=(b2.cell (p:=⟨w.heap.size,0,none⟩) (by simp)).trans c0
 have f2:=(b2.cell (p:=⟨w.heap.size,2,none⟩) (by simp)).trans c2
 have e0:=(B2.cell (p:=⟨b,off,none⟩) hblt).trans d0
 have e1:=(B2.cell (p:=⟨b,off+1,none⟩) hblt).trans d1
 have hw2:w.heap.size<w2.heap.size:=by have:=b2.size;simp at this;omega
 clear K1 b2 c0 c1 c2 d0 d1 B1
 have K2:=l1In_yes 3 0 3 w2 (by decide)
 go_wp2_with fail
 refine K2.mono ?_
 rintro e w2 ⟨rfl,rfl⟩
 clear K2
 go_wp2
 refine wp_loop_rounds 3 ?_
 rw[rounds_succ]
 go_wp2
 rw[rounds_succ]
 go_wp2
 rw[rounds_succ]
 go_wp2
 refine wp_loop_rounds 3 ?_
 rw[rounds_succ]
 go_wp2_with fail
 refine (N1 w2).mono ?_
 rintro e w3 ⟨rfl,b3⟩
 have B3:=B2.trans (b3.mono B2.size)
 have g1:=(B3.cell (p:=⟨b,off+1,none⟩) hblt).trans ((B2.cell (p:=⟨b,off+1,none⟩) hblt).symm.trans e1)
 have g2:=(b3.cell (p:=⟨w.heap.size,2,none⟩) hw2).trans f2
 have hw3:w.heap.size<w3.heap.size:=Nat.lt_of_lt_of_le hw2 b3.size
 clear N1 b3 e0 e1 f2 f0
 go_wp2
 rw[rounds_succ]
 go_wp2_with fail
 refine (N2 w3).mono ?_
 rintro e w4 ⟨rfl,b4⟩
 have B4:=B3.trans (b4.mono B3.size)
 have k2:=(b4.cell (p:=⟨w.heap.size,2,none⟩) hw3).trans g2
 clear N2 b4 g2 g1
 go_wp2
 rw[rounds_succ]
 go_wp2
 go_ret2
 exact⟨rfl,B4⟩
def sigOkS (i:Int) (os ps:List (List UInt8)):Prop:=(os.length=19∧∀ l∈os,l.length=32)∧(0≤i∧i≤3)∧ps.length=2∧∀ l∈ps,l.length=32
set_option maxRecDepth 100000 in
set_option maxHeartbeats 2000000 in
theorem spec_root_no (msg : List UInt8) (i : Int) (ao ap : Option Addr) (co cp : Nat) (os ps : List (List UInt8)) (w : World) (hm : msg.length ≤ 1048576) (hol : os.length ≤ 1048576) (hom : ∀ l ∈ os, l.length ≤ 1048576) (hpl : ps.length ≤ 1048576) (hpm : ∀ l ∈ ps, l.length ≤ 1048576) (hs : IsStrs w ao os) (hp : IsStrs w ap ps) (hno : ¬ sigOkS i os ps) :
 Calls Tryz.prog 80 #[.string ⟨msg.toArray⟩,.agg #[.int .i64 i,.slice ao os.length co,.slice ap ps.length cp]] w fun e w'=>e=.returned (.tuple #[.string ⟨#[]⟩,.bool false])∧Below w.heap.size w w':=by
 obtain⟨c0,c1,c2⟩:=three_cellsS (w:=w) (.int .i64 i) (.slice ao os.length co) (.slice ap ps.length cp) 72
 have B1:Below w.heap.size w (w.alloc (.cells #[.int .i64 i,.slice ao os.length co,.slice ap ps.length cp] 72)):=(Below.refl _ _).alloc (Nat.le_refl _) _
 by_cases hO:os.length=19∧∀ l∈os,l.length=32
 · have K1 := spec_publicOf msg ao co os (w.alloc (.cells #[.int .i64 i, .slice ao os.length co, .slice ap ps.length cp] 72)) hm hO.1 hO.2 (isStrs_later hs B1)
   obtain⟨x,hx⟩:∃ x,x=publicOfL msg os:=⟨_,rfl⟩
   rw[←hx] at K1
   have HPS:Hid (∀ W,Below w.heap.size w W→IsStrs W ap ps):=fun W hW=>isStrs_later hp hW
   have HNO:Hid (¬ ((0≤i∧i≤3)∧ps.length=2∧∀ l∈ps,l.length=32)):=fun h=>hno ⟨hO,h⟩
   have HPM:Hid (∀ l∈ps,l.length≤1048576):=hpm
   clear hx hs hno hO hom hp hpm
   go_enter Tryz.func80,Tryz.ntmps80
   go_wp2_with fail
   refine K1.mono ?_
   rintro e w2 ⟨rfl,b2⟩
   have B2:=B1.trans (b2.mono (by simp))
   have f0:=(b2.cell (p:=⟨w.heap.size,0,none⟩) (by simp)).trans c0
   have f2:=(b2.cell (p:=⟨w.heap.size,2,none⟩) (by simp)).trans c2
   clear K1 b2 c0 c1 c2 B1
   by_cases hi:0≤i∧i≤3
   · have K2:=l1In_yes i 0 3 w2 hi
     go_wp2_with fail
     refine K2.mono ?_
     rintro e w2 ⟨rfl,rfl⟩
     clear K2
     by_cases h2:ps.length=2
     · obtain⟨p,q,rfl⟩:∃ p q,ps=[p,q]:=by
        match ps,h2 with
        | [p,q],_=>exact⟨p,q,rfl⟩
       obtain⟨b,off,hap,hcell⟩:∃ b off,ap=some ⟨b,off,none⟩∧∀ j (h:j < [p,q].length),w2.cell? ⟨b,off+j,none⟩=some (.string ⟨[p,q][j].toArray⟩):=by
        rcases HPS.out _ B2 with h | h
        · cases h
        · exact h
       have d0:=hcell 0 (by simp)
       have d1:=hcell 1 (by simp)
       simp only[List.getElem_cons_zero,List.getElem_cons_succ,Nat.add_zero] at d0 d1
       have m0:=HPM.out p (by simp)
       have m1:=HPM.out q (by simp)
       have HBAD:Hid (¬ (p.length=32∧q.length=32)):=fun h=>HNO.out ⟨hi,h2,by simp[h.1,h.2]⟩
       subst hap
       simp only[List.length_cons,List.length_nil] at f2
       clear hcell h2 HPS HPM HNO hpl
       by_cases hp32:p.length=32
       · have hq32:¬ q.length=32:=fun h=>HBAD.out ⟨hp32,h⟩
         have hp':(p.length:Int)=32:=by omega
         have hq':¬ (q.length:Int)=32:=by omega
         go_wp2
         refine wp_loop_rounds 3 ?_
         rw[rounds_succ]
         go_wp2
         rw[rounds_succ]
         go_wp2
         go_ret2
         exact⟨rfl,B2⟩
       · have hp':¬ (p.length:Int)=32:=by omega
         go_wp2
         refine wp_loop_rounds 3 ?_
         rw[rounds_succ]
         go_wp2
         go_ret2
         exact⟨rfl,B2⟩
     · have h2':¬ (ps.length:Int)=2:=by omega
       go_wp2
       go_ret2
       exact⟨rfl,B2⟩
   · have K2:=l1In_no i 0 3 w2 hi
     clear hi
     go_wp2_with fail
     refine K2.mono ?_
     rintro e w2 ⟨rfl,rfl⟩
     go_wp2
     go_ret2
     exact⟨rfl,B2⟩
 · have K1:=spec_publicOf_no msg ao co os (w.alloc (.cells #[.int .i64 i,.slice ao os.length co,.slice ap ps.length cp] 72)) hol hom hO (isStrs_later hs B1)
   clear hs hno hO hom hp hpm
   go_enter Tryz.func80,Tryz.ntmps80
   go_wp2_with fail
   refine K1.mono ?_
   rintro e w2 ⟨rfl,rfl⟩
   go_wp2
   go_ret2
   exact⟨rfl,B1⟩
def RootIsS (msg:List UInt8) (i:Int) (os ps:List (List UInt8)) (r:List UInt8) (ok:Bool):Prop :=
 (ok=true∧sigOkS i os ps∧∃ k p q,k≤3∧i=((k:Nat):Int)∧ps=[p,q]∧r=leadsL k (publicOfL msg os) p q)∨(ok=false∧r=[]∧¬ sigOkS i os ps)
theorem spec_root_any (msg:List UInt8) (i:Int) (ao ap:Option Addr) (co cp:Nat) (os ps:List (List UInt8)) (w:World) (hm:msg.length≤1048576) (hol:os.length≤1048576) (hom:∀ l∈os,l.length≤1048576) (hpl:ps.length≤1048576) (hpm:∀ l∈ps,l.length≤1048576) (hs:IsStrs w ao os) (hp:IsStrs w ap ps) (r:List UInt8) (ok:Bool) (hr:RootIsS msg i os ps r ok) :
 Calls Tryz.prog 80 #[.string ⟨msg.toArray⟩,.agg #[.int .i64 i,.slice ao os.length co,.slice ap ps.length cp]] w fun e w'=>e=.returned (.tuple #[.string ⟨r.toArray⟩,.bool ok])∧Below w.heap.size w w':=by
 rcases hr with ⟨h0,h,k,p,q,hk,hi,hps,hr⟩ | ⟨h0,hr,h⟩
 · rw[h0,hr,hi]
   obtain⟨⟨h19,h32⟩,_,_,hp32⟩:=h
   rw[hps] at hp hp32 ⊢
   rw[h19]
   have hp1:=hp32 p (by simp)
   have hq1:=hp32 q (by simp)
   rcases (by omega:k=0∨k=1∨k=2∨k=3) with rfl | rfl | rfl | rfl
   · exact spec_root0 msg ao ap co cp os p q w hm h19 h32 hp1 hq1 hs hp
   · exact spec_root1 msg ao ap co cp os p q w hm h19 h32 hp1 hq1 hs hp
   · exact spec_root2 msg ao ap co cp os p q w hm h19 h32 hp1 hq1 hs hp
   · exact spec_root3 msg ao ap co cp os p q w hm h19 h32 hp1 hq1 hs hp
 · rw[h0,hr]
   exact spec_root_no msg i ao ap co cp os ps w hm hol hom hpl hpm hs hp h
set_option maxRecDepth 100000 in
set_option maxHeartbeats 1000000 in
theorem spec_verify (root msg:List UInt8) (i:Int) (ao ap:Option Addr) (co cp:Nat) (os ps:List (List UInt8)) (w:World) (hm:msg.length≤1048576) (hol:os.length≤1048576) (hom:∀ l∈os,l.length≤1048576) (hpl:ps.length≤1048576) (hpm:∀ l∈ps,l.length≤1048576) (hs:IsStrs w ao os) (hp:IsStrs w ap ps) (r:List UInt8) (ok:Bool) (hr:RootIsS msg i os ps r ok) :
 Calls Tryz.prog 55 #[.string ⟨root.toArray⟩,.string ⟨msg.toArray⟩,.agg #[.int .i64 i,.slice ao os.length co,.slice ap ps.length cp]] w fun e w'=>e=.returned (.bool (ok && decide (r=root)))∧Below w.heap.size w w':=by
 have B1:Below w.heap.size w (w.alloc (.cells #[.int .i64 i,.slice ao os.length co,.slice ap ps.length cp] 72)):=(Below.refl _ _).alloc (Nat.le_refl _) _
 have K:=spec_root_any msg i ao ap co cp os ps (w.alloc (.cells #[.int .i64 i,.slice ao os.length co,.slice ap ps.length cp] 72)) hm hol hom hpl hpm (isStrs_later hs B1) (isStrs_later hp B1) r ok hr
 clear hs hp hr hom hpm
 go_enter Tryz.func55,Tryz.ntmps55
 go_wp2_with fail
 refine K.mono ?_
 rintro e w1 ⟨rfl,b1⟩
 have B2:=B1.trans (b1.mono (by simp))
 clear K b1 B1
 cases ok
 · go_wp2
   go_ret
   exact⟨by simp,B2⟩
 · by_cases hrr:r=root
   · subst hrr
     go_wp2
     go_ret
     exact⟨by simp,B2⟩
   · go_wp2
     go_ret
     exact⟨by simp[hrr],B2⟩
end Go.Proofs.YtllmclmcncolcaaGreatDoor
