/-
 Texts that are laid as one: ILeaf, IRoot, IRootN.
-/
import Derived.Test.YtllmclmcncolcaaGreatDoorISigs
namespace Go.Proofs.YtllmclmcncolcaaGreatDoor
open Go.RowKit
set_option linter.unusedVariables false
set_option maxRecDepth 100000 in
theorem keyIndex_yes (n:Int) (w:World) (h0:0≤n) (h1:n≤3) :
 Calls Tryz.prog 119 #[.int .i64 n] w fun e w'=>e=.returned (.bool true)∧w'=w:=by
 have h4:n<4:=by omega
 go_enter Tryz.func119,Tryz.ntmps119
 go_wp2
 go_ret
 exact⟨rfl,rfl⟩
set_option maxRecDepth 100000 in
theorem keyIndex_no (n:Int) (w:World) (h:¬ (0≤n∧n≤3)) :
 Calls Tryz.prog 119 #[.int .i64 n] w fun e w'=>e=.returned (.bool false)∧w'=w:=by
 by_cases h0:0≤n
 · have h4:¬ n<4:=fun h1=>h ⟨h0,by omega⟩
   clear h
   go_enter Tryz.func119,Tryz.ntmps119
   go_wp2
   go_ret
   exact⟨rfl,rfl⟩
 · clear h
   go_enter Tryz.func119,Tryz.ntmps119
   go_wp2
   go_ret
   exact⟨rfl,rfl⟩
set_option maxRecDepth 100000 in
theorem keyNode_any (x y:List UInt8) (w:World) (hx:x.length=32) (hy:y.length=32) (hT:Tab w) :
 Calls Tryz.prog 121 #[.string ⟨x.toArray⟩,.string ⟨y.toArray⟩] w fun e w'=>e=.returned (.string ⟨(nodeL x y).toArray⟩)∧Below w.heap.size w w':=by
 have K2:=itag2 tNode x y w (by decide) (by omega) hT
 have HE:Hid (nodeL x y=tagL tNode [x,y]):=rfl
 rw[←HE.out] at K2
 obtain⟨z,hz⟩:∃ z,z=nodeL x y:=⟨_,rfl⟩
 rw[←hz] at K2 ⊢
 clear hT HE hz
 go_enter Tryz.func121,Tryz.ntmps121
 go_wp2_with fail
 refine K2.mono ?_
 rintro e w1 ⟨rfl,b1⟩
 go_wp2
 go_ret
 exact⟨rfl,b1⟩
theorem three_cells {w:World} (u v x:Value) (t:TypeId):(w.alloc (.cells #[u,v,x] t)).cell? ⟨w.heap.size,0,none⟩=some u∧(w.alloc (.cells #[u,v,x] t)).cell? ⟨w.heap.size,1,none⟩=some v∧(w.alloc (.cells #[u,v,x] t)).cell? ⟨w.heap.size,2,none⟩=some x:=by
 have h:=heap_alloc_new w (.cells #[u,v,x] t)
 simp only[World.cell?,h]
 exact⟨rfl,rfl,rfl⟩
set_option maxRecDepth 100000 in
set_option maxHeartbeats 2000000 in
theorem impl_root0 (msg:List UInt8) (ao ap:Option Addr) (co cp:Nat) (os:List (List UInt8)) (p q:List UInt8) (w:World) (hm:msg.length≤1048576) (h19:os.length=19) (h32:∀ l∈os,l.length=32) (hpl:p.length=32) (hql:q.length=32) (hs:IsStrs w ao os) (hp:IsStrs w ap [p,q]) (hT:Tab w) :
 Calls Tryz.prog 105 #[.string ⟨msg.toArray⟩,.agg #[.int .i64 0,.slice ao 19 co,.slice ap 2 cp]] w fun e w'=>e=.returned (.tuple #[.string ⟨(leadsL 0 (publicOfL msg os) p q).toArray⟩,.bool true])∧Below w.heap.size w w':=by
 have HT:Hid (Tab w):=hT
 obtain⟨c0,c1,c2⟩:=three_cells (w:=w) (.int .i64 0) (.slice ao 19 co) (.slice ap 2 cp) 72
 have B1:Below w.heap.size w (w.alloc (.cells #[.int .i64 0,.slice ao 19 co,.slice ap 2 cp] 72)):=(Below.refl _ _).alloc (Nat.le_refl _) _
 have K1:=impl_publicOf msg ao co os (w.alloc (.cells #[.int .i64 0,.slice ao 19 co,.slice ap 2 cp] 72)) hm h19 h32 (IsStrs.later hs B1) (hT.later B1)
 rw[h19] at K1
 have hpo:=publicOfL_len msg os h19 h32
 have HPQ:Hid (∀ W,Below w.heap.size w W→IsStrs W ap [p,q]):=fun W hW=>IsStrs.later hp hW
 obtain⟨b,off,hap,hcell⟩:∃ b off,ap=some ⟨b,off,none⟩∧∀ j (h:j < [p,q].length),w.cell? ⟨b,off+j,none⟩=some (.string ⟨[p,q][j].toArray⟩):=by
  rcases hp with h | h
  · cases h
  · exact h
 have d0:=hcell 0 (by simp)
 have d1:=hcell 1 (by simp)
 have hblt:b<w.heap.size:=World.block_lt_of_cell? w _ d0
 simp only[List.getElem_cons_zero,List.getElem_cons_succ,Nat.add_zero] at d0 d1
 obtain⟨x,hx⟩:∃ x,x=publicOfL msg os:=⟨_,rfl⟩
 rw[←hx] at K1 hpo ⊢
 subst hap
 clear hx hs h32 hcell h19
 have hpl':(p.length:Int)=32:=by omega
 have hql':(q.length:Int)=32:=by omega
 have N1:=fun W hW=>keyNode_any x p W hpo hpl hW
 have hyl:=nodeL_len x p hpo hpl
 have HL:Hid (leadsL 0 x p q=nodeL (nodeL x p) q):=by rw[Hid];simp[leadsL,upL]
 obtain⟨y,hy⟩:∃ y,y=nodeL x p:=⟨_,rfl⟩
 rw[←hy] at N1 HL hyl
 have N2:=fun W hW=>keyNode_any y q W hyl hql hW
 rw[HL.out]
 obtain⟨z,hz⟩:∃ z,z=nodeL y q:=⟨_,rfl⟩
 rw[←hz] at N2 ⊢
 clear hy hz HL hyl hpo
 go_enter Tryz.func105,Tryz.ntmps105
 go_wp2_with fail
 refine K1.mono ?_
 rintro e w2 ⟨rfl,b2⟩
 have B2:=B1.trans (b2.mono (by simp))
 have f0:=(b2.cell (p:=⟨w.heap.size,0,none⟩) (by simp)).trans c0
 have f2:=(b2.cell (p:=⟨w.heap.size,2,none⟩) (by simp)).trans c2
 have e0:=(B2.cell (p:=⟨b,off,none⟩) hblt).trans d0
 have e1:=(B2.cell (p:=⟨b,off+1,none⟩) hblt).trans d1
 have hw2:w.heap.size<w2.heap.size:=by have:=b2.size;simp at this;omega
 clear K1 b2 c0 c1 c2 d0 d1 B1
 have K2:=keyIndex_yes 0 w2 (by decide) (by decide)
 have K3:=seedSized_yes (some ⟨b,off,none⟩) cp [p,q] w2 (by simp) (by simp[hpl,hql]) (HPQ.out _ B2)
 go_wp2_with fail
 refine K2.mono ?_
 rintro e w3 ⟨rfl,rfl⟩
 go_wp2_with fail
 refine K3.mono ?_
 rintro e w3 ⟨rfl,rfl⟩
 clear K2 K3
 go_wp2
 refine wp_loop_rounds 3 ?_
 rw[rounds_succ]
 go_wp2_with fail
 refine (N1 _ (HT.out.later B2)).mono ?_
 rintro e w3 ⟨rfl,b3⟩
 have B3:=B2.trans (b3.mono B2.size)
 have g1:=(B3.cell (p:=⟨b,off+1,none⟩) hblt).trans ((B2.cell (p:=⟨b,off+1,none⟩) hblt).symm.trans e1)
 clear N1 b3 e0 e1
 go_wp2
 rw[rounds_succ]
 go_wp2_with fail
 refine (N2 _ (HT.out.later B3)).mono ?_
 rintro e w4 ⟨rfl,b4⟩
 have B4:=B3.trans (b4.mono B3.size)
 clear N2 b4
 go_wp2
 rw[rounds_succ]
 go_wp2
 go_ret2
 exact⟨rfl,B4⟩
set_option maxRecDepth 100000 in
set_option maxHeartbeats 2000000 in
theorem impl_root1 (msg:List UInt8) (ao ap:Option Addr) (co cp:Nat) (os:List (List UInt8)) (p q:List UInt8) (w:World) (hm:msg.length≤1048576) (h19:os.length=19) (h32:∀ l∈os,l.length=32) (hpl:p.length=32) (hql:q.length=32) (hs:IsStrs w ao os) (hp:IsStrs w ap [p,q]) (hT:Tab w) :
 Calls Tryz.prog 105 #[.string ⟨msg.toArray⟩,.agg #[.int .i64 1,.slice ao 19 co,.slice ap 2 cp]] w fun e w'=>e=.returned (.tuple #[.string ⟨(leadsL 1 (publicOfL msg os) p q).toArray⟩,.bool true])∧Below w.heap.size w w':=by
 have HT:Hid (Tab w):=hT
 obtain⟨c0,c1,c2⟩:=three_cells (w:=w) (.int .i64 1) (.slice ao 19 co) (.slice ap 2 cp) 72
 have B1:Below w.heap.size w (w.alloc (.cells #[.int .i64 1,.slice ao 19 co,.slice ap 2 cp] 72)):=(Below.refl _ _).alloc (Nat.le_refl _) _
 have K1:=impl_publicOf msg ao co os (w.alloc (.cells #[.int .i64 1,.slice ao 19 co,.slice ap 2 cp] 72)) hm h19 h32 (IsStrs.later hs B1) (hT.later B1)
 rw[h19] at K1
 have hpo:=publicOfL_len msg os h19 h32
 have HPQ:Hid (∀ W,Below w.heap.size w W→IsStrs W ap [p,q]):=fun W hW=>IsStrs.later hp hW
 obtain⟨b,off,hap,hcell⟩:∃ b off,ap=some ⟨b,off,none⟩∧∀ j (h:j < [p,q].length),w.cell? ⟨b,off+j,none⟩=some (.string ⟨[p,q][j].toArray⟩):=by
  rcases hp with h | h
  · cases h
  · exact h
 have d0:=hcell 0 (by simp)
 have d1:=hcell 1 (by simp)
 have hblt:b<w.heap.size:=World.block_lt_of_cell? w _ d0
 simp only[List.getElem_cons_zero,List.getElem_cons_succ,Nat.add_zero] at d0 d1
 obtain⟨x,hx⟩:∃ x,x=publicOfL msg os:=⟨_,rfl⟩
 rw[←hx] at K1 hpo ⊢
 subst hap
 clear hx hs h32 hcell h19
 have hpl':(p.length:Int)=32:=by omega
 have hql':(q.length:Int)=32:=by omega
 have N1:=fun W hW=>keyNode_any p x W hpl hpo hW
 have hyl:=nodeL_len p x hpl hpo
 have HL:Hid (leadsL 1 x p q=nodeL (nodeL p x) q):=by rw[Hid];simp[leadsL,upL]
 obtain⟨y,hy⟩:∃ y,y=nodeL p x:=⟨_,rfl⟩
 rw[←hy] at N1 HL hyl
 have N2:=fun W hW=>keyNode_any y q W hyl hql hW
 rw[HL.out]
 obtain⟨z,hz⟩:∃ z,z=nodeL y q:=⟨_,rfl⟩
 rw[←hz] at N2 ⊢
 clear hy hz HL hyl hpo
 go_enter Tryz.func105,Tryz.ntmps105
 go_wp2_with fail
 refine K1.mono ?_
 rintro e w2 ⟨rfl,b2⟩
 have B2:=B1.trans (b2.mono (by simp))
 have f0:=(b2.cell (p:=⟨w.heap.size,0,none⟩) (by simp)).trans c0
 have f2:=(b2.cell (p:=⟨w.heap.size,2,none⟩) (by simp)).trans c2
 have e0:=(B2.cell (p:=⟨b,off,none⟩) hblt).trans d0
 have e1:=(B2.cell (p:=⟨b,off+1,none⟩) hblt).trans d1
 have hw2:w.heap.size<w2.heap.size:=by have:=b2.size;simp at this;omega
 clear K1 b2 c0 c1 c2 d0 d1 B1
 have K2:=keyIndex_yes 1 w2 (by decide) (by decide)
 have K3:=seedSized_yes (some ⟨b,off,none⟩) cp [p,q] w2 (by simp) (by simp[hpl,hql]) (HPQ.out _ B2)
 go_wp2_with fail
 refine K2.mono ?_
 rintro e w3 ⟨rfl,rfl⟩
 go_wp2_with fail
 refine K3.mono ?_
 rintro e w3 ⟨rfl,rfl⟩
 clear K2 K3
 go_wp2
 refine wp_loop_rounds 3 ?_
 rw[rounds_succ]
 go_wp2_with fail
 refine (N1 _ (HT.out.later B2)).mono ?_
 rintro e w3 ⟨rfl,b3⟩
 have B3:=B2.trans (b3.mono B2.size)
 have g1:=(B3.cell (p:=⟨b,off+1,none⟩) hblt).trans ((B2.cell (p:=⟨b,off+1,none⟩) hblt).symm.trans e1)
 clear N1 b3 e0 e1
 go_wp2
 rw[rounds_succ]
 go_wp2_with fail
 refine (N2 _ (HT.out.later B3)).mono ?_
 rintro e w4 ⟨rfl,b4⟩
 have B4:=B3.trans (b4.mono B3.size)
 clear N2 b4
 go_wp2
 rw[rounds_succ]
 go_wp2
 go_ret2
 exact⟨rfl,B4⟩
set_option maxRecDepth 100000 in
set_option maxHeartbeats 2000000 in
theorem impl_root2 (msg:List UInt8) (ao ap:Option Addr) (co cp:Nat) (os:List (List UInt8)) (p q:List UInt8) (w:World) (hm:msg.length≤1048576) (h19:os.length=19) (h32:∀ l∈os,l.length=32) (hpl:p.length=32) (hql:q.length=32) (hs:IsStrs w ao os) (hp:IsStrs w ap [p,q]) (hT:Tab w) :
 Calls Tryz.prog 105 #[.string ⟨msg.toArray⟩,.agg #[.int .i64 2,.slice ao 19 co,.slice ap 2 cp]] w fun e w'=>e=.returned (.tuple #[.string ⟨(leadsL 2 (publicOfL msg os) p q).toArray⟩,.bool true])∧Below w.heap.size w w':=by
 have HT:Hid (Tab w):=hT
 obtain⟨c0,c1,c2⟩:=three_cells (w:=w) (.int .i64 2) (.slice ao 19 co) (.slice ap 2 cp) 72
 have B1:Below w.heap.size w (w.alloc (.cells #[.int .i64 2,.slice ao 19 co,.slice ap 2 cp] 72)):=(Below.refl _ _).alloc (Nat.le_refl _) _
 have K1:=impl_publicOf msg ao co os (w.alloc (.cells #[.int .i64 2,.slice ao 19 co,.slice ap 2 cp] 72)) hm h19 h32 (IsStrs.later hs B1) (hT.later B1)
 rw[h19] at K1
 have hpo:=publicOfL_len msg os h19 h32
 have HPQ:Hid (∀ W,Below w.heap.size w W→IsStrs W ap [p,q]):=fun W hW=>IsStrs.later hp hW
 obtain⟨b,off,hap,hcell⟩:∃ b off,ap=some ⟨b,off,none⟩∧∀ j (h:j < [p,q].length),w.cell? ⟨b,off+j,none⟩=some (.string ⟨[p,q][j].toArray⟩):=by
  rcases hp with h | h
  · cases h
  · exact h
 have d0:=hcell 0 (by simp)
 have d1:=hcell 1 (by simp)
 have hblt:b<w.heap.size:=World.block_lt_of_cell? w _ d0
 simp only[List.getElem_cons_zero,List.getElem_cons_succ,Nat.add_zero] at d0 d1
 obtain⟨x,hx⟩:∃ x,x=publicOfL msg os:=⟨_,rfl⟩
 rw[←hx] at K1 hpo ⊢
 subst hap
 clear hx hs h32 hcell h19
 have hpl':(p.length:Int)=32:=by omega
 have hql':(q.length:Int)=32:=by omega
 have N1:=fun W hW=>keyNode_any x p W hpo hpl hW
 have hyl:=nodeL_len x p hpo hpl
 have HL:Hid (leadsL 2 x p q=nodeL q (nodeL x p)):=by rw[Hid];simp[leadsL,upL]
 obtain⟨y,hy⟩:∃ y,y=nodeL x p:=⟨_,rfl⟩
 rw[←hy] at N1 HL hyl
 have N2:=fun W hW=>keyNode_any q y W hql hyl hW
 rw[HL.out]
 obtain⟨z,hz⟩:∃ z,z=nodeL q y:=⟨_,rfl⟩
 rw[←hz] at N2 ⊢
 clear hy hz HL hyl hpo
 go_enter Tryz.func105,Tryz.ntmps105
 go_wp2_with fail
 refine K1.mono ?_
 rintro e w2 ⟨rfl,b2⟩
 have B2:=B1.trans (b2.mono (by simp))
 have f0:=(b2.cell (p:=⟨w.heap.size,0,none⟩) (by simp)).trans c0
 have f2:=(b2.cell (p:=⟨w.heap.size,2,none⟩) (by simp)).trans c2
 have e0:=(B2.cell (p:=⟨b,off,none⟩) hblt).trans d0
 have e1:=(B2.cell (p:=⟨b,off+1,none⟩) hblt).trans d1
 have hw2:w.heap.size<w2.heap.size:=by have:=b2.size;simp at this;omega
 clear K1 b2 c0 c1 c2 d0 d1 B1
 have K2:=keyIndex_yes 2 w2 (by decide) (by decide)
 have K3:=seedSized_yes (some ⟨b,off,none⟩) cp [p,q] w2 (by simp) (by simp[hpl,hql]) (HPQ.out _ B2)
 go_wp2_with fail
 refine K2.mono ?_
 rintro e w3 ⟨rfl,rfl⟩
 go_wp2_with fail
 refine K3.mono ?_
 rintro e w3 ⟨rfl,rfl⟩
 clear K2 K3
 go_wp2
 refine wp_loop_rounds 3 ?_
 rw[rounds_succ]
 go_wp2_with fail
 refine (N1 _ (HT.out.later B2)).mono ?_
 rintro e w3 ⟨rfl,b3⟩
 have B3:=B2.trans (b3.mono B2.size)
 have g1:=(B3.cell (p:=⟨b,off+1,none⟩) hblt).trans ((B2.cell (p:=⟨b,off+1,none⟩) hblt).symm.trans e1)
 clear N1 b3 e0 e1
 go_wp2
 rw[rounds_succ]
 go_wp2_with fail
 refine (N2 _ (HT.out.later B3)).mono ?_
 rintro e w4 ⟨rfl,b4⟩
 have B4:=B3.trans (b4.mono B3.size)
 clear N2 b4
 go_wp2
 rw[rounds_succ]
 go_wp2
 go_ret2
 exact⟨rfl,B4⟩
set_option maxRecDepth 100000 in
set_option maxHeartbeats 2000000 in
theorem impl_root3 (msg:List UInt8) (ao ap:Option Addr) (co cp:Nat) (os:List (List UInt8)) (p q:List UInt8) (w:World) (hm:msg.length≤1048576) (h19:os.length=19) (h32:∀ l∈os,l.length=32) (hpl:p.length=32) (hql:q.length=32) (hs:IsStrs w ao os) (hp:IsStrs w ap [p,q]) (hT:Tab w) :
 Calls Tryz.prog 105 #[.string ⟨msg.toArray⟩,.agg #[.int .i64 3,.slice ao 19 co,.slice ap 2 cp]] w fun e w'=>e=.returned (.tuple #[.string ⟨(leadsL 3 (publicOfL msg os) p q).toArray⟩,.bool true])∧Below w.heap.size w w':=by
 have HT:Hid (Tab w):=hT
 obtain⟨c0,c1,c2⟩:=three_cells (w:=w) (.int .i64 3) (.slice ao 19 co) (.slice ap 2 cp) 72
 have B1:Below w.heap.size w (w.alloc (.cells #[.int .i64 3,.slice ao 19 co,.slice ap 2 cp] 72)):=(Below.refl _ _).alloc (Nat.le_refl _) _
 have K1:=impl_publicOf msg ao co os (w.alloc (.cells #[.int .i64 3,.slice ao 19 co,.slice ap 2 cp] 72)) hm h19 h32 (IsStrs.later hs B1) (hT.later B1)
 rw[h19] at K1
 have hpo:=publicOfL_len msg os h19 h32
 have HPQ:Hid (∀ W,Below w.heap.size w W→IsStrs W ap [p,q]):=fun W hW=>IsStrs.later hp hW
 obtain⟨b,off,hap,hcell⟩:∃ b off,ap=some ⟨b,off,none⟩∧∀ j (h:j < [p,q].length),w.cell? ⟨b,off+j,none⟩=some (.string ⟨[p,q][j].toArray⟩):=by
  rcases hp with h | h
  · cases h
  · exact h
 have d0:=hcell 0 (by simp)
 have d1:=hcell 1 (by simp)
 have hblt:b<w.heap.size:=World.block_lt_of_cell? w _ d0
 simp only[List.getElem_cons_zero,List.getElem_cons_succ,Nat.add_zero] at d0 d1
 obtain⟨x,hx⟩:∃ x,x=publicOfL msg os:=⟨_,rfl⟩
 rw[←hx] at K1 hpo ⊢
 subst hap
 clear hx hs h32 hcell h19
 have hpl':(p.length:Int)=32:=by omega
 have hql':(q.length:Int)=32:=by omega
 have N1:=fun W hW=>keyNode_any p x W hpl hpo hW
 have hyl:=nodeL_len p x hpl hpo
 have HL:Hid (leadsL 3 x p q=nodeL q (nodeL p x)):=by rw[Hid];simp[leadsL,upL]
 obtain⟨y,hy⟩:∃ y,y=nodeL p x:=⟨_,rfl⟩
 rw[←hy] at N1 HL hyl
 have N2:=fun W hW=>keyNode_any q y W hql hyl hW
 rw[HL.out]
 obtain⟨z,hz⟩:∃ z,z=nodeL q y:=⟨_,rfl⟩
 rw[←hz] at N2 ⊢
 clear hy hz HL hyl hpo
 go_enter Tryz.func105,Tryz.ntmps105
 go_wp2_with fail
 refine K1.mono ?_
 rintro e w2 ⟨rfl,b2⟩
 have B2:=B1.trans (b2.mono (by simp))
 have f0:=(b2.cell (p:=⟨w.heap.size,0,none⟩) (by simp)).trans c0
 have f2:=(b2.cell (p:=⟨w.heap.size,2,none⟩) (by simp)).trans c2
 have e0:=(B2.cell (p:=⟨b,off,none⟩) hblt).trans d0
 have e1:=(B2.cell (p:=⟨b,off+1,none⟩) hblt).trans d1
 have hw2:w.heap.size<w2.heap.size:=by have:=b2.size;simp at this;omega
 clear K1 b2 c0 c1 c2 d0 d1 B1
 have K2:=keyIndex_yes 3 w2 (by decide) (by decide)
 have K3:=seedSized_yes (some ⟨b,off,none⟩) cp [p,q] w2 (by simp) (by simp[hpl,hql]) (HPQ.out _ B2)
 go_wp2_with fail
 refine K2.mono ?_
 rintro e w3 ⟨rfl,rfl⟩
 go_wp2_with fail
 refine K3.mono ?_
 rintro e w3 ⟨rfl,rfl⟩
 clear K2 K3
 go_wp2
 refine wp_loop_rounds 3 ?_
 rw[rounds_succ]
 go_wp2_with fail
 refine (N1 _ (HT.out.later B2)).mono ?_
 rintro e w3 ⟨rfl,b3⟩
 have B3:=B2.trans (b3.mono B2.size)
 have g1:=(B3.cell (p:=⟨b,off+1,none⟩) hblt).trans ((B2.cell (p:=⟨b,off+1,none⟩) hblt).symm.trans e1)
 clear N1 b3 e0 e1
 go_wp2
 rw[rounds_succ]
 go_wp2_with fail
 refine (N2 _ (HT.out.later B3)).mono ?_
 rintro e w4 ⟨rfl,b4⟩
 have B4:=B3.trans (b4.mono B3.size)
 clear N2 b4
 go_wp2
 rw[rounds_succ]
 go_wp2
 go_ret2
 exact⟨rfl,B4⟩
def sigOk (i:Int) (os ps:List (List UInt8)):Prop:=(os.length=19∧∀ l∈os,l.length=32)∧(0≤i∧i≤3)∧ps.length=2∧∀ l∈ps,l.length=32
set_option maxRecDepth 100000 in
set_option maxHeartbeats 2000000 in
theorem impl_root_no (msg:List UInt8) (i:Int) (ao ap:Option Addr) (co cp:Nat) (os ps:List (List UInt8)) (w:World) (hm:msg.length≤1048576) (hol:os.length≤1048576) (hom:∀ l∈os,l.length≤1048576) (hpl:ps.length≤1048576) (hpm:∀ l∈ps,l.length≤1048576) (hs:IsStrs w ao os) (hp:IsStrs w ap ps) (hT:Tab w) (hno:¬ sigOk i os ps) :
 Calls Tryz.prog 105 #[.string ⟨msg.toArray⟩,.agg #[.int .i64 i,.slice ao os.length co,.slice ap ps.length cp]] w fun e w'=>e=.returned (.tuple #[.string ⟨#[]⟩,.bool false])∧Below w.heap.size w w':=by
 obtain⟨c0,c1,c2⟩:=three_cells (w:=w) (.int .i64 i) (.slice ao os.length co) (.slice ap ps.length cp) 72
 have B1:Below w.heap.size w (w.alloc (.cells #[.int .i64 i,.slice ao os.length co,.slice ap ps.length cp] 72)):=(Below.refl _ _).alloc (Nat.le_refl _) _
 by_cases hO:os.length=19∧∀ l∈os,l.length=32
 · have K1:=impl_publicOf msg ao co os (w.alloc (.cells #[.int .i64 i,.slice ao os.length co,.slice ap ps.length cp] 72)) hm hO.1 hO.2 (IsStrs.later hs B1) (hT.later B1)
   obtain⟨x,hx⟩:∃ x,x=publicOfL msg os:=⟨_,rfl⟩
   rw[←hx] at K1
   have HPS:Hid (∀ W,Below w.heap.size w W→IsStrs W ap ps):=fun W hW=>IsStrs.later hp hW
   have HNO:Hid (¬ ((0≤i∧i≤3)∧ps.length=2∧∀ l∈ps,l.length=32)):=fun h=>hno ⟨hO,h⟩
   have HPM:Hid (∀ l∈ps,l.length≤1048576):=hpm
   clear hx hs hno hO hom hp hpm
   go_enter Tryz.func105,Tryz.ntmps105
   go_wp2_with fail
   refine K1.mono ?_
   rintro e w2 ⟨rfl,b2⟩
   have B2:=B1.trans (b2.mono (by simp))
   have f0:=(b2.cell (p:=⟨w.heap.size,0,none⟩) (by simp)).trans c0
   have f2:=(b2.cell (p:=⟨w.heap.size,2,none⟩) (by simp)).trans c2
   clear K1 b2 c0 c1 c2 B1
   by_cases hi:0≤i∧i≤3
   · have K2:=keyIndex_yes i w2 hi.1 hi.2
     go_wp2_with fail
     refine K2.mono ?_
     rintro e w2 ⟨rfl,rfl⟩
     clear K2
     by_cases h2:ps.length=2
     · have K3:=seedSized_no ap cp ps w2 (by omega) HPM.out (fun h=>HNO.out ⟨hi,h2,h⟩) (HPS.out _ B2)
       rw[h2] at K3 f2
       go_wp2_with fail
       refine K3.mono ?_
       rintro e w2 ⟨rfl,rfl⟩
       go_wp2
       go_ret2
       exact⟨rfl,B2⟩
     · have h2':¬ (ps.length:Int)=2:=by omega
       go_wp2
       go_ret2
       exact⟨rfl,B2⟩
   · have K2:=keyIndex_no i w2 hi
     clear hi
     go_wp2_with fail
     refine K2.mono ?_
     rintro e w2 ⟨rfl,rfl⟩
     go_wp2
     go_ret2
     exact⟨rfl,B2⟩
 · have K1:=impl_publicOf_no msg ao co os (w.alloc (.cells #[.int .i64 i,.slice ao os.length co,.slice ap ps.length cp] 72)) hol hom hO (IsStrs.later hs B1)
   clear hs hno hO hom hp hpm
   go_enter Tryz.func105,Tryz.ntmps105
   go_wp2_with fail
   refine K1.mono ?_
   rintro e w2 ⟨rfl,rfl⟩
   go_wp2
   go_ret2
   exact⟨rfl,B1⟩
def RootIs (msg:List UInt8) (i:Int) (os ps:List (List UInt8)) (r:List UInt8) (ok:Bool):Prop :=
 (ok=true∧sigOk i os ps∧∃ k p q,k≤3∧i=((k:Nat):Int)∧ps=[p,q]∧r=leadsL k (publicOfL msg os) p q)∨(ok=false∧r=[]∧¬ sigOk i os ps)
theorem rootIs_some (msg:List UInt8) (i:Int) (os ps:List (List UInt8)):∃ r ok,RootIs msg i os ps r ok:=by
 by_cases h:sigOk i os ps
 · obtain⟨k,hk⟩:=Int.eq_ofNat_of_zero_le h.2.1.1
   obtain⟨p,q,hpq⟩:∃ p q,ps=[p,q]:=by
    match ps,h.2.2.1 with
    | [p,q],_=>exact⟨p,q,rfl⟩
   exact⟨_,true,.inl ⟨rfl,h,k,p,q,by have:=h.2.1.2;omega,hk,hpq,rfl⟩⟩
 · exact⟨[],false,.inr ⟨rfl,rfl,h⟩⟩
theorem impl_root_any (msg:List UInt8) (i:Int) (ao ap:Option Addr) (co cp:Nat) (os ps:List (List UInt8)) (w:World) (hm:msg.length≤1048576) (hol:os.length≤1048576) (hom:∀ l∈os,l.length≤1048576) (hpl:ps.length≤1048576) (hpm:∀ l∈ps,l.length≤1048576) (hs:IsStrs w ao os) (hp:IsStrs w ap ps) (hT:Tab w) (r:List UInt8) (ok:Bool) (hr:RootIs msg i os ps r ok) :
 Calls Tryz.prog 105 #[.string ⟨msg.toArray⟩,.agg #[.int .i64 i,.slice ao os.length co,.slice ap ps.length cp]] w fun e w'=>e=.returned (.tuple #[.string ⟨r.toArray⟩,.bool ok])∧Below w.heap.size w w':=by
 rcases hr with ⟨h0,h,k,p,q,hk,hi,hps,hr⟩ | ⟨h0,hr,h⟩
 · rw[h0,hr,hi]
   obtain⟨⟨h19,h32⟩,_,_,hp32⟩:=h
   rw[hps] at hp hp32 ⊢
   rw[h19]
   have hp1:=hp32 p (by simp)
   have hq1:=hp32 q (by simp)
   rcases (by omega:k=0∨k=1∨k=2∨k=3) with rfl | rfl | rfl | rfl
   · exact impl_root0 msg ao ap co cp os p q w hm h19 h32 hp1 hq1 hs hp hT
   · exact impl_root1 msg ao ap co cp os p q w hm h19 h32 hp1 hq1 hs hp hT
   · exact impl_root2 msg ao ap co cp os p q w hm h19 h32 hp1 hq1 hs hp hT
   · exact impl_root3 msg ao ap co cp os p q w hm h19 h32 hp1 hq1 hs hp hT
 · rw[h0,hr]
   exact impl_root_no msg i ao ap co cp os ps w hm hol hom hpl hpm hs hp hT h
end Go.Proofs.YtllmclmcncolcaaGreatDoor
