/-
 Contracts: a drawn client; a drawn client with a number and ops (written by mkdrawcl.py).
-/
import Derived.Test.YtgjddhlmmljabaaDoorDrawSd
import Derived.Test.YtgjddhlmmljabaaDoorDrawO
import Derived.Deep.RegionHeld3
import Derived.Deep.Cut
namespace Go.Proofs.YtgjddhlmmljabaaDoor
open Go.RowKit
set_option linter.unusedVariables false
theorem cl_cells {w:World} {b:Nat} {u v x:Value} {t:TypeId} (h:w.heap[b]? = some (.cells #[u,v,x] t (0,0))) :
 w.cell? ⟨b,0,none⟩=some u∧w.cell? ⟨b,1,none⟩=some v∧w.cell? ⟨b,2,none⟩=some x∧∀ j,w.frozen? ⟨b,j,none⟩=false:=by
 refine⟨?_,?_,?_,fun j=>frozen_of_row w b j _ t h⟩ <;> simp only[World.cell?,h] <;> rfl
theorem cl_set {w:World} {b j:Nat} {u v x y:Value} {t:TypeId} (h:w.heap[b]? = some (.cells #[u,v,x] t (0,0))):(w.setCell ⟨b,j,none⟩ y).heap[b]? = some (.cells (#[u,v,x].setIfInBounds j y) t (0,0)):=by
 have hlt:=lt_of_block h
 have h':w.heap[b]=.cells #[u,v,x] t (0,0):=by simpa [Array.getElem?_eq_getElem hlt] using h
 show (w.heap.modify b _)[b]? = _
 rw[Array.getElem?_eq_getElem (by simpa using hlt),Array.getElem_modify_self,h']
 rfl
theorem gr_setC {w w':World} {row:Option Nat} {b i:Nat} (y:Value) (hb:w.heap.size≤b) (h:w.grownBy w' row):w.grownBy (w'.setCell ⟨b,i,none⟩ y) row:=⟨h.os,h.tape,h.output,by simpa [World.setCell] using h.size,fun k hk hn=>(Below.heap_setCell _ _ _ _ (by simp;omega)).trans (h.block k hk hn)⟩
theorem rd_setC {rd n cap b i lo:Nat} {a:Option Addr} {w:World} (y:Value) (h0:rd<lo∧∀ cb off,a=some ⟨cb,off,none⟩→n≠0→cb<lo) (hb:lo≤b) (h:Rd rd a n cap w):Rd rd a n cap (w.setCell ⟨b,i,none⟩ y) :=
 h.kept (row:=some b) ⟨rfl,rfl,rfl,by simp[World.setCell],fun k _ hk=>Below.heap_setCell _ _ _ _ (fun e=>hk (by rw[e]))⟩ (by simp;omega) (fun cb off e hn=>by have:=h0.2 cb off e hn;simp;omega)
theorem own_setC {w:World} {b e s n:Nat} {v:Value} {xs:List Value} {p i:Nat} (y:Value) (h:w.ownsRow b e s v n xs) (hp:∀ k,v.ownBlock=some k→p≠k):(w.setCell ⟨p,i,none⟩ y).ownsRow b e s v n xs:=ownsRow_setCell_other h (fun e'=>hp _ e' rfl) y
theorem own_keepC {w w':World} {b e sz n:Nat} {v:Value} {xs:List Value} {row:Option Nat} (h:w.ownsRow b e sz v n xs) (g:w.grownBy w' row) (hne:∀ k,v.ownBlock=some k→row≠some k):w'.ownsRow b e sz v n xs :=
 h.kept g (by cases hv:v.ownBlock with | none=>exact .inl rfl | some k=>exact .inr (fun e'=>hne k hv e'.symm))
theorem hp_setC {w:World} {b g i:Nat} {x:Obj} (y:Value) (hne:b≠g) (h:w.heap[b]? = some x):(w.setCell ⟨g,i,none⟩ y).heap[b]? = some x:=(Below.heap_setCell _ _ _ _ hne).trans h
theorem gr_belowC {w w':World} (h:Below w.heap.size w w') (row:Option Nat):w.grownBy w' row:=⟨h.os,h.tape,h.output,h.size,fun k hk _=>h.block k hk⟩
set_option maxRecDepth 100000 in
set_option maxHeartbeats 2000000 in
theorem client_any (rd n cap:Nat) (a:Option Addr) (w:World) (hn:n≤1048576) (h:Rd rd a n cap w) :
 Calls Tryd.prog 11 #[.pointer (some ⟨rd,0,none⟩)] w fun e w'=>∃ (ks:List (List UInt8)) (g c q:Nat) (sn nx:Int),e=.returned (.agg #[.slice (some ⟨g,0,none⟩) q c,.int .i64 sn,.int .i64 nx])∧ks.length=3∧q≤3∧(∀ l∈ks,l.length=32)∧w'.ownsRow w.heap.size 9 1 (.slice (some ⟨g,0,none⟩) 3 c) 3 (scells ks)∧Rd rd a n cap w'∧w.grownBy w' (some rd):=by
 have HLO:Hid (rd<w.heap.size∧∀ cb off,a=some ⟨cb,off,none⟩→n≠0→cb<w.heap.size):=⟨h.lt,h.code⟩
 have X0:Below w.heap.size w (w.alloc (.cells #[.slice none 0 0,.int .i64 0,.int .i64 0] 26)):=(Below.refl _ _).alloc (Nat.le_refl _) _
 have Z0:Hid ((w.alloc (.cells #[.slice none 0 0,.int .i64 0,.int .i64 0] 26)).heap[w.heap.size]? = some (.cells #[.slice none 0 0,.int .i64 0,.int .i64 0] 26 (0,0))):=heap_alloc_new w _
 have K1:=spec_roots (w.alloc (.cells #[.slice none 0 0,.int .i64 0,.int .i64 0] 26))
 have HR0:Hid (Rd rd a n cap (w.alloc (.cells #[.slice none 0 0,.int .i64 0,.int .i64 0] 26))):=h.keptNone X0
 have HX0:Hid (Below w.heap.size w (w.alloc (.cells #[.slice none 0 0,.int .i64 0,.int .i64 0] 26))):=X0
 clear h X0
 go_enter Tryd.func11,Tryd.ntmps11
 go_wp2_with fail
 refine K1.mono ?_
 rintro e w1 ⟨g,c,ks,rfl,hk3,hk32,o1,b1⟩
 have HK:Hid (ks.length=3∧∀ l∈ks,l.length=32):=⟨hk3,hk32⟩
 have hgb:=own_base o1
 have HG:Hid (w.heap.size<g):=by rw[Hid];simp at hgb;omega
 have hc3:3≤c:=by
  rcases o1.2 with ⟨hv,_⟩ | ⟨g',cap',cur,hv,_,_,hle,_⟩
  · cases hv
  · cases hv;exact hle
 have O1:Hid (w1.ownsRow w.heap.size 9 1 (.slice (some ⟨g,0,none⟩) 3 c) 3 (scells ks)):=o1.mono (by simp)
 have Z1:Hid (w1.heap[w.heap.size]? = some (.cells #[.slice none 0 0,.int .i64 0,.int .i64 0] 26 (0,0))):=(b1.block _ (by simp)).trans Z0.out
 have R1:Hid (Rd rd a n cap w1):=HR0.out.keptNone b1
 have G1:Hid (w.grownBy w1 (some rd)):=(gr_belowC HX0.out _).trans (gr_belowC b1 _)
 clear K1 hk3 hk32 o1 b1 HR0 HX0 Z0 hgb
 go_wp2_with fail
 refine (below_any rd n cap 3 3 a w1 rfl (by omega) (by omega) hn R1.out).mono ?_
 rintro e w2 ⟨sx,hsx,rfl,R,G⟩
 have O2:Hid (w2.ownsRow w.heap.size 9 1 (.slice (some ⟨g,0,none⟩) 3 c) 3 (scells ks)):=own_keepC O1.out G (fun k hk=>by have:=(O1.out.lt k hk).1;have:=HLO.out.1;simp;omega)
 have Z2:Hid (w2.heap[w.heap.size]? = some (.cells #[.slice none 0 0,.int .i64 0,.int .i64 0] 26 (0,0))):=(G.block _ (lt_of_block Z1.out) (by have:=HLO.out.1;simp;omega)).trans Z1.out
 have R2:Hid (Rd rd a n cap w2):=R
 have G2:Hid (w.grownBy w2 (some rd)):=G1.out.trans G
 clear R G O1 Z1 R1 G1
 go_wp2_with fail
 refine (below_any rd n cap 4 4 a w2 rfl (by omega) (by omega) hn R2.out).mono ?_
 rintro e w3 ⟨ny,hny,rfl,R,G⟩
 have O3:Hid (w3.ownsRow w.heap.size 9 1 (.slice (some ⟨g,0,none⟩) 3 c) 3 (scells ks)):=own_keepC O2.out G (fun k hk=>by have:=(O2.out.lt k hk).1;have:=HLO.out.1;simp;omega)
 have Z3:Hid (w3.heap[w.heap.size]? = some (.cells #[.slice none 0 0,.int .i64 0,.int .i64 0] 26 (0,0))):=(G.block _ (lt_of_block Z2.out) (by have:=HLO.out.1;simp;omega)).trans Z2.out
 have R3:Hid (Rd rd a n cap w3):=R
 have G3:Hid (w.grownBy w3 (some rd)):=G2.out.trans G
 clear R G O2 Z2 R2 G2
 obtain⟨w4,hw4⟩:∃ W,W=w3.alloc (.cells #[.slice (some ⟨g,0,none⟩) 3 c,.int .i64 (sx:Int),.int .i64 (1+(ny:Int))] 26):=⟨_,rfl⟩
 have A4:Below w3.heap.size w3 w4:=by rw[hw4];exact (Below.refl _ _).alloc (Nat.le_refl _) _
 have GA:=gr_belowC A4 (some rd)
 have O4:Hid (w4.ownsRow w.heap.size 9 1 (.slice (some ⟨g,0,none⟩) 3 c) 3 (scells ks)):=own_keepC O3.out GA (fun k hk=>by have:=(O3.out.lt k hk).1;have:=HLO.out.1;simp;omega)
 have Z4:Hid (w4.heap[w.heap.size]? = some (.cells #[.slice none 0 0,.int .i64 0,.int .i64 0] 26 (0,0))):=(A4.block _ (lt_of_block Z3.out)).trans Z3.out
 have R4:Hid (Rd rd a n cap w4):=R3.out.keptNone A4
 have G4:Hid (w.grownBy w4 (some rd)):=G3.out.trans GA
 have Y4:Hid (w4.heap[w3.heap.size]? = some (.cells #[.slice (some ⟨g,0,none⟩) 3 c,.int .i64 (sx:Int),.int .i64 (1+(ny:Int))] 26 (0,0))):=by rw[hw4];exact heap_alloc_new w3 _
 have HS3:Hid (w.heap.size<w3.heap.size∧g<w3.heap.size):=⟨lt_of_block Z3.out,(O3.out.lt g (by simp[Value.ownBlock])).2⟩
 have hwr:IntKind.i64.wrap (1+(ny:Int))=1+(ny:Int):=i64_wrap_small _ (by omega) (by omega)
 have K5:=below_any rd n cap 24 24 a w4 rfl (by omega) (by omega) hn R4.out
 rw[hw4] at K5
 clear A4 GA O3 Z3 R3 G3
 go_wp2_with fail
 refine K5.mono ?_
 rintro e w5 ⟨z,hz,rfl,R,G⟩
 rw[←hw4] at G
 clear hw4 K5
 have O5:Hid (w5.ownsRow w.heap.size 9 1 (.slice (some ⟨g,0,none⟩) 3 c) 3 (scells ks)):=own_keepC O4.out G (fun k hk=>by have:=(O4.out.lt k hk).1;have:=HLO.out.1;simp;omega)
 have Z5:Hid (w5.heap[w.heap.size]? = some (.cells #[.slice none 0 0,.int .i64 0,.int .i64 0] 26 (0,0))):=(G.block _ (lt_of_block Z4.out) (by have:=HLO.out.1;simp;omega)).trans Z4.out
 have Y5:Hid (w5.heap[w3.heap.size]? = some (.cells #[.slice (some ⟨g,0,none⟩) 3 c,.int .i64 (sx:Int),.int .i64 (1+(ny:Int))] 26 (0,0))):=(G.block _ (lt_of_block Y4.out) (by have:=HLO.out.1;have:=HS3.out.1;simp;omega)).trans Y4.out
 have R5:Hid (Rd rd a n cap w5):=R
 have G5:Hid (w.grownBy w5 (some rd)):=G4.out.trans G
 clear R G O4 Z4 Y4 R4 G4 hwr
 by_cases z0:z=0
 · subst z0
   obtain⟨y0,y1,y2,yf⟩:=cl_cells Y5.out
   have yf0:=yf 0
   clear yf
   have hc0:(3:Int)≤(c:Int):=by omega
   go_wp2
   go_region_with (go_at_call 12;refine (below_any rd n cap 4 4 a _ rfl (by omega) (by omega) hn (by exact R5.out.keptNone ⟨rfl,rfl,rfl,Nat.le_refl _,fun _ _=>rfl⟩)).mono ?_;rintro e w6 ⟨qq,hqq,rfl,R,G⟩;have HR6:Hid (Rd rd a n cap w6):=R;have HG6:Hid (w5.grownBy w6 (some rd)):=⟨G.os,G.tape,G.output,G.size,G.block⟩;have Y6:=(HG6.out.block _ (lt_of_block Y5.out) (by have:=HLO.out.1;have:=HS3.out.1;(try simp) <;> omega)).trans Y5.out;obtain⟨x0,x1,x2,xf⟩:=cl_cells Y6;have xf0:=xf 0;have HY6:Hid (_=_):=Y6;have hq0:(0:Int)≤(qq:Int):=(by omega);have hq1:(qq:Int)≤(c:Int):=(by omega);clear R G xf Y6)
   all_goals
    have O7:Hid ((w6.setCell ⟨w3.heap.size,0,none⟩ (.slice (some ⟨g,0,none⟩) qq c)).ownsRow w.heap.size 9 1 (.slice (some ⟨g,0,none⟩) 3 c) 3 (scells ks)):=own_setC _ (own_keepC O5.out HG6.out (fun k hk=>by have:=(O5.out.lt k hk).1;have:=HLO.out.1;simp;omega)) (fun k hk=>by have:=HS3.out.2;simp[Value.ownBlock] at hk;omega)
    have Z7:Hid ((w6.setCell ⟨w3.heap.size,0,none⟩ (.slice (some ⟨g,0,none⟩) qq c)).heap[w.heap.size]? = some (.cells #[.slice none 0 0,.int .i64 0,.int .i64 0] 26 (0,0))):=hp_setC _ (by have:=HS3.out.1;omega) ((HG6.out.block _ (lt_of_block Z5.out) (by have:=HLO.out.1;simp;omega)).trans Z5.out)
    have Y7:Hid ((w6.setCell ⟨w3.heap.size,0,none⟩ (.slice (some ⟨g,0,none⟩) qq c)).heap[w3.heap.size]? = some (.cells #[.slice (some ⟨g,0,none⟩) qq c,.int .i64 (sx:Int),.int .i64 (1+(ny:Int))] 26 (0,0))):=cl_set (j:=0) HY6.out
    have R7:Hid (Rd rd a n cap (w6.setCell ⟨w3.heap.size,0,none⟩ (.slice (some ⟨g,0,none⟩) qq c))):=rd_setC _ HLO.out (by have:=HS3.out.1;omega) HR6.out
    have G7:Hid (w.grownBy (w6.setCell ⟨w3.heap.size,0,none⟩ (.slice (some ⟨g,0,none⟩) qq c)) (some rd)):=gr_setC _ (by have:=HS3.out.1;omega) (G5.out.trans HG6.out)
    obtain⟨y0,y1,y2,_⟩:=cl_cells Y7.out
    obtain⟨z0,z1,z2,zf⟩:=cl_cells Z7.out
    have zf0:=zf 0
    have zf1:=zf 1
    have zf2:=zf 2
    clear zf
    have F1:Hid (((((w6.setCell ⟨w3.heap.size,0,none⟩ (.slice (some ⟨g,0,none⟩) qq c)).setCell ⟨w.heap.size,0,none⟩ (.slice (some ⟨g,0,none⟩) qq c)).setCell ⟨w.heap.size,1,none⟩ (.int .i64 (sx:Int))).setCell ⟨w.heap.size,2,none⟩ (.int .i64 (1+(ny:Int)))).heap[w.heap.size]? = some (.cells #[.slice (some ⟨g,0,none⟩) qq c,.int .i64 (sx:Int),.int .i64 (1+(ny:Int))] 26 (0,0))):=cl_set (j:=2) (cl_set (j:=1) (cl_set (j:=0) Z7.out))
    have F2:Hid (((((w6.setCell ⟨w3.heap.size,0,none⟩ (.slice (some ⟨g,0,none⟩) qq c)).setCell ⟨w.heap.size,0,none⟩ (.slice (some ⟨g,0,none⟩) qq c)).setCell ⟨w.heap.size,1,none⟩ (.int .i64 (sx:Int))).setCell ⟨w.heap.size,2,none⟩ (.int .i64 (1+(ny:Int)))).ownsRow w.heap.size 9 1 (.slice (some ⟨g,0,none⟩) 3 c) 3 (scells ks)):=own_setC _ (own_setC _ (own_setC _ O7.out (fun k hk=>by have:=HG.out;simp[Value.ownBlock] at hk;omega)) (fun k hk=>by have:=HG.out;simp[Value.ownBlock] at hk;omega)) (fun k hk=>by have:=HG.out;simp[Value.ownBlock] at hk;omega)
    have F3:Hid (Rd rd a n cap ((((w6.setCell ⟨w3.heap.size,0,none⟩ (.slice (some ⟨g,0,none⟩) qq c)).setCell ⟨w.heap.size,0,none⟩ (.slice (some ⟨g,0,none⟩) qq c)).setCell ⟨w.heap.size,1,none⟩ (.int .i64 (sx:Int))).setCell ⟨w.heap.size,2,none⟩ (.int .i64 (1+(ny:Int))))):=rd_setC _ HLO.out (Nat.le_refl _) (rd_setC _ HLO.out (Nat.le_refl _) (rd_setC _ HLO.out (Nat.le_refl _) R7.out))
    have F4:Hid (w.grownBy ((((w6.setCell ⟨w3.heap.size,0,none⟩ (.slice (some ⟨g,0,none⟩) qq c)).setCell ⟨w.heap.size,0,none⟩ (.slice (some ⟨g,0,none⟩) qq c)).setCell ⟨w.heap.size,1,none⟩ (.int .i64 (sx:Int))).setCell ⟨w.heap.size,2,none⟩ (.int .i64 (1+(ny:Int)))) (some rd)):=gr_setC _ (Nat.le_refl _) (gr_setC _ (Nat.le_refl _) (gr_setC _ (Nat.le_refl _) G7.out))
    go_wp2
    exact bodyPost_ret (v:=.agg #[.slice (some ⟨g,0,none⟩) qq c,.int .i64 (sx:Int),.int .i64 (1+(ny:Int))]) (results_cell_row rfl _ _ w.heap.size 26 _ (0,0) _ rfl F1.out Tryd.underlying26 rfl (by kernel_rfl)) rfl ⟨ks,g,c,qq,(sx:Int),(1+(ny:Int)),rfl,HK.out.1,by omega,HK.out.2,F2.out,F3.out,F4.out⟩
 · have z0b:((z:Int) == 0)=false:=by rw[beq_eq_false_iff_ne];omega
   by_cases z1:z=1
   · subst z1
     have K6:=offB_any rd n cap a w5 hn R5.out
     go_wp2_with fail
     refine K6.mono ?_
     rintro e w6 ⟨nx,rfl,R,G⟩
     have Y6:Hid (w6.heap[w3.heap.size]? = some (.cells #[.slice (some ⟨g,0,none⟩) 3 c,.int .i64 (sx:Int),.int .i64 (1+(ny:Int))] 26 (0,0))):=(G.block _ (lt_of_block Y5.out) (by have:=HLO.out.1;have:=HS3.out.1;simp;omega)).trans Y5.out
     have Y7:Hid ((w6.setCell ⟨w3.heap.size,2,none⟩ (.int .i64 nx)).heap[w3.heap.size]? = some (.cells #[.slice (some ⟨g,0,none⟩) 3 c,.int .i64 (sx:Int),.int .i64 nx] 26 (0,0))):=cl_set (j:=2) Y6.out
     obtain⟨x0,x1,x2,xf⟩:=cl_cells Y6.out
     have xf2:=xf 2
     clear xf
     have O7:Hid ((w6.setCell ⟨w3.heap.size,2,none⟩ (.int .i64 nx)).ownsRow w.heap.size 9 1 (.slice (some ⟨g,0,none⟩) 3 c) 3 (scells ks)):=own_setC _ (own_keepC O5.out G (fun k hk=>by have:=(O5.out.lt k hk).1;have:=HLO.out.1;simp;omega)) (fun k hk=>by have:=HS3.out.2;simp[Value.ownBlock] at hk;omega)
     have Z7:Hid ((w6.setCell ⟨w3.heap.size,2,none⟩ (.int .i64 nx)).heap[w.heap.size]? = some (.cells #[.slice none 0 0,.int .i64 0,.int .i64 0] 26 (0,0))):=hp_setC _ (by have:=HS3.out.1;omega) ((G.block _ (lt_of_block Z5.out) (by have:=HLO.out.1;simp;omega)).trans Z5.out)
     have R7:Hid (Rd rd a n cap (w6.setCell ⟨w3.heap.size,2,none⟩ (.int .i64 nx))):=rd_setC _ HLO.out (by have:=HS3.out.1;omega) R
     have G7:Hid (w.grownBy (w6.setCell ⟨w3.heap.size,2,none⟩ (.int .i64 nx)) (some rd)):=gr_setC _ (by have:=HS3.out.1;omega) (G5.out.trans G)
     clear K6 R G O5 Z5 Y5 R5 G5 Y6
     obtain⟨y0,y1,y2,_⟩:=cl_cells Y7.out
     obtain⟨z0,z1,z2,zf⟩:=cl_cells Z7.out
     have zf0:=zf 0
     have zf1:=zf 1
     have zf2:=zf 2
     clear zf
     have F1:Hid (((((w6.setCell ⟨w3.heap.size,2,none⟩ (.int .i64 nx)).setCell ⟨w.heap.size,0,none⟩ (.slice (some ⟨g,0,none⟩) 3 c)).setCell ⟨w.heap.size,1,none⟩ (.int .i64 (sx:Int))).setCell ⟨w.heap.size,2,none⟩ (.int .i64 nx)).heap[w.heap.size]? = some (.cells #[.slice (some ⟨g,0,none⟩) 3 c,.int .i64 (sx:Int),.int .i64 nx] 26 (0,0))):=cl_set (j:=2) (cl_set (j:=1) (cl_set (j:=0) Z7.out))
     have F2:Hid (((((w6.setCell ⟨w3.heap.size,2,none⟩ (.int .i64 nx)).setCell ⟨w.heap.size,0,none⟩ (.slice (some ⟨g,0,none⟩) 3 c)).setCell ⟨w.heap.size,1,none⟩ (.int .i64 (sx:Int))).setCell ⟨w.heap.size,2,none⟩ (.int .i64 nx)).ownsRow w.heap.size 9 1 (.slice (some ⟨g,0,none⟩) 3 c) 3 (scells ks)):=own_setC _ (own_setC _ (own_setC _ O7.out (fun k hk=>by have:=HG.out;simp[Value.ownBlock] at hk;omega)) (fun k hk=>by have:=HG.out;simp[Value.ownBlock] at hk;omega)) (fun k hk=>by have:=HG.out;simp[Value.ownBlock] at hk;omega)
     have F3:Hid (Rd rd a n cap ((((w6.setCell ⟨w3.heap.size,2,none⟩ (.int .i64 nx)).setCell ⟨w.heap.size,0,none⟩ (.slice (some ⟨g,0,none⟩) 3 c)).setCell ⟨w.heap.size,1,none⟩ (.int .i64 (sx:Int))).setCell ⟨w.heap.size,2,none⟩ (.int .i64 nx))):=rd_setC _ HLO.out (Nat.le_refl _) (rd_setC _ HLO.out (Nat.le_refl _) (rd_setC _ HLO.out (Nat.le_refl _) R7.out))
     have F4:Hid (w.grownBy ((((w6.setCell ⟨w3.heap.size,2,none⟩ (.int .i64 nx)).setCell ⟨w.heap.size,0,none⟩ (.slice (some ⟨g,0,none⟩) 3 c)).setCell ⟨w.heap.size,1,none⟩ (.int .i64 (sx:Int))).setCell ⟨w.heap.size,2,none⟩ (.int .i64 nx)) (some rd)):=gr_setC _ (Nat.le_refl _) (gr_setC _ (Nat.le_refl _) (gr_setC _ (Nat.le_refl _) G7.out))
     go_wp2
     exact bodyPost_ret (v:=.agg #[.slice (some ⟨g,0,none⟩) 3 c,.int .i64 (sx:Int),.int .i64 nx]) (results_cell_row rfl _ _ w.heap.size 26 _ (0,0) _ rfl F1.out Tryd.underlying26 rfl (by kernel_rfl)) rfl ⟨ks,g,c,3,(sx:Int),nx,rfl,HK.out.1,by omega,HK.out.2,F2.out,F3.out,F4.out⟩
   · have z1b:((z:Int) == 1)=false:=by rw[beq_eq_false_iff_ne];omega
     obtain⟨y0,y1,y2,_⟩:=cl_cells Y5.out
     obtain⟨z0,z1,z2,zf⟩:=cl_cells Z5.out
     have zf0:=zf 0
     have zf1:=zf 1
     have zf2:=zf 2
     clear zf
     have F1:Hid ((((w5.setCell ⟨w.heap.size,0,none⟩ (.slice (some ⟨g,0,none⟩) 3 c)).setCell ⟨w.heap.size,1,none⟩ (.int .i64 (sx:Int))).setCell ⟨w.heap.size,2,none⟩ (.int .i64 (1+(ny:Int)))).heap[w.heap.size]? = some (.cells #[.slice (some ⟨g,0,none⟩) 3 c,.int .i64 (sx:Int),.int .i64 (1+(ny:Int))] 26 (0,0))):=cl_set (j:=2) (cl_set (j:=1) (cl_set (j:=0) Z5.out))
     have F2:Hid ((((w5.setCell ⟨w.heap.size,0,none⟩ (.slice (some ⟨g,0,none⟩) 3 c)).setCell ⟨w.heap.size,1,none⟩ (.int .i64 (sx:Int))).setCell ⟨w.heap.size,2,none⟩ (.int .i64 (1+(ny:Int)))).ownsRow w.heap.size 9 1 (.slice (some ⟨g,0,none⟩) 3 c) 3 (scells ks)):=own_setC _ (own_setC _ (own_setC _ O5.out (fun k hk=>by have:=HG.out;simp[Value.ownBlock] at hk;omega)) (fun k hk=>by have:=HG.out;simp[Value.ownBlock] at hk;omega)) (fun k hk=>by have:=HG.out;simp[Value.ownBlock] at hk;omega)
     have F3:Hid (Rd rd a n cap (((w5.setCell ⟨w.heap.size,0,none⟩ (.slice (some ⟨g,0,none⟩) 3 c)).setCell ⟨w.heap.size,1,none⟩ (.int .i64 (sx:Int))).setCell ⟨w.heap.size,2,none⟩ (.int .i64 (1+(ny:Int))))):=rd_setC _ HLO.out (Nat.le_refl _) (rd_setC _ HLO.out (Nat.le_refl _) (rd_setC _ HLO.out (Nat.le_refl _) R5.out))
     have F4:Hid (w.grownBy (((w5.setCell ⟨w.heap.size,0,none⟩ (.slice (some ⟨g,0,none⟩) 3 c)).setCell ⟨w.heap.size,1,none⟩ (.int .i64 (sx:Int))).setCell ⟨w.heap.size,2,none⟩ (.int .i64 (1+(ny:Int)))) (some rd)):=gr_setC _ (Nat.le_refl _) (gr_setC _ (Nat.le_refl _) (gr_setC _ (Nat.le_refl _) G5.out))
     go_wp2
     exact bodyPost_ret (v:=.agg #[.slice (some ⟨g,0,none⟩) 3 c,.int .i64 (sx:Int),.int .i64 (1+(ny:Int))]) (results_cell_row rfl _ _ w.heap.size 26 _ (0,0) _ rfl F1.out Tryd.underlying26 rfl (by kernel_rfl)) rfl ⟨ks,g,c,3,(sx:Int),(1+(ny:Int)),rfl,HK.out.1,by omega,HK.out.2,F2.out,F3.out,F4.out⟩
theorem isStrs_take {w:World} {base e n g c q:Nat} {ks:List (List UInt8)} (h:w.ownsRow base e 1 (.slice (some ⟨g,0,none⟩) n c) n (scells ks)):IsStrs w (some ⟨g,0,none⟩) (ks.take q):=by
 have hn:n=ks.length:=by have:=h.1;rw[scells_length] at this;omega
 refine .inr ⟨g,0,rfl,fun j hj=>?_⟩
 rw[List.length_take] at hj
 rw[Nat.zero_add,h.cellAt j (by omega),scells_at ks j (by omega),List.getElem_take]
theorem results_cttC {P:Program} {fn:Func} {p r r2:Tmp} {ty:TypeId} (h:fn.results=#[.cell p ty,.tmp r,.tmp r2]) (tmps:Array Value) (w:World) (g:Nat) (t:TypeId) (cs:Array Value) (d:TypeDesc)
 (hp:tmps.getD p undef=.pointer (some ⟨g,0,none⟩)) (hg:w.heap[g]? = some (.cells cs t (0,0))) (hu:P.underlying ty=some d) (hd:(match d with | .struct _ | .array _ _=>true | _=>false)=true) (hi:(P.info? ty).map (·.size)=some cs.size) (vb vc:Value) (hb:tmps.getD r undef=vb) (hc:tmps.getD r2 undef=vc) :
 (results fn tmps).run P w=.ok (.tuple #[.agg cs,vb,vc]) w:=by
 subst hb hc
 have hp':tmps[p]?.getD undef=.pointer (some ⟨g,0,none⟩):=by simpa using hp
 simp[results,h,hp',asAddr,run_loadVar_row w g t ty cs (0,0) d hg hu hd hi]
set_option maxRecDepth 100000 in
set_option maxHeartbeats 2000000 in
theorem drawNextBatch (n cap:Nat) (a:Option Addr) (w:World) (hn:n≤1048576) (h:Code w a n) :
 Calls Tryd.prog 5 #[.slice a n cap] w fun e w'=>∃ (lk:List (List UInt8)) (g c:Nat) (sn nx id:Int) (os:List OpL) (a2:Option Addr) (c2:Nat),e=.returned (.tuple #[.agg #[.slice (some ⟨g,0,none⟩) lk.length c,.int .i64 sn,.int .i64 nx],.int .i64 id,.slice a2 os.length c2])∧lk.length≤3∧(∀ l∈lk,l.length=32)∧os.length≤4∧smallO os∧IsStrs w' (some ⟨g,0,none⟩) lk∧IsOps w' a2 os∧(a2=none→c2=0)∧(a2=none∨∃ g off,a2=some ⟨g,off,none⟩)∧Below w.heap.size w w':=by
 have B0:Below w.heap.size w (w.alloc (.cells #[.slice none 0 0,.int .i64 0,.int .i64 0] 26)):=(Below.refl _ _).alloc (Nat.le_refl _) _
 have X0:=heap_alloc_new w (.cells #[.slice none 0 0,.int .i64 0,.int .i64 0] 26)
 have H1:=open_any n cap a (w.alloc (.cells #[.slice none 0 0,.int .i64 0,.int .i64 0] 26)) (h.later B0)
 have s0:(w.alloc (.cells #[.slice none 0 0,.int .i64 0,.int .i64 0] 26)).heap.size=w.heap.size+1:=by simp
 clear h
 go_enter Tryd.func5,Tryd.ntmps5
 go_wp2_with fail
 refine H1.mono ?_
 rintro e w1 ⟨rfl,hR1,b1⟩
 rw[s0] at hR1 b1
 have R1:Hid (Rd (w.heap.size+1) a n cap w1):=hR1
 have hlt1:=hR1.lt
 have Z1:Hid (w1.heap[w.heap.size]? = some (.cells #[.slice none 0 0,.int .i64 0,.int .i64 0] 26 (0,0))):=(b1.block w.heap.size (by omega)).trans X0
 have B1:Hid (Below w.heap.size w w1):=B0.trans (b1.mono (by omega))
 clear hR1 H1 X0 B0 b1
 simp only[s0]
 have K2:=client_any (w.heap.size+1) n cap a w1 hn R1.out
 go_wp2_with fail
 refine K2.mono ?_
 rintro e w2 ⟨ks,g,c,q,sn,nx,rfl,hk3,hq3,hk32,o2,R,G⟩
 have HK:Hid (ks.length=3∧q≤3∧∀ l∈ks,l.length=32):=⟨hk3,hq3,hk32⟩
 have Z2:Hid (w2.heap[w.heap.size]? = some (.cells #[.slice none 0 0,.int .i64 0,.int .i64 0] 26 (0,0))):=(G.block w.heap.size (by omega) (by simp)).trans Z1.out
 have B2:Hid (Below w.heap.size w w2):=B1.out.grown G B1.out.size (fun k hk=>by simp at hk;omega)
 obtain⟨w3,hw3⟩:∃ W,W=w2.alloc (.cells #[.slice (some ⟨g,0,none⟩) q c,.int .i64 sn,.int .i64 nx] 26):=⟨_,rfl⟩
 have A3:Below w2.heap.size w2 w3:=by rw[hw3];exact (Below.refl _ _).alloc (Nat.le_refl _) _
 have Y3:Hid (w3.heap[w2.heap.size]? = some (.cells #[.slice (some ⟨g,0,none⟩) q c,.int .i64 sn,.int .i64 nx] 26 (0,0))):=by rw[hw3];exact heap_alloc_new w2 _
 have O3:Hid (w3.ownsRow w1.heap.size 9 1 (.slice (some ⟨g,0,none⟩) 3 c) 3 (scells ks)):=own_keepC o2 (gr_belowC A3 none) (fun k hk=>by simp)
 have R3:Hid (Rd (w.heap.size+1) a n cap w3):=R.keptNone A3
 have Z3:Hid (w3.heap[w.heap.size]? = some (.cells #[.slice none 0 0,.int .i64 0,.int .i64 0] 26 (0,0))):=(A3.block _ (lt_of_block Z2.out)).trans Z2.out
 have B3:Hid (Below w.heap.size w w3):=B2.out.trans (A3.mono B2.out.size)
 have HS:Hid (w.heap.size+1<w1.heap.size∧w1.heap.size≤g∧g<w2.heap.size∧w1.heap.size≤w2.heap.size∧w2.heap.size<w3.heap.size):=⟨hlt1,own_base o2,(o2.lt g (by simp[Value.ownBlock])).2,G.size,lt_of_block Y3.out⟩
 clear K2 hk3 hq3 hk32 o2 R G Z2 B2 A3 R1 Z1 B1 hlt1
 obtain⟨y0,y1,y2,_⟩:=cl_cells Y3.out
 rw[hw3] at y0 y1 y2
 have HL3:Hid (w.heap.size+1<w3.heap.size):=by have:=HS.out;rw[Hid];omega
 go_wp2
 rw[←hw3] at y0 y1 y2 ⊢
 clear hw3
 go_region_with (first
  | (go_at_call 12
     refine (below_any (w.heap.size+1) n cap 3 3 a _ rfl (by omega) (by omega) hn (by exact R3.out.keptNone ⟨rfl,rfl,rfl,Nat.le_refl _,fun _ _=>rfl⟩)).mono ?_
     rintro e w4 ⟨x,hx,rfl,R,G⟩
     have G34:Hid (w3.grownBy w4 (some (w.heap.size+1))):=⟨G.os,G.tape,G.output,G.size,G.block⟩
     have R4:Hid (Rd (w.heap.size+1) a n cap w4):=R
     have Y4:Hid (w4.heap[w2.heap.size]? = some (.cells #[.slice (some ⟨g,0,none⟩) q c,.int .i64 sn,.int .i64 nx] 26 (0,0))):=(G34.out.block _ (lt_of_block Y3.out) (by have:=HS.out;simp;omega)).trans Y3.out
     obtain⟨p0,p1,p2,_⟩:=cl_cells Y4.out
     have hwx:IntKind.i64.wrap (1+(x:Int))=1+(x:Int):=i64_wrap_small _ (by omega) (by omega)
     clear R G)
  | (go_at_call 13
     refine (ops_any (w.heap.size+1) n cap a w4 hn R4.out).mono ?_
     rintro e w5 ⟨os,a2,c2,hol,hso,rfl,oo,R,G⟩
     have Y5:Hid (w5.heap[w2.heap.size]? = some (.cells #[.slice (some ⟨g,0,none⟩) q c,.int .i64 sn,.int .i64 nx] 26 (0,0))):=(G.block _ (lt_of_block Y4.out) (by have:=HS.out;simp;omega)).trans Y4.out
     have Z5:Hid (w5.heap[w.heap.size]? = some (.cells #[.slice none 0 0,.int .i64 0,.int .i64 0] 26 (0,0))):=(G.block _ (by have:=G34.out.size;have:=HL3.out;omega) (by simp)).trans ((G34.out.block _ (lt_of_block Z3.out) (by simp)).trans Z3.out)
     have O5:Hid (w5.ownsRow w1.heap.size 9 1 (.slice (some ⟨g,0,none⟩) 3 c) 3 (scells ks)):=own_keepC (own_keepC O3.out G34.out (fun k hk=>by have:=(O3.out.lt k hk).1;have:=HS.out.1;simp;omega)) G (fun k hk=>by have:=(O3.out.lt k hk).1;have:=HS.out.1;simp;omega)
     have P5:Hid (w5.ownsRow w4.heap.size 52 3 (.slice a2 os.length c2) os.length (ocells os)):=oo
     have B5:Hid (Below w.heap.size w w5):=(B3.out.grown G34.out B3.out.size (fun k hk=>by simp at hk;omega)).grown G (by have:=B3.out.size;have:=G34.out.size;omega) (fun k hk=>by simp at hk;omega)
     have HSO:Hid (smallO os∧os.length≤4∧w3.heap.size≤w4.heap.size):=⟨hso,hol,G34.out.size⟩
     obtain⟨x0,x1,x2,_⟩:=cl_cells Y5.out
     obtain⟨z0,z1,z2,zf⟩:=cl_cells Z5.out
     have zf0:=zf 0
     have zf1:=zf 1
     have zf2:=zf 2
     clear R G oo zf hso))
 all_goals
  have F1:Hid ((((w5.setCell ⟨w.heap.size,0,none⟩ (.slice (some ⟨g,0,none⟩) q c)).setCell ⟨w.heap.size,1,none⟩ (.int .i64 sn)).setCell ⟨w.heap.size,2,none⟩ (.int .i64 nx)).heap[w.heap.size]? = some (.cells #[.slice (some ⟨g,0,none⟩) q c,.int .i64 sn,.int .i64 nx] 26 (0,0))):=cl_set (j:=2) (cl_set (j:=1) (cl_set (j:=0) Z5.out))
  have F2:Hid (IsStrs (((w5.setCell ⟨w.heap.size,0,none⟩ (.slice (some ⟨g,0,none⟩) q c)).setCell ⟨w.heap.size,1,none⟩ (.int .i64 sn)).setCell ⟨w.heap.size,2,none⟩ (.int .i64 nx)) (some ⟨g,0,none⟩) (ks.take q)):=isStrs_take (own_setC _ (own_setC _ (own_setC _ O5.out (fun k hk=>by have:=HS.out;simp[Value.ownBlock] at hk;omega)) (fun k hk=>by have:=HS.out;simp[Value.ownBlock] at hk;omega)) (fun k hk=>by have:=HS.out;simp[Value.ownBlock] at hk;omega))
  have F3:Hid ((((w5.setCell ⟨w.heap.size,0,none⟩ (.slice (some ⟨g,0,none⟩) q c)).setCell ⟨w.heap.size,1,none⟩ (.int .i64 sn)).setCell ⟨w.heap.size,2,none⟩ (.int .i64 nx)).ownsRow w4.heap.size 52 3 (.slice a2 os.length c2) os.length (ocells os)):=own_setC _ (own_setC _ (own_setC _ P5.out (fun k hk=>by have:=(P5.out.lt k hk).1;have:=HSO.out.2.2;have:=HL3.out;omega)) (fun k hk=>by have:=(P5.out.lt k hk).1;have:=HSO.out.2.2;have:=HL3.out;omega)) (fun k hk=>by have:=(P5.out.lt k hk).1;have:=HSO.out.2.2;have:=HL3.out;omega)
  have F4:Hid (Below w.heap.size w (((w5.setCell ⟨w.heap.size,0,none⟩ (.slice (some ⟨g,0,none⟩) q c)).setCell ⟨w.heap.size,1,none⟩ (.int .i64 sn)).setCell ⟨w.heap.size,2,none⟩ (.int .i64 nx))):=((B5.out.setCell (Nat.le_refl _) _).setCell (Nat.le_refl _) _).setCell (Nat.le_refl _) _
  have HQ:Hid ((ks.take q).length=q):=by rw[Hid,List.length_take];have:=HK.out;omega
  go_wp2
  refine bodyPost_ret (v:=.tuple #[.agg #[.slice (some ⟨g,0,none⟩) q c,.int .i64 sn,.int .i64 nx],.int .i64 (1+(x:Int)),.slice a2 os.length c2]) (results_cttC rfl _ _ w.heap.size 26 _ _ rfl F1.out Tryd.underlying26 rfl (by kernel_rfl) _ _ rfl rfl) rfl ⟨ks.take q,g,c,sn,nx,_,os,a2,c2,by rw[HQ.out],by have:=HQ.out;have:=HK.out;omega,fun l hl=>HK.out.2.2 l (List.mem_of_mem_take hl),HSO.out.2.1,HSO.out.1,F2.out,(isOps_own F3.out).2.2,?_,?_,F4.out⟩
  · rcases own_cases3 F3.out with ⟨hv,_,_⟩ | ⟨g9,c9,hv,_⟩ <;> simp only[Value.slice.injEq] at hv
    · exact fun _=>hv.2.2
    · rw[hv.1];simp
  · rcases own_cases3 F3.out with ⟨hv,_,_⟩ | ⟨g9,c9,hv,_⟩ <;> simp only[Value.slice.injEq] at hv
    · exact .inl hv.1
    · exact .inr ⟨_,_,hv.1⟩
end Go.Proofs.YtgjddhlmmljabaaDoor
