/-
 Contracts: slices.Clone of texts and of ops; with what client a caller goes on (clientBehind).
-/
import Derived.Test.YtbpgpmchnjbclaaDoorNbS
import Derived.Test.YtbpgpmchnjbclaaDoorIsErr
namespace Go.Proofs.YtbpgpmchnjbclaaDoor
open Go.RowKit
set_option linter.unusedVariables false
set_option maxRecDepth 100000 in
set_option maxHeartbeats 1000000 in
theorem clone_strs (b off cap:Nat) (ks:List (List UInt8)) (w:World) (hl:ks.length≤1048576) (hs:IsStrs w (some ⟨b,off,none⟩) ks) :
 Calls Tryd.prog 49 #[.slice (some ⟨b,off,none⟩) ks.length cap] w fun e w'=>∃ (a:Option Addr) (c:Nat),e=.returned (.slice a ks.length c)∧w'.ownsRow w.heap.size 9 1 (.slice a ks.length c) ks.length (scells ks)∧Below w.heap.size w w':=by
 obtain⟨i0,hi0,hz0,hz1,hz2⟩:=info_parts info9n
 have B0:Below w.heap.size w (w.alloc (.cells #[] 9)):=(Below.refl _ _).alloc (Nat.le_refl _) _
 have HB0:Hid (Below w.heap.size w (w.alloc (.cells #[] 9))):=B0
 have HO0:=hidOwn (World.ownsRow_lit (e:=9) (size:=1) w #[] 0 (base:=w.heap.size) (Nat.le_refl _) (Nat.zero_le _) rfl)
 have HI0:Hid (IsStrs (w.alloc (.cells #[] 9)) (some ⟨b,off,none⟩) ks):=strs_later hs B0
 have hnil:∀ W,(binOp .eql 22 (.slice (some ⟨b,off,none⟩) ks.length cap) (.slice none 0 0)).run Tryd.prog W=.ok (.bool false) W:=fun W=>by first | rfl | (simp[binOp,Op.equal,run_underlying Tryd.underlying22])
 clear hs B0
 go_enter Tryd.func49,Tryd.ntmps49
 go_wp2_with (first
  | (at_builtin; refine wpList_append_strs rfl _ _ 22 rfl w.heap.size 9 i0 (.string ⟨#[]⟩) 16 Tryd.underlying22 hi0 hz0 hz1 hz2 rfl (.slice (some ⟨w.heap.size, 0, none⟩) 0 0) 0 [] rfl HO0.out (some ⟨b, off, none⟩) ks ks.length cap rfl rfl (by simp) HI0.out (by unfold maxLen; omega) (by omega) (by simp) ?_; intro v3 w3 o3 g3; obtain ⟨a3, m3, c3, rfl⟩ := own_sliceT o3
     have O3:Hid (w3.ownsRow w.heap.size 9 1 (.slice a3 m3 c3) ks.length (scells ks)):=(by rw[Hid];simpa using o3)
     have B3:Hid (Below w.heap.size w w3):=HB0.out.grown g3 HB0.out.size (fun q hq=>(HO0.out.lt q hq).1)
     clear o3 g3))
 obtain⟨hm3,_,_⟩:=strs_own O3.out
 subst hm3
 first | go_ret | (go_wp2;go_ret)
 exact⟨a3,c3,rfl,O3.out,B3.out⟩
set_option maxRecDepth 100000 in
theorem clone_strs0 (w:World):Calls Tryd.prog 49 #[.slice none 0 0] w fun e w'=>e=.returned (.slice none 0 0)∧w'=w:=by
 have hnil:∀ W,(binOp .eql 22 (.slice none 0 0) (.slice none 0 0)).run Tryd.prog W=.ok (.bool true) W:=fun W=>by first | rfl | (simp[binOp,Op.equal,run_underlying Tryd.underlying22])
 go_enter Tryd.func49,Tryd.ntmps49
 go_wp2
 go_ret
 exact⟨rfl,rfl⟩
theorem clone_keys (a:Option Addr) (cap:Nat) (ks:List (List UInt8)) (w:World) (hl:ks.length≤1048576) (hca:a=none→cap=0) (haa:a=none∨∃ b off,a=some ⟨b,off,none⟩) (hs:IsStrs w a ks) :
 Calls Tryd.prog 49 #[.slice a ks.length cap] w fun e w'=>∃ (a:Option Addr) (c:Nat),e=.returned (.slice a ks.length c)∧w'.ownsRow w.heap.size 9 1 (.slice a ks.length c) ks.length (scells ks)∧Below w.heap.size w w':=by
 rcases haa with rfl | ⟨b,off,rfl⟩
 · have hk:ks=[]:=by
    rcases hs with h | ⟨b,off,h,_⟩
    · exact h
    · cases h
   subst hk
   obtain rfl:=hca rfl
   refine (clone_strs0 w).mono ?_
   rintro e w' ⟨rfl,rfl⟩
   exact⟨none,0,rfl,World.ownsRow_nil _ _ _ _,Below.refl _ _⟩
 · exact clone_strs b off cap ks w hl hs
structure Errs (w:World) (e0 e1 e2:Addr):Prop where
 g0:w.cell? ⟨0,0,none⟩=some (.iface 131 (.pointer (some e0)))
 g1:w.cell? ⟨1,0,none⟩=some (.iface 131 (.pointer (some e1)))
 g2:w.cell? ⟨2,0,none⟩=some (.iface 131 (.pointer (some e2)))
 r0:∃ cs t,w.heap[e0.block]? = some (.cells cs t (0,0))
 r1:∃ cs t,w.heap[e1.block]? = some (.cells cs t (0,0))
 r2:∃ cs t,w.heap[e2.block]? = some (.cells cs t (0,0))
 n1:e1≠e0
 n2:e2≠e0
theorem Errs.later {w w':World} {e0 e1 e2:Addr} (h:Errs w e0 e1 e2) (hb:Below w.heap.size w w'):Errs w' e0 e1 e2:=by
 obtain⟨g0,g1,g2,⟨c0,t0,r0⟩,⟨c1,t1,r1⟩,⟨c2,t2,r2⟩,n1,n2⟩:=h
 exact⟨(hb.cell (World.block_lt_of_cell? w _ g0)).trans g0,(hb.cell (World.block_lt_of_cell? w _ g1)).trans g1,(hb.cell (World.block_lt_of_cell? w _ g2)).trans g2,⟨c0,t0,(hb.block _ (lt_of_block r0)).trans r0⟩,⟨c1,t1,(hb.block _ (lt_of_block r1)).trans r1⟩,⟨c2,t2,(hb.block _ (lt_of_block r2)).trans r2⟩,n1,n2⟩
set_option maxRecDepth 100000 in
set_option maxHeartbeats 2000000 in
theorem impl_behind_nil (a:Option Addr) (cap:Nat) (ks:List (List UInt8)) (sn nx:Int) (w:World) (e0 e1 e2:Addr) (hE:Errs w e0 e1 e2) (hl:ks.length≤1048576) (hca:a=none→cap=0) (haa:a=none∨∃ b off,a=some ⟨b,off,none⟩) (hs:IsStrs w a ks) :
 Calls Tryd.prog 31 #[.agg #[.slice a ks.length cap,.int .i64 sn,.int .i64 nx],.nilIface] w fun e w'=>∃ (a':Option Addr) (c':Nat),e=.returned (.agg #[.slice a' ks.length c',.int .i64 sn,.int .i64 nx])∧w'.ownsRow w.heap.size 9 1 (.slice a' ks.length c') ks.length (scells ks)∧Below w.heap.size w w':=by
 have B0:Below w.heap.size w ((w.alloc (.cells #[.slice a ks.length cap,.int .i64 sn,.int .i64 nx] 28)).alloc (.cells #[.slice none 0 0,.int .i64 0,.int .i64 0] 28)):=((Below.refl _ _).alloc (Nat.le_refl _) _).alloc (by simp) _
 have x0:((w.alloc (.cells #[.slice a ks.length cap,.int .i64 sn,.int .i64 nx] 28)).alloc (.cells #[.slice none 0 0,.int .i64 0,.int .i64 0] 28)).heap[w.heap.size]? = some (.cells #[.slice a ks.length cap,.int .i64 sn,.int .i64 nx] 28 (0,0)):=(Below.heap_alloc _ _ _ (by simp)).trans (heap_alloc_new w _)
 have y0:((w.alloc (.cells #[.slice a ks.length cap,.int .i64 sn,.int .i64 nx] 28)).alloc (.cells #[.slice none 0 0,.int .i64 0,.int .i64 0] 28)).heap[w.heap.size+1]? = some (.cells #[.slice none 0 0,.int .i64 0,.int .i64 0] 28 (0,0)):=by
  have:=heap_alloc_new (w.alloc (.cells #[.slice a ks.length cap,.int .i64 sn,.int .i64 nx] 28)) (.cells #[.slice none 0 0,.int .i64 0,.int .i64 0] 28)
  simpa using this
 obtain⟨g0,g1,g2,hr0,hr1,hr2,hn1,hn2⟩:=hE.later B0
 obtain⟨cs0,t0,hc0⟩:=hr0
 obtain⟨cs1,t1,hc1⟩:=hr1
 obtain⟨cs2,t2,hc2⟩:=hr2
 have K1:=is_nilE e0 ((w.alloc (.cells #[.slice a ks.length cap,.int .i64 sn,.int .i64 nx] 28)).alloc (.cells #[.slice none 0 0,.int .i64 0,.int .i64 0] 28))
 obtain⟨wa,hwa⟩:∃ wa,wa=((w.alloc (.cells #[.slice a ks.length cap,.int .i64 sn,.int .i64 nx] 28)).alloc (.cells #[.slice none 0 0,.int .i64 0,.int .i64 0] 28)):=⟨_,rfl⟩
 have sa:wa.heap.size=w.heap.size+2:=by rw[hwa];simp
 rw[←hwa] at B0 x0 y0 K1
 have HB0:Hid (Below w.heap.size w wa):=B0
 have HX0:Hid (wa.heap[w.heap.size]? = some (.cells #[.slice a ks.length cap,.int .i64 sn,.int .i64 nx] 28 (0,0))):=x0
 have HY0:Hid (wa.heap[w.heap.size+1]? = some (.cells #[.slice none 0 0,.int .i64 0,.int .i64 0] 28 (0,0))):=y0
 have HSA:Hid (wa.heap.size=w.heap.size+2):=sa
 have K2:=clone_keys a cap ks wa.drew hl hca haa (strs_later hs ⟨B0.os,B0.tape,B0.output,B0.size,B0.block⟩)
 have HSC:Hid (∀ W:World,W.heap[w.heap.size]? = some (.cells #[.slice a ks.length cap,.int .i64 sn,.int .i64 nx] 28 (0,0))→W.cell? ⟨w.heap.size,0,none⟩=some (.slice a ks.length cap)∧W.cell? ⟨w.heap.size,1,none⟩=some (.int .i64 sn)∧W.cell? ⟨w.heap.size,2,none⟩=some (.int .i64 nx)):=fun W hW=>by
  obtain⟨h1,h2,h3,_⟩:=bat_cells hW
  exact⟨h1,h2,h3⟩
 clear hs hE hc0 hc1 hc2 hn1 hn2 x0 y0 sa B0
 go_enter Tryd.func31,Tryd.ntmps31
 go_wp2_with fail
 rw[←hwa]
 refine K1.mono ?_
 rintro e w1 ⟨rfl,rfl⟩
 dsimp only
 clear K1 g0 g1 g2
 have Sd:Hid (w1.drew.cell? ⟨w.heap.size,0,none⟩=some (.slice a ks.length cap)∧w1.drew.cell? ⟨w.heap.size,1,none⟩=some (.int .i64 sn)∧w1.drew.cell? ⟨w.heap.size,2,none⟩=some (.int .i64 nx)):=HSC.out w1.drew HX0.out
 clear hwa
 go_wp2
 go_region_held3 (fun w'=>w'.cell? ⟨w.heap.size,0,none⟩=some (.slice a ks.length cap)∧w'.cell? ⟨w.heap.size,1,none⟩=some (.int .i64 sn)∧w'.cell? ⟨w.heap.size,2,none⟩=some (.int .i64 nx))
  (first | with_reducible exact S5.out | with_reducible exact S4.out | with_reducible exact Sd.out)
  ((go_at_call 49
    with_reducible refine K2.mono ?_
    rintro e w4 ⟨a4,c4,rfl,o4,b4'⟩
    have b4:Below w1.heap.size w1 w4:=⟨b4'.os,b4'.tape,b4'.output,b4'.size,b4'.block⟩
    have o4':w4.ownsRow w1.heap.size 9 1 (.slice a4 ks.length c4) ks.length (scells ks):=o4
    have hs4:=HSA.out
    have X4:w4.heap[w.heap.size]? = some (.cells #[.slice a ks.length cap,.int .i64 sn,.int .i64 nx] 28 (0,0)):=(b4.block w.heap.size (by omega)).trans HX0.out
    have Y4:w4.heap[w.heap.size+1]? = some (.cells #[.slice none 0 0,.int .i64 0,.int .i64 0] 28 (0,0)):=(b4.block (w.heap.size+1) (by omega)).trans HY0.out
    have S4:Hid (w4.cell? ⟨w.heap.size,0,none⟩=some (.slice a ks.length cap)∧w4.cell? ⟨w.heap.size,1,none⟩=some (.int .i64 sn)∧w4.cell? ⟨w.heap.size,2,none⟩=some (.int .i64 nx)):=HSC.out w4 X4
    have F:Hid ((((w4.setCell ⟨w.heap.size+1,0,none⟩ (.slice a4 ks.length c4)).setCell ⟨w.heap.size+1,1,none⟩ (.int .i64 sn)).setCell ⟨w.heap.size+1,2,none⟩ (.int .i64 nx)).heap[w.heap.size+1]? = some (.cells #[.slice a4 ks.length c4,.int .i64 sn,.int .i64 nx] 28 (0,0))):=bat_set (j:=2) (bat_set (j:=1) (bat_set (j:=0) Y4))
    have X5:(((w4.setCell ⟨w.heap.size+1,0,none⟩ (.slice a4 ks.length c4)).setCell ⟨w.heap.size+1,1,none⟩ (.int .i64 sn)).setCell ⟨w.heap.size+1,2,none⟩ (.int .i64 nx)).heap[w.heap.size]? = some (.cells #[.slice a ks.length cap,.int .i64 sn,.int .i64 nx] 28 (0,0)):=(Below.heap_setCell _ _ _ _ (by simp)).trans ((Below.heap_setCell _ _ _ _ (by simp)).trans ((Below.heap_setCell _ _ _ _ (by simp)).trans X4))
    have S5:Hid ((((w4.setCell ⟨w.heap.size+1,0,none⟩ (.slice a4 ks.length c4)).setCell ⟨w.heap.size+1,1,none⟩ (.int .i64 sn)).setCell ⟨w.heap.size+1,2,none⟩ (.int .i64 nx)).cell? ⟨w.heap.size,0,none⟩=some (.slice a ks.length cap)∧(((w4.setCell ⟨w.heap.size+1,0,none⟩ (.slice a4 ks.length c4)).setCell ⟨w.heap.size+1,1,none⟩ (.int .i64 sn)).setCell ⟨w.heap.size+1,2,none⟩ (.int .i64 nx)).cell? ⟨w.heap.size,1,none⟩=some (.int .i64 sn)∧(((w4.setCell ⟨w.heap.size+1,0,none⟩ (.slice a4 ks.length c4)).setCell ⟨w.heap.size+1,1,none⟩ (.int .i64 sn)).setCell ⟨w.heap.size+1,2,none⟩ (.int .i64 nx)).cell? ⟨w.heap.size,2,none⟩=some (.int .i64 nx)):=HSC.out _ X5
    have O5:Hid ((((w4.setCell ⟨w.heap.size+1,0,none⟩ (.slice a4 ks.length c4)).setCell ⟨w.heap.size+1,1,none⟩ (.int .i64 sn)).setCell ⟨w.heap.size+1,2,none⟩ (.int .i64 nx)).ownsRow w.heap.size 9 1 (.slice a4 ks.length c4) ks.length (scells ks)):=ownsRow_setCell_other (ownsRow_setCell_other (ownsRow_setCell_other (o4'.mono (by omega)) (fun e=>by have:=(o4'.lt _ e).1;dsimp only at this;omega) _) (fun e=>by have:=(o4'.lt _ e).1;dsimp only at this;omega) _) (fun e=>by have:=(o4'.lt _ e).1;dsimp only at this;omega) _
    have B5:Hid (Below w.heap.size w (((w4.setCell ⟨w.heap.size+1,0,none⟩ (.slice a4 ks.length c4)).setCell ⟨w.heap.size+1,1,none⟩ (.int .i64 sn)).setCell ⟨w.heap.size+1,2,none⟩ (.int .i64 nx))):=(((HB0.out.trans (b4.mono HB0.out.size)).setCell (by simp) _).setCell (by simp) _).setCell (by simp) _
    obtain⟨y0,y1,y2,yf⟩:=bat_cells Y4
    have yf0:=yf 0
    have yf1:=yf 1
    have yf2:=yf 2
    clear b4' b4 o4 o4' X4 Y4 X5 yf hs4))
 all_goals
  go_wp2
  exact bodyPost_ret (v:=.agg #[.slice a4 ks.length c4,.int .i64 sn,.int .i64 nx]) (results_cell_row rfl _ _ (w.heap.size+1) 28 _ (0,0) _ rfl F.out Tryd.underlying28 rfl (by kernel_rfl)) rfl ⟨a4,c4,rfl,O5.out,B5.out⟩
set_option maxRecDepth 100000 in
set_option maxHeartbeats 2000000 in
theorem impl_behind_batch (a:Option Addr) (cap:Nat) (ks:List (List UInt8)) (sn nx:Int) (w:World) (e0 e1 e2:Addr) (hE:Errs w e0 e1 e2) (hl:ks.length≤1048576) (hca:a=none→cap=0) (haa:a=none∨∃ b off,a=some ⟨b,off,none⟩) (hs:IsStrs w a ks) :
 Calls Tryd.prog 31 #[.agg #[.slice a ks.length cap,.int .i64 sn,.int .i64 nx],.iface 131 (.pointer (some e1))] w fun e w'=>∃ (a':Option Addr) (c':Nat),e=.returned (.agg #[.slice a' ks.length c',.int .i64 sn,.int .i64 nx])∧w'.ownsRow w.heap.size 9 1 (.slice a' ks.length c') ks.length (scells ks)∧Below w.heap.size w w':=by
 have B0:Below w.heap.size w ((w.alloc (.cells #[.slice a ks.length cap,.int .i64 sn,.int .i64 nx] 28)).alloc (.cells #[.slice none 0 0,.int .i64 0,.int .i64 0] 28)):=((Below.refl _ _).alloc (Nat.le_refl _) _).alloc (by simp) _
 have x0:((w.alloc (.cells #[.slice a ks.length cap,.int .i64 sn,.int .i64 nx] 28)).alloc (.cells #[.slice none 0 0,.int .i64 0,.int .i64 0] 28)).heap[w.heap.size]? = some (.cells #[.slice a ks.length cap,.int .i64 sn,.int .i64 nx] 28 (0,0)):=(Below.heap_alloc _ _ _ (by simp)).trans (heap_alloc_new w _)
 have y0:((w.alloc (.cells #[.slice a ks.length cap,.int .i64 sn,.int .i64 nx] 28)).alloc (.cells #[.slice none 0 0,.int .i64 0,.int .i64 0] 28)).heap[w.heap.size+1]? = some (.cells #[.slice none 0 0,.int .i64 0,.int .i64 0] 28 (0,0)):=by
  have:=heap_alloc_new (w.alloc (.cells #[.slice a ks.length cap,.int .i64 sn,.int .i64 nx] 28)) (.cells #[.slice none 0 0,.int .i64 0,.int .i64 0] 28)
  simpa using this
 obtain⟨g0,g1,g2,hr0,hr1,hr2,hn1,hn2⟩:=hE.later B0
 obtain⟨cs0,t0,hc0⟩:=hr0
 obtain⟨cs1,t1,hc1⟩:=hr1
 obtain⟨cs2,t2,hc2⟩:=hr2
 have K1:=is_otherE e1 e0 cs1 cs0 t1 t0 ((w.alloc (.cells #[.slice a ks.length cap,.int .i64 sn,.int .i64 nx] 28)).alloc (.cells #[.slice none 0 0,.int .i64 0,.int .i64 0] 28)) hn1 hc1 hc0
 obtain⟨wa,hwa⟩:∃ wa,wa=((w.alloc (.cells #[.slice a ks.length cap,.int .i64 sn,.int .i64 nx] 28)).alloc (.cells #[.slice none 0 0,.int .i64 0,.int .i64 0] 28)):=⟨_,rfl⟩
 have sa:wa.heap.size=w.heap.size+2:=by rw[hwa];simp
 rw[←hwa] at B0 x0 y0 K1
 have HB0:Hid (Below w.heap.size w wa):=B0
 have HX0:Hid (wa.heap[w.heap.size]? = some (.cells #[.slice a ks.length cap,.int .i64 sn,.int .i64 nx] 28 (0,0))):=x0
 have HY0:Hid (wa.heap[w.heap.size+1]? = some (.cells #[.slice none 0 0,.int .i64 0,.int .i64 0] 28 (0,0))):=y0
 have HSA:Hid (wa.heap.size=w.heap.size+2):=sa
 have K2:=clone_keys a cap ks wa.drew hl hca haa (strs_later hs ⟨B0.os,B0.tape,B0.output,B0.size,B0.block⟩)
 have HSC:Hid (∀ W:World,W.heap[w.heap.size]? = some (.cells #[.slice a ks.length cap,.int .i64 sn,.int .i64 nx] 28 (0,0))→W.cell? ⟨w.heap.size,0,none⟩=some (.slice a ks.length cap)∧W.cell? ⟨w.heap.size,1,none⟩=some (.int .i64 sn)∧W.cell? ⟨w.heap.size,2,none⟩=some (.int .i64 nx)):=fun W hW=>by
  obtain⟨h1,h2,h3,_⟩:=bat_cells hW
  exact⟨h1,h2,h3⟩
 clear hs hE hc0 hc1 hc2 hn1 hn2 x0 y0 sa B0
 go_enter Tryd.func31,Tryd.ntmps31
 go_wp2_with fail
 rw[←hwa]
 refine K1.mono ?_
 rintro e w1 ⟨rfl,rfl⟩
 dsimp only
 clear K1 g0 g1 g2
 have Sd:Hid (w1.drew.cell? ⟨w.heap.size,0,none⟩=some (.slice a ks.length cap)∧w1.drew.cell? ⟨w.heap.size,1,none⟩=some (.int .i64 sn)∧w1.drew.cell? ⟨w.heap.size,2,none⟩=some (.int .i64 nx)):=HSC.out w1.drew HX0.out
 clear hwa
 go_wp2
 go_region_held3 (fun w'=>w'.cell? ⟨w.heap.size,0,none⟩=some (.slice a ks.length cap)∧w'.cell? ⟨w.heap.size,1,none⟩=some (.int .i64 sn)∧w'.cell? ⟨w.heap.size,2,none⟩=some (.int .i64 nx))
  (first | with_reducible exact S5.out | with_reducible exact S4.out | with_reducible exact Sd.out)
  ((go_at_call 49
    with_reducible refine K2.mono ?_
    rintro e w4 ⟨a4,c4,rfl,o4,b4'⟩
    have b4:Below w1.heap.size w1 w4:=⟨b4'.os,b4'.tape,b4'.output,b4'.size,b4'.block⟩
    have o4':w4.ownsRow w1.heap.size 9 1 (.slice a4 ks.length c4) ks.length (scells ks):=o4
    have hs4:=HSA.out
    have X4:w4.heap[w.heap.size]? = some (.cells #[.slice a ks.length cap,.int .i64 sn,.int .i64 nx] 28 (0,0)):=(b4.block w.heap.size (by omega)).trans HX0.out
    have Y4:w4.heap[w.heap.size+1]? = some (.cells #[.slice none 0 0,.int .i64 0,.int .i64 0] 28 (0,0)):=(b4.block (w.heap.size+1) (by omega)).trans HY0.out
    have S4:Hid (w4.cell? ⟨w.heap.size,0,none⟩=some (.slice a ks.length cap)∧w4.cell? ⟨w.heap.size,1,none⟩=some (.int .i64 sn)∧w4.cell? ⟨w.heap.size,2,none⟩=some (.int .i64 nx)):=HSC.out w4 X4
    have F:Hid ((((w4.setCell ⟨w.heap.size+1,0,none⟩ (.slice a4 ks.length c4)).setCell ⟨w.heap.size+1,1,none⟩ (.int .i64 sn)).setCell ⟨w.heap.size+1,2,none⟩ (.int .i64 nx)).heap[w.heap.size+1]? = some (.cells #[.slice a4 ks.length c4,.int .i64 sn,.int .i64 nx] 28 (0,0))):=bat_set (j:=2) (bat_set (j:=1) (bat_set (j:=0) Y4))
    have X5:(((w4.setCell ⟨w.heap.size+1,0,none⟩ (.slice a4 ks.length c4)).setCell ⟨w.heap.size+1,1,none⟩ (.int .i64 sn)).setCell ⟨w.heap.size+1,2,none⟩ (.int .i64 nx)).heap[w.heap.size]? = some (.cells #[.slice a ks.length cap,.int .i64 sn,.int .i64 nx] 28 (0,0)):=(Below.heap_setCell _ _ _ _ (by simp)).trans ((Below.heap_setCell _ _ _ _ (by simp)).trans ((Below.heap_setCell _ _ _ _ (by simp)).trans X4))
    have S5:Hid ((((w4.setCell ⟨w.heap.size+1,0,none⟩ (.slice a4 ks.length c4)).setCell ⟨w.heap.size+1,1,none⟩ (.int .i64 sn)).setCell ⟨w.heap.size+1,2,none⟩ (.int .i64 nx)).cell? ⟨w.heap.size,0,none⟩=some (.slice a ks.length cap)∧(((w4.setCell ⟨w.heap.size+1,0,none⟩ (.slice a4 ks.length c4)).setCell ⟨w.heap.size+1,1,none⟩ (.int .i64 sn)).setCell ⟨w.heap.size+1,2,none⟩ (.int .i64 nx)).cell? ⟨w.heap.size,1,none⟩=some (.int .i64 sn)∧(((w4.setCell ⟨w.heap.size+1,0,none⟩ (.slice a4 ks.length c4)).setCell ⟨w.heap.size+1,1,none⟩ (.int .i64 sn)).setCell ⟨w.heap.size+1,2,none⟩ (.int .i64 nx)).cell? ⟨w.heap.size,2,none⟩=some (.int .i64 nx)):=HSC.out _ X5
    have O5:Hid ((((w4.setCell ⟨w.heap.size+1,0,none⟩ (.slice a4 ks.length c4)).setCell ⟨w.heap.size+1,1,none⟩ (.int .i64 sn)).setCell ⟨w.heap.size+1,2,none⟩ (.int .i64 nx)).ownsRow w.heap.size 9 1 (.slice a4 ks.length c4) ks.length (scells ks)):=ownsRow_setCell_other (ownsRow_setCell_other (ownsRow_setCell_other (o4'.mono (by omega)) (fun e=>by have:=(o4'.lt _ e).1;dsimp only at this;omega) _) (fun e=>by have:=(o4'.lt _ e).1;dsimp only at this;omega) _) (fun e=>by have:=(o4'.lt _ e).1;dsimp only at this;omega) _
    have B5:Hid (Below w.heap.size w (((w4.setCell ⟨w.heap.size+1,0,none⟩ (.slice a4 ks.length c4)).setCell ⟨w.heap.size+1,1,none⟩ (.int .i64 sn)).setCell ⟨w.heap.size+1,2,none⟩ (.int .i64 nx))):=(((HB0.out.trans (b4.mono HB0.out.size)).setCell (by simp) _).setCell (by simp) _).setCell (by simp) _
    obtain⟨y0,y1,y2,yf⟩:=bat_cells Y4
    have yf0:=yf 0
    have yf1:=yf 1
    have yf2:=yf 2
    clear b4' b4 o4 o4' X4 Y4 X5 yf hs4))
 all_goals
  go_wp2
  exact bodyPost_ret (v:=.agg #[.slice a4 ks.length c4,.int .i64 sn,.int .i64 nx]) (results_cell_row rfl _ _ (w.heap.size+1) 28 _ (0,0) _ rfl F.out Tryd.underlying28 rfl (by kernel_rfl)) rfl ⟨a4,c4,rfl,O5.out,B5.out⟩
set_option maxRecDepth 100000 in
set_option maxHeartbeats 2000000 in
theorem impl_behind_last (a:Option Addr) (cap:Nat) (ks:List (List UInt8)) (sn nx:Int) (w:World) (e0 e1 e2:Addr) (hE:Errs w e0 e1 e2) (hl:ks.length≤1048576) (hca:a=none→cap=0) (haa:a=none∨∃ b off,a=some ⟨b,off,none⟩) (hs:IsStrs w a ks) :
 Calls Tryd.prog 31 #[.agg #[.slice a ks.length cap,.int .i64 sn,.int .i64 nx],.iface 131 (.pointer (some e2))] w fun e w'=>∃ (a':Option Addr) (c':Nat),e=.returned (.agg #[.slice a' ks.length c',.int .i64 sn,.int .i64 nx])∧w'.ownsRow w.heap.size 9 1 (.slice a' ks.length c') ks.length (scells ks)∧Below w.heap.size w w':=by
 have B0:Below w.heap.size w ((w.alloc (.cells #[.slice a ks.length cap,.int .i64 sn,.int .i64 nx] 28)).alloc (.cells #[.slice none 0 0,.int .i64 0,.int .i64 0] 28)):=((Below.refl _ _).alloc (Nat.le_refl _) _).alloc (by simp) _
 have x0:((w.alloc (.cells #[.slice a ks.length cap,.int .i64 sn,.int .i64 nx] 28)).alloc (.cells #[.slice none 0 0,.int .i64 0,.int .i64 0] 28)).heap[w.heap.size]? = some (.cells #[.slice a ks.length cap,.int .i64 sn,.int .i64 nx] 28 (0,0)):=(Below.heap_alloc _ _ _ (by simp)).trans (heap_alloc_new w _)
 have y0:((w.alloc (.cells #[.slice a ks.length cap,.int .i64 sn,.int .i64 nx] 28)).alloc (.cells #[.slice none 0 0,.int .i64 0,.int .i64 0] 28)).heap[w.heap.size+1]? = some (.cells #[.slice none 0 0,.int .i64 0,.int .i64 0] 28 (0,0)):=by
  have:=heap_alloc_new (w.alloc (.cells #[.slice a ks.length cap,.int .i64 sn,.int .i64 nx] 28)) (.cells #[.slice none 0 0,.int .i64 0,.int .i64 0] 28)
  simpa using this
 obtain⟨g0,g1,g2,hr0,hr1,hr2,hn1,hn2⟩:=hE.later B0
 obtain⟨cs0,t0,hc0⟩:=hr0
 obtain⟨cs1,t1,hc1⟩:=hr1
 obtain⟨cs2,t2,hc2⟩:=hr2
 have K1:=is_otherE e2 e0 cs2 cs0 t2 t0 ((w.alloc (.cells #[.slice a ks.length cap,.int .i64 sn,.int .i64 nx] 28)).alloc (.cells #[.slice none 0 0,.int .i64 0,.int .i64 0] 28)) hn2 hc2 hc0
 obtain⟨wa,hwa⟩:∃ wa,wa=((w.alloc (.cells #[.slice a ks.length cap,.int .i64 sn,.int .i64 nx] 28)).alloc (.cells #[.slice none 0 0,.int .i64 0,.int .i64 0] 28)):=⟨_,rfl⟩
 have sa:wa.heap.size=w.heap.size+2:=by rw[hwa];simp
 rw[←hwa] at B0 x0 y0 K1
 have HB0:Hid (Below w.heap.size w wa):=B0
 have HX0:Hid (wa.heap[w.heap.size]? = some (.cells #[.slice a ks.length cap,.int .i64 sn,.int .i64 nx] 28 (0,0))):=x0
 have HY0:Hid (wa.heap[w.heap.size+1]? = some (.cells #[.slice none 0 0,.int .i64 0,.int .i64 0] 28 (0,0))):=y0
 have HSA:Hid (wa.heap.size=w.heap.size+2):=sa
 have K2:=clone_keys a cap ks wa.drew hl hca haa (strs_later hs ⟨B0.os,B0.tape,B0.output,B0.size,B0.block⟩)
 have HSC:Hid (∀ W:World,W.heap[w.heap.size]? = some (.cells #[.slice a ks.length cap,.int .i64 sn,.int .i64 nx] 28 (0,0))→W.cell? ⟨w.heap.size,0,none⟩=some (.slice a ks.length cap)∧W.cell? ⟨w.heap.size,1,none⟩=some (.int .i64 sn)∧W.cell? ⟨w.heap.size,2,none⟩=some (.int .i64 nx)):=fun W hW=>by
  obtain⟨h1,h2,h3,_⟩:=bat_cells hW
  exact⟨h1,h2,h3⟩
 clear hs hE hc0 hc1 hc2 hn1 hn2 x0 y0 sa B0
 go_enter Tryd.func31,Tryd.ntmps31
 go_wp2_with fail
 rw[←hwa]
 refine K1.mono ?_
 rintro e w1 ⟨rfl,rfl⟩
 dsimp only
 clear K1 g0 g1 g2
 have Sd:Hid (w1.drew.cell? ⟨w.heap.size,0,none⟩=some (.slice a ks.length cap)∧w1.drew.cell? ⟨w.heap.size,1,none⟩=some (.int .i64 sn)∧w1.drew.cell? ⟨w.heap.size,2,none⟩=some (.int .i64 nx)):=HSC.out w1.drew HX0.out
 clear hwa
 go_wp2
 go_region_held3 (fun w'=>w'.cell? ⟨w.heap.size,0,none⟩=some (.slice a ks.length cap)∧w'.cell? ⟨w.heap.size,1,none⟩=some (.int .i64 sn)∧w'.cell? ⟨w.heap.size,2,none⟩=some (.int .i64 nx))
  (first | with_reducible exact S5.out | with_reducible exact S4.out | with_reducible exact Sd.out)
  ((go_at_call 49
    with_reducible refine K2.mono ?_
    rintro e w4 ⟨a4,c4,rfl,o4,b4'⟩
    have b4:Below w1.heap.size w1 w4:=⟨b4'.os,b4'.tape,b4'.output,b4'.size,b4'.block⟩
    have o4':w4.ownsRow w1.heap.size 9 1 (.slice a4 ks.length c4) ks.length (scells ks):=o4
    have hs4:=HSA.out
    have X4:w4.heap[w.heap.size]? = some (.cells #[.slice a ks.length cap,.int .i64 sn,.int .i64 nx] 28 (0,0)):=(b4.block w.heap.size (by omega)).trans HX0.out
    have Y4:w4.heap[w.heap.size+1]? = some (.cells #[.slice none 0 0,.int .i64 0,.int .i64 0] 28 (0,0)):=(b4.block (w.heap.size+1) (by omega)).trans HY0.out
    have S4:Hid (w4.cell? ⟨w.heap.size,0,none⟩=some (.slice a ks.length cap)∧w4.cell? ⟨w.heap.size,1,none⟩=some (.int .i64 sn)∧w4.cell? ⟨w.heap.size,2,none⟩=some (.int .i64 nx)):=HSC.out w4 X4
    have F:Hid ((((w4.setCell ⟨w.heap.size+1,0,none⟩ (.slice a4 ks.length c4)).setCell ⟨w.heap.size+1,1,none⟩ (.int .i64 sn)).setCell ⟨w.heap.size+1,2,none⟩ (.int .i64 nx)).heap[w.heap.size+1]? = some (.cells #[.slice a4 ks.length c4,.int .i64 sn,.int .i64 nx] 28 (0,0))):=bat_set (j:=2) (bat_set (j:=1) (bat_set (j:=0) Y4))
    have X5:(((w4.setCell ⟨w.heap.size+1,0,none⟩ (.slice a4 ks.length c4)).setCell ⟨w.heap.size+1,1,none⟩ (.int .i64 sn)).setCell ⟨w.heap.size+1,2,none⟩ (.int .i64 nx)).heap[w.heap.size]? = some (.cells #[.slice a ks.length cap,.int .i64 sn,.int .i64 nx] 28 (0,0)):=(Below.heap_setCell _ _ _ _ (by simp)).trans ((Below.heap_setCell _ _ _ _ (by simp)).trans ((Below.heap_setCell _ _ _ _ (by simp)).trans X4))
    have S5:Hid ((((w4.setCell ⟨w.heap.size+1,0,none⟩ (.slice a4 ks.length c4)).setCell ⟨w.heap.size+1,1,none⟩ (.int .i64 sn)).setCell ⟨w.heap.size+1,2,none⟩ (.int .i64 nx)).cell? ⟨w.heap.size,0,none⟩=some (.slice a ks.length cap)∧(((w4.setCell ⟨w.heap.size+1,0,none⟩ (.slice a4 ks.length c4)).setCell ⟨w.heap.size+1,1,none⟩ (.int .i64 sn)).setCell ⟨w.heap.size+1,2,none⟩ (.int .i64 nx)).cell? ⟨w.heap.size,1,none⟩=some (.int .i64 sn)∧(((w4.setCell ⟨w.heap.size+1,0,none⟩ (.slice a4 ks.length c4)).setCell ⟨w.heap.size+1,1,none⟩ (.int .i64 sn)).setCell ⟨w.heap.size+1,2,none⟩ (.int .i64 nx)).cell? ⟨w.heap.size,2,none⟩=some (.int .i64 nx)):=HSC.out _ X5
    have O5:Hid ((((w4.setCell ⟨w.heap.size+1,0,none⟩ (.slice a4 ks.length c4)).setCell ⟨w.heap.size+1,1,none⟩ (.int .i64 sn)).setCell ⟨w.heap.size+1,2,none⟩ (.int .i64 nx)).ownsRow w.heap.size 9 1 (.slice a4 ks.length c4) ks.length (scells ks)):=ownsRow_setCell_other (ownsRow_setCell_other (ownsRow_setCell_other (o4'.mono (by omega)) (fun e=>by have:=(o4'.lt _ e).1;dsimp only at this;omega) _) (fun e=>by have:=(o4'.lt _ e).1;dsimp only at this;omega) _) (fun e=>by have:=(o4'.lt _ e).1;dsimp only at this;omega) _
    have B5:Hid (Below w.heap.size w (((w4.setCell ⟨w.heap.size+1,0,none⟩ (.slice a4 ks.length c4)).setCell ⟨w.heap.size+1,1,none⟩ (.int .i64 sn)).setCell ⟨w.heap.size+1,2,none⟩ (.int .i64 nx))):=(((HB0.out.trans (b4.mono HB0.out.size)).setCell (by simp) _).setCell (by simp) _).setCell (by simp) _
    obtain⟨y0,y1,y2,yf⟩:=bat_cells Y4
    have yf0:=yf 0
    have yf1:=yf 1
    have yf2:=yf 2
    clear b4' b4 o4 o4' X4 Y4 X5 yf hs4))
 all_goals
  go_wp2
  exact bodyPost_ret (v:=.agg #[.slice a4 ks.length c4,.int .i64 sn,.int .i64 nx]) (results_cell_row rfl _ _ (w.heap.size+1) 28 _ (0,0) _ rfl F.out Tryd.underlying28 rfl (by kernel_rfl)) rfl ⟨a4,c4,rfl,O5.out,B5.out⟩
end Go.Proofs.YtbpgpmchnjbclaaDoor
