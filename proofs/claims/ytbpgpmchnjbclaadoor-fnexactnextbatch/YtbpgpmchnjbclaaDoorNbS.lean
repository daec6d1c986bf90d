/-
 Contracts: a client's copy, of the model.
-/
import Derived.Test.YtbpgpmchnjbclaaDoorAppT
import Derived.Test.YtbpgpmchnjbclaaDoorCli
import Derived.Test.YtbpgpmchnjbclaaDoorBatOk
namespace Go.Proofs.YtbpgpmchnjbclaaDoor
open Go.RowKit
set_option linter.unusedVariables false
theorem info9n:(Tryd.prog.info? 9).map (fun i=>(i.zero,i.size,i.bytes))=some (some (.string ⟨#[]⟩),1,16):=by kernel_rfl
set_option maxRecDepth 100000 in
set_option maxHeartbeats 1000000 in
theorem spec_l12Copy (a:Option Addr) (cap:Nat) (ks:List (List UInt8)) (sn nx:Int) (w:World) (hl:ks.length≤1048576) (hca:a=none→cap=0) (hs:IsStrs w a ks) :
 Calls Tryd.prog 26 #[.agg #[.slice a ks.length cap,.int .i64 sn,.int .i64 nx]] w fun e w'=>∃ (a':Option Addr) (c':Nat),e=.returned (.agg #[.slice a' ks.length c',.int .i64 sn,.int .i64 nx])∧w'.ownsRow w.heap.size 9 1 (.slice a' ks.length c') ks.length (scells ks)∧Below w.heap.size w w':=by
 obtain⟨i0,hi0,hz0,hz1,hz2⟩:=info_parts info9n
 have B0:Below w.heap.size w (((w.alloc (.cells #[.slice a ks.length cap,.int .i64 sn,.int .i64 nx] 28)).alloc (.cells #[.slice none 0 0,.int .i64 0,.int .i64 0] 28)).alloc (.cells #[] 9)):=(((Below.refl _ _).alloc (Nat.le_refl _) _).alloc (by simp) _).alloc (by simp;omega) _
 have x0:(((w.alloc (.cells #[.slice a ks.length cap,.int .i64 sn,.int .i64 nx] 28)).alloc (.cells #[.slice none 0 0,.int .i64 0,.int .i64 0] 28)).alloc (.cells #[] 9)).heap[w.heap.size]? = some (.cells #[.slice a ks.length cap,.int .i64 sn,.int .i64 nx] 28 (0,0)):=(Below.heap_alloc _ _ _ (by simp;omega)).trans ((Below.heap_alloc _ _ _ (by simp)).trans (heap_alloc_new w _))
 have y0:(((w.alloc (.cells #[.slice a ks.length cap,.int .i64 sn,.int .i64 nx] 28)).alloc (.cells #[.slice none 0 0,.int .i64 0,.int .i64 0] 28)).alloc (.cells #[] 9)).heap[w.heap.size+1]? = some (.cells #[.slice none 0 0,.int .i64 0,.int .i64 0] 28 (0,0)):=(Below.heap_alloc _ _ _ (by simp)).trans (by
  have:=heap_alloc_new (w.alloc (.cells #[.slice a ks.length cap,.int .i64 sn,.int .i64 nx] 28)) (.cells #[.slice none 0 0,.int .i64 0,.int .i64 0] 28)
  simpa using this)
 have o0:(((w.alloc (.cells #[.slice a ks.length cap,.int .i64 sn,.int .i64 nx] 28)).alloc (.cells #[.slice none 0 0,.int .i64 0,.int .i64 0] 28)).alloc (.cells #[] 9)).ownsRow (w.heap.size+2) 9 1 (.slice (some ⟨w.heap.size+1+1,0,none⟩) 0 0) 0 []:=by
  have:=World.ownsRow_lit (e:=9) (size:=1) ((w.alloc (.cells #[.slice a ks.length cap,.int .i64 sn,.int .i64 nx] 28)).alloc (.cells #[.slice none 0 0,.int .i64 0,.int .i64 0] 28)) #[] 0 (base:=w.heap.size+2) (by simp) (Nat.zero_le _) rfl
  simpa using this
 have HB0:Hid (Below w.heap.size w (((w.alloc (.cells #[.slice a ks.length cap,.int .i64 sn,.int .i64 nx] 28)).alloc (.cells #[.slice none 0 0,.int .i64 0,.int .i64 0] 28)).alloc (.cells #[] 9))):=B0
 have HX0:Hid ((((w.alloc (.cells #[.slice a ks.length cap,.int .i64 sn,.int .i64 nx] 28)).alloc (.cells #[.slice none 0 0,.int .i64 0,.int .i64 0] 28)).alloc (.cells #[] 9)).heap[w.heap.size]? = some (.cells #[.slice a ks.length cap,.int .i64 sn,.int .i64 nx] 28 (0,0))):=x0
 have HY0:Hid ((((w.alloc (.cells #[.slice a ks.length cap,.int .i64 sn,.int .i64 nx] 28)).alloc (.cells #[.slice none 0 0,.int .i64 0,.int .i64 0] 28)).alloc (.cells #[] 9)).heap[w.heap.size+1]? = some (.cells #[.slice none 0 0,.int .i64 0,.int .i64 0] 28 (0,0))):=y0
 have HO0:=hidOwn o0
 have HI0:Hid (IsStrs (((w.alloc (.cells #[.slice a ks.length cap,.int .i64 sn,.int .i64 nx] 28)).alloc (.cells #[.slice none 0 0,.int .i64 0,.int .i64 0] 28)).alloc (.cells #[] 9)) a ks):=strs_later hs B0
 obtain⟨p0,p1,p2,_⟩:=bat_cells x0
 clear B0 x0 y0 o0 hs
 go_enter Tryd.func26,Tryd.ntmps26
 go_wp2_with (first
  | (at_builtin; refine wpList_append_strs rfl _ _ 22 rfl (w.heap.size + 2) 9 i0 (.string ⟨#[]⟩) 16 Tryd.underlying22 hi0 hz0 hz1 hz2 rfl (.slice (some ⟨w.heap.size + 1 + 1, 0, none⟩) 0 0) 0 [] rfl HO0.out a ks ks.length cap rfl rfl hca HI0.out (by unfold maxLen; omega) (by omega) (by simp) ?_; intro v3 w3 o3 g3; obtain ⟨a3, m3, c3, rfl⟩ := own_sliceT o3
     have O3:Hid (w3.ownsRow (w.heap.size+2) 9 1 (.slice a3 m3 c3) ks.length (scells ks)):=(by rw[Hid];simpa using o3)
     obtain⟨hm3,_,_⟩:=strs_own O3.out
     subst hm3
     have B3:Hid (Below w.heap.size w w3):=HB0.out.grown g3 HB0.out.size (fun q hq=>(by have:=(HO0.out.lt q hq).1;omega))
     have X3:w3.heap[w.heap.size]? = some (.cells #[.slice a ks.length cap,.int .i64 sn,.int .i64 nx] 28 (0,0)):=(g3.block w.heap.size (by simp;omega) (by simp[Value.ownBlock];omega)).trans HX0.out
     have Y3:w3.heap[w.heap.size+1]? = some (.cells #[.slice none 0 0,.int .i64 0,.int .i64 0] 28 (0,0)):=(g3.block (w.heap.size+1) (by simp) (by simp[Value.ownBlock])).trans HY0.out
     have X4:=bat_set (j:=0) (y:=.slice a3 ks.length c3) X3
     have Y4:(w3.setCell ⟨w.heap.size,0,none⟩ (.slice a3 ks.length c3)).heap[w.heap.size+1]? = some (.cells #[.slice none 0 0,.int .i64 0,.int .i64 0] 28 (0,0)):=(Below.heap_setCell _ _ _ _ (by simp)).trans Y3
     have HX4:Hid _:=X4
     have HY4:Hid ((w3.setCell ⟨w.heap.size,0,none⟩ (.slice a3 ks.length c3)).heap[w.heap.size+1]? = some (.cells #[.slice none 0 0,.int .i64 0,.int .i64 0] 28 (0,0))):=Y4
     obtain⟨u0,u1,u2,uf⟩:=bat_cells X3
     have uf0:=uf 0
     obtain⟨z0,z1,z2,zf⟩:=bat_cells Y4
     have zf0:=zf 0
     have zf1:=zf 1
     have zf2:=zf 2
     obtain⟨r0,r1,r2,_⟩:=bat_cells X4
     clear o3 g3 X3 Y3 X4 Y4 uf zf))
 have F:Hid (∀ x y z,((((w3.setCell ⟨w.heap.size,0,none⟩ (.slice a3 ks.length c3)).setCell ⟨w.heap.size+1,0,none⟩ x).setCell ⟨w.heap.size+1,1,none⟩ y).setCell ⟨w.heap.size+1,2,none⟩ z).heap[w.heap.size+1]? = some (.cells #[x,y,z] 28 (0,0))):=fun x y z=>bat_set (j:=2) (bat_set (j:=1) (bat_set (j:=0) HY4.out))
 exact bodyPost_ret (v:=.agg #[.slice a3 ks.length c3,.int .i64 sn,.int .i64 nx]) (results_cell_row rfl _ _ (w.heap.size+1) 28 _ (0,0) _ rfl (F.out _ _ _) Tryd.underlying28 rfl (by kernel_rfl)) rfl ⟨a3,c3,rfl,ownsRow_setCell_other (ownsRow_setCell_other (ownsRow_setCell_other (ownsRow_setCell_other (O3.out.mono (by omega)) (fun e=>by have:=(O3.out.lt _ e).1;dsimp only at this;omega) _) (fun e=>by have:=(O3.out.lt _ e).1;dsimp only at this;omega) _) (fun e=>by have:=(O3.out.lt _ e).1;dsimp only at this;omega) _) (fun e=>by have:=(O3.out.lt _ e).1;dsimp only at this;omega) _,(((B3.out.setCell (Nat.le_refl _) _).setCell (by simp) _).setCell (by simp) _).setCell (by simp) _⟩
end Go.Proofs.YtbpgpmchnjbclaaDoor
