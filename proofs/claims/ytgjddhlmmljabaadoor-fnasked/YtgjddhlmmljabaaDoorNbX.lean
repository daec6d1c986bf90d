/-
 Texts that are laid as one: NbS, IsErr, NbC, AppO, NbD.
-/
import Derived.Test.YtgjddhlmmljabaaDoorAppT
import Derived.Test.YtgjddhlmmljabaaDoorKCli
import Derived.Test.YtgjddhlmmljabaaDoorBats
import Derived.Test.YtgjddhlmmljabaaDoorChecked
import Derived.WalkKit
import Derived.LaidEql
import Derived.Stop.Asserts
import Derived.RowKitTokens
import Derived.Laws.AppendOwnNone
namespace Go.Proofs.YtgjddhlmmljabaaDoor
open Go.RowKit
set_option linter.unusedVariables false
theorem info9n:(Tryd.prog.info? 9).map (fun i=>(i.zero,i.size,i.bytes))=some (some (.string ⟨#[]⟩),1,16):=by kernel_rfl
set_option maxRecDepth 100000 in
set_option maxHeartbeats 1000000 in
theorem spec_l12Copy (a:Option Addr) (cap:Nat) (ks:List (List UInt8)) (sn nx:Int) (w:World) (hl:ks.length≤1048576) (hca:a=none→cap=0) (hs:IsStrs w a ks) :
 Calls Tryd.prog 17 #[.agg #[.slice a ks.length cap,.int .i64 sn,.int .i64 nx]] w fun e w'=>∃ (a':Option Addr) (c':Nat),e=.returned (.agg #[.slice a' ks.length c',.int .i64 sn,.int .i64 nx])∧w'.ownsRow w.heap.size 9 1 (.slice a' ks.length c') ks.length (scells ks)∧Below w.heap.size w w':=by
 obtain⟨i0,hi0,hz0,hz1,hz2⟩:=info_parts info9n
 have B0:Below w.heap.size w (((w.alloc (.cells #[.slice a ks.length cap,.int .i64 sn,.int .i64 nx] 26)).alloc (.cells #[.slice none 0 0,.int .i64 0,.int .i64 0] 26)).alloc (.cells #[] 9)):=(((Below.refl _ _).alloc (Nat.le_refl _) _).alloc (by simp) _).alloc (by simp;omega) _
 have x0:(((w.alloc (.cells #[.slice a ks.length cap,.int .i64 sn,.int .i64 nx] 26)).alloc (.cells #[.slice none 0 0,.int .i64 0,.int .i64 0] 26)).alloc (.cells #[] 9)).heap[w.heap.size]? = some (.cells #[.slice a ks.length cap,.int .i64 sn,.int .i64 nx] 26 (0,0)):=(Below.heap_alloc _ _ _ (by simp;omega)).trans ((Below.heap_alloc _ _ _ (by simp)).trans (heap_alloc_new w _))
 have y0:(((w.alloc (.cells #[.slice a ks.length cap,.int .i64 sn,.int .i64 nx] 26)).alloc (.cells #[.slice none 0 0,.int .i64 0,.int .i64 0] 26)).alloc (.cells #[] 9)).heap[w.heap.size+1]? = some (.cells #[.slice none 0 0,.int .i64 0,.int .i64 0] 26 (0,0)):=(Below.heap_alloc _ _ _ (by simp)).trans (by
  have:=heap_alloc_new (w.alloc (.cells #[.slice a ks.length cap,.int .i64 sn,.int .i64 nx] 26)) (.cells #[.slice none 0 0,.int .i64 0,.int .i64 0] 26)
  simpa using this)
 have o0:(((w.alloc (.cells #[.slice a ks.length cap,.int .i64 sn,.int .i64 nx] 26)).alloc (.cells #[.slice none 0 0,.int .i64 0,.int .i64 0] 26)).alloc (.cells #[] 9)).ownsRow (w.heap.size+2) 9 1 (.slice (some ⟨w.heap.size+1+1,0,none⟩) 0 0) 0 []:=by
  have:=World.ownsRow_lit (e:=9) (size:=1) ((w.alloc (.cells #[.slice a ks.length cap,.int .i64 sn,.int .i64 nx] 26)).alloc (.cells #[.slice none 0 0,.int .i64 0,.int .i64 0] 26)) #[] 0 (base:=w.heap.size+2) (by simp) (Nat.zero_le _) rfl
  simpa using this
 have HB0:Hid (Below w.heap.size w (((w.alloc (.cells #[.slice a ks.length cap,.int .i64 sn,.int .i64 nx] 26)).alloc (.cells #[.slice none 0 0,.int .i64 0,.int .i64 0] 26)).alloc (.cells #[] 9))):=B0
 have HX0:Hid ((((w.alloc (.cells #[.slice a ks.length cap,.int .i64 sn,.int .i64 nx] 26)).alloc (.cells #[.slice none 0 0,.int .i64 0,.int .i64 0] 26)).alloc (.cells #[] 9)).heap[w.heap.size]? = some (.cells #[.slice a ks.length cap,.int .i64 sn,.int .i64 nx] 26 (0,0))):=x0
 have HY0:Hid ((((w.alloc (.cells #[.slice a ks.length cap,.int .i64 sn,.int .i64 nx] 26)).alloc (.cells #[.slice none 0 0,.int .i64 0,.int .i64 0] 26)).alloc (.cells #[] 9)).heap[w.heap.size+1]? = some (.cells #[.slice none 0 0,.int .i64 0,.int .i64 0] 26 (0,0))):=y0
 have HO0:=hidOwn o0
 have HI0:Hid (IsStrs (((w.alloc (.cells #[.slice a ks.length cap,.int .i64 sn,.int .i64 nx] 26)).alloc (.cells #[.slice none 0 0,.int .i64 0,.int .i64 0] 26)).alloc (.cells #[] 9)) a ks):=strs_later hs B0
 obtain⟨p0,p1,p2,_⟩:=bat_cells x0
 clear B0 x0 y0 o0 hs
 go_enter Tryd.func17,Tryd.ntmps17
 go_wp2_with (first
  | (at_builtin; refine wpList_append_strs rfl _ _ 24 rfl (w.heap.size + 2) 9 i0 (.string ⟨#[]⟩) 16 Tryd.underlying24 hi0 hz0 hz1 hz2 rfl (.slice (some ⟨w.heap.size + 1 + 1, 0, none⟩) 0 0) 0 [] rfl HO0.out a ks ks.length cap rfl rfl hca HI0.out (by unfold maxLen; omega) (by omega) (by simp) ?_; intro v3 w3 o3 g3; obtain ⟨a3, m3, c3, rfl⟩ := own_sliceT o3
     have O3:Hid (w3.ownsRow (w.heap.size+2) 9 1 (.slice a3 m3 c3) ks.length (scells ks)):=(by rw[Hid];simpa using o3)
     obtain⟨hm3,_,_⟩:=strs_own O3.out
     subst hm3
     have B3:Hid (Below w.heap.size w w3):=HB0.out.grown g3 HB0.out.size (fun q hq=>(by have:=(HO0.out.lt q hq).1;omega))
     have X3:w3.heap[w.heap.size]? = some (.cells #[.slice a ks.length cap,.int .i64 sn,.int .i64 nx] 26 (0,0)):=(g3.block w.heap.size (by simp;omega) (by simp[Value.ownBlock];omega)).trans HX0.out
     have Y3:w3.heap[w.heap.size+1]? = some (.cells #[.slice none 0 0,.int .i64 0,.int .i64 0] 26 (0,0)):=(g3.block (w.heap.size+1) (by simp) (by simp[Value.ownBlock])).trans HY0.out
     have X4:=bat_set (j:=0) (y:=.slice a3 ks.length c3) X3
     have Y4:(w3.setCell ⟨w.heap.size,0,none⟩ (.slice a3 ks.length c3)).heap[w.heap.size+1]? = some (.cells #[.slice none 0 0,.int .i64 0,.int .i64 0] 26 (0,0)):=(Below.heap_setCell _ _ _ _ (by simp)).trans Y3
     have HX4:Hid _:=X4
     have HY4:Hid ((w3.setCell ⟨w.heap.size,0,none⟩ (.slice a3 ks.length c3)).heap[w.heap.size+1]? = some (.cells #[.slice none 0 0,.int .i64 0,.int .i64 0] 26 (0,0))):=Y4
     obtain⟨u0,u1,u2,uf⟩:=bat_cells X3
     have uf0:=uf 0
     obtain⟨z0,z1,z2,zf⟩:=bat_cells Y4
     have zf0:=zf 0
     have zf1:=zf 1
     have zf2:=zf 2
     obtain⟨r0,r1,r2,_⟩:=bat_cells X4
     clear o3 g3 X3 Y3 X4 Y4 uf zf))
 have F:Hid (∀ x y z,((((w3.setCell ⟨w.heap.size,0,none⟩ (.slice a3 ks.length c3)).setCell ⟨w.heap.size+1,0,none⟩ x).setCell ⟨w.heap.size+1,1,none⟩ y).setCell ⟨w.heap.size+1,2,none⟩ z).heap[w.heap.size+1]? = some (.cells #[x,y,z] 26 (0,0))):=fun x y z=>bat_set (j:=2) (bat_set (j:=1) (bat_set (j:=0) HY4.out))
 exact bodyPost_ret (v:=.agg #[.slice a3 ks.length c3,.int .i64 sn,.int .i64 nx]) (results_cell_row rfl _ _ (w.heap.size+1) 26 _ (0,0) _ rfl (F.out _ _ _) Tryd.underlying26 rfl (by kernel_rfl)) rfl ⟨a3,c3,rfl,ownsRow_setCell_other (ownsRow_setCell_other (ownsRow_setCell_other (ownsRow_setCell_other (O3.out.mono (by omega)) (fun e=>by have:=(O3.out.lt _ e).1;dsimp only at this;omega) _) (fun e=>by have:=(O3.out.lt _ e).1;dsimp only at this;omega) _) (fun e=>by have:=(O3.out.lt _ e).1;dsimp only at this;omega) _) (fun e=>by have:=(O3.out.lt _ e).1;dsimp only at this;omega) _,(((B3.out.setCell (Nat.le_refl _) _).setCell (by simp) _).setCell (by simp) _).setCell (by simp) _⟩
open Go.RowKit Go.Extern.Stop Go.Stop Go.Extern
theorem errType (v:Value) (w:World):(Extern.ReflectliteType.typeOf #[.iface 113 v]).run Tryd.prog w=.ok (.iface 89 (.agg #[.pointer (some ⟨3,113,none⟩)])) w:=by kernel_rfl
def cmpM : Array Value → Sem Value := Extern.ReflectliteType.method fun t => do Go.Extern.Rtype.noPackHeld "Comparable" t; pure (.bool (← typeInfo t).comparable)
theorem errComp (w:World):(cmpM #[.agg #[.pointer (some ⟨3,113,none⟩)]]).run Tryd.prog w=.ok (.bool true) w:=by kernel_rfl
theorem errMeth (v : Value) (w : World) : (Go.method 248 89 v "Comparable").run Tryd.prog w = .ok (78, v) w := by kernel_rfl
theorem errInfo:(Tryd.prog.info? 113).map (·.comparable)=some true:=by kernel_rfl
theorem errSize:(Tryd.prog.info? 136).map (·.size)=some 1:=by kernel_rfl
theorem errNoIs (v:Value) (xT:TypeId) (w:World):(Instr.typeAssert (.iface 113 v) xT 91 true).run Tryd.prog w=.ok (.tuple #[.nilIface,.bool false]) w:=run_typeAssert_lacksB Tryd.underlying91 (by kernel_rfl) (by kernel_rfl) v xT w
theorem errNoUn (v:Value) (xT:TypeId) (w:World):(Instr.typeAssert (.iface 113 v) xT 94 true).run Tryd.prog w=.ok (.tuple #[.nilIface,.bool false]) w:=run_typeAssert_lacksB Tryd.underlying94 (by kernel_rfl) (by kernel_rfl) v xT w
theorem errNoUns (v:Value) (xT:TypeId) (w:World):(Instr.typeAssert (.iface 113 v) xT 96 true).run Tryd.prog w=.ok (.tuple #[.nilIface,.bool false]) w:=run_typeAssert_lacksB Tryd.underlying96 (by kernel_rfl) (by kernel_rfl) v xT w
set_option maxRecDepth 100000 in
set_option maxHeartbeats 1000000 in
theorem is_nilE (b:Addr) (w:World):Calls Tryd.prog 28 #[.nilIface,.iface 113 (.pointer (some b))] w fun e w'=>e=.returned (.bool false)∧w'=w:=by
 have hn:=run_eql_iface_nil_left (P:=Tryd.prog) w 113 (.pointer (some b)) Tryd.underlying42
 go_enter Tryd.func28,Tryd.ntmps28
 go_wp2
 go_ret
 exact⟨rfl,rfl⟩
set_option maxRecDepth 100000 in
set_option maxHeartbeats 1000000 in
theorem is_sameE (a:Addr) (w:World):Calls Tryd.prog 28 #[.iface 113 (.pointer (some a)),.iface 113 (.pointer (some a))] w fun e w'=>e=.returned (.bool true)∧w'=w:=by
 obtain⟨i,hi,hcmp⟩:=Option.map_eq_some_iff.1 errInfo
 obtain⟨j,hj,hjs⟩:=Option.map_eq_some_iff.1 errSize
 have e1:=@run_callFunc_extern Tryd.prog 39 _ Extern.ReflectliteType.typeOf Tryd.func39 (by kernel_rfl) (by kernel_rfl) (by kernel_rfl) (by kernel_rfl)
 have e2:=@run_callFunc_extern Tryd.prog 78 _ cmpM Tryd.func78 (by kernel_rfl) (by kernel_rfl) (by kernel_rfl) (by kernel_rfl)
 have e3:=errType
 have e4:=errComp
 have e5:=errMeth
 have heq:=run_eql_iface_ptr_same (P:=Tryd.prog) w a Tryd.underlying42 Tryd.underlying113 hi hcmp hj
 go_enter Tryd.func28,Tryd.ntmps28
 go_wp2
 refine wp_loop_rounds 1 ?_
 rw[rounds_succ]
 go_wp2
 go_ret
 exact⟨rfl,rfl⟩
set_option maxRecDepth 100000 in
set_option maxHeartbeats 1000000 in
theorem is_otherE (a b:Addr) (ca cb:Array Value) (ta tb:TypeId) (w:World) (hne:a≠b) (ha:w.heap[a.block]? = some (.cells ca ta (0,0))) (hb:w.heap[b.block]? = some (.cells cb tb (0,0))):Calls Tryd.prog 28 #[.iface 113 (.pointer (some a)),.iface 113 (.pointer (some b))] w fun e w'=>e=.returned (.bool false)∧w'=w:=by
 obtain⟨i,hi,hcmp⟩:=Option.map_eq_some_iff.1 errInfo
 obtain⟨j,hj,hjs⟩:=Option.map_eq_some_iff.1 errSize
 have e1:=@run_callFunc_extern Tryd.prog 39 _ Extern.ReflectliteType.typeOf Tryd.func39 (by kernel_rfl) (by kernel_rfl) (by kernel_rfl) (by kernel_rfl)
 have e2:=@run_callFunc_extern Tryd.prog 78 _ cmpM Tryd.func78 (by kernel_rfl) (by kernel_rfl) (by kernel_rfl) (by kernel_rfl)
 have e3:=errType
 have e4:=errComp
 have e5:=errMeth
 have e6:=errNoIs
 have e7:=errNoUn
 have e8:=errNoUns
 have heq:=run_eql_iface_ptr_other (P:=Tryd.prog) w Tryd.underlying42 Tryd.underlying113 hi hcmp hj (by rw[hjs];decide) hne ha hb
 go_enter Tryd.func28,Tryd.ntmps28
 go_wp2
 refine wp_loop_rounds 1 ?_
 rw[rounds_succ]
 go_wp2
 go_ret
 exact⟨rfl,rfl⟩
set_option maxRecDepth 100000 in
set_option maxHeartbeats 1000000 in
theorem clone_strs (b off cap:Nat) (ks:List (List UInt8)) (w:World) (hl:ks.length≤1048576) (hs:IsStrs w (some ⟨b,off,none⟩) ks) :
 Calls Tryd.prog 29 #[.slice (some ⟨b,off,none⟩) ks.length cap] w fun e w'=>∃ (a:Option Addr) (c:Nat),e=.returned (.slice a ks.length c)∧w'.ownsRow w.heap.size 9 1 (.slice a ks.length c) ks.length (scells ks)∧Below w.heap.size w w':=by
 obtain⟨i0,hi0,hz0,hz1,hz2⟩:=info_parts info9n
 have B0:Below w.heap.size w (w.alloc (.cells #[] 9)):=(Below.refl _ _).alloc (Nat.le_refl _) _
 have HB0:Hid (Below w.heap.size w (w.alloc (.cells #[] 9))):=B0
 have HO0:=hidOwn (World.ownsRow_lit (e:=9) (size:=1) w #[] 0 (base:=w.heap.size) (Nat.le_refl _) (Nat.zero_le _) rfl)
 have HI0:Hid (IsStrs (w.alloc (.cells #[] 9)) (some ⟨b,off,none⟩) ks):=strs_later hs B0
 have hnil:∀ W,(binOp .eql 24 (.slice (some ⟨b,off,none⟩) ks.length cap) (.slice none 0 0)).run Tryd.prog W=.ok (.bool false) W:=fun W=>by first | rfl | (simp[binOp,Op.equal,run_underlying Tryd.underlying24])
 clear hs B0
 go_enter Tryd.func29,Tryd.ntmps29
 go_wp2_with (first
  | (at_builtin; refine wpList_append_strs rfl _ _ 24 rfl w.heap.size 9 i0 (.string ⟨#[]⟩) 16 Tryd.underlying24 hi0 hz0 hz1 hz2 rfl (.slice (some ⟨w.heap.size, 0, none⟩) 0 0) 0 [] rfl HO0.out (some ⟨b, off, none⟩) ks ks.length cap rfl rfl (by simp) HI0.out (by unfold maxLen; omega) (by omega) (by simp) ?_; intro v3 w3 o3 g3; obtain ⟨a3, m3, c3, rfl⟩ := own_sliceT o3
     have O3:Hid (w3.ownsRow w.heap.size 9 1 (.slice a3 m3 c3) ks.length (scells ks)):=(by rw[Hid];simpa using o3)
     have B3:Hid (Below w.heap.size w w3):=HB0.out.grown g3 HB0.out.size (fun q hq=>(HO0.out.lt q hq).1)
     clear o3 g3))
 obtain⟨hm3,_,_⟩:=strs_own O3.out
 subst hm3
 first | go_ret | (go_wp2;go_ret)
 exact⟨a3,c3,rfl,O3.out,B3.out⟩
set_option maxRecDepth 100000 in
theorem clone_strs0 (w:World):Calls Tryd.prog 29 #[.slice none 0 0] w fun e w'=>e=.returned (.slice none 0 0)∧w'=w:=by
 have hnil:∀ W,(binOp .eql 24 (.slice none 0 0) (.slice none 0 0)).run Tryd.prog W=.ok (.bool true) W:=fun W=>by first | rfl | (simp[binOp,Op.equal,run_underlying Tryd.underlying24])
 go_enter Tryd.func29,Tryd.ntmps29
 go_wp2
 go_ret
 exact⟨rfl,rfl⟩
theorem clone_keys (a:Option Addr) (cap:Nat) (ks:List (List UInt8)) (w:World) (hl:ks.length≤1048576) (hca:a=none→cap=0) (haa:a=none∨∃ b off,a=some ⟨b,off,none⟩) (hs:IsStrs w a ks) :
 Calls Tryd.prog 29 #[.slice a ks.length cap] w fun e w'=>∃ (a:Option Addr) (c:Nat),e=.returned (.slice a ks.length c)∧w'.ownsRow w.heap.size 9 1 (.slice a ks.length c) ks.length (scells ks)∧Below w.heap.size w w':=by
 rcases haa with rfl | ⟨b,off,rfl⟩
 · have hk:ks=[]:=by
    rcases hs with h | ⟨b,off,h,_⟩
    · exact h
    · cases h
   subst hk
   obtain rfl:=hca rfl
   refine (clone_strs0 w).mono ?_
   rintro e w' ⟨rfl,rfl⟩
   exact⟨none,0,rfl,World.ownsRow_nil _ _ _ _,Below.refl _ _⟩
 · exact clone_strs b off cap ks w hl hs
structure Errs (w:World) (e0 e1 e2:Addr):Prop where
 g0:w.cell? ⟨0,0,none⟩=some (.iface 113 (.pointer (some e0)))
 g1:w.cell? ⟨1,0,none⟩=some (.iface 113 (.pointer (some e1)))
 g2:w.cell? ⟨2,0,none⟩=some (.iface 113 (.pointer (some e2)))
 r0:∃ cs t,w.heap[e0.block]? = some (.cells cs t (0,0))
 r1:∃ cs t,w.heap[e1.block]? = some (.cells cs t (0,0))
 r2:∃ cs t,w.heap[e2.block]? = some (.cells cs t (0,0))
 n1:e1≠e0
 n2:e2≠e0
theorem Errs.later {w w':World} {e0 e1 e2:Addr} (h:Errs w e0 e1 e2) (hb:Below w.heap.size w w'):Errs w' e0 e1 e2:=by
 obtain⟨g0,g1,g2,⟨c0,t0,r0⟩,⟨c1,t1,r1⟩,⟨c2,t2,r2⟩,n1,n2⟩:=h
 exact⟨(hb.cell (World.block_lt_of_cell? w _ g0)).trans g0,(hb.cell (World.block_lt_of_cell? w _ g1)).trans g1,(hb.cell (World.block_lt_of_cell? w _ g2)).trans g2,⟨c0,t0,(hb.block _ (lt_of_block r0)).trans r0⟩,⟨c1,t1,(hb.block _ (lt_of_block r1)).trans r1⟩,⟨c2,t2,(hb.block _ (lt_of_block r2)).trans r2⟩,n1,n2⟩
set_option maxRecDepth 100000 in
set_option maxHeartbeats 2000000 in
theorem impl_behind_nil (a:Option Addr) (cap:Nat) (ks:List (List UInt8)) (sn nx:Int) (w:World) (e0 e1 e2:Addr) (hE:Errs w e0 e1 e2) (hl:ks.length≤1048576) (hca:a=none→cap=0) (haa:a=none∨∃ b off,a=some ⟨b,off,none⟩) (hs:IsStrs w a ks) :
 Calls Tryd.prog 15 #[.agg #[.slice a ks.length cap,.int .i64 sn,.int .i64 nx],.nilIface] w fun e w'=>∃ (a':Option Addr) (c':Nat),e=.returned (.agg #[.slice a' ks.length c',.int .i64 sn,.int .i64 nx])∧w'.ownsRow w.heap.size 9 1 (.slice a' ks.length c') ks.length (scells ks)∧Below w.heap.size w w':=by
 have B0:Below w.heap.size w ((w.alloc (.cells #[.slice a ks.length cap,.int .i64 sn,.int .i64 nx] 26)).alloc (.cells #[.slice none 0 0,.int .i64 0,.int .i64 0] 26)):=((Below.refl _ _).alloc (Nat.le_refl _) _).alloc (by simp) _
 have x0:((w.alloc (.cells #[.slice a ks.length cap,.int .i64 sn,.int .i64 nx] 26)).alloc (.cells #[.slice none 0 0,.int .i64 0,.int .i64 0] 26)).heap[w.heap.size]? = some (.cells #[.slice a ks.length cap,.int .i64 sn,.int .i64 nx] 26 (0,0)):=(Below.heap_alloc _ _ _ (by simp)).trans (heap_alloc_new w _)
 have y0:((w.alloc (.cells #[.slice a ks.length cap,.int .i64 sn,.int .i64 nx] 26)).alloc (.cells #[.slice none 0 0,.int .i64 0,.int .i64 0] 26)).heap[w.heap.size+1]? = some (.cells #[.slice none 0 0,.int .i64 0,.int .i64 0] 26 (0,0)):=by
  have:=heap_alloc_new (w.alloc (.cells #[.slice a ks.length cap,.int .i64 sn,.int .i64 nx] 26)) (.cells #[.slice none 0 0,.int .i64 0,.int .i64 0] 26)
  simpa using this
 obtain⟨g0,g1,g2,hr0,hr1,hr2,hn1,hn2⟩:=hE.later B0
 obtain⟨cs0,t0,hc0⟩:=hr0
 obtain⟨cs1,t1,hc1⟩:=hr1
 obtain⟨cs2,t2,hc2⟩:=hr2
 have K1:=is_nilE e0 ((w.alloc (.cells #[.slice a ks.length cap,.int .i64 sn,.int .i64 nx] 26)).alloc (.cells #[.slice none 0 0,.int .i64 0,.int .i64 0] 26))
 obtain⟨wa,hwa⟩:∃ wa,wa=((w.alloc (.cells #[.slice a ks.length cap,.int .i64 sn,.int .i64 nx] 26)).alloc (.cells #[.slice none 0 0,.int .i64 0,.int .i64 0] 26)):=⟨_,rfl⟩
 have sa:wa.heap.size=w.heap.size+2:=by rw[hwa];simp
 rw[←hwa] at B0 x0 y0 K1
 have HB0:Hid (Below w.heap.size w wa):=B0
 have HX0:Hid (wa.heap[w.heap.size]? = some (.cells #[.slice a ks.length cap,.int .i64 sn,.int .i64 nx] 26 (0,0))):=x0
 have HY0:Hid (wa.heap[w.heap.size+1]? = some (.cells #[.slice none 0 0,.int .i64 0,.int .i64 0] 26 (0,0))):=y0
 have HSA:Hid (wa.heap.size=w.heap.size+2):=sa
 have K2:=clone_keys a cap ks wa.drew hl hca haa (strs_later hs ⟨B0.os,B0.tape,B0.output,B0.size,B0.block⟩)
 have HSC:Hid (∀ W:World,W.heap[w.heap.size]? = some (.cells #[.slice a ks.length cap,.int .i64 sn,.int .i64 nx] 26 (0,0))→W.cell? ⟨w.heap.size,0,none⟩=some (.slice a ks.length cap)∧W.cell? ⟨w.heap.size,1,none⟩=some (.int .i64 sn)∧W.cell? ⟨w.heap.size,2,none⟩=some (.int .i64 nx)):=fun W hW=>by
  obtain⟨h1,h2,h3,_⟩:=bat_cells hW
  exact⟨h1,h2,h3⟩
 clear hs hE hc0 hc1 hc2 hn1 hn2 x0 y0 sa B0
 go_enter Tryd.func15,Tryd.ntmps15
 go_wp2_with fail
 rw[←hwa]
 refine K1.mono ?_
 rintro e w1 ⟨rfl,rfl⟩
 dsimp only
 clear K1 g0 g1 g2
 have Sd:Hid (w1.drew.cell? ⟨w.heap.size,0,none⟩=some (.slice a ks.length cap)∧w1.drew.cell? ⟨w.heap.size,1,none⟩=some (.int .i64 sn)∧w1.drew.cell? ⟨w.heap.size,2,none⟩=some (.int .i64 nx)):=HSC.out w1.drew HX0.out
 clear hwa
 go_wp2
 go_region_held3 (fun w'=>w'.cell? ⟨w.heap.size,0,none⟩=some (.slice a ks.length cap)∧w'.cell? ⟨w.heap.size,1,none⟩=some (.int .i64 sn)∧w'.cell? ⟨w.heap.size,2,none⟩=some (.int .i64 nx))
  (first | with_reducible exact S5.out | with_reducible exact S4.out | with_reducible exact Sd.out)
  ((go_at_call 29
    with_reducible refine K2.mono ?_
    rintro e w4 ⟨a4,c4,rfl,o4,b4'⟩
    have b4:Below w1.heap.size w1 w4:=⟨b4'.os,b4'.tape,b4'.output,b4'.size,b4'.block⟩
    have o4':w4.ownsRow w1.heap.size 9 1 (.slice a4 ks.length c4) ks.length (scells ks):=o4
    have hs4:=HSA.out
    have X4:w4.heap[w.heap.size]? = some (.cells #[.slice a ks.length cap,.int .i64 sn,.int .i64 nx] 26 (0,0)):=(b4.block w.heap.size (by omega)).trans HX0.out
    have Y4:w4.heap[w.heap.size+1]? = some (.cells #[.slice none 0 0,.int .i64 0,.int .i64 0] 26 (0,0)):=(b4.block (w.heap.size+1) (by omega)).trans HY0.out
    have S4:Hid (w4.cell? ⟨w.heap.size,0,none⟩=some (.slice a ks.length cap)∧w4.cell? ⟨w.heap.size,1,none⟩=some (.int .i64 sn)∧w4.cell? ⟨w.heap.size,2,none⟩=some (.int .i64 nx)):=HSC.out w4 X4
    have F:Hid ((((w4.setCell ⟨w.heap.size+1,0,none⟩ (.slice a4 ks.length c4)).setCell ⟨w.heap.size+1,1,none⟩ (.int .i64 sn)).setCell ⟨w.heap.size+1,2,none⟩ (.int .i64 nx)).heap[w.heap.size+1]? = some (.cells #[.slice a4 ks.length c4,.int .i64 sn,.int .i64 nx] 26 (0,0))):=bat_set (j:=2) (bat_set (j:=1) (bat_set (j:=0) Y4))
    have X5:(((w4.setCell ⟨w.heap.size+1,0,none⟩ (.slice a4 ks.length c4)).setCell ⟨w.heap.size+1,1,none⟩ (.int .i64 sn)).setCell ⟨w.heap.size+1,2,none⟩ (.int .i64 nx)).heap[w.heap.size]? = some (.cells #[.slice a ks.length cap,.int .i64 sn,.int .i64 nx] 26 (0,0)):=(Below.heap_setCell _ _ _ _ (by simp)).trans ((Below.heap_setCell _ _ _ _ (by simp)).trans ((Below.heap_setCell _ _ _ _ (by simp)).trans X4))
    have S5:Hid ((((w4.setCell ⟨w.heap.size+1,0,none⟩ (.slice a4 ks.length c4)).setCell ⟨w.heap.size+1,1,none⟩ (.int .i64 sn)).setCell ⟨w.heap.size+1,2,none⟩ (.int .i64 nx)).cell? ⟨w.heap.size,0,none⟩=some (.slice a ks.length cap)∧(((w4.setCell ⟨w.heap.size+1,0,none⟩ (.slice a4 ks.length c4)).setCell ⟨w.heap.size+1,1,none⟩ (.int .i64 sn)).setCell ⟨w.heap.size+1,2,none⟩ (.int .i64 nx)).cell? ⟨w.heap.size,1,none⟩=some (.int .i64 sn)∧(((w4.setCell ⟨w.heap.size+1,0,none⟩ (.slice a4 ks.length c4)).setCell ⟨w.heap.size+1,1,none⟩ (.int .i64 sn)).setCell ⟨w.heap.size+1,2,none⟩ (.int .i64 nx)).cell? ⟨w.heap.size,2,none⟩=some (.int .i64 nx)):=HSC.out _ X5
    have O5:Hid ((((w4.setCell ⟨w.heap.size+1,0,none⟩ (.slice a4 ks.length c4)).setCell ⟨w.heap.size+1,1,none⟩ (.int .i64 sn)).setCell ⟨w.heap.size+1,2,none⟩ (.int .i64 nx)).ownsRow w.heap.size 9 1 (.slice a4 ks.length c4) ks.length (scells ks)):=ownsRow_setCell_other (ownsRow_setCell_other (ownsRow_setCell_other (o4'.mono (by omega)) (fun e=>by have:=(o4'.lt _ e).1;dsimp only at this;omega) _) (fun e=>by have:=(o4'.lt _ e).1;dsimp only at this;omega) _) (fun e=>by have:=(o4'.lt _ e).1;dsimp only at this;omega) _
    have B5:Hid (Below w.heap.size w (((w4.setCell ⟨w.heap.size+1,0,none⟩ (.slice a4 ks.length c4)).setCell ⟨w.heap.size+1,1,none⟩ (.int .i64 sn)).setCell ⟨w.heap.size+1,2,none⟩ (.int .i64 nx))):=(((HB0.out.trans (b4.mono HB0.out.size)).setCell (by simp) _).setCell (by simp) _).setCell (by simp) _
    obtain⟨y0,y1,y2,yf⟩:=bat_cells Y4
    have yf0:=yf 0
    have yf1:=yf 1
    have yf2:=yf 2
    clear b4' b4 o4 o4' X4 Y4 X5 yf hs4))
 all_goals
  go_wp2
  exact bodyPost_ret (v:=.agg #[.slice a4 ks.length c4,.int .i64 sn,.int .i64 nx]) (results_cell_row rfl _ _ (w.heap.size+1) 26 _ (0,0) _ rfl F.out Tryd.underlying26 rfl (by kernel_rfl)) rfl ⟨a4,c4,rfl,O5.out,B5.out⟩
set_option maxRecDepth 100000 in
set_option maxHeartbeats 2000000 in
theorem impl_behind_batch (a:Option Addr) (cap:Nat) (ks:List (List UInt8)) (sn nx:Int) (w:World) (e0 e1 e2:Addr) (hE:Errs w e0 e1 e2) (hl:ks.length≤1048576) (hca:a=none→cap=0) (haa:a=none∨∃ b off,a=some ⟨b,off,none⟩) (hs:IsStrs w a ks) :
 Calls Tryd.prog 15 #[.agg #[.slice a ks.length cap,.int .i64 sn,.int .i64 nx],.iface 113 (.pointer (some e1))] w fun e w'=>∃ (a':Option Addr) (c':Nat),e=.returned (.agg #[.slice a' ks.length c',.int .i64 sn,.int .i64 nx])∧w'.ownsRow w.heap.size 9 1 (.slice a' ks.length c') ks.length (scells ks)∧Below w.heap.size w w':=by
 have B0:Below w.heap.size w ((w.alloc (.cells #[.slice a ks.length cap,.int .i64 sn,.int .i64 nx] 26)).alloc (.cells #[.slice none 0 0,.int .i64 0,.int .i64 0] 26)):=((Below.refl _ _).alloc (Nat.le_refl _) _).alloc (by simp) _
 have x0:((w.alloc (.cells #[.slice a ks.length cap,.int .i64 sn,.int .i64 nx] 26)).alloc (.cells #[.slice none 0 0,.int .i64 0,.int .i64 0] 26)).heap[w.heap.size]? = some (.cells #[.slice a ks.length cap,.int .i64 sn,.int .i64 nx] 26 (0,0)):=(Below.heap_alloc _ _ _ (by simp)).trans (heap_alloc_new w _)
 have y0:((w.alloc (.cells #[.slice a ks.length cap,.int .i64 sn,.int .i64 nx] 26)).alloc (.cells #[.slice none 0 0,.int .i64 0,.int .i64 0] 26)).heap[w.heap.size+1]? = some (.cells #[.slice none 0 0,.int .i64 0,.int .i64 0] 26 (0,0)):=by
  have:=heap_alloc_new (w.alloc (.cells #[.slice a ks.length cap,.int .i64 sn,.int .i64 nx] 26)) (.cells #[.slice none 0 0,.int .i64 0,.int .i64 0] 26)
  simpa using this
 obtain⟨g0,g1,g2,hr0,hr1,hr2,hn1,hn2⟩:=hE.later B0
 obtain⟨cs0,t0,hc0⟩:=hr0
 obtain⟨cs1,t1,hc1⟩:=hr1
 obtain⟨cs2,t2,hc2⟩:=hr2
 have K1:=is_otherE e1 e0 cs1 cs0 t1 t0 ((w.alloc (.cells #[.slice a ks.length cap,.int .i64 sn,.int .i64 nx] 26)).alloc (.cells #[.slice none 0 0,.int .i64 0,.int .i64 0] 26)) hn1 hc1 hc0
 obtain⟨wa,hwa⟩:∃ wa,wa=((w.alloc (.cells #[.slice a ks.length cap,.int .i64 sn,.int .i64 nx] 26)).alloc (.cells #[.slice none 0 0,.int .i64 0,.int .i64 0] 26)):=⟨_,rfl⟩
 have sa:wa.heap.size=w.heap.size+2:=by rw[hwa];simp
 rw[←hwa] at B0 x0 y0 K1
 have HB0:Hid (Below w.heap.size w wa):=B0
 have HX0:Hid (wa.heap[w.heap.size]? = some (.cells #[.slice a ks.length cap,.int .i64 sn,.int .i64 nx] 26 (0,0))):=x0
 have HY0:Hid (wa.heap[w.heap.size+1]? = some (.cells #[.slice none 0 0,.int .i64 0,.int .i64 0] 26 (0,0))):=y0
 have HSA:Hid (wa.heap.size=w.heap.size+2):=sa
 have K2:=clone_keys a cap ks wa.drew hl hca haa (strs_later hs ⟨B0.os,B0.tape,B0.output,B0.size,B0.block⟩)
 have HSC:Hid (∀ W:World,W.heap[w.heap.size]? = some (.cells #[.slice a ks.length cap,.int .i64 sn,.int .i64 nx] 26 (0,0))→W.cell? ⟨w.heap.size,0,none⟩=some (.slice a ks.length cap)∧W.cell? ⟨w.heap.size,1,none⟩=some (.int .i64 sn)∧W.cell? ⟨w.heap.size,2,none⟩=some (.int .i64 nx)):=fun W hW=>by
  obtain⟨h1,h2,h3,_⟩:=bat_cells hW
  exact⟨h1,h2,h3⟩
 clear hs hE hc0 hc1 hc2 hn1 hn2 x0 y0 sa B0
 go_enter Tryd.func15,Tryd.ntmps15
 go_wp2_with fail
 rw[←hwa]
 refine K1.mono ?_
 rintro e w1 ⟨rfl,rfl⟩
 dsimp only
 clear K1 g0 g1 g2
 have Sd:Hid (w1.drew.cell? ⟨w.heap.size,0,none⟩=some (.slice a ks.length cap)∧w1.drew.cell? ⟨w.heap.size,1,none⟩=some (.int .i64 sn)∧w1.drew.cell? ⟨w.heap.size,2,none⟩=some (.int .i64 nx)):=HSC.out w1.drew HX0.out
 clear hwa
 go_wp2
 go_region_held3 (fun w'=>w'.cell? ⟨w.heap.size,0,none⟩=some (.slice a ks.length cap)∧w'.cell? ⟨w.heap.size,1,none⟩=some (.int .i64 sn)∧w'.cell? ⟨w.heap.size,2,none⟩=some (.int .i64 nx))
  (first | with_reducible exact S5.out | with_reducible exact S4.out | with_reducible exact Sd.out)
  ((go_at_call 29
    with_reducible refine K2.mono ?_
    rintro e w4 ⟨a4,c4,rfl,o4,b4'⟩
    have b4:Below w1.heap.size w1 w4:=⟨b4'.os,b4'.tape,b4'.output,b4'.size,b4'.block⟩
    have o4':w4.ownsRow w1.heap.size 9 1 (.slice a4 ks.length c4) ks.length (scells ks):=o4
    have hs4:=HSA.out
    have X4:w4.heap[w.heap.size]? = some (.cells #[.slice a ks.length cap,.int .i64 sn,.int .i64 nx] 26 (0,0)):=(b4.block w.heap.size (by omega)).trans HX0.out
    have Y4:w4.heap[w.heap.size+1]? = some (.cells #[.slice none 0 0,.int .i64 0,.int .i64 0] 26 (0,0)):=(b4.block (w.heap.size+1) (by omega)).trans HY0.out
    have S4:Hid (w4.cell? ⟨w.heap.size,0,none⟩=some (.slice a ks.length cap)∧w4.cell? ⟨w.heap.size,1,none⟩=some (.int .i64 sn)∧w4.cell? ⟨w.heap.size,2,none⟩=some (.int .i64 nx)):=HSC.out w4 X4
    have F:Hid ((((w4.setCell ⟨w.heap.size+1,0,none⟩ (.slice a4 ks.length c4)).setCell ⟨w.heap.size+1,1,none⟩ (.int .i64 sn)).setCell ⟨w.heap.size+1,2,none⟩ (.int .i64 nx)).heap[w.heap.size+1]? = some (.cells #[.slice a4 ks.length c4,.int .i64 sn,.int .i64 nx] 26 (0,0))):=bat_set (j:=2) (bat_set (j:=1) (bat_set (j:=0) Y4))
    have X5:(((w4.setCell ⟨w.heap.size+1,0,none⟩ (.slice a4 ks.length c4)).setCell ⟨w.heap.size+1,1,none⟩ (.int .i64 sn)).setCell ⟨w.heap.size+1,2,none⟩ (.int .i64 nx)).heap[w.heap.size]? = some (.cells #[.slice a ks.length cap,.int .i64 sn,.int .i64 nx] 26 (0,0)):=(Below.heap_setCell _ _ _ _ (by simp)).trans ((Below.heap_setCell _ _ _ _ (by simp)).trans ((Below.heap_setCell _ _ _ _ (by simp)).trans X4))
    have S5:Hid ((((w4.setCell ⟨w.heap.size+1,0,none⟩ (.slice a4 ks.length c4)).setCell ⟨w.heap.size+1,1,none⟩ (.int .i64 sn)).setCell ⟨w.heap.size+1,2,none⟩ (.int .i64 nx)).cell? ⟨w.heap.size,0,none⟩=some (.slice a ks.length cap)∧(((w4.setCell ⟨w.heap.size+1,0,none⟩ (.slice a4 ks.length c4)).setCell ⟨w.heap.size+1,1,none⟩ (.int .i64 sn)).setCell ⟨w.heap.size+1,2,none⟩ (.int .i64 nx)).cell? ⟨w.heap.size,1,none⟩=some (.int .i64 sn)∧(((w4.setCell ⟨w.heap.size+1,0,none⟩ (.slice a4 ks.length c4)).setCell ⟨w.heap.size+1,1,none⟩ (.int .i64 sn)).setCell ⟨w.heap.size+1,2,none⟩ (.int .i64 nx)).cell? ⟨w.heap.size,2,none⟩=some (.int .i64 nx)):=HSC.out _ X5
    have O5:Hid ((((w4.setCell ⟨w.heap.size+1,0,none⟩ (.slice a4 ks.length c4)).setCell ⟨w.heap.size+1,1,none⟩ (.int .i64 sn)).setCell ⟨w.heap.size+1,2,none⟩ (.int .i64 nx)).ownsRow w.heap.size 9 1 (.slice a4 ks.length c4) ks.length (scells ks)):=ownsRow_setCell_other (ownsRow_setCell_other (ownsRow_setCell_other (o4'.mono (by omega)) (fun e=>by have:=(o4'.lt _ e).1;dsimp only at this;omega) _) (fun e=>by have:=(o4'.lt _ e).1;dsimp only at this;omega) _) (fun e=>by have:=(o4'.lt _ e).1;dsimp only at this;omega) _
    have B5:Hid (Below w.heap.size w (((w4.setCell ⟨w.heap.size+1,0,none⟩ (.slice a4 ks.length c4)).setCell ⟨w.heap.size+1,1,none⟩ (.int .i64 sn)).setCell ⟨w.heap.size+1,2,none⟩ (.int .i64 nx))):=(((HB0.out.trans (b4.mono HB0.out.size)).setCell (by simp) _).setCell (by simp) _).setCell (by simp) _
    obtain⟨y0,y1,y2,yf⟩:=bat_cells Y4
    have yf0:=yf 0
    have yf1:=yf 1
    have yf2:=yf 2
    clear b4' b4 o4 o4' X4 Y4 X5 yf hs4))
 all_goals
  go_wp2
  exact bodyPost_ret (v:=.agg #[.slice a4 ks.length c4,.int .i64 sn,.int .i64 nx]) (results_cell_row rfl _ _ (w.heap.size+1) 26 _ (0,0) _ rfl F.out Tryd.underlying26 rfl (by kernel_rfl)) rfl ⟨a4,c4,rfl,O5.out,B5.out⟩
set_option maxRecDepth 100000 in
set_option maxHeartbeats 2000000 in
theorem impl_behind_last (a:Option Addr) (cap:Nat) (ks:List (List UInt8)) (sn nx:Int) (w:World) (e0 e1 e2:Addr) (hE:Errs w e0 e1 e2) (hl:ks.length≤1048576) (hca:a=none→cap=0) (haa:a=none∨∃ b off,a=some ⟨b,off,none⟩) (hs:IsStrs w a ks) :
 Calls Tryd.prog 15 #[.agg #[.slice a ks.length cap,.int .i64 sn,.int .i64 nx],.iface 113 (.pointer (some e2))] w fun e w'=>∃ (a':Option Addr) (c':Nat),e=.returned (.agg #[.slice a' ks.length c',.int .i64 sn,.int .i64 nx])∧w'.ownsRow w.heap.size 9 1 (.slice a' ks.length c') ks.length (scells ks)∧Below w.heap.size w w':=by
 have B0:Below w.heap.size w ((w.alloc (.cells #[.slice a ks.length cap,.int .i64 sn,.int .i64 nx] 26)).alloc (.cells #[.slice none 0 0,.int .i64 0,.int .i64 0] 26)):=((Below.refl _ _).alloc (Nat.le_refl _) _).alloc (by simp) _
 have x0:((w.alloc (.cells #[.slice a ks.length cap,.int .i64 sn,.int .i64 nx] 26)).alloc (.cells #[.slice none 0 0,.int .i64 0,.int .i64 0] 26)).heap[w.heap.size]? = some (.cells #[.slice a ks.length cap,.int .i64 sn,.int .i64 nx] 26 (0,0)):=(Below.heap_alloc _ _ _ (by simp)).trans (heap_alloc_new w _)
 have y0:((w.alloc (.cells #[.slice a ks.length cap,.int .i64 sn,.int .i64 nx] 26)).alloc (.cells #[.slice none 0 0,.int .i64 0,.int .i64 0] 26)).heap[w.heap.size+1]? = some (.cells #[.slice none 0 0,.int .i64 0,.int .i64 0] 26 (0,0)):=by
  have:=heap_alloc_new (w.alloc (.cells #[.slice a ks.length cap,.int .i64 sn,.int .i64 nx] 26)) (.cells #[.slice none 0 0,.int .i64 0,.int .i64 0] 26)
  simpa using this
 obtain⟨g0,g1,g2,hr0,hr1,hr2,hn1,hn2⟩:=hE.later B0
 obtain⟨cs0,t0,hc0⟩:=hr0
 obtain⟨cs1,t1,hc1⟩:=hr1
 obtain⟨cs2,t2,hc2⟩:=hr2
 have K1:=is_otherE e2 e0 cs2 cs0 t2 t0 ((w.alloc (.cells #[.slice a ks.length cap,.int .i64 sn,.int .i64 nx] 26)).alloc (.cells #[.slice none 0 0,.int .i64 0,.int .i64 0] 26)) hn2 hc2 hc0
 obtain⟨wa,hwa⟩:∃ wa,wa=((w.alloc (.cells #[.slice a ks.length cap,.int .i64 sn,.int .i64 nx] 26)).alloc (.cells #[.slice none 0 0,.int .i64 0,.int .i64 0] 26)):=⟨_,rfl⟩
 have sa:wa.heap.size=w.heap.size+2:=by rw[hwa];simp
 rw[←hwa] at B0 x0 y0 K1
 have HB0:Hid (Below w.heap.size w wa):=B0
 have HX0:Hid (wa.heap[w.heap.size]? = some (.cells #[.slice a ks.length cap,.int .i64 sn,.int .i64 nx] 26 (0,0))):=x0
 have HY0:Hid (wa.heap[w.heap.size+1]? = some (.cells #[.slice none 0 0,.int .i64 0,.int .i64 0] 26 (0,0))):=y0
 have HSA:Hid (wa.heap.size=w.heap.size+2):=sa
 have K2:=clone_keys a cap ks wa.drew hl hca haa (strs_later hs ⟨B0.os,B0.tape,B0.output,B0.size,B0.block⟩)
 have HSC:Hid (∀ W:World,W.heap[w.heap.size]? = some (.cells #[.slice a ks.length cap,.int .i64 sn,.int .i64 nx] 26 (0,0))→W.cell? ⟨w.heap.size,0,none⟩=some (.slice a ks.length cap)∧W.cell? ⟨w.heap.size,1,none⟩=some (.int .i64 sn)∧W.cell? ⟨w.heap.size,2,none⟩=some (.int .i64 nx)):=fun W hW=>by
  obtain⟨h1,h2,h3,_⟩:=bat_cells hW
  exact⟨h1,h2,h3⟩
 clear hs hE hc0 hc1 hc2 hn1 hn2 x0 y0 sa B0
 go_enter Tryd.func15,Tryd.ntmps15
 go_wp2_with fail
 rw[←hwa]
 refine K1.mono ?_
 rintro e w1 ⟨rfl,rfl⟩
 dsimp only
 clear K1 g0 g1 g2
 have Sd:Hid (w1.drew.cell? ⟨w.heap.size,0,none⟩=some (.slice a ks.length cap)∧w1.drew.cell? ⟨w.heap.size,1,none⟩=some (.int .i64 sn)∧w1.drew.cell? ⟨w.heap.size,2,none⟩=some (.int .i64 nx)):=HSC.out w1.drew HX0.out
 clear hwa
 go_wp2
 go_region_held3 (fun w'=>w'.cell? ⟨w.heap.size,0,none⟩=some (.slice a ks.length cap)∧w'.cell? ⟨w.heap.size,1,none⟩=some (.int .i64 sn)∧w'.cell? ⟨w.heap.size,2,none⟩=some (.int .i64 nx))
  (first | with_reducible exact S5.out | with_reducible exact S4.out | with_reducible exact Sd.out)
  ((go_at_call 29
    with_reducible refine K2.mono ?_
    rintro e w4 ⟨a4,c4,rfl,o4,b4'⟩
    have b4:Below w1.heap.size w1 w4:=⟨b4'.os,b4'.tape,b4'.output,b4'.size,b4'.block⟩
    have o4':w4.ownsRow w1.heap.size 9 1 (.slice a4 ks.length c4) ks.length (scells ks):=o4
    have hs4:=HSA.out
    have X4:w4.heap[w.heap.size]? = some (.cells #[.slice a ks.length cap,.int .i64 sn,.int .i64 nx] 26 (0,0)):=(b4.block w.heap.size (by omega)).trans HX0.out
    have Y4:w4.heap[w.heap.size+1]? = some (.cells #[.slice none 0 0,.int .i64 0,.int .i64 0] 26 (0,0)):=(b4.block (w.heap.size+1) (by omega)).trans HY0.out
    have S4:Hid (w4.cell? ⟨w.heap.size,0,none⟩=some (.slice a ks.length cap)∧w4.cell? ⟨w.heap.size,1,none⟩=some (.int .i64 sn)∧w4.cell? ⟨w.heap.size,2,none⟩=some (.int .i64 nx)):=HSC.out w4 X4
    have F:Hid ((((w4.setCell ⟨w.heap.size+1,0,none⟩ (.slice a4 ks.length c4)).setCell ⟨w.heap.size+1,1,none⟩ (.int .i64 sn)).setCell ⟨w.heap.size+1,2,none⟩ (.int .i64 nx)).heap[w.heap.size+1]? = some (.cells #[.slice a4 ks.length c4,.int .i64 sn,.int .i64 nx] 26 (0,0))):=bat_set (j:=2) (bat_set (j:=1) (bat_set (j:=0) Y4))
    have X5:(((w4.setCell ⟨w.heap.size+1,0,none⟩ (.slice a4 ks.length c4)).setCell ⟨w.heap.size+1,1,none⟩ (.int .i64 sn)).setCell ⟨w.heap.size+1,2,none⟩ (.int .i64 nx)).heap[w.heap.size]? = some (.cells #[.slice a ks.length cap,.int .i64 sn,.int .i64 nx] 26 (0,0)):=(Below.heap_setCell _ _ _ _ (by simp)).trans ((Below.heap_setCell _ _ _ _ (by simp)).trans ((Below.heap_setCell _ _ _ _ (by simp)).trans X4))
    have S5:Hid ((((w4.setCell ⟨w.heap.size+1,0,none⟩ (.slice a4 ks.length c4)).setCell ⟨w.heap.size+1,1,none⟩ (.int .i64 sn)).setCell ⟨w.heap.size+1,2,none⟩ (.int .i64 nx)).cell? ⟨w.heap.size,0,none⟩=some (.slice a ks.length cap)∧(((w4.setCell ⟨w.heap.size+1,0,none⟩ (.slice a4 ks.length c4)).setCell ⟨w.heap.size+1,1,none⟩ (.int .i64 sn)).setCell ⟨w.heap.size+1,2,none⟩ (.int .i64 nx)).cell? ⟨w.heap.size,1,none⟩=some (.int .i64 sn)∧(((w4.setCell ⟨w.heap.size+1,0,none⟩ (.slice a4 ks.length c4)).setCell ⟨w.heap.size+1,1,none⟩ (.int .i64 sn)).setCell ⟨w.heap.size+1,2,none⟩ (.int .i64 nx)).cell? ⟨w.heap.size,2,none⟩=some (.int .i64 nx)):=HSC.out _ X5
    have O5:Hid ((((w4.setCell ⟨w.heap.size+1,0,none⟩ (.slice a4 ks.length c4)).setCell ⟨w.heap.size+1,1,none⟩ (.int .i64 sn)).setCell ⟨w.heap.size+1,2,none⟩ (.int .i64 nx)).ownsRow w.heap.size 9 1 (.slice a4 ks.length c4) ks.length (scells ks)):=ownsRow_setCell_other (ownsRow_setCell_other (ownsRow_setCell_other (o4'.mono (by omega)) (fun e=>by have:=(o4'.lt _ e).1;dsimp only at this;omega) _) (fun e=>by have:=(o4'.lt _ e).1;dsimp only at this;omega) _) (fun e=>by have:=(o4'.lt _ e).1;dsimp only at this;omega) _
    have B5:Hid (Below w.heap.size w (((w4.setCell ⟨w.heap.size+1,0,none⟩ (.slice a4 ks.length c4)).setCell ⟨w.heap.size+1,1,none⟩ (.int .i64 sn)).setCell ⟨w.heap.size+1,2,none⟩ (.int .i64 nx))):=(((HB0.out.trans (b4.mono HB0.out.size)).setCell (by simp) _).setCell (by simp) _).setCell (by simp) _
    obtain⟨y0,y1,y2,yf⟩:=bat_cells Y4
    have yf0:=yf 0
    have yf1:=yf 1
    have yf2:=yf 2
    clear b4' b4 o4 o4' X4 Y4 X5 yf hs4))
 all_goals
  go_wp2
  exact bodyPost_ret (v:=.agg #[.slice a4 ks.length c4,.int .i64 sn,.int .i64 nx]) (results_cell_row rfl _ _ (w.heap.size+1) 26 _ (0,0) _ rfl F.out Tryd.underlying26 rfl (by kernel_rfl)) rfl ⟨a4,c4,rfl,O5.out,B5.out⟩
theorem flat_ops {w:World} {a:Option Addr} {ad:Addr} {qs:List OpL} (h:IsOps w a qs) (ha:a=some ad):∀ j u,(ocells qs)[j]? = some u→w.cell? (ad.add j)=some u:=by
 intro j u hu
 rcases h with rfl | ⟨b,off,h1,h2⟩
 · simp[ocells] at hu
 · rw[h1] at ha
   cases ha
   have hj:j<qs.length*3:=by
    have:=(List.getElem?_eq_some_iff.1 hu).1
    rwa [ocells_length] at this
   have hc:=h2 (j / 3) (by omega)
   have hp:=ocells_at qs (j / 3) (by omega)
   have hadd:∀ x:Nat,(⟨b,off,none⟩:Addr).add x=⟨b,off+x,none⟩:=fun x=>by
    by_cases e:x=0
    · subst e;simp[Addr.add]
    · simp[Addr.add,e]
   rw[hadd]
   have hm:j % 3=0∨j % 3=1∨j % 3=2:=by omega
   rcases hm with h0 | h0 | h0
   · have e:j=j / 3*3:=by omega
     rw[e] at hu ⊢
     rw[hp.1] at hu
     rw[hc.1,hu]
   · have e:j=j / 3*3+1:=by omega
     rw[e] at hu ⊢
     rw[hp.2.1] at hu
     rw[show off+(j / 3*3+1)=off+j / 3*3+1 by omega,hc.2.1,hu]
   · have e:j=j / 3*3+2:=by omega
     rw[e] at hu ⊢
     rw[hp.2.2] at hu
     rw[show off+(j / 3*3+2)=off+j / 3*3+2 by omega,hc.2.2,hu]
theorem one_ops (qs:List OpL):∀ u∈ocells qs,u.oneCell'=true:=by
 induction qs with
 | nil=>simp[ocells]
 | cons p l ih=>simpa [ocells,Value.oneCell'] using ih
theorem own_sliceO {w:World} {B e n:Nat} {v:Value} {xs:List Value} (h:w.ownsRow B e 3 v n xs):∃ a m c,v=.slice a m c:=by
 rcases h.2 with ⟨h',h0⟩ | ⟨g,cap,cur,h',_⟩
 · exact⟨_,_,_,h'⟩
 · exact⟨_,_,_,h'⟩
theorem wpList_append_ops {P:Program} {w:World} {ops:Array Oper} {rest:List Oper} {o:Oper} {a:Act} {Q:Exit→Act→World→Prop} (hgd:o.guard=none) (s x:Operand) (t:TypeId)
 (ho:o.op=.call { callee:=.builtin .append,args:=#[s,x],argTypes:=#[t,t] })
 (base:Nat) (e:TypeId) (i:TypeInfo) (z:Value) (bytes:Nat) (ht:P.underlying t=some (.slice e)) (hi:P.info? e=some i) (hz:i.zero=some z)
 (hsize:i.size=3) (hby:i.bytes=bytes) (hzs:z.cells.size=3)
 (v:Value) (n:Nat) (xs:List Value) (hs:a.eval s=v) (hown:w.ownsRow base e 3 v n xs)
 (a2:Option Addr) (qs:List OpL) (m c:Nat) (hm:m=qs.length) (hx:a.eval x=.slice a2 m c) (hc:a2=none→c=0) (hp:IsOps w a2 qs)
 (h63:n+m≤maxLen) (hbytes:(n+m)*bytes≤140737488355328) (hbase:base≤w.heap.size)
 (h:∀ v' w',w'.ownsRow base e 3 v' (n+m) (xs ++ ocells qs)→w.grownBy w' v.ownBlock→wpList P ops Q rest (a.put o.dst v') w'):wpList P ops Q (o :: rest) a w:=by
 subst hm
 cases a2 with
 | none =>
   have hq:qs=[]:=by
    rcases hp with h | ⟨b,off,h,_⟩
    · exact h
    · cases h
   subst hq
   obtain rfl:=hc rfl
   refine wpList_append_own_none hgd s x t ho base e i 3 ht hi v n xs hs hown hx (h v w ?_ (World.grownBy.refl _ _))
   simpa [ocells] using hown
 | some ad=>exact wpList_append_own w hgd s x t ho base e i z 3 bytes ht hi hz hsize hby hzs (by decide) v n xs hs hown ad qs.length c (ocells qs) hx (ocells_length qs) (flat_ops hp rfl) (one_ops qs) h63 hbytes hbase (fun v' w' h1 h2 _=>h v' w' h1 h2)
theorem infoOn:(Tryd.prog.info? 52).map (fun i=>(i.zero,i.size,i.bytes))=some (some (.agg #[.string ⟨#[]⟩,.string ⟨#[]⟩,.bool false]),3,40):=by kernel_rfl
set_option maxRecDepth 100000 in
set_option maxHeartbeats 1000000 in
theorem clone_ops (b off cap:Nat) (ks:List OpL) (w:World) (hl:ks.length≤1048576) (hs:IsOps w (some ⟨b,off,none⟩) ks) :
 Calls Tryd.prog 27 #[.slice (some ⟨b,off,none⟩) ks.length cap] w fun e w'=>∃ (a:Option Addr) (c:Nat),e=.returned (.slice a ks.length c)∧w'.ownsRow w.heap.size 52 3 (.slice a ks.length c) ks.length (ocells ks)∧Below w.heap.size w w':=by
 obtain⟨i0,hi0,hz0,hz1,hz2⟩:=info_parts infoOn
 have B0:Below w.heap.size w (w.alloc (.cells #[] 52)):=(Below.refl _ _).alloc (Nat.le_refl _) _
 have HB0:Hid (Below w.heap.size w (w.alloc (.cells #[] 52))):=B0
 have HO0:=hidOwn (World.ownsRow_lit (e:=52) (size:=3) w #[] 0 (base:=w.heap.size) (Nat.le_refl _) (Nat.zero_le _) rfl)
 have HI0:Hid (IsOps (w.alloc (.cells #[] 52)) (some ⟨b,off,none⟩) ks):=hs.later B0
 have hnil:∀ W,(binOp .eql 27 (.slice (some ⟨b,off,none⟩) ks.length cap) (.slice none 0 0)).run Tryd.prog W=.ok (.bool false) W:=fun W=>by first | rfl | (simp[binOp,Op.equal,run_underlying Tryd.underlying27])
 clear hs B0
 go_enter Tryd.func27,Tryd.ntmps27
 go_wp2_with (first
  | (at_builtin; refine wpList_append_ops rfl _ _ 27 rfl w.heap.size 52 i0 (.agg #[.string ⟨#[]⟩, .string ⟨#[]⟩, .bool false]) 40 Tryd.underlying27 hi0 hz0 hz1 hz2 rfl (.slice (some ⟨w.heap.size, 0, none⟩) 0 0) 0 [] rfl HO0.out (some ⟨b, off, none⟩) ks ks.length cap rfl rfl (by simp) HI0.out (by unfold maxLen; omega) (by omega) (by simp) ?_; intro v3 w3 o3 g3; obtain ⟨a3, m3, c3, rfl⟩ := own_sliceO o3
     have O3:Hid (w3.ownsRow w.heap.size 52 3 (.slice a3 m3 c3) ks.length (ocells ks)):=(by rw[Hid];simpa using o3)
     have B3:Hid (Below w.heap.size w w3):=HB0.out.grown g3 HB0.out.size (fun q hq=>(HO0.out.lt q hq).1)
     clear o3 g3))
 obtain⟨hm3,_,_⟩:=isOps_own O3.out
 subst hm3
 first | go_ret | (go_wp2;go_ret)
 exact⟨a3,c3,rfl,O3.out,B3.out⟩
set_option maxRecDepth 100000 in
theorem clone_ops0 (w:World):Calls Tryd.prog 27 #[.slice none 0 0] w fun e w'=>e=.returned (.slice none 0 0)∧w'=w:=by
 have hnil:∀ W,(binOp .eql 27 (.slice none 0 0) (.slice none 0 0)).run Tryd.prog W=.ok (.bool true) W:=fun W=>by first | rfl | (simp[binOp,Op.equal,run_underlying Tryd.underlying27])
 go_enter Tryd.func27,Tryd.ntmps27
 go_wp2
 go_ret
 exact⟨rfl,rfl⟩
theorem clone_opsN (a:Option Addr) (cap:Nat) (ks:List OpL) (w:World) (hl:ks.length≤1048576) (hca:a=none→cap=0) (haa:a=none∨∃ b off,a=some ⟨b,off,none⟩) (hs:IsOps w a ks) :
 Calls Tryd.prog 27 #[.slice a ks.length cap] w fun e w'=>∃ (a:Option Addr) (c:Nat),e=.returned (.slice a ks.length c)∧w'.ownsRow w.heap.size 52 3 (.slice a ks.length c) ks.length (ocells ks)∧Below w.heap.size w w':=by
 rcases haa with rfl | ⟨b,off,rfl⟩
 · have hk:ks=[]:=by
    rcases hs with h | ⟨b,off,h,_⟩
    · exact h
    · cases h
   subst hk
   obtain rfl:=hca rfl
   refine (clone_ops0 w).mono ?_
   rintro e w' ⟨rfl,rfl⟩
   exact⟨none,0,rfl,World.ownsRow_nil _ _ _ _,Below.refl _ _⟩
 · exact clone_ops b off cap ks w hl hs
set_option maxRecDepth 100000 in
set_option maxHeartbeats 2000000 in
theorem impl_behind_client (a:Option Addr) (cap:Nat) (ks:List (List UInt8)) (sn nx:Int) (w:World) (e0 e1 e2:Addr) (hE:Errs w e0 e1 e2) :
 Calls Tryd.prog 15 #[.agg #[.slice a ks.length cap,.int .i64 sn,.int .i64 nx],.iface 113 (.pointer (some e0))] w fun e w'=>e=.returned (.agg #[.slice none 0 0,.int .i64 0,.int .i64 0])∧Below w.heap.size w w':=by
 have B0:Below w.heap.size w ((w.alloc (.cells #[.slice a ks.length cap,.int .i64 sn,.int .i64 nx] 26)).alloc (.cells #[.slice none 0 0,.int .i64 0,.int .i64 0] 26)):=((Below.refl _ _).alloc (Nat.le_refl _) _).alloc (by simp) _
 have y0:((w.alloc (.cells #[.slice a ks.length cap,.int .i64 sn,.int .i64 nx] 26)).alloc (.cells #[.slice none 0 0,.int .i64 0,.int .i64 0] 26)).heap[w.heap.size+1]? = some (.cells #[.slice none 0 0,.int .i64 0,.int .i64 0] 26 (0,0)):=by
  have:=heap_alloc_new (w.alloc (.cells #[.slice a ks.length cap,.int .i64 sn,.int .i64 nx] 26)) (.cells #[.slice none 0 0,.int .i64 0,.int .i64 0] 26)
  simpa using this
 obtain⟨g0,g1,g2,hr0,hr1,hr2,hn1,hn2⟩:=hE.later B0
 have K1:=is_sameE e0 ((w.alloc (.cells #[.slice a ks.length cap,.int .i64 sn,.int .i64 nx] 26)).alloc (.cells #[.slice none 0 0,.int .i64 0,.int .i64 0] 26))
 have HB0:Hid (Below w.heap.size w ((w.alloc (.cells #[.slice a ks.length cap,.int .i64 sn,.int .i64 nx] 26)).alloc (.cells #[.slice none 0 0,.int .i64 0,.int .i64 0] 26))):=B0
 have HY0:Hid (((w.alloc (.cells #[.slice a ks.length cap,.int .i64 sn,.int .i64 nx] 26)).alloc (.cells #[.slice none 0 0,.int .i64 0,.int .i64 0] 26)).heap[w.heap.size+1]? = some (.cells #[.slice none 0 0,.int .i64 0,.int .i64 0] 26 (0,0))):=y0
 clear hE hr0 hr1 hr2 hn1 hn2 B0 y0
 go_enter Tryd.func15,Tryd.ntmps15
 go_wp2_with fail
 refine K1.mono ?_
 rintro e w1 ⟨rfl,hw1⟩
 rw[←hw1] at HB0 HY0
 clear K1 g0 g1 g2
 obtain⟨y0,y1,y2,yf⟩:=bat_cells HY0.out
 have yf0:=yf 0
 have yf1:=yf 1
 have yf2:=yf 2
 clear yf hw1
 go_wp2
 exact bodyPost_ret (v:=.agg #[.slice none 0 0,.int .i64 0,.int .i64 0]) (results_cell_row rfl _ _ (w.heap.size+1) 26 _ (0,0) _ rfl (bat_set (j:=2) (bat_set (j:=1) (bat_set (j:=0) HY0.out))) Tryd.underlying26 rfl (by kernel_rfl)) rfl ⟨rfl,((HB0.out.setCell (by simp) _).setCell (by simp) _).setCell (by simp) _⟩
end Go.Proofs.YtgjddhlmmljabaaDoor
