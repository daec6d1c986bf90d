/-
 Contracts: slices.Clone of ops; with what client a caller goes on behind one that is not right.
-/
import Derived.Test.YtbpgpmchnjbclaaDoorNbC
import Derived.Test.YtbpgpmchnjbclaaDoorAppO
namespace Go.Proofs.YtbpgpmchnjbclaaDoor
open Go.RowKit
set_option linter.unusedVariables false
theorem infoOn:(Tryd.prog.info? 55).map (fun i=>(i.zero,i.size,i.bytes))=some (some (.agg #[.string ⟨#[]⟩,.string ⟨#[]⟩,.bool false]),3,40):=by kernel_rfl
set_option maxRecDepth 100000 in
set_option maxHeartbeats 1000000 in
theorem clone_ops (b off cap:Nat) (ks:List OpL) (w:World) (hl:ks.length≤1048576) (hs:IsOps w (some ⟨b,off,none⟩) ks) :
 Calls Tryd.prog 47 #[.slice (some ⟨b,off,none⟩) ks.length cap] w fun e w'=>∃ (a:Option Addr) (c:Nat),e=.returned (.slice a ks.length c)∧w'.ownsRow w.heap.size 55 3 (.slice a ks.length c) ks.length (ocells ks)∧Below w.heap.size w w':=by
 obtain⟨i0,hi0,hz0,hz1,hz2⟩:=info_parts infoOn
 have B0:Below w.heap.size w (w.alloc (.cells #[] 55)):=(Below.refl _ _).alloc (Nat.le_refl _) _
 have HB0:Hid (Below w.heap.size w (w.alloc (.cells #[] 55))):=B0
 have HO0:=hidOwn (World.ownsRow_lit (e:=55) (size:=3) w #[] 0 (base:=w.heap.size) (Nat.le_refl _) (Nat.zero_le _) rfl)
 have HI0:Hid (IsOps (w.alloc (.cells #[] 55)) (some ⟨b,off,none⟩) ks):=hs.later B0
 have hnil:∀ W,(binOp .eql 29 (.slice (some ⟨b,off,none⟩) ks.length cap) (.slice none 0 0)).run Tryd.prog W=.ok (.bool false) W:=fun W=>by first | rfl | (simp[binOp,Op.equal,run_underlying Tryd.underlying29])
 clear hs B0
 go_enter Tryd.func47,Tryd.ntmps47
 go_wp2_with (first
  | (at_builtin; refine wpList_append_ops rfl _ _ 29 rfl w.heap.size 55 i0 (.agg #[.string ⟨#[]⟩, .string ⟨#[]⟩, .bool false]) 40 Tryd.underlying29 hi0 hz0 hz1 hz2 rfl (.slice (some ⟨w.heap.size, 0, none⟩) 0 0) 0 [] rfl HO0.out (some ⟨b, off, none⟩) ks ks.length cap rfl rfl (by simp) HI0.out (by unfold maxLen; omega) (by omega) (by simp) ?_; intro v3 w3 o3 g3; obtain ⟨a3, m3, c3, rfl⟩ := own_sliceO o3
     have O3:Hid (w3.ownsRow w.heap.size 55 3 (.slice a3 m3 c3) ks.length (ocells ks)):=(by rw[Hid];simpa using o3)
     have B3:Hid (Below w.heap.size w w3):=HB0.out.grown g3 HB0.out.size (fun q hq=>(HO0.out.lt q hq).1)
     clear o3 g3))
 obtain⟨hm3,_,_⟩:=isOps_own O3.out
 subst hm3
 first | go_ret | (go_wp2;go_ret)
 exact⟨a3,c3,rfl,O3.out,B3.out⟩
set_option maxRecDepth 100000 in
theorem clone_ops0 (w:World):Calls Tryd.prog 47 #[.slice none 0 0] w fun e w'=>e=.returned (.slice none 0 0)∧w'=w:=by
 have hnil:∀ W,(binOp .eql 29 (.slice none 0 0) (.slice none 0 0)).run Tryd.prog W=.ok (.bool true) W:=fun W=>by first | rfl | (simp[binOp,Op.equal,run_underlying Tryd.underlying29])
 go_enter Tryd.func47,Tryd.ntmps47
 go_wp2
 go_ret
 exact⟨rfl,rfl⟩
theorem clone_opsN (a:Option Addr) (cap:Nat) (ks:List OpL) (w:World) (hl:ks.length≤1048576) (hca:a=none→cap=0) (haa:a=none∨∃ b off,a=some ⟨b,off,none⟩) (hs:IsOps w a ks) :
 Calls Tryd.prog 47 #[.slice a ks.length cap] w fun e w'=>∃ (a:Option Addr) (c:Nat),e=.returned (.slice a ks.length c)∧w'.ownsRow w.heap.size 55 3 (.slice a ks.length c) ks.length (ocells ks)∧Below w.heap.size w w':=by
 rcases haa with rfl | ⟨b,off,rfl⟩
 · have hk:ks=[]:=by
    rcases hs with h | ⟨b,off,h,_⟩
    · exact h
    · cases h
   subst hk
   obtain rfl:=hca rfl
   refine (clone_ops0 w).mono ?_
   rintro e w' ⟨rfl,rfl⟩
   exact⟨none,0,rfl,World.ownsRow_nil _ _ _ _,Below.refl _ _⟩
 · exact clone_ops b off cap ks w hl hs
set_option maxRecDepth 100000 in
set_option maxHeartbeats 2000000 in
theorem impl_behind_client (a:Option Addr) (cap:Nat) (ks:List (List UInt8)) (sn nx:Int) (w:World) (e0 e1 e2:Addr) (hE:Errs w e0 e1 e2) :
 Calls Tryd.prog 31 #[.agg #[.slice a ks.length cap,.int .i64 sn,.int .i64 nx],.iface 131 (.pointer (some e0))] w fun e w'=>e=.returned (.agg #[.slice none 0 0,.int .i64 0,.int .i64 0])∧Below w.heap.size w w':=by
 have B0:Below w.heap.size w ((w.alloc (.cells #[.slice a ks.length cap,.int .i64 sn,.int .i64 nx] 28)).alloc (.cells #[.slice none 0 0,.int .i64 0,.int .i64 0] 28)):=((Below.refl _ _).alloc (Nat.le_refl _) _).alloc (by simp) _
 have y0:((w.alloc (.cells #[.slice a ks.length cap,.int .i64 sn,.int .i64 nx] 28)).alloc (.cells #[.slice none 0 0,.int .i64 0,.int .i64 0] 28)).heap[w.heap.size+1]? = some (.cells #[.slice none 0 0,.int .i64 0,.int .i64 0] 28 (0,0)):=by
  have:=heap_alloc_new (w.alloc (.cells #[.slice a ks.length cap,.int .i64 sn,.int .i64 nx] 28)) (.cells #[.slice none 0 0,.int .i64 0,.int .i64 0] 28)
  simpa using this
 obtain⟨g0,g1,g2,hr0,hr1,hr2,hn1,hn2⟩:=hE.later B0
 have K1:=is_sameE e0 ((w.alloc (.cells #[.slice a ks.length cap,.int .i64 sn,.int .i64 nx] 28)).alloc (.cells #[.slice none 0 0,.int .i64 0,.int .i64 0] 28))
 have HB0:Hid (Below w.heap.size w ((w.alloc (.cells #[.slice a ks.length cap,.int .i64 sn,.int .i64 nx] 28)).alloc (.cells #[.slice none 0 0,.int .i64 0,.int .i64 0] 28))):=B0
 have HY0:Hid (((w.alloc (.cells #[.slice a ks.length cap,.int .i64 sn,.int .i64 nx] 28)).alloc (.cells #[.slice none 0 0,.int .i64 0,.int .i64 0] 28)).heap[w.heap.size+1]? = some (.cells #[.slice none 0 0,.int .i64 0,.int .i64 0] 28 (0,0))):=y0
 clear hE hr0 hr1 hr2 hn1 hn2 B0 y0
 go_enter Tryd.func31,Tryd.ntmps31
 go_wp2_with fail
 refine K1.mono ?_
 rintro e w1 ⟨rfl,hw1⟩
 rw[←hw1] at HB0 HY0
 clear K1 g0 g1 g2
 obtain⟨y0,y1,y2,yf⟩:=bat_cells HY0.out
 have yf0:=yf 0
 have yf1:=yf 1
 have yf2:=yf 2
 clear yf hw1
 go_wp2
 exact bodyPost_ret (v:=.agg #[.slice none 0 0,.int .i64 0,.int .i64 0]) (results_cell_row rfl _ _ (w.heap.size+1) 28 _ (0,0) _ rfl (bat_set (j:=2) (bat_set (j:=1) (bat_set (j:=0) HY0.out))) Tryd.underlying28 rfl (by kernel_rfl)) rfl ⟨rfl,((HB0.out.setCell (by simp) _).setCell (by simp) _).setCell (by simp) _⟩
end Go.Proofs.YtbpgpmchnjbclaaDoor
