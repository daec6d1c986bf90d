/-
 Contracts: slices.Clone of disk ops.
-/
import Derived.Test.YtlllkdioojjaeaaDOpS
import Derived.Test.YtlllkdioojjaeaaAppD
namespace Go.Proofs.Ytlllkdioojjaeaa
open Go.RowKit
set_option linter.unusedVariables false
set_option maxRecDepth 100000 in
set_option maxHeartbeats 1000000 in
theorem clone_dops (b off cap:Nat) (ks:List DOpL) (w:World) (hl:ks.length≤1048576) (hs:IsDOps w (some ⟨b,off,none⟩) ks) :
 Calls Try.prog 84 #[.slice (some ⟨b,off,none⟩) ks.length cap] w fun e w'=>∃ (a:Option Addr) (c:Nat),e=.returned (.slice a ks.length c)∧w'.ownsRow w.heap.size 40 4 (.slice a ks.length c) ks.length (dcells ks)∧Below w.heap.size w w':=by
 obtain⟨i0,hi0,hz0,hz1,hz2⟩:=info_parts infoDOp
 have B0:Below w.heap.size w (w.alloc (.cells #[] 40)):=(Below.refl _ _).alloc (Nat.le_refl _) _
 have HB0:Hid (Below w.heap.size w (w.alloc (.cells #[] 40))):=B0
 have HO0:=hidOwn (World.ownsRow_lit (e:=40) (size:=4) w #[] 0 (base:=w.heap.size) (Nat.le_refl _) (Nat.zero_le _) rfl)
 have HI0:Hid (IsDOps (w.alloc (.cells #[] 40)) (some ⟨b,off,none⟩) ks):=hs.later B0
 have hnil:∀ W,(binOp .eql 29 (.slice (some ⟨b,off,none⟩) ks.length cap) (.slice none 0 0)).run Try.prog W=.ok (.bool false) W:=fun W=>by first | rfl | (simp[binOp,Op.equal,run_underlying Try.underlying29])
 clear hs B0
 go_enter Try.func84,Try.ntmps84
 go_wp2_with (first
  | (at_builtin; refine wpList_append_dops rfl _ _ 29 rfl w.heap.size 40 i0 (.agg #[.int .i64 0, .string ⟨#[]⟩, .string ⟨#[]⟩, .string ⟨#[]⟩]) 56 Try.underlying29 hi0 hz0 hz1 hz2 rfl (.slice (some ⟨w.heap.size, 0, none⟩) 0 0) 0 [] rfl HO0.out (some ⟨b, off, none⟩) ks ks.length cap rfl rfl (by simp) HI0.out (by unfold maxLen; omega) (by omega) (by simp) ?_; intro v3 w3 o3 g3; obtain ⟨a3, m3, c3, rfl⟩ := own_slice4 o3
     have O3:Hid (w3.ownsRow w.heap.size 40 4 (.slice a3 m3 c3) ks.length (dcells ks)):=(by rw[Hid];simpa using o3)
     have B3:Hid (Below w.heap.size w w3):=HB0.out.grown g3 HB0.out.size (fun q hq=>(HO0.out.lt q hq).1)
     clear o3 g3))
 obtain⟨hm3,_,_⟩:=isDOps_own O3.out
 subst hm3
 first | go_ret | (go_wp2;go_ret)
 exact⟨a3,c3,rfl,O3.out,B3.out⟩
set_option maxRecDepth 100000 in
theorem clone_dops0 (w:World):Calls Try.prog 84 #[.slice none 0 0] w fun e w'=>e=.returned (.slice none 0 0)∧w'=w:=by
 have hnil:∀ W,(binOp .eql 29 (.slice none 0 0) (.slice none 0 0)).run Try.prog W=.ok (.bool true) W:=fun W=>by first | rfl | (simp[binOp,Op.equal,run_underlying Try.underlying29])
 go_enter Try.func84,Try.ntmps84
 go_wp2
 go_ret
 exact⟨rfl,rfl⟩
theorem clone_dopsN (a:Option Addr) (cap:Nat) (ks:List DOpL) (w:World) (hl:ks.length≤1048576) (hca:a=none→cap=0) (haa:a=none∨∃ b off,a=some ⟨b,off,none⟩) (hs:IsDOps w a ks) :
 Calls Try.prog 84 #[.slice a ks.length cap] w fun e w'=>∃ (a:Option Addr) (c:Nat),e=.returned (.slice a ks.length c)∧w'.ownsRow w.heap.size 40 4 (.slice a ks.length c) ks.length (dcells ks)∧Below w.heap.size w w':=by
 rcases haa with rfl | ⟨b,off,rfl⟩
 · have hk:ks=[]:=by
    rcases hs with h | ⟨b,off,h,_⟩
    · exact h
    · cases h
   subst hk
   obtain rfl:=hca rfl
   refine (clone_dops0 w).mono ?_
   rintro e w' ⟨rfl,rfl⟩
   exact⟨none,0,rfl,World.ownsRow_nil _ _ _ _,Below.refl _ _⟩
 · exact clone_dops b off cap ks w hl hs
end Go.Proofs.Ytlllkdioojjaeaa
