/-
 Contracts: slices.Clone of files.
-/
import Derived.Test.YtlllkdioojjaeaaNewP
import Derived.Test.YtlllkdioojjaeaaAppP
namespace Go.Proofs.Ytlllkdioojjaeaa
open Go.RowKit
set_option linter.unusedVariables false
set_option maxRecDepth 100000 in
set_option maxHeartbeats 1000000 in
theorem clone_files (b off cap:Nat) (ks:List PairL) (w:World) (hl:ks.length≤1048576) (hs:IsPairs w (some ⟨b,off,none⟩) ks) :
 Calls Try.prog 61 #[.slice (some ⟨b,off,none⟩) ks.length cap] w fun e w'=>∃ (a:Option Addr) (c:Nat),e=.returned (.slice a ks.length c)∧w'.ownsRow w.heap.size 84 2 (.slice a ks.length c) ks.length (pcells ks)∧Below w.heap.size w w':=by
 obtain⟨i0,hi0,hz0,hz1,hz2⟩:=info_parts infoFile
 have B0:Below w.heap.size w (w.alloc (.cells #[] 84)):=(Below.refl _ _).alloc (Nat.le_refl _) _
 have HB0:Hid (Below w.heap.size w (w.alloc (.cells #[] 84))):=B0
 have HO0:=hidOwn (World.ownsRow_lit (e:=84) (size:=2) w #[] 0 (base:=w.heap.size) (Nat.le_refl _) (Nat.zero_le _) rfl)
 have HI0:Hid (IsPairs (w.alloc (.cells #[] 84)) (some ⟨b,off,none⟩) ks):=hs.later B0
 have hnil:∀ W,(binOp .eql 28 (.slice (some ⟨b,off,none⟩) ks.length cap) (.slice none 0 0)).run Try.prog W=.ok (.bool false) W:=fun W=>by first | rfl | (simp[binOp,Op.equal,run_underlying Try.underlying28])
 clear hs B0
 go_enter Try.func61,Try.ntmps61
 go_wp2_with (first
  | (at_builtin; refine wpList_append_prs rfl _ _ 28 rfl w.heap.size 84 i0 (.agg #[.string ⟨#[]⟩, .string ⟨#[]⟩]) 32 Try.underlying28 hi0 hz0 hz1 hz2 rfl (.slice (some ⟨w.heap.size, 0, none⟩) 0 0) 0 [] rfl HO0.out (some ⟨b, off, none⟩) ks ks.length cap rfl rfl (by simp) HI0.out (by unfold maxLen; omega) (by omega) (by simp) ?_; intro v3 w3 o3 g3; obtain ⟨a3, m3, c3, rfl⟩ := own_slice2 o3
     have O3:Hid (w3.ownsRow w.heap.size 84 2 (.slice a3 m3 c3) ks.length (pcells ks)):=(by rw[Hid];simpa using o3)
     have B3:Hid (Below w.heap.size w w3):=HB0.out.grown g3 HB0.out.size (fun q hq=>(HO0.out.lt q hq).1)
     clear o3 g3))
 obtain⟨hm3,_,_⟩:=isPairs_own O3.out
 subst hm3
 first | go_ret | (go_wp2;go_ret)
 exact⟨a3,c3,rfl,O3.out,B3.out⟩
set_option maxRecDepth 100000 in
theorem clone_files0 (w:World):Calls Try.prog 61 #[.slice none 0 0] w fun e w'=>e=.returned (.slice none 0 0)∧w'=w:=by
 have hnil:∀ W,(binOp .eql 28 (.slice none 0 0) (.slice none 0 0)).run Try.prog W=.ok (.bool true) W:=fun W=>by first | rfl | (simp[binOp,Op.equal,run_underlying Try.underlying28])
 go_enter Try.func61,Try.ntmps61
 go_wp2
 go_ret
 exact⟨rfl,rfl⟩
theorem clone_filesN (a:Option Addr) (cap:Nat) (ks:List PairL) (w:World) (hl:ks.length≤1048576) (hca:a=none→cap=0) (haa:a=none∨∃ b off,a=some ⟨b,off,none⟩) (hs:IsPairs w a ks) :
 Calls Try.prog 61 #[.slice a ks.length cap] w fun e w'=>∃ (a:Option Addr) (c:Nat),e=.returned (.slice a ks.length c)∧w'.ownsRow w.heap.size 84 2 (.slice a ks.length c) ks.length (pcells ks)∧Below w.heap.size w w':=by
 rcases haa with rfl | ⟨b,off,rfl⟩
 · have hk:ks=[]:=by
    rcases hs with h | ⟨b,off,h,_⟩
    · exact h
    · cases h
   subst hk
   obtain rfl:=hca rfl
   refine (clone_files0 w).mono ?_
   rintro e w' ⟨rfl,rfl⟩
   exact⟨none,0,rfl,World.ownsRow_nil _ _ _ _,Below.refl _ _⟩
 · exact clone_files b off cap ks w hl hs
end Go.Proofs.Ytlllkdioojjaeaa
