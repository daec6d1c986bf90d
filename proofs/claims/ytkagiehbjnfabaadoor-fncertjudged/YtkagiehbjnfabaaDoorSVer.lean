/-
 Contract: the model's Verify.
-/
import Derived.Test.YtkagiehbjnfabaaDoorSRoots
namespace Go.Proofs.YtkagiehbjnfabaaDoor
open Go.RowKit
set_option linter.unusedVariables false
set_option maxRecDepth 100000 in
set_option maxHeartbeats 1000000 in
theorem spec_verify (root msg:List UInt8) (i:Int) (ao ap:Option Addr) (co cp:Nat) (os ps:List (List UInt8)) (w:World) (hm:msg.length≤1048576) (hol:os.length≤1048576) (hom:∀ l∈os,l.length≤1048576) (hpl:ps.length≤1048576) (hpm:∀ l∈ps,l.length≤1048576) (hs:IsStrs w ao os) (hp:IsStrs w ap ps) (r:List UInt8) (ok:Bool) (hr:RootIsS msg i os ps r ok) :
 Calls Tryd.prog 32 #[.string ⟨root.toArray⟩,.string ⟨msg.toArray⟩,.agg #[.int .i64 i,.slice ao os.length co,.slice ap ps.length cp]] w fun e w'=>e=.returned (.bool (ok && decide (r=root)))∧Below w.heap.size w w':=by
 have B1:Below w.heap.size w (w.alloc (.cells #[.int .i64 i,.slice ao os.length co,.slice ap ps.length cp] 33)):=(Below.refl _ _).alloc (Nat.le_refl _) _
 have K:=spec_root_any msg i ao ap co cp os ps (w.alloc (.cells #[.int .i64 i,.slice ao os.length co,.slice ap ps.length cp] 33)) hm hol hom hpl hpm (isStrs_later hs B1) (isStrs_later hp B1) r ok hr
 clear hs hp hr hom hpm
 go_enter Tryd.func32,Tryd.ntmps32
 go_wp2_with fail
 refine K.mono ?_
 rintro e w1 ⟨rfl,b1⟩
 have B2:=B1.trans (b1.mono (by simp))
 clear K b1 B1
 cases ok
 · go_wp2
   go_ret
   exact⟨by simp,B2⟩
 · by_cases hrr:r=root
   · subst hrr
     go_wp2
     go_ret
     exact⟨by simp,B2⟩
   · go_wp2
     go_ret
     exact⟨by simp[hrr],B2⟩
end Go.Proofs.YtkagiehbjnfabaaDoor
