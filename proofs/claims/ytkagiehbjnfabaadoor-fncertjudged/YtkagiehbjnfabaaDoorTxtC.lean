/-
 Contracts: the item of a text, the model's and the program's.
-/
import Derived.Test.YtkagiehbjnfabaaDoorWrap
import Derived.Test.YtkagiehbjnfabaaDoorMathAll
namespace Go.Proofs.YtkagiehbjnfabaaDoor
open Go.RowKit
set_option linter.unusedVariables false
set_option maxRecDepth 100000 in
set_option maxHeartbeats 400000 in
theorem spec_l1Text (s:ByteArray) (w:World) (hs:s.size<65536) :
 Calls Tryd.prog 69 #[.string s] w fun e w'=>e=.returned (.string ⟨(textB s.data.toList).toArray⟩)∧Below w.heap.size w w':=by
 by_cases h1:s.size=1
 · have h1':(s.size:Int)≤1:=by omega
   have hn:0<s.size:=by omega
   have hp:(0:Int)<(s.size:Int):=by omega
   by_cases hb:(s[0]'hn).toNat<128
   · rw[textB_one s h1 hb]
     have hb':((s[0]'hn).toNat:Int)<128:=by omega
     clear h1
     go_enter Tryd.func69,Tryd.ntmps69
     go_wp2_with fail
     go_ret
     exact⟨congrArg (fun x=>Ending.returned (.string x)) (ba_eq s),Below.refl _ _⟩
   · rw[textB_head s h1 hb]
     have hb':¬ ((s[0]'hn).toNat:Int)<128:=by omega
     clear h1
     go_enter Tryd.func69,Tryd.ntmps69
     go_wp2_with fail
     refine (spec_l1Wrap s 128 _ hs (by omega)).mono ?_
     rintro e w1 ⟨rfl,hb1⟩
     go_wp2
     go_ret
     exact⟨rfl,hb1⟩
 · rw[textB_more s.data.toList (by simpa using h1)]
   have h1':((s.size:Int) == 1)=false:=by simp;omega
   go_enter Tryd.func69,Tryd.ntmps69
   go_wp2_with fail
   refine (spec_l1Wrap s 128 _ hs (by omega)).mono ?_
   rintro e w1 ⟨rfl,hb1⟩
   go_wp2
   go_ret
   exact⟨rfl,hb1⟩
set_option maxRecDepth 100000 in
set_option maxHeartbeats 400000 in
theorem impl_rlpText (s:ByteArray) (w:World) (hs:s.size≤1048576) :
 Calls Tryd.prog 43 #[.string s] w fun e w'=>e=.returned (.string ⟨(rlpText s.data.toList).toArray⟩)∧Below w.heap.size w w':=by
 by_cases hb:s.size≤60000
 · rw [rlpText, if_pos (by simpa using hb)]
   by_cases h1:s.size=1
   · have h1':(s.size:Int)≤1:=by omega
     have hn:0<s.size:=by omega
     have hp:(0:Int)<(s.size:Int):=by omega
     by_cases hc:(s[0]'hn).toNat<128
     · rw[textB_one s h1 hc]
       have hc':((s[0]'hn).toNat:Int)<128:=by omega
       clear h1
       go_enter Tryd.func43,Tryd.ntmps43
       go_wp2_with fail
       go_ret
       exact⟨congrArg (fun x=>Ending.returned (.string x)) (ba_eq s),Below.refl _ _⟩
     · rw[textB_head s h1 hc]
       have hc':¬ ((s[0]'hn).toNat:Int)<128:=by omega
       clear h1
       go_enter Tryd.func43,Tryd.ntmps43
       go_wp2_with fail
       refine (impl_headed s 128 _ (by omega) (by omega)).mono ?_
       rintro e w1 ⟨rfl,hb1⟩
       go_wp2
       go_ret
       exact⟨rfl,hb1⟩
   · rw[textB_more s.data.toList (by simpa using h1)]
     have h1':((s.size:Int) == 1)=false:=by simp;omega
     go_enter Tryd.func43,Tryd.ntmps43
     go_wp2_with fail
     refine (impl_headed s 128 _ (by omega) (by omega)).mono ?_
     rintro e w1 ⟨rfl,hb1⟩
     go_wp2
     go_ret
     exact⟨rfl,hb1⟩
 · rw[rlpText,if_neg (by simpa using hb)]
   go_enter Tryd.func43,Tryd.ntmps43
   go_wp2_with fail
   go_ret
   exact⟨rfl,Below.refl _ _⟩
end Go.Proofs.YtkagiehbjnfabaaDoor
