/-
 Contracts: the root of no pairs, of the program and of the model.
-/
import Derived.Test.YtcoahmldmodmlaaGreatDoorSumI
import Derived.Test.YtcoahmldmodmlaaGreatDoorSSum
import Derived.Test.YtcoahmldmodmlaaGreatDoorWrapTxt
namespace Go.Proofs.YtcoahmldmodmlaaGreatDoor
open Go.RowKit
set_option linter.unusedVariables false
def emptyL:List UInt8:=sumL (textB [])
theorem emptyL_text:(textB []).length≤1048576:=by decide
set_option maxRecDepth 100000 in
set_option maxHeartbeats 400000 in
theorem impl_empty (w:World) (hT:Tab w):Calls Tryz.prog 35 #[] w fun e w'=>e=.returned (.string ⟨emptyL.toArray⟩)∧Below w.heap.size w w':=by
 have HT:Hid (Tab w):=hT
 have K1:=impl_rlpText ⟨#[]⟩ w (by decide)
 have K2:=fun W hW=>impl_sum (textB []) W emptyL_text hW
 have HE:Hid (emptyL=sumL (textB [])):=rfl
 have HX:rlpText (⟨#[]⟩:ByteArray).data.toList=textB []:=rfl
 rw[HX] at K1
 rw[←HE.out] at K2
 obtain⟨t,ht⟩:∃ t,t=textB []:=⟨_,rfl⟩
 obtain⟨m,hm⟩:∃ m,m=emptyL:=⟨_,rfl⟩
 rw[←ht] at K1 K2
 rw[←hm] at K2 ⊢
 clear hT HE HX ht hm
 go_enter Tryz.func35,Tryz.ntmps35
 go_wp2_with fail
 refine K1.mono ?_
 rintro e w1 ⟨rfl,b1⟩
 go_wp2_with fail
 refine (K2 _ (HT.out.later b1)).mono ?_
 rintro e w2 ⟨rfl,b2⟩
 have B2:=b1.trans (b2.mono b1.size)
 go_wp2
 go_ret
 exact⟨rfl,B2⟩
set_option maxRecDepth 100000 in
set_option maxHeartbeats 400000 in
theorem spec_empty (w:World):Calls Tryz.prog 39 #[] w fun e w'=>e=.returned (.string ⟨emptyL.toArray⟩)∧Below w.heap.size w w':=by
 have K1:=spec_l1Text ⟨#[]⟩ w (by decide)
 have K2:=fun W=>spec_sum (textB []) W emptyL_text
 have HE:Hid (emptyL=sumL (textB [])):=rfl
 have HX:textB (⟨#[]⟩:ByteArray).data.toList=textB []:=rfl
 rw[HX] at K1
 rw[←HE.out] at K2
 obtain⟨t,ht⟩:∃ t,t=textB []:=⟨_,rfl⟩
 obtain⟨m,hm⟩:∃ m,m=emptyL:=⟨_,rfl⟩
 rw[←ht] at K1 K2
 rw[←hm] at K2 ⊢
 clear HE HX ht hm
 go_enter Tryz.func39,Tryz.ntmps39
 go_wp2_with fail
 refine K1.mono ?_
 rintro e w1 ⟨rfl,b1⟩
 go_wp2_with fail
 refine (K2 _).mono ?_
 rintro e w2 ⟨rfl,b2⟩
 have B2:=b1.trans (b2.mono b1.size)
 go_wp2
 go_ret
 exact⟨rfl,B2⟩
end Go.Proofs.YtcoahmldmodmlaaGreatDoor
