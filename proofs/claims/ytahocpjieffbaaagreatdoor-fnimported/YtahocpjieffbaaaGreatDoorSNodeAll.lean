import Derived.Test.YtahocpjieffbaaaGreatDoorINodes
import Derived.Test.YtahocpjieffbaaaGreatDoorSSums
namespace Go.Proofs.YtahocpjieffbaaaGreatDoor
open Go.RowKit
set_option linter.unusedVariables false
theorem l1pre_at (l:List UInt8) (leaf:Bool) (w:World) (hl:l.length≤24) :
 Calls Tryz.prog 98 #[.string ⟨l.toArray⟩,.bool leaf] w fun e w'=>e=.returned (.string ⟨(pack (withFlag l leaf)).toArray⟩)∧Below w.heap.size w w':=by
 have h:=spec_l1Prefix ⟨l.toArray⟩ leaf w (by simp[ByteArray.size];omega)
 have e1:(ByteArray.mk l.toArray).data.toList=l:=by simp
 rw[e1] at h
 exact h
theorem own_two (w:World) (x y:List UInt8) (base:Nat) (hb:base≤w.heap.size):(w.alloc (.cells #[.string ⟨x.toArray⟩,.string ⟨y.toArray⟩] 9)).ownsRow base 9 1 (.slice (some ⟨w.heap.size,0,none⟩) 2 2) 2 (scells [x,y]) :=
 World.ownsRow_lit w #[_,_] 2 hb (by decide) rfl
end Go.Proofs.YtahocpjieffbaaaGreatDoor
