/-
 Texts that are laid as one: SStr, Strs.
-/
import Derived.Test.YtiadimhoolekbaaGreatDoorMath2
import Derived.BigQuiet
namespace Go.Proofs.YtiadimhoolekbaaGreatDoor
open Go.RowKit
set_option linter.unusedVariables false
def zw (w:World) (a:Option Addr) (ls:List (List UInt8)):Prop :=
 ls=[]∨∃ b off,a=some ⟨b,off,none⟩∧∀ j (h:j<ls.length),w.cell? ⟨b,off+j,none⟩=some (.string ⟨ls[j].toArray⟩)
theorem zc2 {w w':World} (h:Below w.heap.size w w') (row:Option Nat):w.grownBy w' row:=⟨h.os,h.tape,h.output,h.size,fun k hk _=>h.block k hk⟩
end Go.Proofs.YtiadimhoolekbaaGreatDoor
