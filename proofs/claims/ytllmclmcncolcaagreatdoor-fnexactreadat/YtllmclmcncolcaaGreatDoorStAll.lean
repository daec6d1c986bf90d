/-
 Texts that are laid as one: KeyH, MathSt, HeldN, StoredS, Open6, StOk.
-/
import Derived.Test.YtllmclmcncolcaaGreatDoorMath2
import Derived.Lib.BufferWrite
import Derived.Laws.Tables
import Derived.Maps.Own
import Derived.WideKeyArr2
import Derived.Test.YtllmclmcncolcaaGreatDoorMathRs
import Derived.Test.YtllmclmcncolcaaGreatDoorBats
import Derived.Test.YtllmclmcncolcaaGreatDoorIReadAll
import Derived.Test.YtllmclmcncolcaaGreatDoorSumI
import Derived.Deep.RegionHeld3
import Derived.Test.YtllmclmcncolcaaGreatDoorStrsAll
import Derived.OneCell
import Derived.Test.YtllmclmcncolcaaGreatDoorRows
import Derived.ProofKit
import Derived.Deep.SlicePairs
import Derived.Test.YtllmclmcncolcaaGreatDoorSReadM
import Derived.Test.YtllmclmcncolcaaGreatDoorSSums
namespace Go.Proofs.YtllmclmcncolcaaGreatDoor
open Go.RowKit
set_option linter.unusedVariables false
theorem setRow_block (w:World) (g k:Nat) (cs:Array Value) (h:k≠g):(w.setRow g cs).heap[k]? = w.heap[k]? := by
 show (w.heap.modify g _)[k]? = _
 rw[Array.getElem?_modify,if_neg (fun e=>h e.symm)]
theorem below_setRow {B g:Nat} {w0 w:World} (h:Below B w0 w) (hg:B≤g) (cs:Array Value):Below B w0 (w.setRow g cs) :=
 ⟨h.os,h.tape,h.output,by simpa [World.setRow] using h.size,fun k hk=>(setRow_block w g k cs (by omega)).trans (h.block k hk)⟩
def keyLit (l:List UInt8):Lit:=.string (keyBytes ((List.range 32).map fun i=>[Lit.int .u8 ((l.getD i 0).toNat:Int)]).flatten)
open Go.ChangeShapes Go.WideShapes Go.ChangeAt Go.RowKit
end Go.Proofs.YtllmclmcncolcaaGreatDoor
