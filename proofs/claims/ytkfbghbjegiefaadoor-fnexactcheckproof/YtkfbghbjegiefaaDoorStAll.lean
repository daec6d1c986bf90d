/-
 Texts that are laid as one: KeyH, MathSt, HeldN, StOk.
-/
import Derived.Test.YtkfbghbjegiefaaDoorMath2
import Derived.Lib.BufferWrite
import Derived.Laws.Tables
import Derived.Maps.Own
import Derived.WideKeyArr2
import Derived.Test.YtkfbghbjegiefaaDoorMathRs
import Derived.Test.YtkfbghbjegiefaaDoorPairs
import Derived.Test.YtkfbghbjegiefaaDoorIReadAll
import Derived.Test.YtkfbghbjegiefaaDoorSumI
import Derived.Deep.RegionHeld3
import Derived.Test.YtkfbghbjegiefaaDoorSReadM
import Derived.Test.YtkfbghbjegiefaaDoorSSum
namespace Go.Proofs.YtkfbghbjegiefaaDoor
open Go.RowKit
set_option linter.unusedVariables false
theorem setRow_block (w:World) (g k:Nat) (cs:Array Value) (h:k≠g):(w.setRow g cs).heap[k]? = w.heap[k]? := by
 show (w.heap.modify g _)[k]? = _
 rw[Array.getElem?_modify,if_neg (fun e=>h e.symm)]
theorem below_setRow {B g:Nat} {w0 w:World} (h:Below B w0 w) (hg:B≤g) (cs:Array Value):Below B w0 (w.setRow g cs) :=
 ⟨h.os,h.tape,h.output,by simpa [World.setRow] using h.size,fun k hk=>(setRow_block w g k cs (by omega)).trans (h.block k hk)⟩
def keyLit (l:List UInt8):Lit:=.string (keyBytes ((List.range 32).map fun i=>[Lit.int .u8 ((l.getD i 0).toNat:Int)]).flatten)
end Go.Proofs.YtkfbghbjegiefaaDoor
