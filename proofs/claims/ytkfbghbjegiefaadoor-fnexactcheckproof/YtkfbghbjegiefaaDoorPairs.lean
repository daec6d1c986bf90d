/-
 Texts that are laid as one: MathPair, StoredS, PairOk, Open6, StoredM, StoredG.
-/
import Derived.Test.YtkfbghbjegiefaaDoorMathAll
import Derived.Test.YtkfbghbjegiefaaDoorStrsAll
import Derived.OneCell
import Derived.Deep.RegionHeld3
import Derived.Test.YtkfbghbjegiefaaDoorMath2
import Derived.BigQuiet
import Derived.Deep.QuietTactic
import Derived.Test.YtkfbghbjegiefaaDoorRows
import Derived.ProofKit
import Derived.Deep.SlicePairs
namespace Go.Proofs.YtkfbghbjegiefaaDoor
open Go.RowKit
set_option linter.unusedVariables false
abbrev PairL:=List UInt8 × List UInt8
def IsPairs (w:World) (a:Option Addr) (ps:List PairL):Prop :=
 ps=[]∨∃ b off,a=some ⟨b,off,none⟩∧∀ j (h:j<ps.length),w.cell? ⟨b,off+j*2,none⟩=some (.string ⟨ps[j].1.toArray⟩)∧w.cell? ⟨b,off+j*2+1,none⟩=some (.string ⟨ps[j].2.toArray⟩)
theorem IsPairs.later {w w':World} {a:Option Addr} {ps:List PairL} (h:IsPairs w a ps) (hb:Below w.heap.size w w'):IsPairs w' a ps:=by
 rcases h with h | ⟨b,off,h1,h2⟩
 · exact .inl h
 · exact .inr ⟨b,off,h1,fun j h=>⟨(hb.cell (p:=⟨b,off+j*2,none⟩) (World.block_lt_of_cell? w _ (h2 j h).1)).trans (h2 j h).1,(hb.cell (p:=⟨b,off+j*2+1,none⟩) (World.block_lt_of_cell? w _ (h2 j h).2)).trans (h2 j h).2⟩⟩
def valAt (ps:List PairL) (j:Nat):List UInt8:=(ps.getD j ([],[])).2
theorem below_dr {B:Nat} {w w':World} {q:Nat} (h:Below B w w'):Below B w (w'.drewN q):=⟨h.os,h.tape,h.output,h.size,h.block⟩
open Go.ChangeShapes Go.WideShapes Go.ChangeAt Go.RowKit
end Go.Proofs.YtkfbghbjegiefaaDoor
