import Derived.Test.YtahocpjieffbaaaGreatDoorMath2
import Derived.Test.YtahocpjieffbaaaGreatDoorMathAll
import Derived.Deep.QuietTactic
import Derived.BigQuiet
namespace Go.Proofs.YtahocpjieffbaaaGreatDoor
open Go.RowKit
set_option linter.unusedVariables false
theorem info9a:(Tryz.prog.info? 9).map (fun i=>(i.zero,i.size,i.bytes))=some (some (.string ⟨#[]⟩),1,16):=by kernel_rfl
def IsStrs (w:World) (a:Option Addr) (ls:List (List UInt8)):Prop :=
 ls=[]∨∃ b off,a=some ⟨b,off,none⟩∧∀ j (h:j<ls.length),w.cell? ⟨b,off+j,none⟩=some (.string ⟨ls[j].toArray⟩)
theorem grown_of_below {w w':World} (h:Below w.heap.size w w') (row:Option Nat):w.grownBy w' row:=⟨h.os,h.tape,h.output,h.size,fun k hk _=>h.block k hk⟩
theorem below_of_grown {w w':World} (h:w.grownBy w' none):Below w.heap.size w w':=⟨h.os,h.tape,h.output,h.size,fun k hk=>h.block k hk (by simp)⟩
theorem grown_drewN {w w':World} {row:Option Nat} (h:w.grownBy w' row) (q:Nat):w.grownBy (w'.drewN q) row:=⟨h.os,h.tape,h.output,h.size,h.block⟩
theorem grown_undrew {w w':World} {row:Option Nat} (h:w.drew.grownBy w' row):w.grownBy w' row:=⟨h.os,h.tape,h.output,h.size,h.block⟩
theorem own_drewN' {w:World} {B e size n:Nat} {v:Value} {xs:List Value} (h:w.ownsRow B e size v n xs) (q:Nat):(w.drewN q).ownsRow B e size v n xs:=h
end Go.Proofs.YtahocpjieffbaaaGreatDoor
