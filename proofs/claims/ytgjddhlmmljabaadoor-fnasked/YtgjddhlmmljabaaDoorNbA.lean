/-
 What 'laid' gives at three sentinels: the three errors in their variables (by the library's law for two, at the list and at its tail; the first and the third are told apart by their texts).
-/
import Derived.Test.YtgjddhlmmljabaaDoorNbX
import Derived.Test.YtgjddhlmmljabaaDoorRows
import Derived.Stop.LaidTwo
import Derived.ProofKit
import Derived.LaidMore
import Derived.OpenShut
import Derived.Stop.Joined
namespace Go.Proofs.YtgjddhlmmljabaaDoor
open Go.RowKit
set_option linter.unusedVariables false
theorem starErr : "*" ++ "errors.errorString" = "*errors.errorString" := by decide
theorem rowErr (u : TypeId) (h : Tryd.prog.typeName? 3 u = some "*errors.errorString") : u = 113 :=
 typeName_ptr_named (nm := "errors.errorString") (by rw [starErr]; kernel_rfl) (by kernel_rfl) (by decide) u (by rw [starErr]; exact h)
theorem errs_of {W : World} (h : laidMetH Tryd.prog Rows.fnAskedRow.laid W) : ∃ e0 e1 e2, Errs W e0 e1 e2 ∧ W.var? Tryd.prog "loop.example/g00226/impl.errClient" = some #[.iface 113 (.pointer (some e0))] ∧ W.var? Tryd.prog "loop.example/g00226/impl.errBatch" = some #[.iface 113 (.pointer (some e1))] ∧ W.var? Tryd.prog "loop.example/g00226/impl.errLast" = some #[.iface 113 (.pointer (some e2))] := by
 rw[MakeChecks.laidMetH_plain _ _ _ (by kernel_rfl)] at h
 obtain⟨a0,a1,s0,s1,c0,c1,t0,t1,v0,v1,k0,x0,_,k1,x1,_,ne,b0,b1⟩:=laid_sentinels2 (g0:=0) (g1:=1) (ti:=42) (tp:=113) (te:=136) (ts:=9) h (by kernel_rfl) (by kernel_rfl) (by kernel_rfl) (by kernel_rfl) Tryd.underlying42 rowErr Tryd.underlying113 Tryd.underlying136 rfl rfl Tryd.underlying9 (by kernel_rfl) (by kernel_rfl)
 obtain⟨_,a2,_,s2,_,c2,_,t2,_,v2,_,_,_,k2,x2,_,_,_,b2⟩:=laid_sentinels2 (g0:=1) (g1:=2) (ti:=42) (tp:=113) (te:=136) (ts:=9) h.tail (by kernel_rfl) (by kernel_rfl) (by kernel_rfl) (by kernel_rfl) Tryd.underlying42 rowErr Tryd.underlying113 Tryd.underlying136 rfl rfl Tryd.underlying9 (by kernel_rfl) (by kernel_rfl)
 refine⟨a0,a1,a2,⟨?_,?_,?_,⟨c0,t0,b0⟩,⟨c1,t1,b1⟩,⟨c2,t2,b2⟩,fun e=>ne e.symm,fun e=>?_⟩,v0,v1,v2⟩
 · simpa using World.var?_cell (by kernel_rfl) v0 0
 · simpa using World.var?_cell (by kernel_rfl) v1 0
 · simpa using World.var?_cell (by kernel_rfl) v2 0
 · rw[e,k0] at k2
   simp only[Option.some.injEq,Value.string.injEq] at k2
   rw[←k2,x0] at x2
   exact absurd x2 (by decide)
end Go.Proofs.YtgjddhlmmljabaaDoor
