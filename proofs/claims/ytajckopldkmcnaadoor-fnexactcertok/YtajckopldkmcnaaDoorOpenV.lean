/-
  A vote that came in, opened (written by mkvotel.py).
-/
import Derived.Test.YtajckopldkmcnaaDoorOpen4
namespace Go.Proofs.YtajckopldkmcnaaDoor
open Go.ChangeShapes Go.WideShapes Go.ChangeAt Go.RowKit
set_option maxRecDepth 100000 in
theorem vote_of {H : Type} {enc : TypeId × Value → H} {W : World} {r : Reach} {b0 : Nat} {v : Value} {d : DataW H} {p : List MemPlace} (hv : Value.okWide Tryd.prog W r b0 43 v) (h : DataW.Trod enc Tryd.prog W 0 (fun _ => true) true 43 v d p) :
    ∃ (nd i : Int) (ao ap : Option Addr) (co cp : Nat) (os ps : List (List UInt8)), v = .agg #[.int .i64 nd, .int .i64 i, .slice ao os.length co, .slice ap ps.length cp] ∧ IsStrs W ao os ∧ IsStrs W ap ps ∧ os.length ≤ 9223372036854775807 ∧ ps.length ≤ 9223372036854775807 ∧ (∀ l ∈ os, l.length ≤ 9223372036854775807) ∧ (∀ l ∈ ps, l.length ≤ 9223372036854775807) := by
  obtain ⟨cs, rfl, hsz⟩ := okWide_struct Tryd.underlying43 hv
  have ce : Tryd.prog.cellsOf 43 = 4 := by kernel_rfl
  have c1 : Tryd.prog.cellsOf 2 = 1 := by kernel_rfl
  have c3 : Tryd.prog.cellsOf 41 = 3 := by kernel_rfl
  have cs1 : Tryd.prog.cellsOf 29 = 1 := by kernel_rfl
  obtain ⟨u0, u1, u2, u3, rfl⟩ : ∃ u0 u1 u2 u3, cs = #[u0, u1, u2, u3] := Go.Joins.array4 (hsz.trans ce)
  obtain ⟨fuel, hf⟩ := h
  obtain ⟨y0, y1, n, hx, _, h0, h1⟩ := trod_struct2 Tryd.underlying43 hf
  simp [Value.cells, c1, c3] at h0 h1
  obtain ⟨z0, z1, z2, m, hz, _, g0, g1, g2⟩ := Go.Deep.trod_struct3 Tryd.underlying41 h1
  simp [c1, cs1] at g0 g1 g2
  obtain ⟨nd, rfl⟩ := int_of h0
  obtain ⟨i, rfl⟩ := int_of g0
  obtain ⟨ao, os, co, rfl, m1, s1, l1⟩ := strs_of g1
  obtain ⟨ap, ps, cp, rfl, m2, s2, l2⟩ := strs_of g2
  exact ⟨nd, i, ao, ap, co, cp, os, ps, rfl, s1, s2, l1, l2, m1, m2⟩
end Go.Proofs.YtajckopldkmcnaaDoor
