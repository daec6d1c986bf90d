/-
  Contract: the model's nodes of paths with values (l5Build), by induction on the calls that are left.
-/
import Derived.Test.YtlknhcnfpkjpbaaGreatDoorSBranch
import Derived.Test.YtlknhcnfpkjpbaaGreatDoorMath2
namespace Go.Proofs.YtlknhcnfpkjpbaaGreatDoor
open Go.RowKit
set_option linter.unusedVariables false

theorem build_last (f : Nat) (es : List PairL) (h : es ≠ []) : ∃ ns t, buildL (f + 1) es = ns ++ [nodeP t] := by
  by_cases h1 : es.length = 1
  · obtain ⟨e, rfl⟩ := List.length_eq_one_iff.1 h1
    exact ⟨[], _, rfl⟩
  · have h2 : 2 ≤ es.length := by have : es.length ≠ 0 := fun h0 => h (List.length_eq_zero_iff.1 h0); omega
    by_cases hc : 0 < commonL es
    · exact ⟨_, _, build_long f es h2 hc⟩
    · exact ⟨_, _, build_branch f es h2 hc⟩
theorem build_pos {f : Nat} {es : List PairL} (hf : Fits f es) (h : es ≠ []) : 0 < (buildL f es).length := by
  obtain ⟨g, rfl⟩ := fits_pos hf h
  obtain ⟨ns, t, e⟩ := build_last g es h
  rw [e]; simp
theorem root_len (f : Nat) (es : List PairL) : (rootH (buildL f es)).length ≤ 32 := by
  by_cases h : es = []
  · rw [h, build_nil]; simp [rootH]
  · cases f with
    | zero => simp [buildL, rootH]
    | succ f =>
      obtain ⟨ns, t, e⟩ := build_last f es h
      rw [e, rootH_snoc]
      exact Nat.le_of_eq (sumL_len t)
theorem kids_mono (f : Nat) (es : List PairL) : ∀ m d, d + m = 16 → (kidsTo f es d).length ≤ (kidsTo f es 16).length
  | 0, d, h => by rw [show d = 16 by omega]; exact Nat.le_refl _
  | m + 1, d, h => by
    have := kids_mono f es m (d + 1) (by omega)
    rw [kidsTo_succ, List.length_append] at this
    omega
theorem spec_l5Build : ∀ f : Nat, f ≤ 100 → BuildAt f
  | 0, _ => fun es a b ca cb w hne _ hf => by obtain ⟨g, h⟩ := fits_pos hf hne; omega
  | f + 1, hf1 => fun es a b ca cb w hne hl hf hsm ha hb => by
    have IH := spec_l5Build f (by omega)
    by_cases h1 : es.length = 1
    · obtain ⟨e, rfl⟩ := List.length_eq_one_iff.1 h1
      have := hsm e (by simp)
      exact spec_buildLeaf f e a b ca cb w this.1 this.2 ha hb
    · have h2 : 2 ≤ es.length := by have : es.length ≠ 0 := fun h0 => hne (List.length_eq_zero_iff.1 h0); omega
      by_cases hc : 0 < commonL es
      · have hb1 := build_len f (cutE (commonL es) es)
        rw [cutE_length] at hb1
        have hb2 : es.length * f ≤ 60 * 100 := Nat.mul_le_mul hl (by omega)
        exact spec_buildLong f IH es a b ca cb w h2 hl hf hsm hc (Nat.le_trans (root_len _ _) (by omega)) (build_pos (fits_cut hf hc) (fun e => by have h9 := cutE_length (commonL es) es; rw [e, List.length_nil] at h9; omega)) (by omega) ha hb
      · have hb1 := build_len (f + 1) es
        rw [build_branch f es h2 hc, List.length_append] at hb1
        have hb2 : es.length * (f + 1) ≤ 60 * 101 := Nat.mul_le_mul hl (by omega)
        have hb3 : (kidsTo f es 16).length ≤ 10000 := by
          have : (kidsTo f es 16).length = (((List.range 16).map fun d => buildL f (grp d es)).flatten).length := rfl
          rw [this]; omega
        exact spec_buildBranch f IH es a b ca cb w h2 hl hf hsm hc (fun d => root_len _ _) (fun d hd => build_pos (fits_grp hf) hd) (fun d hd => Nat.le_trans (kids_mono f es (16 - d) d (by omega)) hb3) ha hb
end Go.Proofs.YtlknhcnfpkjpbaaGreatDoor
