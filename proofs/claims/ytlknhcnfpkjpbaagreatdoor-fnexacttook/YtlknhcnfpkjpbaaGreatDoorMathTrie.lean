/-
  Tries on lists: the nodes of paths with values, as the model builds them.
-/
import Derived.Test.YtlknhcnfpkjpbaaGreatDoorPairs
import Derived.Test.YtlknhcnfpkjpbaaGreatDoorMath2
namespace Go.Proofs.YtlknhcnfpkjpbaaGreatDoor
open Go.RowKit
set_option linter.unusedVariables false

def nodeP (t : List UInt8) : PairL := (sumL t, t)
def rootH (ns : List PairL) : List UInt8 := match ns.getLast? with
  | none => []
  | some p => p.1
def lcp : List UInt8 → List UInt8 → Nat
  | x :: xs, y :: ys => if x = y then lcp xs ys + 1 else 0
  | _, _ => 0
def comTo (p0 : List UInt8) (qs : List (List UInt8)) : Nat := qs.foldl (fun n p => min n (lcp p p0)) p0.length
def commonL : List PairL → Nat
  | [] => 0
  | e :: es => comTo e.1 (es.map (·.1))
def cutE (n : Nat) (es : List PairL) : List PairL := es.map fun e => (e.1.drop n, e.2)
def grp1 (d : Nat) (e : PairL) : Option PairL := match e.1 with
  | [] => none
  | x :: xs => if x.toNat = d then some (xs, e.2) else none
def grp (d : Nat) (es : List PairL) : List PairL := es.filterMap (grp1 d)
def endV (es : List PairL) : List UInt8 := es.foldl (fun acc e => if e.1 = [] then e.2 else acc) []
def leafT (e : PairL) : List UInt8 := listB [pack (withFlag e.1 true), e.2]
def longT (p h : List UInt8) : List UInt8 := listB [pack (withFlag p false), h]
def branchT (hs : List (List UInt8)) (v : List UInt8) : List UInt8 := listB (hs ++ [v])
def headP : List PairL → List UInt8
  | [] => []
  | e :: _ => e.1
def buildL : Nat → List PairL → List PairL
  | 0, _ => []
  | f + 1, es =>
    match es with
    | [] => []
    | [e] => [nodeP (leafT e)]
    | e :: e' :: es' =>
      if 0 < commonL (e :: e' :: es') then
        buildL f (cutE (commonL (e :: e' :: es')) (e :: e' :: es')) ++ [nodeP (longT (e.1.take (commonL (e :: e' :: es'))) (rootH (buildL f (cutE (commonL (e :: e' :: es')) (e :: e' :: es')))))]
      else
        ((List.range 16).map fun d => buildL f (grp d (e :: e' :: es'))).flatten ++ [nodeP (branchT ((List.range 16).map fun d => rootH (buildL f (grp d (e :: e' :: es')))) (endV (e :: e' :: es')))]
theorem build_nil (f : Nat) : buildL f [] = [] := by cases f <;> rfl
theorem build_one (f : Nat) (e : PairL) : buildL (f + 1) [e] = [nodeP (leafT e)] := rfl
theorem build_long (f : Nat) (es : List PairL) (h2 : 2 ≤ es.length) (hc : 0 < commonL es) : buildL (f + 1) es = buildL f (cutE (commonL es) es) ++ [nodeP (longT ((headP es).take (commonL es)) (rootH (buildL f (cutE (commonL es) es))))] := by
  match es, h2 with
  | e :: e' :: es', _ => simp only [buildL, if_pos hc, headP]
theorem build_branch (f : Nat) (es : List PairL) (h2 : 2 ≤ es.length) (hc : ¬ 0 < commonL es) : buildL (f + 1) es = ((List.range 16).map fun d => buildL f (grp d es)).flatten ++ [nodeP (branchT ((List.range 16).map fun d => rootH (buildL f (grp d es))) (endV es))] := by
  match es, h2 with
  | e :: e' :: es', _ => simp only [buildL, if_neg hc]
theorem rootH_snoc (ns : List PairL) (p : PairL) : rootH (ns ++ [p]) = p.1 := by simp [rootH]
theorem rootH_nil : rootH [] = [] := rfl

/-- So many calls are enough. -/
def Fits (f : Nat) (es : List PairL) : Prop := ∀ e ∈ es, 2 * e.1.length + 2 ≤ f
theorem lcp_le_right : ∀ a b : List UInt8, lcp a b ≤ b.length
  | [], _ => by simp [lcp]
  | _ :: _, [] => by simp [lcp]
  | x :: xs, y :: ys => by
    simp only [lcp]
    split
    · have := lcp_le_right xs ys; simp; omega
    · omega
theorem lcp_le_left : ∀ a b : List UInt8, lcp a b ≤ a.length
  | [], _ => by simp [lcp]
  | _ :: _, [] => by simp [lcp]
  | x :: xs, y :: ys => by
    simp only [lcp]
    split
    · have := lcp_le_left xs ys; simp; omega
    · omega
theorem foldl_min_le (p0 : List UInt8) : ∀ (qs : List (List UInt8)) (n : Nat), qs.foldl (fun n p => min n (lcp p p0)) n ≤ n ∧ ∀ q ∈ qs, qs.foldl (fun n p => min n (lcp p p0)) n ≤ lcp q p0
  | [], n => ⟨Nat.le_refl _, fun _ h => by simp at h⟩
  | q :: qs, n => by
    have := foldl_min_le p0 qs (min n (lcp q p0))
    simp only [List.foldl_cons]
    refine ⟨by omega, fun x hx => ?_⟩
    rcases List.mem_cons.1 hx with rfl | hx
    · omega
    · exact this.2 x hx
theorem commonL_le (es : List PairL) : ∀ e ∈ es, commonL es ≤ e.1.length := by
  match es with
  | [] => simp
  | e :: es =>
    have := foldl_min_le e.1 (es.map (·.1)) e.1.length
    intro x hx
    simp only [commonL, comTo]
    rcases List.mem_cons.1 hx with rfl | hx
    · exact this.1
    · exact Nat.le_trans (this.2 x.1 (List.mem_map_of_mem hx)) (lcp_le_left _ _)
theorem fits_cut {f : Nat} {es : List PairL} (h : Fits (f + 1) es) (hc : 0 < commonL es) : Fits f (cutE (commonL es) es) := by
  intro e he
  obtain ⟨x, hx, rfl⟩ := List.mem_map.1 he
  have h1 := h x hx
  have h2 := commonL_le es x hx
  simp only [List.length_drop]
  omega
theorem fits_grp {f d : Nat} {es : List PairL} (h : Fits (f + 1) es) : Fits f (grp d es) := by
  intro e he
  obtain ⟨x, hx, he⟩ := List.mem_filterMap.1 he
  have h1 := h x hx
  unfold grp1 at he
  split at he
  · cases he
  · rename_i y ys hy
    split at he
    · cases he
      rw [hy] at h1
      simp at h1
      simp only
      omega
    · cases he
theorem fits_pos {f : Nat} {es : List PairL} (h : Fits f es) (hne : es ≠ []) : ∃ g, f = g + 1 := by
  match es, hne with
  | e :: _, _ => have := h e (by simp); exact ⟨f - 1, by omega⟩
theorem cutE_length (n : Nat) (es : List PairL) : (cutE n es).length = es.length := by simp [cutE]
theorem grp_snoc (d : Nat) (es : List PairL) (j : Nat) (h : j < es.length) : grp d (es.take (j + 1)) = grp d (es.take j) ++ (grp1 d es[j]).toList := by
  rw [take_snocP es j h, grp, List.filterMap_append]
  cases hg : grp1 d es[j] <;> simp [grp, hg]
theorem grp_length (d : Nat) (es : List PairL) : (grp d es).length ≤ es.length := List.length_filterMap_le _ _
theorem sum_grp (es : List PairL) : ((List.range 16).map fun d => (grp d es).length).sum ≤ es.length := by
  induction es with
  | nil => simp only [grp, List.filterMap_nil, List.length_nil]; decide
  | cons e es ih =>
    have h1 : ∀ d, (grp d (e :: es)).length = (grp1 d e).toList.length + (grp d es).length := by
      intro d
      cases hg : grp1 d e <;> simp [grp, hg]
      omega
    have h2 : ((List.range 16).map fun d => (grp1 d e).toList.length).sum ≤ 1 := by
      unfold grp1
      cases e.1 with
      | nil => simp only [Option.toList, List.length_nil]; decide
      | cons x xs =>
        simp only
        · have : ∀ n, ((List.range n).map fun d => (if x.toNat = d then some (xs, e.2) else none).toList.length).sum = if x.toNat < n then 1 else 0 := by
            intro n
            induction n with
            | zero => simp
            | succ n ih =>
              rw [List.range_succ, List.map_append, List.sum_append, ih]
              by_cases h1 : x.toNat = n
              · simp [h1]
              · by_cases h2 : x.toNat < n
                · simp [h1, h2]; omega
                · have h3 : ¬ x.toNat < n + 1 := by omega
                  simp [h1, h2, h3]
          rw [this 16]
          split <;> omega
    have h3 : ((List.range 16).map fun d => (grp d (e :: es)).length).sum = ((List.range 16).map fun d => (grp1 d e).toList.length).sum + ((List.range 16).map fun d => (grp d es).length).sum := by
      simp only [h1]
      generalize List.range 16 = l
      induction l with
      | nil => rfl
      | cons a l ih => simp only [List.map_cons, List.sum_cons, ih]; omega
    rw [h3, List.length_cons]
    omega
theorem build_len : ∀ (f : Nat) (es : List PairL), (buildL f es).length ≤ es.length * f
  | 0, es => by simp [buildL]
  | f + 1, es => by
    by_cases h0 : es.length = 0
    · rw [List.length_eq_zero_iff.1 h0, build_nil]; simp
    · by_cases h1 : es.length = 1
      · obtain ⟨e, rfl⟩ := List.length_eq_one_iff.1 h1
        rw [build_one]; simp
      · have h2 : 2 ≤ es.length := by omega
        by_cases hc : 0 < commonL es
        · rw [build_long f es h2 hc, List.length_append]
          have := build_len f (cutE (commonL es) es)
          rw [cutE_length] at this
          rw [Nat.mul_succ]; simp; omega
        · rw [build_branch f es h2 hc, List.length_append, List.length_flatten, List.map_map]
          have h3 : ((List.range 16).map (List.length ∘ fun d => buildL f (grp d es))).sum ≤ ((List.range 16).map fun d => (grp d es).length).sum * f := by
            generalize List.range 16 = l
            induction l with
            | nil => simp
            | cons a l ih =>
              simp only [List.map_cons, List.sum_cons, Function.comp]
              have := build_len f (grp a es)
              rw [Nat.add_mul]
              omega
          have h4 := Nat.mul_le_mul_right f (sum_grp es)
          rw [Nat.mul_succ]; simp; omega
theorem endV_snoc (es : List PairL) (j : Nat) (h : j < es.length) : endV (es.take (j + 1)) = if es[j].1 = [] then es[j].2 else endV (es.take j) := by
  rw [take_snocP es j h, endV, List.foldl_append]; rfl
end Go.Proofs.YtlknhcnfpkjpbaaGreatDoor
