/-
  Frames, on lists of bytes: frames come back, a beginning of them is cut.
-/
import Derived.Test.YtgoohohkgmiemaaDoorMathFr
namespace Go.Proofs.YtgoohohkgmiemaaDoor
open Go.RowKit
set_option linter.unusedVariables false

/-- The frames of these data, one behind the other. -/
def packF (ds : List (List UInt8)) : List UInt8 := (ds.map frameL).flatten

theorem packF_snoc (ds : List (List UInt8)) (d : List UInt8) : packF (ds ++ [d]) = packF ds ++ frameL d := by simp [packF]

theorem frameL_short {d : List UInt8} (h : d.length ≤ 60000) : frameL d = frameB d := by rw [frameL, if_pos h]

theorem frame_parts (d x : List UInt8) : (frameB d ++ x).take 4 = bigB d.length 4 ∧ (frameB d ++ x).drop 4 = (sumL d).take 8 ++ (d ++ x) ∧ (frameB d ++ x).drop 12 = d ++ x := by
  have h4 := bigB_length d.length 4
  have h8 : ((sumL d).take 8).length = 8 := by simp [sum_len32]
  have e : frameB d ++ x = bigB d.length 4 ++ ((sumL d).take 8 ++ (d ++ x)) := by simp [frameB]
  refine ⟨?_, ?_, ?_⟩
  · rw [e, List.take_append_of_le_length (by omega), List.take_of_length_le (by omega)]
  · rw [e, List.drop_append_of_le_length (by omega), List.drop_of_length_le (by omega)]; rfl
  · have h9 : (frameB d ++ x).drop 4 = (sumL d).take 8 ++ (d ++ x) := by
      rw [e, List.drop_append_of_le_length (by omega), List.drop_of_length_le (by omega)]; rfl
    have h10 : (frameB d ++ x).drop 12 = ((frameB d ++ x).drop 4).drop 8 := by rw [List.drop_drop]
    rw [h10, h9, List.drop_append_of_le_length (by omega), List.drop_of_length_le (by omega)]; rfl

theorem frameAt_frame (d x : List UInt8) (h : d.length ≤ 60000) : frameAt (frameB d ++ x) = some d := by
  obtain ⟨h1, h2, h3⟩ := frame_parts d x
  have hv : valB ((frameB d ++ x).take 4) = d.length := by rw [h1, valB_bigB _ (by omega)]
  have hl : (frameB d ++ x).length = 12 + d.length + x.length := by rw [List.length_append, frameB_length]
  have hd : (((frameB d ++ x).drop 12).take d.length) = d := by rw [h3, List.take_append_of_le_length (by omega), List.take_of_length_le (by omega)]
  unfold frameAt
  rw [hv, hd, if_pos]
  refine ⟨by rw [hl]; omega, h, by rw [hl]; omega, ?_⟩
  rw [h2, List.take_append_of_le_length (by simp [sum_len32]), List.take_take]; rfl

theorem frames_pack : ∀ (ds : List (List UInt8)) (f : Nat) (x : List UInt8), (∀ d ∈ ds, d.length ≤ 60000) → (packF ds ++ x).length ≤ f → ∃ g, x.length ≤ g ∧ framesF f (packF ds ++ x) = ds ++ framesF g x
  | [], f, x, _, hf => ⟨f, by simpa [packF] using hf, by simp [packF]⟩
  | d :: ds, f, x, hd, hf => by
    have h1 := hd d (by simp)
    have e : packF (d :: ds) ++ x = frameB d ++ (packF ds ++ x) := by simp [packF, frameL_short h1]
    rw [e] at hf ⊢
    obtain ⟨g, hg, hgf, hgl⟩ := framesF_some (frameAt_frame d (packF ds ++ x) h1) hf
    have e2 : (frameB d ++ (packF ds ++ x)).drop (12 + d.length) = packF ds ++ x := by
      rw [← frameB_length]; simp
    rw [e2] at hgf hgl
    obtain ⟨g2, hg2, hh⟩ := frames_pack ds g x (fun y hy => hd y (by simp [hy])) hgl
    exact ⟨g2, hg2, by rw [hgf, hh]; simp⟩

theorem frameAt_nil : frameAt [] = none := by rw [frameAt, if_neg (by simp)]

theorem frames_pack_all (ds : List (List UInt8)) (h : ∀ d ∈ ds, d.length ≤ 60000) : framesL (packF ds) = ds := by
  obtain ⟨g, _, hg⟩ := frames_pack ds (packF ds).length [] h (by simp)
  rw [List.append_nil, framesF_none frameAt_nil, List.append_nil] at hg
  exact hg

theorem framesF_short : ∀ (f : Nat) (l : List UInt8), ∀ d ∈ framesF f l, d.length ≤ 60000
  | 0, l, d, h => by simp [framesF] at h
  | f + 1, l, d, h => by
    cases ha : frameAt l with
    | none => rw [framesF_none ha] at h; simp at h
    | some e =>
      simp only [framesF, ha, List.mem_cons] at h
      rcases h with rfl | h
      · exact (frameAt_some ha).2.2.2.1
      · exact framesF_short f _ d h

theorem packF_frames : ∀ (f : Nat) (l : List UInt8), l.length ≤ f → packF (framesF f l) = l.take (endsF (framesF f l)) ∧ endsF (framesF f l) ≤ l.length
  | 0, l, h => by simp [framesF, packF, endsF]
  | f + 1, l, h => by
    cases ha : frameAt l with
    | none => rw [framesF_none ha]; simp [packF, endsF]
    | some d =>
      obtain ⟨h1, h2, h3, h4, h5⟩ := frameAt_some ha
      obtain ⟨i1, i2⟩ := packF_frames f (l.drop (12 + d.length)) (by simp; omega)
      have e : framesF (f + 1) l = d :: framesF f (l.drop (12 + d.length)) := by simp [framesF, ha]
      have e2 : packF (d :: framesF f (l.drop (12 + d.length))) = frameB d ++ packF (framesF f (l.drop (12 + d.length))) := by simp [packF, frameL_short h4]
      rw [e, e2, i1, h5]
      simp only [endsF]
      refine ⟨(List.take_add).symm, ?_⟩
      simp at i2
      omega

/-- Of frames that are cut the first few come back. -/
theorem frames_cut : ∀ (ds : List (List UInt8)) (k f : Nat), (∀ d ∈ ds, d.length ≤ 60000) → ((packF ds).take k).length ≤ f → ∃ j, j ≤ ds.length ∧ framesF f ((packF ds).take k) = ds.take j
  | [], k, f, _, _ => ⟨0, Nat.le_refl _, by simp [packF, framesF_none frameAt_nil]⟩
  | d :: ds, k, f, hd, hf => by
    have h1 := hd d (by simp)
    have e : packF (d :: ds) = frameB d ++ packF ds := by simp [packF, frameL_short h1]
    have hbl := frameB_length d
    rw [e] at hf ⊢
    by_cases hk : k < 12 + d.length
    · refine ⟨0, Nat.zero_le _, ?_⟩
      rw [framesF_none]; rfl
      unfold frameAt
      rw [if_neg]
      intro ⟨a1, a2, a3, _⟩
      have hlen : ((frameB d ++ packF ds).take k).length = k := by simp; omega
      rw [hlen] at a1 a3
      rw [List.take_take, Nat.min_eq_left (by omega), (frame_parts d (packF ds)).1, valB_bigB _ (by omega)] at a3
      omega
    · have e3 : (frameB d ++ packF ds).take k = frameB d ++ (packF ds).take (k - (12 + d.length)) := by
        rw [List.take_append, hbl, List.take_of_length_le (by omega)]
      rw [e3] at hf ⊢
      obtain ⟨g, hg, hgf, hgl⟩ := framesF_some (frameAt_frame d _ h1) hf
      have e2 : (frameB d ++ (packF ds).take (k - (12 + d.length))).drop (12 + d.length) = (packF ds).take (k - (12 + d.length)) := by
        rw [← frameB_length]; simp
      rw [e2] at hgf hgl
      obtain ⟨j, hj, hh⟩ := frames_cut ds (k - (12 + d.length)) g (fun y hy => hd y (by simp [hy])) hgl
      exact ⟨j + 1, by simp; omega, by rw [hgf, hh]; simp⟩

theorem packF_length : ∀ (ds : List (List UInt8)), (∀ d ∈ ds, d.length ≤ 60000) → (packF ds).length = endsF ds
  | [], _ => rfl
  | d :: ds, hd => by
    have h1 := hd d (by simp)
    have e : packF (d :: ds) = frameB d ++ packF ds := by simp [packF, frameL_short h1]
    rw [e, List.length_append, frameB_length, packF_length ds (fun y hy => hd y (by simp [hy]))]
    rfl
end Go.Proofs.YtgoohohkgmiemaaDoor
