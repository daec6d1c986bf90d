/-
  Frames, on lists of bytes: a length in four bytes, eight bytes of the digest, the data; the frames with which bytes begin.
-/
import Derived.Test.YtgoohohkgmiemaaDoorMathAll
import Derived.Test.YtgoohohkgmiemaaDoorMath2
namespace Go.Proofs.YtgoohohkgmiemaaDoor
open Go.RowKit
set_option linter.unusedVariables false

/-- A frame of data that is not too long. -/
def frameB (l : List UInt8) : List UInt8 := bigB l.length 4 ++ ((sumL l).take 8 ++ l)

/-- What FrameOf answers. -/
def frameL (l : List UInt8) : List UInt8 := if l.length ≤ 60000 then frameB l else []

/-- The data of the frame with which bytes begin. -/
def frameAt (l : List UInt8) : Option (List UInt8) :=
  if 12 ≤ l.length ∧ valB (l.take 4) ≤ 60000 ∧ 12 + valB (l.take 4) ≤ l.length ∧ (sumL ((l.drop 12).take (valB (l.take 4)))).take 8 = (l.drop 4).take 8 then
    some ((l.drop 12).take (valB (l.take 4))) else none

/-- The data of the frames with which bytes begin, by fuel. -/
def framesF : Nat → List UInt8 → List (List UInt8)
  | 0, _ => []
  | f + 1, l => match frameAt l with
    | none => []
    | some d => d :: framesF f (l.drop (12 + d.length))

def framesL (l : List UInt8) : List (List UInt8) := framesF l.length l

/-- How many bytes these frames have. -/
def endsF : List (List UInt8) → Nat
  | [] => 0
  | d :: r => 12 + d.length + endsF r

theorem sum_len32 (l : List UInt8) : (sumL l).length = 32 := by
  have := stT_len (stAt initS (padB l l.length) ((padB l l.length).length / 64)) 8 (by omega)
  exact this

theorem bigB_four (n : Nat) : bigB n 4 = [UInt8.ofNat (n / 16777216), UInt8.ofNat (n / 65536), UInt8.ofNat (n / 256), UInt8.ofNat n] := by
  simp [bigB, List.range, List.range.loop]

theorem bigB_valB (l : List UInt8) (h : l.length = 4) : bigB (valB l) 4 = l := by
  match l, h with
  | [a, b, c, d], _ =>
    rw [bigB_four]
    have ha := a.toNat_lt; have hb := b.toNat_lt; have hc := c.toNat_lt; have hd := d.toNat_lt
    have e : valB [a, b, c, d] = 256 * (256 * (256 * (256 * 0 + a.toNat) + b.toNat) + c.toNat) + d.toNat := rfl
    rw [e]
    congr 1
    · apply UInt8.toNat_inj.1; simp only [UInt8.toNat_ofNat']; omega
    congr 1
    · apply UInt8.toNat_inj.1; simp only [UInt8.toNat_ofNat']; omega
    congr 1
    · apply UInt8.toNat_inj.1; simp only [UInt8.toNat_ofNat']; omega
    congr 1
    · apply UInt8.toNat_inj.1; simp only [UInt8.toNat_ofNat']; omega

theorem valB_bigB (n : Nat) (h : n < 4294967296) : valB (bigB n 4) = n := by
  rw [bigB_four]
  show 256 * (256 * (256 * (256 * 0 + (UInt8.ofNat (n / 16777216)).toNat) + (UInt8.ofNat (n / 65536)).toNat) + (UInt8.ofNat (n / 256)).toNat) + (UInt8.ofNat n).toNat = n
  simp only [UInt8.toNat_ofNat']
  omega

theorem valB_four (l : List UInt8) : valB (l.take 4) < 4294967296 := by
  have := valB_lt 4 (l.take 4) (by simp; omega)
  simpa using this

theorem frameB_length (l : List UInt8) : (frameB l).length = 12 + l.length := by
  simp [frameB, bigB_length, sum_len32]; omega

/-- Bytes begin with the frame of their data just if the eight bytes of its digest stand there. -/
theorem frame_iff (l : List UInt8) (n : Nat) (hn : n = valB (l.take 4)) (h : 12 + n ≤ l.length) :
    frameL ((l.drop 12).take n) = l.take (12 + n) ↔ n ≤ 60000 ∧ (sumL ((l.drop 12).take n)).take 8 = (l.drop 4).take 8 := by
  have hd : ((l.drop 12).take n).length = n := by simp; omega
  unfold frameL
  rw [hd]
  by_cases h6 : n ≤ 60000
  · rw [if_pos h6]
    have e1 : bigB n 4 = l.take 4 := by rw [hn]; exact bigB_valB _ (by simp; omega)
    have e2 : l.take (12 + n) = l.take 4 ++ ((l.drop 4).take 8 ++ (l.drop 12).take n) := by
      have : 12 + n = 4 + (8 + n) := by omega
      rw [this, List.take_add, List.take_add, List.drop_drop]
    unfold frameB
    rw [hd, e1, e2]
    constructor
    · intro h
      have h1 := List.append_cancel_left h
      exact ⟨h6, (List.append_inj h1 (by simp [sum_len32]; omega)).1⟩
    · rintro ⟨_, h2⟩
      rw [h2]
  · rw [if_neg h6]
    constructor
    · intro h'
      have := congrArg List.length h'
      simp at this
      omega
    · rintro ⟨h1, _⟩; exact absurd h1 h6

theorem frameAt_some {l d : List UInt8} (h : frameAt l = some d) : d = (l.drop 12).take d.length ∧ 12 + d.length ≤ l.length ∧ d.length = valB (l.take 4) ∧ d.length ≤ 60000 ∧ frameB d = l.take (12 + d.length) := by
  unfold frameAt at h
  split at h
  · rename_i hc
    obtain ⟨h0, h1, h2, h3⟩ := hc
    obtain rfl := Option.some.inj h
    have hd : ((l.drop 12).take (valB (l.take 4))).length = valB (l.take 4) := by simp; omega
    refine ⟨by rw [hd], by rw [hd]; exact h2, hd, by rw [hd]; exact h1, ?_⟩
    have := (frame_iff l _ rfl h2).2 ⟨h1, h3⟩
    rw [hd]
    unfold frameL at this
    rwa [if_pos (by rw [hd]; exact h1)] at this
  · cases h

theorem framesF_none {f : Nat} {l : List UInt8} (h : frameAt l = none) : framesF f l = [] := by
  cases f with
  | zero => rfl
  | succ f => simp [framesF, h]

theorem framesF_some {f : Nat} {l d : List UInt8} (h : frameAt l = some d) (hf : l.length ≤ f) : ∃ g, f = g + 1 ∧ framesF f l = d :: framesF g (l.drop (12 + d.length)) ∧ (l.drop (12 + d.length)).length ≤ g := by
  have hb := (frameAt_some h).2.1
  cases f with
  | zero => omega
  | succ g => exact ⟨g, rfl, by simp [framesF, h], by simp; omega⟩

theorem endsF_app (a b : List (List UInt8)) : endsF (a ++ b) = endsF a + endsF b := by
  induction a with
  | nil => simp [endsF]
  | cons x r ih => simp [endsF, ih]; omega
end Go.Proofs.YtgoohohkgmiemaaDoor
