/-
  The contract of the model's TakeRlp, at every text.
-/
import Derived.Test.YtjlkeoocddianaaDoorSTakeL
namespace Go.Proofs.YtjlkeoocddianaaDoor
open Go.RowKit
set_option linter.unusedVariables false

theorem lone_not (n : Nat) (r : List UInt8) (h : n ≠ 1) : lone n r = false := by
  cases r <;> simp [lone, h]

theorem lenOf_short (n : Nat) (r : List UInt8) (h : n ≤ 55) : lenOf n r = some (n, r) := by rw [lenOf, if_pos h]

theorem lenOf_none (m : Nat) (r : List UInt8) (hm : 1 ≤ m) (h : r.length < m ∨ 3 < m ∨ r.head? = some 0 ∨ valB (r.take m) ≤ 55) : lenOf (55 + m) r = none := by
  rw [lenOf, if_neg (by omega), show 55 + m - 55 = m from by omega, if_pos h]

theorem lenOf_some (m : Nat) (r : List UInt8) (hm : 1 ≤ m) (h : ¬ (r.length < m ∨ 3 < m ∨ r.head? = some 0 ∨ valB (r.take m) ≤ 55)) : lenOf (55 + m) r = some (valB (r.take m), r.drop m) := by
  rw [lenOf, if_neg (by omega), show 55 + m - 55 = m from by omega, if_neg h]

/-- What is told of n bytes, where a byte below 128 may not stand alone if 'text'. -/
def tell (k : Nat) (text : Bool) : Option (Nat × List UInt8) → Option (Nat × List UInt8 × List UInt8)
  | none => none
  | some (n, r') => if r'.length < n ∨ 60000 < n ∨ (text && lone n r') = true then none else some (k, r'.take n, r'.drop n)

theorem takeL_text' (b : UInt8) (r : List UInt8) (n : Nat) (h : b.toNat = 128 + n) (hn : n < 64) : takeL (b :: r) = tell 1 true (lenOf n r) := by
  rw [takeL_text b r (by omega) (by omega), show b.toNat - 128 = n from by omega]
  cases lenOf n r with
  | none => rfl
  | some x => obtain ⟨n', r'⟩ := x; simp [tell]

theorem takeL_list' (b : UInt8) (r : List UInt8) (n : Nat) (h : b.toNat = 192 + n) : takeL (b :: r) = tell 2 false (lenOf n r) := by
  rw [takeL_list b r (by omega), show b.toNat - 192 = n from by omega]
  cases lenOf n r with
  | none => rfl
  | some x => obtain ⟨n', r'⟩ := x; simp [tell]

theorem tell_some (k : Nat) (text : Bool) (n : Nat) (r : List UInt8) : tell k text (some (n, r)) = if r.length < n ∨ 60000 < n ∨ (text && lone n r) = true then none else some (k, r.take n, r.drop n) := rfl

/-- The long form, both kinds. -/
theorem spec_take_far (b : UInt8) (r : List UInt8) (k m : Nat) (text : Bool) (w : World) (hk : (k = 1 ∧ b.toNat = 128 + (55 + m)) ∨ (k = 2 ∧ b.toNat = 192 + (55 + m))) (hm : 1 ≤ m) (hm8 : m ≤ 8) (hr : r.length ≤ 1048576) :
    Calls Tryd.prog 52 #[.string ⟨(b :: r).toArray⟩] w fun e w' => e = .returned (tkV (tell k text (lenOf (55 + m) r))) ∧ Below w.heap.size w w' := by
  by_cases h1 : r.length < m
  · rw [lenOf_none m r hm (.inl h1)]
    exact spec_take_long_no b r k m w hk hm hm8 (.inl h1) hr
  · by_cases h3 : 3 < m
    · rw [lenOf_none m r hm (.inr (.inl h3))]
      exact spec_take_long_no b r k m w hk hm hm8 (.inr (.inl ⟨by omega, h3⟩)) hr
    · match r, h1, hr with
      | [], h1, _ => exact absurd hm (by simp at h1; omega)
      | c :: r', h1, hr =>
        by_cases hc : c = 0
        · subst hc
          rw [lenOf_none m _ hm (.inr (.inr (.inl rfl)))]
          exact spec_take_long_no b _ k m w hk hm hm8 (.inr (.inr ⟨by omega, by omega, r', rfl⟩)) hr
        · have := spec_take_long b c r' (c :: r') k m w hk hm (by omega) rfl (by omega) hc hr
          by_cases hv : valB ((c :: r').take m) ≤ 55
          · rw [lenOf_none m _ hm (.inr (.inr (.inr hv)))]
            rw [if_pos (.inl hv)] at this
            exact this
          · rw [lenOf_some m _ hm (by rintro (h | h | h | h); exact h1 h; exact h3 h; exact hc (by simpa using h); exact hv h), tell_some]
            have hne : valB ((c :: r').take m) ≠ 1 := by omega
            rw [lone_not _ _ hne]
            simp only [Bool.and_false, Bool.false_eq_true, or_false]
            simp only [hv, false_or] at this
            exact this

theorem spec_take (l : List UInt8) (w : World) (hl : l.length ≤ 1048576) :
    Calls Tryd.prog 52 #[.string ⟨l.toArray⟩] w fun e w' => e = .returned (tkV (takeL l)) ∧ Below w.heap.size w w' := by
  match l, hl with
  | [], _ => exact spec_take_nil w
  | b :: r, hl =>
    have hb := b.toNat_lt
    have hr : r.length ≤ 1048576 := by simp at hl; omega
    by_cases h1 : b.toNat < 128
    · have e : takeL (b :: r) = some (1, [b], r) := by simp only [takeL]; rw [if_pos h1]
      rw [e]
      exact spec_take_byte b r w h1 hr
    · by_cases h2 : b.toNat < 192
      · obtain ⟨n, hn⟩ : ∃ n, b.toNat = 128 + n := ⟨b.toNat - 128, by omega⟩
        rw [takeL_text' b r n hn (by omega)]
        by_cases h55 : n ≤ 55
        · rw [lenOf_short n r h55, tell_some]
          by_cases hf : r.length < n
          · rw [if_pos (.inl hf)]
            exact spec_take_short_few b r 1 n w (.inl ⟨rfl, hn⟩) h55 hf hr
          · by_cases hn1 : n = 1
            · subst hn1
              match r, hf, hr, hl with
              | [], hf, _, _ => exact absurd hf (by simp)
              | c :: r', _, hr, hl =>
                have := spec_take_one b c r' w hn (by simp at hl; omega)
                by_cases hc : c.toNat < 128
                · rw [if_pos (by simp [lone, hc])]
                  rw [if_pos hc] at this
                  exact this
                · rw [if_neg (by simp [lone, hc])]
                  rw [if_neg hc] at this
                  exact this
            · rw [if_neg (by rw [lone_not n r hn1]; simp; omega)]
              exact spec_take_short b r 1 n w (.inl ⟨rfl, hn, hn1⟩) h55 (by omega) hr
        · obtain ⟨m, hm⟩ : ∃ m, n = 55 + m := ⟨n - 55, by omega⟩
          subst hm
          exact spec_take_far b r 1 m true w (.inl ⟨rfl, hn⟩) (by omega) (by omega) hr
      · obtain ⟨n, hn⟩ : ∃ n, b.toNat = 192 + n := ⟨b.toNat - 192, by omega⟩
        rw [takeL_list' b r n hn]
        by_cases h55 : n ≤ 55
        · rw [lenOf_short n r h55, tell_some]
          by_cases hf : r.length < n
          · rw [if_pos (.inl hf)]
            exact spec_take_short_few b r 2 n w (.inr ⟨rfl, hn⟩) h55 hf hr
          · rw [if_neg (by simp; omega)]
            exact spec_take_short b r 2 n w (.inr ⟨rfl, hn⟩) h55 (by omega) hr
        · obtain ⟨m, hm⟩ : ∃ m, n = 55 + m := ⟨n - 55, by omega⟩
          subst hm
          exact spec_take_far b r 2 m false w (.inr ⟨rfl, hn⟩) (by omega) (by omega) hr

end Go.Proofs.YtjlkeoocddianaaDoor
