/-
  Items written and taken again, on lists of bytes.
-/
import Derived.Test.YtnhdkhngpnialaaDoorMathTake
import Derived.Test.YtnhdkhngpnialaaDoorMathTxt
namespace Go.Proofs.YtnhdkhngpnialaaDoor
open Go.RowKit
set_option linter.unusedVariables false

theorem ofNat_join (x : Nat) (b : UInt8) : UInt8.ofNat (256 * x + b.toNat) = b := by
  apply UInt8.toNat_inj.1
  have := b.toNat_lt
  simp

theorem numB_valB : ∀ (f : Nat) (q : List UInt8), q.length ≤ f → q.head? ≠ some 0 → numB f (valB q) = q := by
  intro f
  induction f with
  | zero => intro q h _; have : q = [] := List.length_eq_zero_iff.1 (by omega); subst this; rfl
  | succ f ih =>
    intro q h hq
    by_cases hn : q = []
    · subst hn; rfl
    · obtain ⟨p, b, rfl⟩ : ∃ p b, q = p ++ [b] := ⟨q.dropLast, q.getLast hn, (List.dropLast_concat_getLast hn).symm⟩
      have hb := b.toNat_lt
      rw [valB_snoc]
      by_cases hp : p = []
      · subst hp
        have hb0 : b ≠ 0 := fun e => hq (by simp [e])
        have hb1 : b.toNat ≠ 0 := fun e => hb0 (UInt8.toNat_inj.1 (by simpa using e))
        have e0 : valB [] = 0 := rfl
        rw [e0, numB, if_neg (by omega), show (256 * 0 + b.toNat) / 256 = 0 from by omega, numB_zero, ofNat_join]
      · have ih' := ih p (by simp at h; omega) (by
          cases p with
          | nil => exact absurd rfl hp
          | cons c r => simpa using hq)
        have hv : valB p ≠ 0 := fun e => by rw [e, numB_zero] at ih'; exact hp ih'.symm
        rw [numB, if_neg (by omega), show (256 * valB p + b.toNat) / 256 = valB p from by omega, ih', ofNat_join]

theorem valB_numB (n : Nat) (h : 0 < n) (h1 : n < 65536) : valB (numB 8 n) = n ∧ 1 ≤ (numB 8 n).length ∧ (numB 8 n).length ≤ 2 ∧ (numB 8 n).head? ≠ some 0 := by
  by_cases hs : n < 256
  · rw [numB_small n h hs]
    refine ⟨by simp [valB]; omega, by simp, by simp, fun e => ?_⟩
    simp only [List.head?_cons, Option.some.injEq] at e
    have := congrArg UInt8.toNat e
    simp at this; omega
  · rw [numB_two n (by omega) h1]
    refine ⟨by simp [valB]; omega, by simp, by simp, fun e => ?_⟩
    simp only [List.head?_cons, Option.some.injEq] at e
    have := congrArg UInt8.toNat e
    simp at this; omega

theorem take_app (l r : List UInt8) : (l ++ r).take l.length = l := by simp
theorem drop_app (l r : List UInt8) : (l ++ r).drop l.length = r := by simp

theorem bodyL_fore (l rest : List UInt8) (h : l.length ≤ 55) : bodyL l.length (l ++ rest) = some (l, rest) := by
  rw [bodyL_short _ _ h, if_neg (by simp), take_app, drop_app]

theorem bodyL_far (l rest : List UInt8) (h : 55 < l.length) (h1 : l.length ≤ 60000) : bodyL (55 + (numB 8 l.length).length) (numB 8 l.length ++ (l ++ rest)) = some (l, rest) := by
  obtain ⟨e1, e2, e3, e4⟩ := valB_numB l.length (by omega) (by omega)
  obtain ⟨q, hq⟩ : ∃ q, q = numB 8 l.length := ⟨_, rfl⟩
  rw [← hq] at e1 e2 e3 e4 ⊢
  have hh : (q ++ (l ++ rest)).head? ≠ some 0 := by
    cases q with
    | nil => simp at e2
    | cons c r => simpa using e4
  rw [bodyL_long _ _ e2, if_neg (by rintro (x | x | x); simp at x; omega; omega; exact hh x), take_app, drop_app, e1, if_neg (by rintro (x | x | x); omega; omega; simp at x; omega), take_app, drop_app]

theorem bodyL_back (n : Nat) (r bd rest : List UInt8) (h : bodyL n r = some (bd, rest)) : bd.length ≤ 60000 ∧
    ((bd.length ≤ 55 ∧ n = bd.length ∧ bd ++ rest = r) ∨ (55 < bd.length ∧ n = 55 + (numB 8 bd.length).length ∧ numB 8 bd.length ++ (bd ++ rest) = r)) := by
  by_cases h55 : n ≤ 55
  · rw [bodyL_short n r h55] at h
    by_cases hf : r.length < n
    · rw [if_pos hf] at h; cases h
    · rw [if_neg hf] at h; cases h
      have : (r.take n).length = n := by simp; omega
      exact ⟨by omega, .inl ⟨by omega, this.symm, List.take_append_drop _ _⟩⟩
  · obtain ⟨m, rfl⟩ : ∃ m, n = 55 + m := ⟨n - 55, by omega⟩
    rw [bodyL_long m r (by omega)] at h
    by_cases hl : r.length < m ∨ 3 < m ∨ r.head? = some 0
    · rw [if_pos hl] at h; cases h
    · rw [if_neg hl] at h
      by_cases hf : valB (r.take m) ≤ 55 ∨ 60000 < valB (r.take m) ∨ (r.drop m).length < valB (r.take m)
      · rw [if_pos hf] at h; cases h
      · rw [if_neg hf] at h; cases h
        have e : ((r.drop m).take (valB (r.take m))).length = valB (r.take m) := by rw [List.length_take]; omega
        have hh : (r.take m).head? ≠ some 0 := by
          cases r with
          | nil => simp
          | cons c r' =>
            obtain ⟨m', rfl⟩ : ∃ m', m = m' + 1 := ⟨m - 1, by omega⟩
            intro x
            exact hl (.inr (.inr (by simpa using x)))
        have hlm : (r.take m).length = m := by rw [List.length_take]; omega
        have en : numB 8 (valB (r.take m)) = r.take m := numB_valB 8 _ (by omega) hh
        refine ⟨by omega, .inr ⟨by omega, ?_, ?_⟩⟩
        · rw [e, en, hlm]
        · rw [e, en, List.take_append_drop, List.take_append_drop]

theorem ofNat_small (n : Nat) (h : n < 256) : (UInt8.ofNat n).toNat = n := by rw [UInt8.toNat_ofNat']; omega

theorem takeL_list_fore (l rest : List UInt8) (h : l.length ≤ 60000) : takeL (wrapB l 192 ++ rest) = some (2, l, rest) := by
  unfold wrapB
  by_cases hs : l.length ≤ 55
  · rw [if_pos hs, List.cons_append, takeL_item2 _ _ (by rw [ofNat_small _ (by omega)]; omega), ofNat_small _ (by omega), Nat.add_sub_cancel_left, bodyL_fore l rest hs]
    rfl
  · have hb := (valB_numB l.length (by omega) (by omega)).2.2.1
    rw [if_neg hs, List.cons_append, takeL_item2 _ _ (by rw [ofNat_small _ (by omega)]; omega), ofNat_small _ (by omega), Nat.add_assoc, Nat.add_sub_cancel_left, List.append_assoc, bodyL_far l rest (by omega) h]
    rfl

theorem takeL_text_fore (l rest : List UInt8) (h : l.length ≤ 60000) : takeL (textB l ++ rest) = some (1, l, rest) := by
  have main : loneB l = false → takeL (wrapB l 128 ++ rest) = some (1, l, rest) := by
    intro hl
    unfold wrapB
    by_cases hs : l.length ≤ 55
    · rw [if_pos hs, List.cons_append, takeL_item1 _ _ (by rw [ofNat_small _ (by omega)]; omega) (by rw [ofNat_small _ (by omega)]; omega), ofNat_small _ (by omega), Nat.add_sub_cancel_left, bodyL_fore l rest hs]
      simp [itemL, hl]
    · have hb := (valB_numB l.length (by omega) (by omega)).2.2.1
      rw [if_neg hs, List.cons_append, takeL_item1 _ _ (by rw [ofNat_small _ (by omega)]; omega) (by rw [ofNat_small _ (by omega)]; omega), ofNat_small _ (by omega), Nat.add_assoc, Nat.add_sub_cancel_left, List.append_assoc, bodyL_far l rest (by omega) h]
      simp [itemL, hl]
  match l with
  | [] => exact main rfl
  | [b] =>
    by_cases hb : b.toNat < 128
    · have e : textB [b] = [b] := if_pos hb
      rw [e]
      show takeL (b :: rest) = _
      simp only [takeL]
      rw [if_pos hb]
    · have e : textB [b] = wrapB [b] 128 := if_neg hb
      rw [e]
      exact main (by simp [loneB]; omega)
  | _ :: _ :: _ => exact main rfl

theorem item_in (k' : Nat) (t : Bool) (o : Option (List UInt8 × List UInt8)) (k : Nat) (bd more : List UInt8) (ho : itemL k' t o = some (k, bd, more)) : o = some (bd, more) ∧ k = k' ∧ (t && loneB bd) = false := by
  cases o with
  | none => cases ho
  | some x =>
    obtain ⟨p, q⟩ := x
    simp only [itemL] at ho
    by_cases hc : (t && loneB p) = true
    · rw [if_pos hc] at ho; cases ho
    · rw [if_neg hc] at ho; cases ho; exact ⟨rfl, rfl, by simpa using hc⟩

theorem byte_is (b : UInt8) (n : Nat) (h : n = b.toNat) : UInt8.ofNat n = b := by
  apply UInt8.toNat_inj.1
  have := b.toNat_lt
  rw [ofNat_small _ (by omega), h]

theorem wrapB_of (b : UInt8) (r bd rest : List UInt8) (h : Nat) (hb : h ≤ b.toNat) (hd : bodyL (b.toNat - h) r = some (bd, rest)) : wrapB bd h ++ rest = b :: r ∧ bd.length ≤ 60000 := by
  obtain ⟨h1, h2⟩ := bodyL_back _ _ _ _ hd
  refine ⟨?_, h1⟩
  rcases h2 with ⟨ha, hn, hr⟩ | ⟨ha, hn, hr⟩
  · rw [wrapB, if_pos ha, List.cons_append, hr, byte_is b _ (by omega)]
  · rw [wrapB, if_neg (by omega), List.cons_append, List.append_assoc, hr, byte_is b _ (by omega)]

theorem textB_lone (l : List UInt8) (h : loneB l = false) : textB l = wrapB l 128 := by
  match l, h with
  | [], _ => rfl
  | [b], h => exact if_neg (by simpa [loneB] using h)
  | _ :: _ :: _, _ => rfl

theorem takeL_text_back (l v more : List UInt8) (h : takeL l = some (1, v, more)) : textB v ++ more = l ∧ v.length ≤ 60000 := by
  match l, h with
  | [], h => cases h
  | b :: r, h =>
    by_cases h1 : b.toNat < 128
    · have e : takeL (b :: r) = some (1, [b], r) := by simp only [takeL]; rw [if_pos h1]
      rw [e] at h; cases h
      exact ⟨by simp [textB, h1], by simp⟩
    · by_cases h2 : b.toNat < 192
      · rw [takeL_item1 b r h1 h2] at h
        obtain ⟨ho, _, hl⟩ := item_in _ _ _ _ _ _ h
        rw [textB_lone v (by simpa using hl)]
        exact wrapB_of b r v more 128 (by omega) ho
      · rw [takeL_item2 b r h2] at h
        obtain ⟨_, hk, _⟩ := item_in _ _ _ _ _ _ h
        omega

theorem takeL_list_back (l v more : List UInt8) (h : takeL l = some (2, v, more)) : wrapB v 192 ++ more = l ∧ v.length ≤ 60000 := by
  match l, h with
  | [], h => cases h
  | b :: r, h =>
    by_cases h1 : b.toNat < 128
    · have e : takeL (b :: r) = some (1, [b], r) := by simp only [takeL]; rw [if_pos h1]
      rw [e] at h; cases h
    · by_cases h2 : b.toNat < 192
      · rw [takeL_item1 b r h1 h2] at h
        obtain ⟨_, hk, _⟩ := item_in _ _ _ _ _ _ h
        omega
      · rw [takeL_item2 b r h2] at h
        obtain ⟨ho, _, _⟩ := item_in _ _ _ _ _ _ h
        exact wrapB_of b r v more 192 (by omega) ho

theorem wrapB_len (l : List UInt8) (h : Nat) (hl : l.length < 65536) : (wrapB l h).length ≤ l.length + 3 := by
  unfold wrapB
  by_cases hs : l.length ≤ 55
  · rw [if_pos hs]; simp
  · have := (valB_numB l.length (by omega) hl).2.2.1
    rw [if_neg hs]; simp; omega

theorem textB_len (l : List UInt8) (hl : l.length < 65536) : (textB l).length ≤ l.length + 3 := by
  by_cases h : loneB l = false
  · rw [textB_lone l h]; exact wrapB_len l 128 hl
  · match l, h with
    | [], h => simp [loneB] at h
    | [b], h => simp only [textB]; split <;> simp [wrapB]
    | _ :: _ :: _, h => simp [loneB] at h
end Go.Proofs.YtnhdkhngpnialaaDoor
