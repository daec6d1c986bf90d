
/-
  Contracts: the program's search for a key among pairs and their copy.
-/
import Derived.Test.YtcgodnmbehjfaaaSSetP
import Derived.Lib.Bytealg
namespace Go.Proofs.Ytcgodnmbehjfaaa
open Go.RowKit
set_option linter.unusedVariables false

theorem cmp_neg : ∀ a b : List UInt8, (Lib.compareBytes a b < 0) = (Op.bytesLess a b = true)
  | [], [] => by simp [Lib.compareBytes, Op.bytesLess]
  | [], _ :: _ => by simp [Lib.compareBytes, Op.bytesLess]
  | _ :: _, [] => by simp [Lib.compareBytes, Op.bytesLess]
  | a :: ra, b :: rb => by
    have ih := cmp_neg ra rb
    simp only [Lib.compareBytes, Op.bytesLess]
    by_cases h1 : a < b
    · simp [h1]
    · by_cases h2 : b < a
      · have hne : (a == b) = false := by simp; intro e; rw [e] at h2; exact absurd h2 (UInt8.lt_irrefl b)
        simp [h1, h2, hne]
      · have he : a = b := UInt8.le_antisymm (UInt8.not_lt.1 h2) (UInt8.not_lt.1 h1)
        subst he
        simp [h1, ih]
theorem cmp_zero : ∀ a b : List UInt8, (Lib.compareBytes a b = 0) = (a = b)
  | [], [] => by simp [Lib.compareBytes]
  | [], _ :: _ => by simp [Lib.compareBytes]
  | _ :: _, [] => by simp [Lib.compareBytes]
  | a :: ra, b :: rb => by
    have ih := cmp_zero ra rb
    simp only [Lib.compareBytes]
    by_cases h1 : a < b
    · have hne : ¬ a = b := fun e => by rw [e] at h1; exact absurd h1 (UInt8.lt_irrefl b)
      simp [h1, hne]
    · by_cases h2 : b < a
      · have hne : ¬ a = b := fun e => by rw [e] at h2; exact absurd h2 (UInt8.lt_irrefl b)
        simp [h1, h2, hne]
      · have he : a = b := UInt8.le_antisymm (UInt8.not_lt.1 h2) (UInt8.not_lt.1 h1)
        subst he
        simp [h1, ih]

/-- Where a key's place is among rising keys. -/
def placeIs (ps : List PairL) (k : List UInt8) (at_ : Nat) : Prop := at_ ≤ ps.length ∧ (∀ t, t < at_ → Op.bytesLess (keyAt ps t) k = true) ∧ ∀ t, at_ ≤ t → t < ps.length → Op.bytesLess (keyAt ps t) k = false
/-- Keys rise. -/
def rising (ps : List PairL) : Prop := ∀ i j, i < j → j < ps.length → Op.bytesLess (keyAt ps i) (keyAt ps j) = true
theorem less_trans : ∀ a b c : List UInt8, Op.bytesLess a b = true → Op.bytesLess b c = true → Op.bytesLess a c = true
  | _, _, [], _, h => by simp [Op.bytesLess] at h
  | [], _, _ :: _, _, _ => by simp [Op.bytesLess]
  | a :: ra, [], _ :: _, h, _ => by simp [Op.bytesLess] at h
  | a :: ra, b :: rb, c :: rc, h1, h2 => by
    simp only [Op.bytesLess, Bool.or_eq_true, decide_eq_true_eq, Bool.and_eq_true, beq_iff_eq] at h1 h2 ⊢
    rcases h1 with h1 | ⟨rfl, h1⟩
    · rcases h2 with h2 | ⟨rfl, h2⟩
      · exact .inl (UInt8.lt_trans h1 h2)
      · exact .inl h1
    · rcases h2 with h2 | ⟨rfl, h2⟩
      · exact .inl h2
      · exact .inr ⟨rfl, less_trans ra rb rc h1 h2⟩
theorem rising_of (ps : List PairL) (h : pairsOkL ps = true) : rising ps := by
  have ho := (pairsOk_of ps h).2
  intro i j hij hj
  induction j with
  | zero => omega
  | succ j ih =>
    have hs : Op.bytesLess (keyAt ps j) (keyAt ps (j + 1)) = true := by
      have := ho (j + 1) hj
      simp only [okAt, Bool.and_eq_true, Bool.or_eq_true, decide_eq_true_eq] at this
      rcases this.2 with h0 | h0
      · omega
      · simpa using h0
    by_cases e : i = j
    · rw [e]; exact hs
    · exact less_trans _ _ _ (ih (by omega) (by omega)) hs

theorem isPairs_flat {w : World} {b off : Nat} {qs : List PairL} (h : IsPairs w (some ⟨b, off, none⟩) qs) : ∀ j u, (pcells qs)[j]? = some u → w.cell? ((⟨b, off, none⟩ : Addr).add j) = some u := by
  intro j u hu
  have hj : j < qs.length * 2 := by
    have := (List.getElem?_eq_some_iff.1 hu).1
    rwa [pcells_length] at this
  rcases h with rfl | ⟨b', off', he, hc⟩
  · simp at hj
  · cases he
    have ht := hc (j / 2) (by omega)
    have hp := pcells_at qs (j / 2) (by omega)
    rcases Nat.mod_two_eq_zero_or_one j with h0 | h0
    · have e : j = j / 2 * 2 := by omega
      rw [e] at hu ⊢
      rw [hp.1] at hu
      cases hu
      have ea : (⟨b, off, none⟩ : Addr).add (j / 2 * 2) = ⟨b, off + j / 2 * 2, none⟩ := by
        simp only [Addr.add]
        split
        · rename_i h9; rw [h9]; rfl
        · rfl
      rw [ea]; exact ht.1
    · have e : j = j / 2 * 2 + 1 := by omega
      rw [e] at hu ⊢
      rw [hp.2] at hu
      cases hu
      have ea : (⟨b, off, none⟩ : Addr).add (j / 2 * 2 + 1) = ⟨b, off + j / 2 * 2 + 1, none⟩ := by simp [Addr.add, Nat.add_assoc]
      rw [ea]; exact ht.2
theorem pcells_one (qs : List PairL) : ∀ u ∈ pcells qs, u.oneCell' = true := by
  induction qs with
  | nil => simp [pcells]
  | cons p ps ih => simp [pcells, Value.oneCell']; exact ih

set_option maxHeartbeats 1000000 in
set_option maxRecDepth 100000 in
theorem clone_any (b off cap : Nat) (qs : List PairL) (w : World) (hl : qs.length ≤ 1000) (hs : IsPairs w (some ⟨b, off, none⟩) qs) :
    Calls Try.prog 37 #[.slice (some ⟨b, off, none⟩) qs.length cap] w fun e w' => ∃ (a : Option Addr) (m c : Nat), e = .returned (.slice a m c) ∧ w'.ownsRow w.heap.size 53 2 (.slice a m c) qs.length (pcells qs) ∧ Below w.heap.size w w' := by
  obtain ⟨i0, hi0, hz0, hz1, hz2⟩ := info_parts infoPair
  have B0 : Below w.heap.size w (w.alloc (.cells #[] 53)) := (Below.refl _ _).alloc (Nat.le_refl _) _
  have HF : Hid (∀ j u, (pcells qs)[j]? = some u → (w.alloc (.cells #[] 53)).cell? ((⟨b, off, none⟩ : Addr).add j) = some u) := isPairs_flat (hs.later B0)
  have o0 := World.ownsRow_lit (e := 53) (size := 2) w #[] 0 (base := w.heap.size) (Nat.le_refl _) (Nat.zero_le _) rfl
  have HO0 := hidOwn o0
  have hnil : ∀ W, (binOp .eql 22 (.slice (some ⟨b, off, none⟩) qs.length cap) (.slice none 0 0)).run Try.prog W = .ok (.bool false) W := fun W => by first | rfl | (simp [binOp, Op.equal, run_underlying Try.underlying22])
  clear hs o0
  go_enter Try.func37, Try.ntmps37
  go_wp2_with (at_builtin; refine wpList_append_own _ rfl _ _ 22 rfl w.heap.size 53 i0 (.agg #[.string ⟨#[]⟩, .string ⟨#[]⟩]) 2 32 Try.underlying22 hi0 hz0 hz1 hz2 rfl (by decide) (.slice (some ⟨w.heap.size, 0, none⟩) 0 0) 0 _ rfl HO0.out ⟨b, off, none⟩ qs.length cap (pcells qs) rfl (pcells_length qs) HF.out (pcells_one qs) (by unfold maxLen; omega) (by omega) (by simp <;> omega) ?_; intro v3 w3 hown3 hgrow3 hnil3; obtain ⟨a3, m3, c3, rfl⟩ := own_slice2 hown3)
  have B3 : Below w.heap.size w w3 := B0.grown hgrow3 (by simp) (fun k hk => by simp [Value.ownBlock] at hk; omega)
  have HO3 : Hid (w3.ownsRow w.heap.size 53 2 (.slice a3 m3 c3) qs.length (pcells qs)) := by rw [Hid]; simpa using hown3
  clear hown3 hgrow3 hnil3
  go_wp2
  go_ret
  exact ⟨a3, m3, c3, rfl, HO3.out, B3⟩
end Go.Proofs.Ytcgodnmbehjfaaa
