/-
  Texts that are laid as one: MathBackL, MathTs, MathBT, MathReadT, MathTell.
-/
import Derived.Test.YtldkilpndcafjaaGreatDoorMathAll
import Derived.Test.YtldkilpndcafjaaGreatDoorINodes
import Derived.Test.YtldkilpndcafjaaGreatDoorTrieAll
import Derived.Test.YtldkilpndcafjaaGreatDoorLaidAll
namespace Go.Proofs.YtldkilpndcafjaaGreatDoor
open Go.RowKit
set_option linter.unusedVariables false

/-- What is taken from the front is taken whatever stands behind. -/
theorem takeL_front (l : List UInt8) (k : Nat) (bd more : List UInt8) (h : takeL l = some (k, bd, more)) : ∃ x, l = x ++ more ∧ x ≠ [] ∧ ∀ r, takeL (x ++ r) = some (k, bd, r) := by
  have hless := (takeL_less l k bd more h).1
  rcases takeL_kind l k bd more h with rfl | rfl
  · obtain ⟨e, hl⟩ := takeL_text_back l bd more h
    refine ⟨textB bd, e.symm, fun e0 => ?_, fun r => takeL_text_fore bd r hl⟩
    rw [e0] at e; rw [← e] at hless; simp at hless
  · obtain ⟨e, hl⟩ := takeL_list_back l bd more h
    refine ⟨wrapB bd 192, e.symm, fun e0 => ?_, fun r => takeL_list_fore bd r hl⟩
    rw [e0] at e; rw [← e] at hless; simp at hless

theorem isItem_is (x : List UInt8) (h : isItemL x = true) : ∃ k bd, takeL x = some (k, bd, []) := by
  unfold isItemL at h
  cases ht : takeL x with
  | none => rw [ht] at h; cases h
  | some y =>
    obtain ⟨k, bd, rest⟩ := y
    cases rest with
    | nil => exact ⟨k, bd, rfl⟩
    | cons a r => rw [ht] at h; cases h

theorem itemsF_one (f k : Nat) (x r bd : List UInt8) (hx : x ≠ []) (h : takeL (x ++ r) = some (k, bd, r)) : itemsF (f + 1) (x ++ r) = (itemsF f r).map fun t => x :: t := by
  cases x with
  | nil => exact absurd rfl hx
  | cons b x' =>
    rw [List.cons_append] at h ⊢
    rw [itemsF_some f b (x' ++ r) k bd r h]
    have e : (b :: (x' ++ r)).take ((b :: (x' ++ r)).length - r.length) = b :: x' := by
      have : (b :: (x' ++ r)).length - r.length = (b :: x').length := by simp; omega
      rw [this, ← List.cons_append, List.take_left']
      rfl
    rw [e]

theorem itemsF_fore : ∀ (ls : List (List UInt8)) (f : Nat), ls.all isItemL = true → ls.flatten.length ≤ f → itemsF f ls.flatten = some ls := by
  intro ls
  induction ls with
  | nil => intro f _ _; exact itemsF_nil f
  | cons x r ih =>
    intro f ha hf
    simp only [List.all_cons, Bool.and_eq_true] at ha
    obtain ⟨k, bd, hk⟩ := isItem_is x ha.1
    obtain ⟨y, hy, hne, hr⟩ := takeL_front x k bd [] hk
    rw [List.append_nil] at hy
    subst hy
    rw [List.flatten_cons] at hf ⊢
    have hxl : 1 ≤ x.length := by cases x with
      | nil => exact absurd rfl hne
      | cons b t => simp
    rw [List.length_append] at hf
    obtain ⟨f', rfl⟩ : ∃ f', f = f' + 1 := ⟨f - 1, by omega⟩
    rw [itemsF_one f' k x _ bd hne (hr _), ih f' ha.2 (by omega)]
    rfl

theorem itemsF_back : ∀ (f : Nat) (l : List UInt8) (ls : List (List UInt8)), itemsF f l = some ls → ls.flatten = l ∧ ls.all isItemL = true := by
  intro f
  induction f with
  | zero =>
    intro l ls h
    cases l with
    | nil => rw [itemsF_nil] at h; cases h; exact ⟨rfl, rfl⟩
    | cons b r => cases h
  | succ f ih =>
    intro l ls h
    cases l with
    | nil => rw [itemsF_nil] at h; cases h; exact ⟨rfl, rfl⟩
    | cons b r =>
      cases ht : takeL (b :: r) with
      | none => rw [itemsF_none _ b r ht] at h; cases h
      | some y =>
        obtain ⟨k, bd, more⟩ := y
        obtain ⟨x, hx, hne, hr⟩ := takeL_front _ k bd more ht
        rw [hx, itemsF_one f k x more bd hne (hr more)] at h
        cases hi : itemsF f more with
        | none => rw [hi] at h; cases h
        | some t =>
          rw [hi] at h
          simp only [Option.map_some, Option.some.injEq] at h
          subst h
          obtain ⟨h1, h2⟩ := ih more t hi
          have hx0 := hr []
          rw [List.append_nil] at hx0
          exact ⟨by rw [List.flatten_cons, h1, hx], by simp [h2, isItemL_yes x k bd hx0]⟩

/-- A list that was written is read again. -/
theorem items_list (ls : List (List UInt8)) : (listL ls = [] ∧ itemsL (listL ls) = none) ∨ (listL ls ≠ [] ∧ itemsL (listL ls) = some ls) := by
  by_cases h : ls.flatten.length ≤ 60000 ∧ ls.all isItemL = true
  · have e : listL ls = wrapB ls.flatten 192 := if_pos h
    right
    have ht := takeL_list_fore ls.flatten [] h.1
    rw [List.append_nil] at ht
    rw [e]
    refine ⟨fun e0 => ?_, ?_⟩
    · rw [e0] at ht; cases ht
    · rw [itemsL_list _ _ ht, itemsF_fore ls _ h.2 (Nat.le_refl _)]
  · have e : listL ls = [] := if_neg h
    exact .inl ⟨e, by rw [e]; rfl⟩

/-- A list that was read is written again. -/
theorem list_items (b : List UInt8) (ls : List (List UInt8)) (h : itemsL b = some ls) : listL ls = b := by
  cases ht : takeL b with
  | none => rw [itemsL_none b ht] at h; cases h
  | some y =>
    obtain ⟨k, bd, rest⟩ := y
    by_cases hk : k ≠ 2 ∨ rest ≠ []
    · rw [itemsL_kind b k bd rest ht hk] at h; cases h
    · have hk2 : k = 2 := by omega
      have hr : rest = [] := Classical.byContradiction fun hn => hk (.inr hn)
      subst hk2 hr
      rw [itemsL_list b bd ht] at h
      obtain ⟨h1, h2⟩ := itemsF_back _ _ _ h
      obtain ⟨e, hl⟩ := takeL_list_back b bd [] ht
      rw [List.append_nil] at e
      rw [listL_yes ls (by rw [h1]; exact hl) h2, h1, e]

theorem items_len (b : List UInt8) (ls : List (List UInt8)) (h : itemsL b = some ls) : ls.flatten.length ≤ b.length := by
  have e := list_items b ls h
  by_cases hc : ls.flatten.length ≤ 60000 ∧ ls.all isItemL = true
  · have e1 : listL ls = wrapB ls.flatten 192 := if_pos hc
    rw [← e, e1, wrapB]
    split <;> simp <;> omega
  · have e1 : listL ls = [] := if_neg hc
    rw [e1] at e
    subst e
    cases h

theorem all_num : ∀ ls : List (List UInt8), ls.all isItemL = true → ls.length ≤ ls.flatten.length := by
  intro ls
  induction ls with
  | nil => intro _; simp
  | cons x r ih =>
    intro h
    simp only [List.all_cons, Bool.and_eq_true] at h
    have := ih h.2
    have hx : 1 ≤ x.length := by cases x with
      | nil => exact absurd h.1 (by decide)
      | cons b t => simp
    rw [List.flatten_cons, List.length_append, List.length_cons]
    omega

theorem items_num (b : List UInt8) (ls : List (List UInt8)) (h : itemsL b = some ls) : ls.length ≤ b.length := by
  have e := list_items b ls h
  have hl := items_len b ls h
  by_cases hc : ls.flatten.length ≤ 60000 ∧ ls.all isItemL = true
  · have := all_num ls hc.2
    omega
  · have e1 : listL ls = [] := if_neg hc
    rw [e1] at e
    subst e
    cases h
end Go.Proofs.YtldkilpndcafjaaGreatDoor
namespace Go.Proofs.YtldkilpndcafjaaGreatDoor
open Go.RowKit
set_option linter.unusedVariables false

/-- The text that an item begins with. -/
def textOf (l : List UInt8) : Option (List UInt8) := match takeL l with
  | some (1, b, _) => some b
  | _ => none
def textsF : List (List UInt8) → Option (List (List UInt8))
  | [] => some []
  | l :: r => match textOf l with
    | none => none
    | some t => (textsF r).map (t :: ·)
/-- The texts of a list of texts. -/
def textsL (s : List UInt8) : Option (List (List UInt8)) := match itemsL s with
  | none => none
  | some ls => textsF ls

theorem textOf_some (l b rest : List UInt8) (h : takeL l = some (1, b, rest)) : textOf l = some b := by simp only [textOf, h]
theorem textOf_none (l : List UInt8) (h : takeL l = none) : textOf l = none := by simp only [textOf, h]
theorem textOf_list (l b rest : List UInt8) (h : takeL l = some (2, b, rest)) : textOf l = none := by simp only [textOf, h]
theorem textsF_none (ls : List (List UInt8)) (j : Nat) (hj : j < ls.length) (h : textOf ls[j] = none) : textsF ls = none := by
  induction ls generalizing j with
  | nil => simp at hj
  | cons l r ih =>
    cases j with
    | zero =>
      simp only [List.getElem_cons_zero] at h
      simp only [textsF, h]
    | succ j =>
      simp only [List.getElem_cons_succ] at h
      have := ih j (by simpa using hj) h
      simp only [textsF, this]
      cases textOf l <;> rfl
theorem textsF_snoc (ls : List (List UInt8)) (l t : List UInt8) (ts : List (List UInt8)) (h1 : textsF ls = some ts) (h2 : textOf l = some t) : textsF (ls ++ [l]) = some (ts ++ [t]) := by
  induction ls generalizing ts with
  | nil =>
    simp only [textsF, Option.some.injEq] at h1
    subst h1
    simp [textsF, h2]
  | cons x r ih =>
    simp only [textsF] at h1
    cases hx : textOf x with
    | none => rw [hx] at h1; cases h1
    | some y =>
      rw [hx] at h1
      cases hr : textsF r with
      | none => rw [hr] at h1; cases h1
      | some us =>
        rw [hr] at h1
        simp at h1
        subst h1
        simp [textsF, hx, ih us hr]
theorem textsF_take (ls : List (List UInt8)) (j : Nat) (hj : j < ls.length) (t : List UInt8) (ts : List (List UInt8)) (h1 : textsF (ls.take j) = some ts) (h2 : textOf ls[j] = some t) : textsF (ls.take (j + 1)) = some (ts ++ [t]) := by
  rw [List.take_succ_eq_append_getElem hj]
  exact textsF_snoc _ _ _ _ h1 h2
theorem textsF_each : ∀ (ls ts : List (List UInt8)), textsF ls = some ts → ts.length = ls.length ∧ (∀ t ∈ ts, t.length ≤ 60000) ∧ ts.flatten.length ≤ ls.flatten.length
  | [], ts, h => by
    simp only [textsF, Option.some.injEq] at h
    subst h
    simp
  | l :: r, ts, h => by
    simp only [textsF] at h
    cases hx : textOf l with
    | none => rw [hx] at h; cases h
    | some y =>
      rw [hx] at h
      cases hr : textsF r with
      | none => rw [hr] at h; cases h
      | some us =>
        rw [hr] at h
        simp at h
        subst h
        obtain ⟨i1, i2, i3⟩ := textsF_each r us hr
        obtain ⟨rest, ht⟩ : ∃ rest, takeL l = some (1, y, rest) := by
          unfold textOf at hx
          split at hx
          · rename_i b rest h'; cases hx; exact ⟨_, h'⟩
          · cases hx
        have hl := (takeL_text_back l y rest ht).2
        have hl2 := (takeL_less l 1 y rest ht).2
        refine ⟨by simp [i1], fun t ht => ?_, ?_⟩
        · rcases List.mem_cons.1 ht with rfl | h
          · exact hl
          · exact i2 t h
        · rw [List.flatten_cons, List.length_append, List.flatten_cons, List.length_append]; omega
theorem textsL_each (s : List UInt8) (ts : List (List UInt8)) (h : textsL s = some ts) : ts.length ≤ s.length ∧ (∀ t ∈ ts, t.length ≤ 60000) := by
  unfold textsL at h
  cases hi : itemsL s with
  | none => rw [hi] at h; cases h
  | some ls =>
    rw [hi] at h
    obtain ⟨h1, h2, _⟩ := textsF_each ls ts h
    have := items_num s ls hi
    exact ⟨by omega, h2⟩
end Go.Proofs.YtldkilpndcafjaaGreatDoor
namespace Go.Proofs.YtldkilpndcafjaaGreatDoor
open Go.RowKit
set_option linter.unusedVariables false

theorem textsF_map : ∀ ts : List (List UInt8), (∀ t ∈ ts, t.length ≤ 60000) → textsF (ts.map textB) = some ts
  | [], _ => rfl
  | t :: ts, h => by
    have h1 : textOf (textB t) = some t := textOf_some _ t [] (by have := takeL_text_fore t [] (h t (by simp)); simpa using this)
    have h2 := textsF_map ts (fun x hx => h x (by simp [hx]))
    simp only [List.map_cons, textsF, h1, h2]; rfl
theorem texts_fore (ts : List (List UInt8)) (h : ts.flatten.length ≤ 30000) (hl : ts.length ≤ 1001) : textsL (listB ts) = some ts := by
  have e := listL_texts ts h hl
  have hs : ∀ t ∈ ts, t.length ≤ 60000 := fun t ht => by
    obtain ⟨j, hj, rfl⟩ := List.getElem_of_mem ht
    have := each_le ts j hj
    omega
  rcases items_list (ts.map textB) with ⟨h0, _⟩ | ⟨_, h1⟩
  · rw [e] at h0
    exfalso
    simp [listB, wrapB] at h0
    split at h0 <;> simp at h0
  · rw [e] at h1
    simp only [textsL, h1]
    exact textsF_map ts hs
theorem textsF_back : ∀ (ls ts : List (List UInt8)), ls.all isItemL = true → textsF ls = some ts → ls = ts.map textB
  | [], ts, _, h => by simp [textsF] at h; subst h; rfl
  | l :: ls, ts, ha, h => by
    simp only [List.all_cons, Bool.and_eq_true] at ha
    obtain ⟨k, bd, hk⟩ := isItem_is l ha.1
    cases h1 : textOf l with
    | none => simp [textsF, h1] at h
    | some t =>
      cases h2 : textsF ls with
      | none => simp [textsF, h1, h2] at h
      | some tr =>
        simp only [textsF, h1, h2] at h
        have h' : t :: tr = ts := by simpa using h
        subst h'
        clear h
        have hk1 : k = 1 ∧ bd = t := by
          rcases takeL_kind l k bd [] hk with rfl | rfl
          · rw [textOf_some l bd [] hk] at h1; cases h1; exact ⟨rfl, rfl⟩
          · rw [textOf_list l bd [] hk] at h1; cases h1
        obtain ⟨rfl, rfl⟩ := hk1
        have := (takeL_text_back l bd [] hk).1
        rw [List.append_nil] at this
        rw [List.map_cons, this, ← textsF_back ls tr ha.2 h2]
theorem texts_back (s : List UInt8) (ts : List (List UInt8)) (h : textsL s = some ts) : listB ts = s := by
  unfold textsL at h
  cases hi : itemsL s with
  | none => rw [hi] at h; cases h
  | some ls =>
    rw [hi] at h
    have hb := list_items s ls hi
    by_cases hc : ls.flatten.length ≤ 60000 ∧ ls.all isItemL = true
    · have e := textsF_back ls ts hc.2 h
      rw [listL_yes ls hc.1 hc.2] at hb
      rw [← hb, listB, textsB, e]
    · have h0 : listL ls = [] := if_neg hc
      rw [h0] at hb
      subst hb
      simp [itemsL, takeL] at hi
end Go.Proofs.YtldkilpndcafjaaGreatDoor
namespace Go.Proofs.YtldkilpndcafjaaGreatDoor
open Go.RowKit
set_option linter.unusedVariables false

/-- The nibbles whose text it is, and whether they are a leaf's. -/
def readL : List UInt8 → Option (List UInt8 × Bool)
  | [] => none
  | b :: r =>
    if 64 ≤ b.toNat then none
    else if b.toNat / 16 % 2 = 1 then some (b % 16 :: nibs r, decide (2 ≤ b.toNat / 16))
    else if b.toNat % 16 ≠ 0 then none
    else some (nibs r, decide (2 ≤ b.toNat / 16))

/-- The three results. -/
def rdV : Option (List UInt8 × Bool) → Value
  | none => .tuple #[.string ⟨#[]⟩, .bool false, .bool false]
  | some (x, leaf) => .tuple #[.string ⟨x.toArray⟩, .bool leaf, .bool true]


theorem pack_nibs : ∀ l : List UInt8, pack (nibs l) = l
  | [] => rfl
  | b :: r => by
    rw [nibs_cons, pack, pack_nibs r]
    congr 1
    apply UInt8.toNat_inj.1
    have := b.toNat_lt
    simp; omega

theorem u8_div (a b : UInt8) (ha : a.toNat ≤ 15) (hb : b.toNat ≤ 15) : (16 * a + b) / 16 = a := by
  apply UInt8.toNat_inj.1; simp; omega

theorem u8_mod (a b : UInt8) (ha : a.toNat ≤ 15) (hb : b.toNat ≤ 15) : (16 * a + b) % 16 = b := by
  apply UInt8.toNat_inj.1; simp; omega

theorem nibs_pack : ∀ l : List UInt8, l.length % 2 = 0 → isNibs l = true → nibs (pack l) = l
  | [], _, _ => rfl
  | [_], h, _ => by simp at h
  | a :: b :: r, h, hq => by
    simp only [isNibs, List.all_cons, Bool.and_eq_true, decide_eq_true_eq] at hq
    rw [pack, nibs_cons, u8_div a b hq.1 hq.2.1, u8_mod a b hq.1 hq.2.1, nibs_pack r (by simp at h; omega) (by simpa [isNibs] using hq.2.2)]

theorem nibs_nibs (l : List UInt8) : isNibs (nibs l) = true := by
  induction l with
  | nil => rfl
  | cons b r ih =>
    rw [nibs_cons]
    simp only [isNibs, List.all_cons, Bool.and_eq_true, decide_eq_true_eq] at ih ⊢
    have := b.toNat_lt
    refine ⟨by simp; omega, by simp; omega, ih⟩

/-- What was packed is read back. -/
theorem readL_pack (n : List UInt8) (leaf : Bool) (hq : isNibs n = true) : readL (pack (withFlag n leaf)) = some (n, leaf) := by
  by_cases h : n.length % 2 = 1
  · rw [withFlag_odd n leaf h]
    match n, h, hq with
    | [], h, _ => simp at h
    | a :: r, h, hq =>
      simp only [isNibs, List.all_cons, Bool.and_eq_true, decide_eq_true_eq] at hq
      have hr : nibs (pack r) = r := nibs_pack r (by simp at h; omega) (by simpa [isNibs] using hq.2)
      have ha := hq.1
      have hm : (16 * (if leaf = true then (3 : UInt8) else 1) + a) % 16 = a := u8_mod _ _ (by cases leaf <;> decide) ha
      have hn : (16 * (if leaf = true then (3 : UInt8) else 1) + a).toNat = (if leaf then 48 else 16) + a.toNat := by cases leaf <;> simp <;> omega
      rw [pack]
      simp only [readL, hm, hr, hn]
      cases leaf
      · simp only [Bool.false_eq_true, if_false]
        rw [if_neg (by omega), if_pos (by omega)]
        simp; omega
      · simp only [if_true]
        rw [if_neg (by omega), if_pos (by omega)]
        simp; omega
  · have h0 : n.length % 2 = 0 := by omega
    rw [withFlag_even n leaf h0, pack]
    have hr : nibs (pack n) = n := nibs_pack n h0 hq
    have hn : (16 * (if leaf = true then (2 : UInt8) else 0) + 0).toNat = (if leaf then 32 else 0) := by cases leaf <;> rfl
    simp only [readL, hr, hn]
    cases leaf <;> simp

/-- What is read, packed again, has just its bytes. -/
theorem pack_readL (b x : List UInt8) (leaf : Bool) (h : readL b = some (x, leaf)) : isNibs x = true ∧ pack (withFlag x leaf) = b ∧ x.length ≤ 2 * b.length := by
  match b, h with
  | [], h => cases h
  | c :: r, h =>
    have hc := c.toNat_lt
    simp only [readL] at h
    by_cases h1 : 64 ≤ c.toNat
    · rw [if_pos h1] at h; cases h
    · rw [if_neg h1] at h
      by_cases h2 : c.toNat / 16 % 2 = 1
      · rw [if_pos h2] at h
        cases h
        have hl : (c % 16 :: nibs r).length % 2 = 1 := by simp [nibs_length]
        refine ⟨?_, ?_, by simp [nibs_length]; omega⟩
        · have := nibs_nibs r
          simp only [isNibs, List.all_cons, Bool.and_eq_true, decide_eq_true_eq] at this ⊢
          exact ⟨by simp; omega, this⟩
        · rw [withFlag_odd _ _ hl, pack, pack_nibs]
          congr 1
          apply UInt8.toNat_inj.1
          by_cases h3 : 2 ≤ c.toNat / 16
          · simp [h3]; omega
          · simp [h3]; omega
      · rw [if_neg h2] at h
        by_cases h3 : c.toNat % 16 ≠ 0
        · rw [if_pos h3] at h; cases h
        · rw [if_neg h3] at h
          cases h
          have hl : (nibs r).length % 2 = 0 := by simp [nibs_length]
          refine ⟨nibs_nibs r, ?_, by simp [nibs_length]; omega⟩
          rw [withFlag_even _ _ hl, pack, pack_nibs]
          congr 1
          apply UInt8.toNat_inj.1
          by_cases h4 : 2 ≤ c.toNat / 16
          · simp [h4]; omega
          · simp [h4]; omega

theorem pack_len (l : List UInt8) (h : l.length % 2 = 0) : (pack l).length = l.length / 2 := by
  have := pack_length (l.length / 2) l (by omega)
  rw [List.take_of_length_le (by omega)] at this
  exact this

theorem hexlen (n : List UInt8) (leaf : Bool) : (pack (withFlag n leaf)).length = n.length / 2 + 1 := by
  by_cases h : n.length % 2 = 1
  · rw [withFlag_odd n leaf h, pack_len _ (by simp; omega)]; simp; omega
  · rw [withFlag_even n leaf (by omega), pack_len _ (by simp; omega)]; simp; omega

end Go.Proofs.YtldkilpndcafjaaGreatDoor
namespace Go.Proofs.YtldkilpndcafjaaGreatDoor
open Go.RowKit
set_option linter.unusedVariables false

theorem listB_inj {a b : List (List UInt8)} (ha : a.flatten.length ≤ 30000) (hal : a.length ≤ 1001) (hb : b.flatten.length ≤ 30000) (hbl : b.length ≤ 1001) (h : listB a = listB b) : a = b := by
  have h1 := texts_fore a ha hal
  rw [h, texts_fore b hb hbl] at h1
  exact (Option.some.inj h1).symm

theorem hex_inj {a b : List UInt8} {x y : Bool} (ha : isNibs a = true) (hb : isNibs b = true) (h : pack (withFlag a x) = pack (withFlag b y)) : a = b ∧ x = y := by
  have h1 := readL_pack a x ha
  rw [h, readL_pack b y hb] at h1
  have := Option.some.inj h1
  exact ⟨(congrArg Prod.fst this).symm, (congrArg Prod.snd this).symm⟩

theorem two_flat (a b : List UInt8) : [a, b].flatten.length = a.length + b.length := by simp

theorem hex_len24 (p : List UInt8) (x : Bool) (h : p.length ≤ 24) : (pack (withFlag p x)).length ≤ 26 := by
  have h1 := pack_le (withFlag p x)
  have h2 : (withFlag p x).length ≤ p.length + 2 := by unfold withFlag; split <;> simp
  omega

/-- What is asked of paths with values. -/
structure GE (f : Nat) (es : List PairL) : Prop where
  fits : Fits f es
  small : smallE es
  nib : nibE es
  rise : RiseE es
  val : ∀ e ∈ es, e.2 ≠ []

theorem GE.cut {f : Nat} {es : List PairL} (h : GE (f + 1) es) (hc : 0 < commonL es) : GE f (cutE (commonL es) es) :=
  ⟨fits_cut h.fits hc, small_cut9 h.small, nib_cut h.nib, rise_cut h.rise (Nat.le_refl _), fun e he => by
    obtain ⟨x, hx, rfl⟩ := List.mem_map.1 he
    exact h.val x hx⟩

theorem GE.grp {f : Nat} {es : List PairL} (h : GE (f + 1) es) (d : Nat) : GE f (grp d es) :=
  ⟨fits_grp h.fits, small_grp h.small, nib_grp h.nib, rise_grp h.rise, fun e he => by
    obtain ⟨x, hx, he⟩ := List.mem_filterMap.1 he
    obtain ⟨_, _, _, h3⟩ := grp1_some he
    rw [← h3]; exact h.val x hx⟩

theorem rise_lt {es : List PairL} (h : RiseE es) : es.Pairwise (fun x y => x.1 < y.1) := h.imp fun {a b} hab => (less_iff _ _).1 hab

theorem mem_cons_grp {es : List PairL} {x : UInt8} {xs v : List UInt8} : (x :: xs, v) ∈ es ↔ (xs, v) ∈ grp x.toNat es := by
  constructor
  · intro h
    exact List.mem_filterMap.2 ⟨_, h, by simp [grp1]⟩
  · intro h
    obtain ⟨e, he, hg⟩ := List.mem_filterMap.1 h
    obtain ⟨y, h1, h2, h3⟩ := grp1_some hg
    have : y = x := UInt8.toNat_inj.1 h2
    subst this
    have : e = (y :: xs, v) := Prod.ext h1 h3
    rw [← this]; exact he

theorem end_mem {es : List PairL} (h : RiseE es) (hv : ∀ e ∈ es, e.2 ≠ []) (v : List UInt8) : ([], v) ∈ es ↔ (endV es = v ∧ v ≠ []) := by
  by_cases h0 : es = []
  · subst h0
    simp [endV]
    try (intro e; exact e.symm)
  · have hl : 0 < es.length := List.length_pos_iff.2 h0
    obtain ⟨h1, h2⟩ := end_rise h hl
    constructor
    · intro hm
      obtain ⟨k, hk, he⟩ := List.getElem_of_mem hm
      have hk0 : k = 0 := by
        rcases Nat.eq_zero_or_pos k with h' | h'
        · exact h'
        · exact absurd (by rw [he]) (h1 k hk h')
      subst hk0
      rw [h2, if_pos (by rw [he]), he]
      exact ⟨rfl, hv _ hm⟩
    · rintro ⟨e1, e2⟩
      rw [h2] at e1
      split at e1
      · rename_i hz
        have : es[0] = ([], v) := Prod.ext hz e1
        rw [← this]; exact List.getElem_mem _
      · exact absurd e1.symm e2

/-- Paths with values are told by what ends there and by their groups. -/
theorem es_unique {a b : List PairL} (ha : RiseE a) (hb : RiseE b) (hva : ∀ e ∈ a, e.2 ≠ []) (hvb : ∀ e ∈ b, e.2 ≠ []) (hna : nibE a) (hnb : nibE b) (he : endV a = endV b) (hg : ∀ d, d < 16 → grp d a = grp d b) : a = b := by
  refine rise_unique a b (rise_lt ha) (rise_lt hb) fun e => ?_
  obtain ⟨p, v⟩ := e
  cases p with
  | nil => rw [end_mem ha hva, end_mem hb hvb, he]
  | cons x xs =>
    rw [mem_cons_grp, mem_cons_grp]
    by_cases hx : x.toNat < 16
    · rw [hg _ hx]
    · constructor
      · intro h
        have := hna _ (mem_cons_grp.2 h)
        simp [isNibs] at this
        omega
      · intro h
        have := hnb _ (mem_cons_grp.2 h)
        simp [isNibs] at this
        omega

theorem cut_back {es : List PairL} {n : Nat} (hn : n ≤ commonL es) : es = (cutE n es).map fun e => ((headP es).take n ++ e.1, e.2) := by
  unfold cutE
  rw [List.map_map]
  have : es.map (fun e => e) = es.map ((fun e => ((headP es).take n ++ e.1, e.2)) ∘ fun e => (e.1.drop n, e.2)) := by
    apply List.map_congr_left
    intro e he
    have h1 := common_take es n hn e he
    show e = ((headP es).take n ++ e.1.drop n, e.2)
    rw [← h1, List.take_append_drop]
  simpa using this

theorem root_last {f : Nat} {es : List PairL} {ns : List PairL} {t : List UInt8} (h : buildL f es = ns ++ [nodeP t]) : rootH (buildL f es) = sumL t := by rw [h, rootH_snoc]; rfl

/-- The three kinds of root node. -/
theorem shapes (f : Nat) (es : List PairL) (h0 : es ≠ []) :
    (∃ e, es = [e] ∧ buildL (f + 1) es = [] ++ [nodeP (leafT e)]) ∨
    (0 < commonL es ∧ 2 ≤ es.length ∧ buildL (f + 1) es = buildL f (cutE (commonL es) es) ++ [nodeP (longT ((headP es).take (commonL es)) (rootH (buildL f (cutE (commonL es) es))))]) ∨
    (¬ 0 < commonL es ∧ 2 ≤ es.length ∧ buildL (f + 1) es = ((List.range 16).map fun d => buildL f (grp d es)).flatten ++ [nodeP (branchT ((List.range 16).map fun d => rootH (buildL f (grp d es))) (endV es))]) := by
  have hl : 0 < es.length := List.length_pos_iff.2 h0
  by_cases h1 : es.length = 1
  · obtain ⟨e, rfl⟩ := List.length_eq_one_iff.1 h1
    exact .inl ⟨e, rfl, rfl⟩
  · by_cases hc : 0 < commonL es
    · exact .inr (.inl ⟨hc, by omega, build_long f es (by omega) hc⟩)
    · exact .inr (.inr ⟨hc, by omega, build_branch f es (by omega) hc⟩)

theorem leaf_list {f : Nat} {e : PairL} (h : GE f [e]) : [pack (withFlag e.1 true), e.2].flatten.length ≤ 30000 := by
  have h1 := h.small e (by simp)
  have h2 := hex_len24 e.1 true h1.1
  rw [two_flat]; omega
theorem long_list {f : Nat} {es : List PairL} (h : GE f es) (h0 : es ≠ []) (n : Nat) (hh : List UInt8) (hl : hh.length ≤ 32) : [pack (withFlag ((headP es).take n) false), hh].flatten.length ≤ 30000 ∧ isNibs ((headP es).take n) = true := by
  have hhd : headP es ∈ es.map (·.1) := by cases es with | nil => exact absurd rfl h0 | cons e es => simp [headP]
  obtain ⟨e0, he0, hh0⟩ := List.mem_map.1 hhd
  have h1 := (h.small e0 he0).1
  have h2 := hex_len24 ((headP es).take n) false (by rw [List.length_take, ← hh0]; omega)
  refine ⟨by rw [two_flat]; omega, isNibs_take _ _ (by rw [← hh0]; exact h.nib e0 he0)⟩
theorem branch_list {f : Nat} {es : List PairL} (h : GE (f + 1) es) : ((List.range 16).map (fun d => rootH (buildL f (grp d es))) ++ [endV es]).flatten.length ≤ 30000 := by
  have h1 := hash_flat f es 16 (fun d => root_len f _)
  have h2 := end_le h.small
  unfold hashTo at h1
  rw [List.flatten_append, List.length_append, List.flatten_singleton]
  omega

theorem tellE : ∀ (f : Nat) (a b : List PairL), GE f a → GE f b → a ≠ [] → b ≠ [] → rootH (buildL f a) = rootH (buildL f b) → a = b ∨ ∃ x ∈ buildL f a, ∃ y ∈ buildL f b, x.1 = y.1 ∧ x.2 ≠ y.2
  | 0, a, b, ha, _, h0, _, _ => by
    obtain ⟨g, hg⟩ := fits_pos ha.fits h0
    omega
  | f + 1, a, b, ha, hb, ha0, hb0, hr => by
    have key : ∀ {na nb : List PairL} {ta tb : List UInt8}, buildL (f + 1) a = na ++ [nodeP ta] → buildL (f + 1) b = nb ++ [nodeP tb] → (ta = tb → a = b ∨ ∃ x ∈ buildL (f + 1) a, ∃ y ∈ buildL (f + 1) b, x.1 = y.1 ∧ x.2 ≠ y.2) → a = b ∨ ∃ x ∈ buildL (f + 1) a, ∃ y ∈ buildL (f + 1) b, x.1 = y.1 ∧ x.2 ≠ y.2 := by
      intro na nb ta tb ea eb hh
      by_cases ht : ta = tb
      · exact hh ht
      · refine .inr ⟨nodeP ta, by rw [ea]; simp, nodeP tb, by rw [eb]; simp, ?_, ht⟩
        rw [root_last ea, root_last eb] at hr
        exact hr
    rcases shapes f a ha0 with ⟨e1, rfl, ea⟩ | ⟨hca, hla, ea⟩ | ⟨hca, hla, ea⟩ <;> rcases shapes f b hb0 with ⟨e2, rfl, eb⟩ | ⟨hcb, hlb, eb⟩ | ⟨hcb, hlb, eb⟩
    · refine key ea eb fun ht => .inl ?_
      have h1 := listB_inj (leaf_list ha) (by simp) (leaf_list hb) (by simp) ht
      simp only [List.cons.injEq, and_true] at h1
      have h2 := (hex_inj (ha.nib e1 (by simp)) (hb.nib e2 (by simp)) h1.1).1
      rw [Prod.ext h2 h1.2]
    · refine key ea eb fun ht => ?_
      exfalso
      have hl := long_list hb hb0 (commonL b) _ (root_len f (cutE (commonL b) b))
      have h1 := listB_inj (leaf_list ha) (by simp) hl.1 (by simp) ht
      simp only [List.cons.injEq, and_true] at h1
      have h2 := (hex_inj (ha.nib e1 (by simp)) hl.2 h1.1).2
      cases h2
    · refine key ea eb fun ht => ?_
      exfalso
      have h1 := listB_inj (leaf_list ha) (by simp) (branch_list hb) (by simp) ht
      have := congrArg List.length h1
      simp at this
    · refine key ea eb fun ht => ?_
      exfalso
      have hl := long_list ha ha0 (commonL a) _ (root_len f (cutE (commonL a) a))
      have h1 := listB_inj hl.1 (by simp) (leaf_list hb) (by simp) ht
      simp only [List.cons.injEq, and_true] at h1
      have h2 := (hex_inj hl.2 (hb.nib e2 (by simp)) h1.1).2
      cases h2
    · refine key ea eb fun ht => ?_
      have hl1 := long_list ha ha0 (commonL a) _ (root_len f (cutE (commonL a) a))
      have hl2 := long_list hb hb0 (commonL b) _ (root_len f (cutE (commonL b) b))
      have h1 := listB_inj hl1.1 (by simp) hl2.1 (by simp) ht
      simp only [List.cons.injEq, and_true] at h1
      have hp := (hex_inj hl1.2 hl2.2 h1.1).1
      have hc1 : cutE (commonL a) a ≠ [] := fun e => by have := cutE_length (commonL a) a; rw [e] at this; simp at this; omega
      have hc2 : cutE (commonL b) b ≠ [] := fun e => by have := cutE_length (commonL b) b; rw [e] at this; simp at this; omega
      rcases tellE f _ _ (ha.cut hca) (hb.cut hcb) hc1 hc2 h1.2 with h | ⟨x, hx, y, hy, h⟩
      · left
        rw [cut_back (Nat.le_refl (commonL a)), cut_back (Nat.le_refl (commonL b)), h, hp]
      · exact .inr ⟨x, by rw [ea]; simp [hx], y, by rw [eb]; simp [hy], h⟩
    · refine key ea eb fun ht => ?_
      exfalso
      have hl := long_list ha ha0 (commonL a) _ (root_len f (cutE (commonL a) a))
      have h1 := listB_inj hl.1 (by simp) (branch_list hb) (by simp) ht
      have := congrArg List.length h1
      simp at this
    · refine key ea eb fun ht => ?_
      exfalso
      have h1 := listB_inj (branch_list ha) (by simp) (leaf_list hb) (by simp) ht
      have := congrArg List.length h1
      simp at this
    · refine key ea eb fun ht => ?_
      exfalso
      have hl := long_list hb hb0 (commonL b) _ (root_len f (cutE (commonL b) b))
      have h1 := listB_inj (branch_list ha) (by simp) hl.1 (by simp) ht
      have := congrArg List.length h1
      simp at this
    · refine key ea eb fun ht => ?_
      have h1 := listB_inj (branch_list ha) (by simp) (branch_list hb) (by simp) ht
      have h2 := List.append_inj h1 (by simp)
      have hend : endV a = endV b := by simpa using h2.2
      have hgr : ∀ d, d < 16 → rootH (buildL f (grp d a)) = rootH (buildL f (grp d b)) := by
        intro d hd
        have := congrArg (fun l => l[d]?) h2.1
        simpa [hd] using this
      by_cases hall : ∀ d, d < 16 → grp d a = grp d b
      · exact .inl (es_unique ha.rise hb.rise ha.val hb.val ha.nib hb.nib hend hall)
      · right
        simp only [Classical.not_forall] at hall
        obtain ⟨d, hd, hne⟩ := hall
        have hrd := hgr d hd
        have memA : ∀ x ∈ buildL f (grp d a), x ∈ buildL (f + 1) a := fun x hx => by
          rw [ea]; refine List.mem_append_left _ (List.mem_flatten.2 ⟨_, List.mem_map.2 ⟨d, List.mem_range.2 hd, rfl⟩, hx⟩)
        have memB : ∀ x ∈ buildL f (grp d b), x ∈ buildL (f + 1) b := fun x hx => by
          rw [eb]; refine List.mem_append_left _ (List.mem_flatten.2 ⟨_, List.mem_map.2 ⟨d, List.mem_range.2 hd, rfl⟩, hx⟩)
        by_cases g1 : grp d a = []
        · by_cases g2 : grp d b = []
          · exact absurd (g1.trans g2.symm) hne
          · have := root_32 (hb.grp d).fits g2
            rw [← hrd, g1, build_nil] at this
            simp [rootH] at this
        · by_cases g2 : grp d b = []
          · have := root_32 (ha.grp d).fits g1
            rw [hrd, g2, build_nil] at this
            simp [rootH] at this
          · rcases tellE f _ _ (ha.grp d) (hb.grp d) g1 g2 hrd with h | ⟨x, hx, y, hy, h⟩
            · exact absurd h hne
            · exact ⟨x, memA x hx, y, memB y hy, h⟩
end Go.Proofs.YtldkilpndcafjaaGreatDoor
