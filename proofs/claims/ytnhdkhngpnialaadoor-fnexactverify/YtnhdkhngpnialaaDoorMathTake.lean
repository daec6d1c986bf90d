/-
  What TakeRlp answers, as a function on lists of bytes.
-/
import Derived.Test.YtnhdkhngpnialaaDoorMathWrap
namespace Go.Proofs.YtnhdkhngpnialaaDoor
open Go.RowKit
set_option linter.unusedVariables false

/-- The number that bytes are, the highest first. -/
def valB (l : List UInt8) : Nat := l.foldl (fun n b => 256 * n + b.toNat) 0

theorem valB_snoc (l : List UInt8) (b : UInt8) : valB (l ++ [b]) = 256 * valB l + b.toNat := by simp [valB]

theorem valB_lt : ∀ (k : Nat) (l : List UInt8), l.length ≤ k → valB l < 256 ^ k := by
  intro k
  induction k with
  | zero => intro l h; have : l = [] := List.length_eq_zero_iff.1 (by omega); subst this; decide
  | succ k ih =>
    intro l h
    by_cases hl : l = []
    · subst hl; exact Nat.pow_pos (by decide)
    · rw [← List.dropLast_concat_getLast hl, valB_snoc]
      have h1 := ih l.dropLast (by simp; omega)
      have h2 := (l.getLast hl).toNat_lt
      rw [Nat.pow_succ]
      omega

theorem valB_take_snoc (l : List UInt8) (k : Nat) (h : k < l.length) : valB (l.take (k + 1)) = 256 * valB (l.take k) + l[k].toNat := by
  rw [List.take_succ_eq_append_getElem h, valB_snoc]

theorem valB_lt3 (l : List UInt8) (j : Nat) (hj : j ≤ 3) : valB (l.take j) < 16777216 := by
  have h : (l.take j).length ≤ 3 := by simp; omega
  exact valB_lt 3 _ h

/-- How many bytes follow, and what stands behind the bytes of the length. -/
def lenOf (n : Nat) (r : List UInt8) : Option (Nat × List UInt8) :=
  if n ≤ 55 then some (n, r)
  else if r.length < n - 55 ∨ 3 < n - 55 ∨ r.head? = some 0 ∨ valB (r.take (n - 55)) ≤ 55 then none
  else some (valB (r.take (n - 55)), r.drop (n - 55))

/-- A byte below 128 with a byte ahead. -/
def lone (n : Nat) (r : List UInt8) : Bool := match r with
  | b :: _ => decide (n = 1) && decide (b.toNat < 128)
  | [] => false

/-- What item it begins with: its kind, its bytes, what stands behind. -/
def takeL : List UInt8 → Option (Nat × List UInt8 × List UInt8)
  | [] => none
  | b :: r =>
    if b.toNat < 128 then some (1, [b], r)
    else if b.toNat < 192 then
      match lenOf (b.toNat - 128) r with
      | none => none
      | some (n, r') => if r'.length < n ∨ 60000 < n ∨ lone n r' = true then none else some (1, r'.take n, r'.drop n)
    else
      match lenOf (b.toNat - 192) r with
      | none => none
      | some (n, r') => if r'.length < n ∨ 60000 < n then none else some (2, r'.take n, r'.drop n)

theorem takeL_text (b : UInt8) (r : List UInt8) (h1 : ¬ b.toNat < 128) (h2 : b.toNat < 192) : takeL (b :: r) = match lenOf (b.toNat - 128) r with
      | none => none
      | some (n, r') => if r'.length < n ∨ 60000 < n ∨ lone n r' = true then none else some (1, r'.take n, r'.drop n) := by
  simp only [takeL]; rw [if_neg h1, if_pos h2]

theorem takeL_list (b : UInt8) (r : List UInt8) (h2 : ¬ b.toNat < 192) : takeL (b :: r) = match lenOf (b.toNat - 192) r with
      | none => none
      | some (n, r') => if r'.length < n ∨ 60000 < n then none else some (2, r'.take n, r'.drop n) := by
  simp only [takeL]; rw [if_neg (by omega), if_neg h2]

/-- The four results. -/
def tkV : Option (Nat × List UInt8 × List UInt8) → Value
  | none => .tuple #[.int .i64 0, .string ⟨#[]⟩, .string ⟨#[]⟩, .bool false]
  | some (k, b, r) => .tuple #[.int .i64 (k : Int), .string ⟨b.toArray⟩, .string ⟨r.toArray⟩, .bool true]

theorem ext_to (l : List UInt8) (n : Nat) (h : n ≤ l.length) : (ByteArray.mk l.toArray).extract 0 n = ⟨(l.take n).toArray⟩ := by
  apply ByteArray.ext
  simp [ByteArray.extract, ByteArray.copySlice]

theorem ext_from (l : List UInt8) (n : Nat) (h : n ≤ l.length) : (ByteArray.mk l.toArray).extract n l.length = ⟨(l.drop n).toArray⟩ := by
  apply ByteArray.ext
  simp [ByteArray.extract, ByteArray.copySlice]
  exact List.take_of_length_le (by simp)

theorem sl_to {P : Program} {t : TypeId} (ht : P.underlying t = some .string) (l : List UInt8) (x : Int) (n : Nat) (hx : x = (n : Int)) (h : n ≤ l.length) (W : World) :
    (Instr.slice t (.string ⟨l.toArray⟩) none (some (.int .i64 x)) none).run P W = .ok (.string ⟨(l.take n).toArray⟩) W := by
  subst hx
  have hz : (ByteArray.mk l.toArray).size = l.length := by simp [ByteArray.size]
  rw [run_slice_string_to_if W t _ _ _ ht, if_pos (by rw [hz]; omega), Int.toNat_natCast, ext_to l n h]

theorem sl_from {P : Program} {t : TypeId} (ht : P.underlying t = some .string) (l : List UInt8) (x : Int) (n : Nat) (hx : x = (n : Int)) (h : n ≤ l.length) (W : World) :
    (Instr.slice t (.string ⟨l.toArray⟩) (some (.int .i64 x)) none none).run P W = .ok (.string ⟨(l.drop n).toArray⟩) W := by
  subst hx
  have hz : (ByteArray.mk l.toArray).size = l.length := by simp [ByteArray.size]
  rw [run_slice_string_from_if W t _ _ _ ht, if_pos (by rw [hz]; omega), Int.toNat_natCast, hz, ext_from l n h]

theorem ix_at {P : Program} {t : TypeId} (ht : P.underlying t = some .string) (l : List UInt8) (x : Int) (n : Nat) (hx : x = (n : Int)) (h : n < l.length) (W : World) :
    (Instr.index t (.string ⟨l.toArray⟩) (.int .i64 x)).run P W = .ok (.int .u8 (l[n].toNat : Int)) W := by
  subst hx
  have hz : (ByteArray.mk l.toArray).size = l.length := by simp [ByteArray.size]
  rw [run_index_string W t _ _ _ ht, dif_pos (by rw [hz]; omega)]
  rfl

theorem i64_or256 (x y : Nat) (hx : x < 16777216) (hy : y < 256) : bits BinOp.or IntKind.i64 ((x : Int) * 256) (y : Int) = ((256 * x + y : Nat) : Int) := by
  have hj : x * 256 ||| y = x * 256 + y := nat_join 8 (x * 256) y (by omega) (by omega)
  have e : ((x : Int) * 256) = ((x * 256 : Nat) : Int) := by omega
  rw [e]
  show IntKind.i64.wrap ((BitVec.ofInt 64 ((x * 256 : Nat) : Int) ||| BitVec.ofInt 64 (y : Int)).toNat : Int) = _
  rw [BitVec.toNat_or, ofInt_u64 (x * 256) (by omega), ofInt_u64 y (by omega), hj]
  simp [IntKind.wrap, IntKind.signed, IntKind.bits]; omega

/-- The bytes that follow a head, and what stands behind. -/
def bodyL (n : Nat) (r : List UInt8) : Option (List UInt8 × List UInt8) :=
  match lenOf n r with
  | none => none
  | some (n', r') => if r'.length < n' ∨ 60000 < n' then none else some (r'.take n', r'.drop n')

theorem bodyL_short (n : Nat) (r : List UInt8) (h : n ≤ 55) : bodyL n r = if r.length < n then none else some (r.take n, r.drop n) := by
  rw [bodyL, lenOf, if_pos h]
  by_cases hf : r.length < n
  · rw [if_pos hf]; simp only [if_pos (show r.length < n ∨ 60000 < n from .inl hf)]
  · rw [if_neg hf]; simp only [if_neg (show ¬ (r.length < n ∨ 60000 < n) from by omega)]

theorem bodyL_long (m : Nat) (r : List UInt8) (hm : 1 ≤ m) : bodyL (55 + m) r = if r.length < m ∨ 3 < m ∨ r.head? = some 0 then none else
    if valB (r.take m) ≤ 55 ∨ 60000 < valB (r.take m) ∨ (r.drop m).length < valB (r.take m) then none else some ((r.drop m).take (valB (r.take m)), (r.drop m).drop (valB (r.take m))) := by
  rw [bodyL, lenOf, if_neg (by omega), show 55 + m - 55 = m from by omega]
  by_cases h1 : r.length < m ∨ 3 < m ∨ r.head? = some 0
  · rw [if_pos h1, if_pos (by rcases h1 with h | h | h <;> simp [h])]
  · rw [if_neg h1]
    by_cases h2 : valB (r.take m) ≤ 55
    · rw [if_pos (.inr (.inr (.inr h2))), if_pos (.inl h2)]
    · rw [if_neg (by rintro (h | h | h | h); exact h1 (.inl h); exact h1 (.inr (.inl h)); exact h1 (.inr (.inr h)); exact h2 h)]
      by_cases h3 : 60000 < valB (r.take m) ∨ (r.drop m).length < valB (r.take m)
      · simp only [if_pos (show (r.drop m).length < valB (r.take m) ∨ 60000 < valB (r.take m) from h3.symm)]
        rw [if_pos (.inr h3)]
      · simp only [if_neg (show ¬ ((r.drop m).length < valB (r.take m) ∨ 60000 < valB (r.take m)) from fun h => h3 h.symm)]
        rw [if_neg (fun h => h.elim h2 h3)]

/-- One byte below 128. -/
def loneB : List UInt8 → Bool
  | [c] => decide (c.toNat < 128)
  | _ => false

theorem lone_of (n : Nat) (r : List UInt8) (h : n ≤ r.length) : lone n r = loneB (r.take n) := by
  match r, n, h with
  | [], 0, _ => rfl
  | [], n + 1, h => simp at h
  | c :: r', 0, _ => simp [lone, loneB]
  | c :: r', 1, _ => simp [lone, loneB]
  | [c], n + 2, h => simp at h
  | c :: c' :: r', n + 2, _ => simp [lone, loneB]

/-- What an item is, out of its body. -/
def itemL (k : Nat) (text : Bool) : Option (List UInt8 × List UInt8) → Option (Nat × List UInt8 × List UInt8)
  | none => none
  | some (bd, rest) => if (text && loneB bd) = true then none else some (k, bd, rest)

theorem takeL_item1 (b : UInt8) (r : List UInt8) (h1 : ¬ b.toNat < 128) (h2 : b.toNat < 192) : takeL (b :: r) = itemL 1 true (bodyL (b.toNat - 128) r) := by
  rw [takeL_text b r h1 h2, bodyL]
  cases lenOf (b.toNat - 128) r with
  | none => rfl
  | some x =>
    obtain ⟨n, r'⟩ := x
    by_cases h : r'.length < n ∨ 60000 < n
    · simp only [if_pos h, itemL]; rw [if_pos (by rcases h with h | h <;> simp [h])]
    · simp only [if_neg h, itemL, Bool.true_and]
      rw [lone_of n r' (by omega)]
      by_cases hl : loneB (r'.take n) = true
      · rw [if_pos (.inr (.inr hl)), if_pos hl]
      · rw [if_neg (by simp only [hl, Bool.false_eq_true, or_false]; exact h), if_neg hl]

theorem takeL_item2 (b : UInt8) (r : List UInt8) (h2 : ¬ b.toNat < 192) : takeL (b :: r) = itemL 2 false (bodyL (b.toNat - 192) r) := by
  rw [takeL_list b r h2, bodyL]
  cases lenOf (b.toNat - 192) r with
  | none => rfl
  | some x =>
    obtain ⟨n, r'⟩ := x
    by_cases h : r'.length < n ∨ 60000 < n
    · simp only [if_pos h, itemL]
    · simp only [if_neg h, itemL, Bool.false_and, Bool.false_eq_true, if_false]

end Go.Proofs.YtnhdkhngpnialaaDoor
