/-
  Contracts: the program's digits of a number, and its Digits.
-/
import Derived.Test.YtajckopldkmcnaaDoorITag
import Derived.Test.YtajckopldkmcnaaDoorMath2
namespace Go.Proofs.YtajckopldkmcnaaDoor
open Go.RowKit
set_option linter.unusedVariables false

theorem info2i : (Tryd.prog.info? 2).map (fun i => (i.zero, i.size, i.bytes)) = some (some (.int .i64 0), 1, 8) := by kernel_rfl

/-- A list of one text, written out, handed to the program's Tagged. -/
theorem itag1 (tag a : List UInt8) (w : World) (ht : tag.length ≤ 1000) (hl : a.length ≤ 10000) (hT : Tab w) :
    Calls Tryd.prog 44 #[.string ⟨tag.toArray⟩, .slice (some ⟨w.heap.size, 0, none⟩) 1 1] (w.alloc (.cells #[.string ⟨a.toArray⟩] 9)) fun e w' => e = .returned (.string ⟨(tagL tag [a]).toArray⟩) ∧ Below w.heap.size w w' := by
  have K := impl_tagged tag w.heap.size 1 [a] w.heap.size (w.alloc (.cells #[.string ⟨a.toArray⟩] 9)) (by omega) (by simp; omega) (hT.later ((Below.refl _ _).alloc (Nat.le_refl _) _)) (World.ownsRow_lit w #[.string ⟨a.toArray⟩] 1 (Nat.le_refl _) (by decide) rfl)
  exact K.mono fun e w' ⟨h1, h2⟩ => ⟨h1, ((Below.refl _ _).alloc (Nat.le_refl _) _).trans (h2.mono (by simp))⟩

theorem itag2 (tag a b : List UInt8) (w : World) (ht : tag.length ≤ 1000) (hl : a.length + b.length ≤ 10000) (hT : Tab w) :
    Calls Tryd.prog 44 #[.string ⟨tag.toArray⟩, .slice (some ⟨w.heap.size, 0, none⟩) 2 2] (w.alloc (.cells #[.string ⟨a.toArray⟩, .string ⟨b.toArray⟩] 9)) fun e w' => e = .returned (.string ⟨(tagL tag [a, b]).toArray⟩) ∧ Below w.heap.size w w' := by
  have K := impl_tagged tag w.heap.size 2 [a, b] w.heap.size (w.alloc (.cells #[.string ⟨a.toArray⟩, .string ⟨b.toArray⟩] 9)) (by omega) (by simp; omega) (hT.later ((Below.refl _ _).alloc (Nat.le_refl _) _)) (World.ownsRow_lit w #[.string ⟨a.toArray⟩, .string ⟨b.toArray⟩] 2 (Nat.le_refl _) (by decide) rfl)
  exact K.mono fun e w' ⟨h1, h2⟩ => ⟨h1, ((Below.refl _ _).alloc (Nat.le_refl _) _).trans (h2.mono (by simp))⟩

theorem icells_set (ds : List Nat) (j x : Nat) : (icells ds).set j (.int .i64 (x : Int)) = icells (ds.set j x) := by simp [icells, List.map_set]

/-- The last m digits of n to the base 4. -/
def lowD (n : Nat) : Nat → List Nat
  | 0 => []
  | m + 1 => lowD (n / 4) m ++ [n % 4]
theorem lowD_length (m : Nat) : ∀ n, (lowD n m).length = m := by
  induction m with
  | zero => intro n; rfl
  | succ m ih => intro n; rw [lowD, List.length_append, ih]; rfl
theorem lowD_four (b : UInt8) : lowD b.toNat 4 = dig4 b := by
  have := b.toNat_lt
  simp [lowD, dig4]
  omega
theorem lowD_three (n : Nat) (h : n ≤ 48) : lowD n 3 = dig3 n := by
  simp [lowD, dig3]
  omega

set_option maxRecDepth 100000 in
set_option maxHeartbeats 400000 in
theorem digitsOf_any (n m : Nat) (w : World) (hn : n ≤ 1000) (hm : m ≤ 10) :
    Calls Tryd.prog 149 #[.int .i64 (n : Int), .int .i64 (m : Int)] w fun e w' => e = .returned (.slice (some ⟨w.heap.size, 0, none⟩) m m) ∧ w'.ownsRow w.heap.size 2 1 (.slice (some ⟨w.heap.size, 0, none⟩) m m) m (icells (lowD n m)) ∧ Below w.heap.size w w' := by
  obtain ⟨i0, hi0, hz0, hz1, hz2⟩ := info_parts info2i
  go_enter Tryd.func149, Tryd.ntmps149
  go_wp2_with (at_make; refine wpList_make_full _ rfl _ _ 139 rfl w.heap.size 2 i0 (.int .i64 0) 1 Tryd.underlying139 hi0 hz0 hz1 _ _ _ _ m rfl rfl (by omega) (by omega) (by rw [hz2]; omega) (by unfold maxLen; omega) (Nat.le_refl _) ?_; intro w0 hown0 hgrow0)
  rw [show (Value.int .i64 0).cells = #[.int .i64 0] from rfl, Nat.mul_one, toList_madeCells_one] at hown0
  have hb0 := (Below.refl w.heap.size w).grown hgrow0 (Nat.le_refl _) (by simp)
  have hown1 : w0.ownsRow w.heap.size 2 1 (.slice (some ⟨w.heap.size, 0, none⟩) m m) m (icells (List.replicate m 0)) := by simpa [icells] using hown0
  clear hown0 hgrow0
  go_loopw [0, 6] (fun v i wr => ∃ j x : Nat, ∃ rest : List Nat, j ≤ m ∧ x ≤ 1000 ∧ i = .int .i64 ((j : Int) - 1) ∧ v = .int .i64 (x : Int) ∧ Hid (lowD x j ++ rest = lowD n m) ∧ Hid (rest.length = m - j) ∧ wr.ownsRow w.heap.size 2 1 (.slice (some ⟨w.heap.size, 0, none⟩) m m) m (icells (List.replicate j 0 ++ rest)) ∧ Below w.heap.size w wr) (fun _ i _ => (1 + intOf i).toNat)
  case atStart => exact ⟨m, n, [], Nat.le_refl _, hn, rfl, rfl, by rw [Hid]; simp, by rw [Hid]; simp, by simpa using hown1, hb0⟩
  case round =>
    obtain ⟨j, x, rest, hj, hx, rfl, rfl, HR, HL, hown, hbel⟩ := hrel
    clear hown1 hb0
    by_cases hlt : 0 < j
    · obtain ⟨k, rfl⟩ : ∃ k, j = k + 1 := ⟨j - 1, by omega⟩
      have hc1 : ∃ o, wr.cell? ⟨w.heap.size, k, none⟩ = some o := by
        rw [hown.cellAt k (by omega)]
        exact ⟨_, List.getElem?_eq_getElem (by rw [icells_length, List.length_append, List.length_replicate]; omega)⟩
      obtain ⟨o, hc1⟩ := hc1
      have hf1 := hown.frozenAt k
      have hst := (hown.stored k (.int .i64 ((x % 4 : Nat) : Int))).1
      have HS : Hid ((List.replicate (k + 1) 0 ++ rest).set k (x % 4) = List.replicate k 0 ++ (x % 4 :: rest)) := by
        rw [Hid, List.replicate_succ', List.append_assoc, List.set_append_right _ _ (by simp)]
        simp
      rw [icells_set, HS.out] at hst
      obtain ⟨y, hy, HY⟩ : ∃ y : Nat, (x : Int) % 4 = (y : Int) ∧ Hid (y = x % 4) := ⟨x % 4, by omega, rfl⟩
      rw [← HY.out] at hst
      have hbel2 := hbel.setCell (p := ⟨w.heap.size, k, none⟩) (Nat.le_refl _) (.int .i64 (y : Int))
      have HN : Hid (lowD (x / 4) k ++ (y :: rest) = lowD n m) := by rw [Hid, ← HR.out, lowD, HY.out]; simp
      have HLN : Hid ((y :: rest).length = m - k) := by rw [Hid, List.length_cons, HL.out]; omega
      have hst' : (wr.setCell ⟨w.heap.size, k, none⟩ (.int .i64 (y : Int))).ownsRow w.heap.size 2 1 (.slice (some ⟨w.heap.size, 0, none⟩) m m) m (icells (List.replicate k 0 ++ (y :: rest))) := hst
      have hk0 : (0 : Int) ≤ (k : Int) := by omega
      have hk1 : (k : Int) < (m : Int) := by omega
      clear hown hbel hst HS HR HL
      go_wp2
      go_roundw
      case rel => exact ⟨k, x / 4, y :: rest, by omega, by omega, by go_num, by go_num, HN, HLN, hst', hbel2⟩
      case measure => simp [intOf]; omega
    · have hj0 : j = 0 := by omega
      subst hj0
      have HF : Hid (rest = lowD n m) := HR.out
      rw [show List.replicate 0 0 ++ rest = rest from rfl, HF.out] at hown
      go_wp2
      go_ret
      exact ⟨rfl, hown, hbel⟩
end Go.Proofs.YtajckopldkmcnaaDoor
