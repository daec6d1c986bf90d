/-
  Contracts: how many nibbles paths have in common (the model's l5Common, the program's sameAhead).
-/
import Derived.Test.YtlknhcnfpkjpbaaGreatDoorMathTrie
import Derived.Test.YtlknhcnfpkjpbaaGreatDoorStrsAll
import Derived.BigQuiet
import Derived.Deep.QuietTactic
namespace Go.Proofs.YtlknhcnfpkjpbaaGreatDoor
open Go.RowKit
set_option linter.unusedVariables false

theorem lcp_step : ∀ (a b : List UInt8) (k : Nat) (ha : k < a.length) (hb : k < b.length), k ≤ lcp a b → a[k] = b[k] → k + 1 ≤ lcp a b
  | [], _, k, ha, _, _, _ => by simp at ha
  | _ :: _, [], k, _, hb, _, _ => by simp at hb
  | x :: xs, y :: ys, 0, _, _, _, h => by simp at h; simp [lcp, h]
  | x :: xs, y :: ys, k + 1, ha, hb, hk, h => by
    simp only [lcp] at hk ⊢
    split at hk
    · rename_i e
      rw [if_pos e]
      have := lcp_step xs ys k (by simpa using ha) (by simpa using hb) (by omega) (by simpa using h)
      omega
    · omega
theorem lcp_stop : ∀ (a b : List UInt8) (k : Nat) (ha : k < a.length) (hb : k < b.length), k ≤ lcp a b → a[k] ≠ b[k] → lcp a b = k
  | [], _, k, ha, _, _, _ => by simp at ha
  | _ :: _, [], k, _, hb, _, _ => by simp at hb
  | x :: xs, y :: ys, 0, _, _, _, h => by simp at h; simp [lcp, h]
  | x :: xs, y :: ys, k + 1, ha, hb, hk, h => by
    simp only [lcp] at hk ⊢
    split at hk
    · rename_i e
      rw [if_pos e]
      have := lcp_stop xs ys k (by simpa using ha) (by simpa using hb) (by omega) (by simpa using h)
      omega
    · omega
theorem comTo_snoc (p0 : List UInt8) (qs : List (List UInt8)) (j : Nat) (h : j < qs.length) : comTo p0 (qs.take (j + 1)) = min (comTo p0 (qs.take j)) (lcp qs[j] p0) := by
  rw [List.take_succ_eq_append_getElem h, comTo, List.foldl_append]; rfl
theorem comTo_le (p0 : List UInt8) (qs : List (List UInt8)) : comTo p0 qs ≤ p0.length := (foldl_min_le p0 qs _).1
theorem ba_at (l : List UInt8) (k : Nat) (h : k < l.length) (h' : k < (ByteArray.mk l.toArray).size) : (ByteArray.mk l.toArray)[k]'h' = l[k] := rfl
theorem ba_eqb (a b : List UInt8) (k : Nat) (ha : k < a.length) (hb : k < b.length) (ha' : k < (ByteArray.mk a.toArray).size) (hb' : k < (ByteArray.mk b.toArray).size) : ((((ByteArray.mk a.toArray)[k]'ha').toNat : Int) == (((ByteArray.mk b.toArray)[k]'hb').toNat : Int)) = decide (a[k] = b[k]) := by
  rw [ba_at a k ha, ba_at b k hb, Bool.eq_iff_iff]
  simp only [beq_iff_eq, decide_eq_true_eq]
  constructor
  · intro h; exact UInt8.toNat_inj.1 (by omega)
  · intro h; rw [h]
theorem below_dk {B : Nat} {w w' : World} {q : Nat} (h : Below B w w') : Below B w (w'.drewN q) := ⟨h.os, h.tape, h.output, h.size, h.block⟩

set_option maxRecDepth 100000 in
set_option maxHeartbeats 2000000 in
theorem spec_l5Common (a : Option Addr) (cap : Nat) (p0 : List UInt8) (qs : List (List UInt8)) (w : World) (hl : qs.length ≤ 1000) (hm : ∀ l ∈ p0 :: qs, l.length ≤ 1000) (hs : IsStrs w a (p0 :: qs)) :
    Calls Tryz.prog 120 #[.slice a (qs.length + 1) cap] w fun e w' => e = .returned (.int .i64 ((comTo p0 qs : Nat) : Int)) ∧ Below w.heap.size w w' := by
  rcases hs with h | ⟨b, off, rfl, hc⟩
  · simp at h
  have c0 : w.cell? ⟨b, off, none⟩ = some (.string ⟨p0.toArray⟩) := by have := hc 0 (by simp); simpa using this
  have HC : Hid (∀ j (h : j < qs.length), w.cell? ⟨b, off + (j + 1), none⟩ = some (.string ⟨qs[j].toArray⟩)) := fun j h => by have := hc (j + 1) (by simpa using h); simpa using this
  have h0l : p0.length ≤ 1000 := hm p0 (by simp)
  have HM : Hid (∀ j (h : j < qs.length), qs[j].length ≤ 1000) := fun j h => hm _ (by simp)
  have hblt := World.block_lt_of_cell? w _ c0
  simp only at hblt
  clear hc hm
  go_enter Tryz.func120, Tryz.ntmps120
  go_wp2
  go_loopw [3, 4] (fun n i wr => ∃ j : Nat, j ≤ qs.length ∧ i = .int .i64 ((j + 1 : Nat) : Int) ∧ n = .int .i64 ((comTo p0 (qs.take j) : Nat) : Int) ∧ Below w.heap.size w wr) (fun _ i _ => qs.length + 1 - (intOf i).toNat)
  case atStart => exact ⟨0, Nat.zero_le _, rfl, by simp [comTo], Below.refl _ _⟩
  case round =>
    obtain ⟨j, hj, rfl, rfl, hbel⟩ := hrel
    have hsz := hbel.size
    by_cases hlt : j < qs.length
    · have hj1 : ((j + 1 : Nat) : Int) < (qs.length : Int) + 1 := by omega
      have hj0 : (0 : Int) ≤ ((j + 1 : Nat) : Int) := by omega
      have cj := (hbel.cell (p := ⟨b, off + (j + 1), none⟩) hblt).trans (HC.out j hlt)
      have cz := (hbel.cell (p := ⟨b, off, none⟩) hblt).trans c0
      have hql := HM.out j hlt
      have HS : Hid (comTo p0 (qs.take (j + 1)) = min (comTo p0 (qs.take j)) (lcp qs[j] p0)) := comTo_snoc p0 qs j hlt
      have hn0 := comTo_le p0 (qs.take j)
      obtain ⟨n, hn⟩ : ∃ n, n = comTo p0 (qs.take j) := ⟨_, rfl⟩
      obtain ⟨q, hq⟩ : ∃ q, q = qs[j] := ⟨_, rfl⟩
      rw [← hn] at hn0 HS ⊢
      rw [← hq] at cj hql HS
      clear hn hq HC HM c0
      go_wp2
      go_loopw [5] (fun kk wr' => ∃ k : Nat, k ≤ n ∧ k ≤ lcp q p0 ∧ kk = .int .i64 (k : Int) ∧ Below w.heap.size w wr') (fun kk _ => n - (intOf kk).toNat)
      case atStart => exact ⟨0, Nat.zero_le _, Nat.zero_le _, rfl, hbel⟩
      case round =>
        obtain ⟨k, hkn, hkl, rfl, hbel2⟩ := hrel
        have cj2 := (hbel2.cell (p := ⟨b, off + (j + 1), none⟩) hblt).trans ((hbel.cell (p := ⟨b, off + (j + 1), none⟩) hblt).symm.trans cj)
        have cz2 := (hbel2.cell (p := ⟨b, off, none⟩) hblt).trans ((hbel.cell (p := ⟨b, off, none⟩) hblt).symm.trans cz)
        have HLL : Hid (lcp q p0 ≤ q.length ∧ lcp q p0 ≤ p0.length) := ⟨lcp_le_left _ _, lcp_le_right _ _⟩
        clear cj cz
        by_cases h1 : k < n
        · have h1' : (k : Int) < (n : Int) := by omega
          by_cases h2 : k < q.length
          · have h2' : (k : Int) < (q.length : Int) := by omega
            have h3' : (k : Int) < (p0.length : Int) := by omega
            have h3 : k < p0.length := by omega
            have hk0 : (0 : Int) ≤ (k : Int) := by omega
            have HB := ba_eqb q p0 k h2 h3 (by simpa [ByteArray.size] using h2) (by simpa [ByteArray.size] using h3)
            by_cases he : q[k] = p0[k]
            · rw [decide_eq_true he] at HB
              have hk1 := lcp_step q p0 k h2 h3 hkl he
              clear he
              go_wp2
              go_quiet (fail)
              go_wp2
              go_roundw
              case rel => exact ⟨k + 1, by omega, hk1, by go_num, below_dk hbel2⟩
              case measure => simp [intOf]; omega
            · rw [decide_eq_false he] at HB
              have hk1 := lcp_stop q p0 k h2 h3 hkl he
              have HS2 : Hid (comTo p0 (qs.take (j + 1)) = k) := by rw [Hid, HS.out, hk1]; omega
              clear he HS hk1
              go_wp2
              go_quiet (fail)
              go_wp2
              go_roundw
              case rel => exact ⟨j + 1, by omega, by go_num, by rw [HS2.out], below_dk hbel2⟩
              case measure => simp [intOf]; omega
          · have h2' : ¬ (k : Int) < (q.length : Int) := by omega
            have HS2 : Hid (comTo p0 (qs.take (j + 1)) = k) := by rw [Hid, HS.out]; have := HLL.out; omega
            clear HS
            go_wp2
            go_quiet (fail)
            go_wp2
            go_roundw
            case rel => exact ⟨j + 1, by omega, by go_num, by rw [HS2.out], below_dk hbel2⟩
            case measure => simp [intOf]; omega
        · have h1' : ¬ (k : Int) < (n : Int) := by omega
          have HS2 : Hid (comTo p0 (qs.take (j + 1)) = k) := by rw [Hid, HS.out]; omega
          clear HS
          go_wp2
          go_quiet (fail)
          go_wp2
          go_roundw
          case rel => exact ⟨j + 1, by omega, by go_num, by rw [HS2.out], below_dk hbel2⟩
          case measure => simp [intOf]; omega
    · have hj1 : ¬ ((j + 1 : Nat) : Int) < (qs.length : Int) + 1 := by omega
      obtain rfl : j = qs.length := by omega
      rw [List.take_length]
      go_wp2
      go_ret
      exact ⟨rfl, hbel⟩

set_option maxRecDepth 100000 in
set_option maxHeartbeats 1000000 in
theorem impl_sameAhead (p q : List UInt8) (w : World) (hp : p.length ≤ 1000) (hq : q.length ≤ 1000) :
    Calls Tryz.prog 93 #[.string ⟨p.toArray⟩, .string ⟨q.toArray⟩] w fun e w' => e = .returned (.int .i64 ((lcp p q : Nat) : Int)) ∧ Below w.heap.size w w' := by
  have HLL : Hid (lcp p q ≤ p.length ∧ lcp p q ≤ q.length) := ⟨lcp_le_left _ _, lcp_le_right _ _⟩
  go_enter Tryz.func93, Tryz.ntmps93
  go_wp2
  go_loopw [5] (fun kk wr => ∃ k : Nat, k ≤ lcp p q ∧ kk = .int .i64 (k : Int) ∧ Below w.heap.size w wr) (fun kk _ => p.length - (intOf kk).toNat)
  case atStart => exact ⟨0, Nat.zero_le _, rfl, Below.refl _ _⟩
  case round =>
    obtain ⟨k, hkl, rfl, hbel2⟩ := hrel
    have hkb : k ≤ 1000 := by have := HLL.out; omega
    by_cases h1 : k < p.length
    · have h1' : (k : Int) < (p.length : Int) := by omega
      by_cases h2 : k < q.length
      · have h2' : (k : Int) < (q.length : Int) := by omega
        have hk0 : (0 : Int) ≤ (k : Int) := by omega
        have HB := ba_eqb p q k h1 h2 (by simpa [ByteArray.size] using h1) (by simpa [ByteArray.size] using h2)
        by_cases he : p[k] = q[k]
        · rw [decide_eq_true he] at HB
          have hk1 := lcp_step p q k h1 h2 hkl he
          clear he
          go_wp2
          first | go_quiet (fail) | skip
          go_wp2
          go_roundw
          case rel => exact ⟨k + 1, hk1, by go_num, by first | exact hbel2 | exact below_dk hbel2⟩
          case measure => simp [intOf]; omega
        · rw [decide_eq_false he] at HB
          have HS2 : Hid (lcp p q = k) := lcp_stop p q k h1 h2 hkl he
          clear he hkl
          go_wp2
          first | go_quiet (fail) | skip
          go_wp2
          go_ret
          exact ⟨by rw [HS2.out]; rfl, by first | exact hbel2 | exact below_dk hbel2⟩
      · have h2' : ¬ (k : Int) < (q.length : Int) := by omega
        have HS2 : Hid (lcp p q = k) := by rw [Hid]; have := HLL.out; omega
        clear hkl
        go_wp2
        first | go_quiet (fail) | skip
        go_wp2
        go_ret
        exact ⟨by rw [HS2.out]; rfl, by first | exact hbel2 | exact below_dk hbel2⟩
    · have h1' : ¬ (k : Int) < (p.length : Int) := by omega
      have HS2 : Hid (lcp p q = k) := by rw [Hid]; have := HLL.out; omega
      clear hkl
      go_wp2
      first | go_quiet (fail) | skip
      go_wp2
      go_ret
      exact ⟨by rw [HS2.out]; rfl, by first | exact hbel2 | exact below_dk hbel2⟩
end Go.Proofs.YtlknhcnfpkjpbaaGreatDoor
