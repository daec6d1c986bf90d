/-
  The model's TakeRlp at items with a length of their own.
-/
import Derived.Test.YtjlkeoocddianaaDoorSTake
namespace Go.Proofs.YtjlkeoocddianaaDoor
open Go.RowKit
set_option linter.unusedVariables false

set_option maxRecDepth 100000 in
set_option maxHeartbeats 1000000 in
theorem spec_take_long (b c : UInt8) (r' r : List UInt8) (k m : Nat) (w : World) (hk : (k = 1 ∧ b.toNat = 128 + (55 + m)) ∨ (k = 2 ∧ b.toNat = 192 + (55 + m))) (hm : 1 ≤ m) (hm3 : m ≤ 3)
    (hrr : r = c :: r') (hl : m ≤ r.length) (hc : c ≠ 0) (hr : r.length ≤ 1048576) :
    Calls Tryd.prog 52 #[.string ⟨(b :: r).toArray⟩] w fun e w' => e = .returned (tkV (if valB (r.take m) ≤ 55 ∨ (r.drop m).length < valB (r.take m) ∨ 60000 < valB (r.take m) then none else some (k, (r.drop m).take (valB (r.take m)), (r.drop m).drop (valB (r.take m))))) ∧ Below w.heap.size w w' := by
  have hs2 := first_from b r
  have hs3 := ext_from r m hl
  have hf' : (m : Int) ≤ (r.length : Int) := by omega
  have hi0 := first_ix c r' (c.toNat : Int) rfl
  rw [← hrr] at hi0
  have hc' : ((c.toNat : Int) == 0) = false := by
    simp only [beq_eq_false_iff_ne, ne_eq]
    intro h
    exact hc (UInt8.toNat_inj.1 (by simpa using h))
  obtain ⟨r2, hr2⟩ : ∃ r2, r2 = r.drop m := ⟨_, rfl⟩
  have hr2l : r2.length ≤ 1048576 := by rw [hr2]; simp; omega
  rw [← hr2] at hs3 ⊢
  obtain ⟨v, hv⟩ : ∃ v, v = valB (r.take m) := ⟨_, rfl⟩
  have hvl : v < 16777216 := by rw [hv]; exact valB_lt3 r m hm3
  rw [← hv]
  have HV : Hid (v = valB (r.take m)) := hv
  obtain ⟨out, hout⟩ : ∃ out, out = (if v ≤ 55 ∨ r2.length < v ∨ 60000 < v then none else some (k, r2.take v, r2.drop v)) := ⟨_, rfl⟩
  rw [← hout]
  have HO : Hid (out = (if v ≤ 55 ∨ r2.length < v ∨ 60000 < v then none else some (k, r2.take v, r2.drop v))) := hout
  clear hout
  clear hr2 hrr hc hv
  rcases hk with ⟨rfl, hb⟩ | ⟨rfl, hb⟩
  · have hix := first_ix b r (128 + (55 + (m : Int))) (by omega)
    clear hb
    go_enter Tryd.func52, Tryd.ntmps52
    go_wp2
    go_loop [9, 12] (fun n i => ∃ j : Nat, j ≤ m ∧ i = .int .i64 (j : Int) ∧ n = .int .i64 (valB (r.take j) : Int)) (fun _ i => m - (intOf i).toNat)
    case atStart => exact ⟨0, Nat.zero_le _, rfl, rfl⟩
    case round =>
      obtain ⟨j, hj, rfl, rfl⟩ := hrel
      have hvj : valB (r.take j) < 16777216 := valB_lt3 r j (by omega)
      by_cases hlt : j < m
      · have hjr : j < r.length := by omega
        have hij := ix_at (P := Tryd.prog) Tryd.underlying9 r (j : Int) j rfl hjr
        have HS : Hid (valB (r.take (j + 1)) = 256 * valB (r.take j) + r[j].toNat) := valB_take_snoc r j hjr
        obtain ⟨x, hx⟩ : ∃ x, x = valB (r.take j) := ⟨_, rfl⟩
        obtain ⟨y, hy⟩ : ∃ y, y = r[j] := ⟨_, rfl⟩
        rw [← hx] at hvj HS ⊢
        rw [← hy] at hij HS
        have hyl := y.toNat_lt
        clear hx hy
        go_wp2
        go_round
        case rel => exact ⟨j + 1, by omega, by go_num, by rw [HS.out]; go_num⟩
        case measure => simp [intOf]; omega
      · have hjm : j = m := by omega
        subst hjm
        rw [← HV.out]
        by_cases h1 : v ≤ 55
        · have HN : Hid (out = none) := by rw [Hid, HO.out, if_pos (.inl h1)]
          have h1' : (v : Int) ≤ 55 := by omega
          go_wp2
          exact bodyPost_ret (v := .tuple #[.int .i64 0, .string ⟨#[]⟩, .string ⟨#[]⟩, .bool false]) (by simp [results, Tryd.results52, go_sem]) rfl ⟨by rw [HN.out]; rfl, Below.refl _ _⟩
        · have h1' : ¬ (v : Int) ≤ 55 := by omega
          by_cases h2 : r2.length < v
          · have HN : Hid (out = none) := by rw [Hid, HO.out, if_pos (.inr (.inl h2))]
            have h2' : (r2.length : Int) < (v : Int) := by omega
            go_wp2
            exact bodyPost_ret (v := .tuple #[.int .i64 0, .string ⟨#[]⟩, .string ⟨#[]⟩, .bool false]) (by simp [results, Tryd.results52, go_sem]) rfl ⟨by rw [HN.out]; rfl, Below.refl _ _⟩
          · have h2' : (v : Int) ≤ (r2.length : Int) := by omega
            by_cases h3 : 60000 < v
            · have HN : Hid (out = none) := by rw [Hid, HO.out, if_pos (.inr (.inr h3))]
              have h3' : (60000 : Int) < (v : Int) := by omega
              go_wp2
              exact bodyPost_ret (v := .tuple #[.int .i64 0, .string ⟨#[]⟩, .string ⟨#[]⟩, .bool false]) (by simp [results, Tryd.results52, go_sem]) rfl ⟨by rw [HN.out]; rfl, Below.refl _ _⟩
            · have HN : Hid (out = some (1, r2.take v, r2.drop v)) := by rw [Hid, HO.out, if_neg (by omega)]
              have h3' : (v : Int) ≤ 60000 := by omega
              have h5' : ((v : Int) == 1) = false := by simp only [beq_eq_false_iff_ne, ne_eq]; omega
              have hs5 := ext_to r2 v (by omega)
              have hs6 := ext_from r2 v (by omega)
              obtain ⟨q1, hq1⟩ : ∃ q1, q1 = r2.take v := ⟨_, rfl⟩
              obtain ⟨q2, hq2⟩ : ∃ q2, q2 = r2.drop v := ⟨_, rfl⟩
              rw [← hq1] at hs5 HN
              rw [← hq2] at hs6 HN
              clear hq1 hq2
              go_wp2
              go_quiet (fail)
              go_wp2
              exact bodyPost_ret (v := .tuple #[.int .i64 1, .string ⟨q1.toArray⟩, .string ⟨q2.toArray⟩, .bool true]) (by simp [results, Tryd.results52, go_sem]) rfl ⟨by rw [HN.out]; rfl, below_drewN (Below.refl _ _) _⟩
  · have hix := first_ix b r (192 + (55 + (m : Int))) (by omega)
    clear hb
    go_enter Tryd.func52, Tryd.ntmps52
    go_wp2
    go_loop [9, 12] (fun n i => ∃ j : Nat, j ≤ m ∧ i = .int .i64 (j : Int) ∧ n = .int .i64 (valB (r.take j) : Int)) (fun _ i => m - (intOf i).toNat)
    case atStart => exact ⟨0, Nat.zero_le _, rfl, rfl⟩
    case round =>
      obtain ⟨j, hj, rfl, rfl⟩ := hrel
      have hvj : valB (r.take j) < 16777216 := valB_lt3 r j (by omega)
      by_cases hlt : j < m
      · have hjr : j < r.length := by omega
        have hij := ix_at (P := Tryd.prog) Tryd.underlying9 r (j : Int) j rfl hjr
        have HS : Hid (valB (r.take (j + 1)) = 256 * valB (r.take j) + r[j].toNat) := valB_take_snoc r j hjr
        obtain ⟨x, hx⟩ : ∃ x, x = valB (r.take j) := ⟨_, rfl⟩
        obtain ⟨y, hy⟩ : ∃ y, y = r[j] := ⟨_, rfl⟩
        rw [← hx] at hvj HS ⊢
        rw [← hy] at hij HS
        have hyl := y.toNat_lt
        clear hx hy
        go_wp2
        go_round
        case rel => exact ⟨j + 1, by omega, by go_num, by rw [HS.out]; go_num⟩
        case measure => simp [intOf]; omega
      · have hjm : j = m := by omega
        subst hjm
        rw [← HV.out]
        by_cases h1 : v ≤ 55
        · have HN : Hid (out = none) := by rw [Hid, HO.out, if_pos (.inl h1)]
          have h1' : (v : Int) ≤ 55 := by omega
          go_wp2
          exact bodyPost_ret (v := .tuple #[.int .i64 0, .string ⟨#[]⟩, .string ⟨#[]⟩, .bool false]) (by simp [results, Tryd.results52, go_sem]) rfl ⟨by rw [HN.out]; rfl, Below.refl _ _⟩
        · have h1' : ¬ (v : Int) ≤ 55 := by omega
          by_cases h2 : r2.length < v
          · have HN : Hid (out = none) := by rw [Hid, HO.out, if_pos (.inr (.inl h2))]
            have h2' : (r2.length : Int) < (v : Int) := by omega
            go_wp2
            exact bodyPost_ret (v := .tuple #[.int .i64 0, .string ⟨#[]⟩, .string ⟨#[]⟩, .bool false]) (by simp [results, Tryd.results52, go_sem]) rfl ⟨by rw [HN.out]; rfl, Below.refl _ _⟩
          · have h2' : (v : Int) ≤ (r2.length : Int) := by omega
            by_cases h3 : 60000 < v
            · have HN : Hid (out = none) := by rw [Hid, HO.out, if_pos (.inr (.inr h3))]
              have h3' : (60000 : Int) < (v : Int) := by omega
              go_wp2
              exact bodyPost_ret (v := .tuple #[.int .i64 0, .string ⟨#[]⟩, .string ⟨#[]⟩, .bool false]) (by simp [results, Tryd.results52, go_sem]) rfl ⟨by rw [HN.out]; rfl, Below.refl _ _⟩
            · have HN : Hid (out = some (2, r2.take v, r2.drop v)) := by rw [Hid, HO.out, if_neg (by omega)]
              have h3' : (v : Int) ≤ 60000 := by omega
              have h5' : ((v : Int) == 1) = false := by simp only [beq_eq_false_iff_ne, ne_eq]; omega
              have hs5 := ext_to r2 v (by omega)
              have hs6 := ext_from r2 v (by omega)
              obtain ⟨q1, hq1⟩ : ∃ q1, q1 = r2.take v := ⟨_, rfl⟩
              obtain ⟨q2, hq2⟩ : ∃ q2, q2 = r2.drop v := ⟨_, rfl⟩
              rw [← hq1] at hs5 HN
              rw [← hq2] at hs6 HN
              clear hq1 hq2
              go_wp2
              go_quiet (fail)
              go_wp2
              exact bodyPost_ret (v := .tuple #[.int .i64 2, .string ⟨q1.toArray⟩, .string ⟨q2.toArray⟩, .bool true]) (by simp [results, Tryd.results52, go_sem]) rfl ⟨by rw [HN.out]; rfl, below_drewN (Below.refl _ _) _⟩


end Go.Proofs.YtjlkeoocddianaaDoor
