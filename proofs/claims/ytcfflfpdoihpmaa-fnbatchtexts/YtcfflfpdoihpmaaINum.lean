/-
  Contracts: what is read as a number, of the program and of the model.
-/
import Derived.Test.YtcfflfpdoihpmaaMathRB
import Derived.Test.YtcfflfpdoihpmaaWrap
namespace Go.Proofs.Ytcfflfpdoihpmaa
open Go.RowKit
set_option linter.unusedVariables false

def numV (o : Option Nat) : Value := .tuple #[.int .i64 ((o.getD 0 : Nat) : Int), .bool o.isSome]
theorem or_byte (m : Nat) (b : UInt8) (h : m ≤ 1000000000000) : bits BinOp.or IntKind.i64 ((m : Int) * 256) (b.toNat : Int) = ((256 * m + b.toNat : Nat) : Int) := by
  have hb := b.toNat_lt
  have hx : 256 * m ||| b.toNat = 256 * m + b.toNat := (Nat.two_pow_add_eq_or_of_lt (i := 8) (by omega) m).symm
  have e1 : (m : Int) * 256 = ((256 * m : Nat) : Int) := by omega
  rw [e1]
  show IntKind.i64.wrap ((BitVec.ofInt 64 ((256 * m : Nat) : Int) ||| BitVec.ofInt 64 (b.toNat : Int)).toNat : Int) = _
  rw [BitVec.toNat_or, ofInt_u64 (256 * m) (by omega), ofInt_u64 b.toNat (by omega), hx]
  simp [IntKind.wrap, IntKind.signed, IntKind.bits]; omega

set_option maxRecDepth 100000 in
set_option maxHeartbeats 400000 in
theorem impl_numberOf (s : List UInt8) (w : World) (hl : s.length ≤ 1048576) :
    Calls Try.prog 114 #[.string ⟨s.toArray⟩] w fun e w' => e = .returned (numV (numL s)) ∧ Below w.heap.size w w' := by
  obtain ⟨o, ho⟩ : ∃ o, o = numL s := ⟨_, rfl⟩
  have HO : Hid (o = numL s) := ho
  rw [← ho]
  clear ho
  go_enter Try.func114, Try.ntmps114
  go_wp2
  go_loopw [4, 5, 8] (fun v _ i wr => ∃ j m : Nat, j ≤ s.length ∧ i = .int .i64 (j : Int) ∧ v = .int .i64 (m : Int) ∧ Hid (m = valB (s.take j)) ∧ m ≤ 1000000000000 ∧ Below w.heap.size w wr) (fun _ _ i _ => s.length - (intOf i).toNat)
  case atStart => exact ⟨0, 0, Nat.zero_le _, rfl, rfl, rfl, by omega, Below.refl _ _⟩
  case round =>
    obtain ⟨j, m, hj, rfl, rfl, HM, hmx, hbel⟩ := hrel
    by_cases hlt : j < s.length
    · have hj0 : (0 : Int) ≤ (j : Int) := by omega
      have hj1 : (j : Int) < (s.length : Int) := by omega
      have HV : Hid (256 * m + s[j].toNat = valB (s.take (j + 1))) := by rw [Hid, valB_take_snoc s j hlt, HM.out]
      have HBIG : Hid (1000000000000 < 256 * m + s[j].toNat → o = none) := fun h => by rw [HO.out]; exact numL_big s (j + 1) (by rw [← HV.out]; exact h)
      have hor := or_byte m s[j] hmx
      have hb := s[j].toNat_lt
      obtain ⟨y, hy⟩ : ∃ y, y = s[j] := ⟨_, rfl⟩
      rw [← hy] at HV HBIG hor hb
      have hyi : ((⟨s.toArray⟩ : ByteArray)[j]'(by simp [ByteArray.size]; omega)).toNat = y.toNat := by rw [hy]; rfl
      clear hy
      by_cases hbig : 256 * m + y.toNat ≤ 1000000000000
      · have hbig' : 256 * (m : Int) + (y.toNat : Int) ≤ 1000000000000 := by omega
        go_wp2
        go_roundw
        case rel => exact ⟨j + 1, 256 * m + y.toNat, by omega, by go_num, by go_num, HV, hbig, hbel⟩
        case measure => simp [intOf]; omega
      · have hbig' : ¬ 256 * (m : Int) + (y.toNat : Int) ≤ 1000000000000 := by omega
        have HZ : Hid (o = none) := HBIG.out (by omega)
        go_wp2
        go_ret2
        rw [HZ.out]
        exact ⟨rfl, hbel⟩
    · have hjl : j = s.length := by omega
      subst hjl
      have hm0 : m = valB s := by have := HM.out; rw [List.take_length] at this; exact this
      have K := fun W => impl_numberText m W (by omega)
      by_cases he : numB 8 m = s
      · have HZ : Hid (o = some m) := by rw [Hid, HO.out, hm0]; exact numL_back s (by omega) (by rw [← hm0]; exact he)
        rw [he] at K
        clear he hm0 HO
        go_wp2_with fail
        refine (K _).mono ?_
        rintro e w1 ⟨rfl, b1⟩
        have B1 := hbel.trans (b1.mono hbel.size)
        clear b1 K
        go_wp2
        go_ret2
        rw [HZ.out]
        exact ⟨rfl, B1⟩
      · have HZ : Hid (o = none) := by rw [Hid, HO.out]; exact numL_not s (by rw [← hm0]; exact he)
        obtain ⟨t, ht⟩ : ∃ t, t = numB 8 m := ⟨_, rfl⟩
        rw [← ht] at K he
        have heb : (t == s) = false := by rw [beq_eq_false_iff_ne]; exact he
        clear hm0 HO ht
        go_wp2_with fail
        refine (K _).mono ?_
        rintro e w1 ⟨rfl, b1⟩
        have B1 := hbel.trans (b1.mono hbel.size)
        clear b1 K
        go_wp2
        go_ret2
        rw [HZ.out]
        exact ⟨rfl, B1⟩

def numsV (x y : Option Nat) : Value := match x, y with
  | some a, some b => .tuple #[.int .i64 (a : Int), .int .i64 (b : Int), .bool true]
  | _, _ => .tuple #[.int .i64 0, .int .i64 0, .bool false]

set_option maxRecDepth 100000 in
set_option maxHeartbeats 400000 in
theorem impl_numbersOfRow (x y : List UInt8) (w : World) (hx : x.length ≤ 1048576) (hy : y.length ≤ 1048576) :
    Calls Try.prog 72 #[.agg #[.string ⟨x.toArray⟩, .string ⟨y.toArray⟩]] w fun e w' => e = .returned (numsV (numL x) (numL y)) ∧ Below w.heap.size w w' := by
  have B0 : Below w.heap.size w (w.alloc (.cells #[.string ⟨x.toArray⟩, .string ⟨y.toArray⟩] 90)) := (Below.refl _ _).alloc (Nat.le_refl _) _
  have HQ : Hid ((w.alloc (.cells #[.string ⟨x.toArray⟩, .string ⟨y.toArray⟩] 90)).heap[w.heap.size]? = some (.cells #[.string ⟨x.toArray⟩, .string ⟨y.toArray⟩] 90 (0, 0))) := heap_alloc_new w _
  have HL : Hid (w.heap.size < (w.alloc (.cells #[.string ⟨x.toArray⟩, .string ⟨y.toArray⟩] 90)).heap.size) := by rw [Hid]; simp
  have K1 := fun W => impl_numberOf x W hx
  have K2 := fun W => impl_numberOf y W hy
  cases ha : numL x with
  | none =>
    rw [ha] at K1
    have HZ : Hid (numsV none (numL y) = .tuple #[.int .i64 0, .int .i64 0, .bool false]) := by rw [Hid]; cases numL y <;> rfl
    obtain ⟨r, hr⟩ : ∃ r, r = numsV none (numL y) := ⟨_, rfl⟩
    rw [← hr] at HZ ⊢
    clear hr ha
    go_enter Try.func72, Try.ntmps72
    go_wp2_with fail
    refine (K1 _).mono ?_
    rintro e w1 ⟨rfl, b1⟩
    have B1 := B0.trans (b1.mono B0.size)
    simp only [numV]
    clear b1 K1 K2
    go_wp2
    go_ret3
    rw [HZ.out]
    exact ⟨rfl, B1⟩
  | some a =>
    rw [ha] at K1
    clear ha
    cases hc : numL y with
    | none =>
      rw [hc] at K2
      clear hc
      go_enter Try.func72, Try.ntmps72
      go_wp2_with fail
      refine (K1 _).mono ?_
      rintro e w1 ⟨rfl, b1⟩
      have B1 := B0.trans (b1.mono B0.size)
      have Q1 := (b1.block w.heap.size HL.out).trans HQ.out
      have q1 : w1.cell? ⟨w.heap.size, 1, none⟩ = some (.string ⟨y.toArray⟩) := by simp only [World.cell?, Q1]; rfl
      simp only [numV]
      clear b1 K1 Q1
      go_wp2_with fail
      refine (K2 _).mono ?_
      rintro e w2 ⟨rfl, b2⟩
      have B2 := B1.trans (b2.mono B1.size)
      simp only [numV]
      clear b2 K2
      go_wp2
      go_ret3
      exact ⟨rfl, B2⟩
    | some b =>
      rw [hc] at K2
      clear hc
      go_enter Try.func72, Try.ntmps72
      go_wp2_with fail
      refine (K1 _).mono ?_
      rintro e w1 ⟨rfl, b1⟩
      have B1 := B0.trans (b1.mono B0.size)
      have Q1 := (b1.block w.heap.size HL.out).trans HQ.out
      have q1 : w1.cell? ⟨w.heap.size, 1, none⟩ = some (.string ⟨y.toArray⟩) := by simp only [World.cell?, Q1]; rfl
      simp only [numV]
      clear b1 K1 Q1
      go_wp2_with fail
      refine (K2 _).mono ?_
      rintro e w2 ⟨rfl, b2⟩
      have B2 := B1.trans (b2.mono B1.size)
      simp only [numV]
      clear b2 K2
      go_wp2
      go_ret3
      exact ⟨rfl, B2⟩

set_option maxRecDepth 100000 in
set_option maxHeartbeats 400000 in
theorem spec_l1Int (s : List UInt8) (w : World) (hl : s.length ≤ 1048576) :
    Calls Try.prog 70 #[.string ⟨s.toArray⟩] w fun e w' => (∃ m : Nat, e = .returned (.tuple #[.int .i64 (m : Int), .bool (numL s).isSome]) ∧ m < 281474976710656 ∧ ∀ n, numL s = some n → m = n) ∧ Below w.heap.size w w' := by
  obtain ⟨o, ho⟩ : ∃ o, o = numL s := ⟨_, rfl⟩
  have HO : Hid (o = numL s) := ho
  rw [← ho]
  clear ho
  by_cases h6 : s.length ≤ 6
  · have h6' : ¬ (6 : Int) < (s.length : Int) := by omega
    have h6b : decide ((6 : Int) < (s.length : Int)) = false := decide_eq_false h6'
    by_cases h0 : s.head? = some 0
    · obtain ⟨r, hr⟩ : ∃ r, s = 0 :: r := by cases s with | nil => simp at h0 | cons a r => simp at h0; exact ⟨r, by rw [h0]⟩
      have HZ : Hid (o = none) := by rw [Hid, HO.out, hr]; exact numL_zero r
      have hpos : decide ((0 : Int) < (s.length : Int)) = true := by rw [hr]; simp <;> omega
      have hpos' : (0 : Int) < (s.length : Int) := by rw [hr]; simp <;> omega
      have hn0 : 0 < (⟨s.toArray⟩ : ByteArray).size := by rw [hr]; simp [ByteArray.size]
      have ha2 : ((((ByteArray.mk s.toArray)[0]'hn0).toNat : Int) == 0) = true := by subst hr; rfl
      clear h0 HO hr h6'
      go_enter Try.func70, Try.ntmps70
      go_wp2
      go_ret2
      rw [HZ.out]
      exact ⟨⟨0, rfl, by omega, by simp⟩, Below.refl _ _⟩
    · have HT : Hid (∀ j, valB (s.take j) < 281474976710656) := fun j => valB_lt 6 _ (by simp; omega)
      have HZ : Hid (o = if valB s ≤ 1000000000000 then some (valB s) else none) := by
        rw [Hid, HO.out, numL]
        by_cases hv : valB s ≤ 1000000000000
        · rw [if_pos ⟨h6, h0, hv⟩, if_pos hv]
        · rw [if_neg (fun e => hv e.2.2), if_neg hv]
      have HV : Hid (∀ j (h : j < s.length), valB (s.take (j + 1)) = 256 * valB (s.take j) + s[j].toNat) := fun j h => valB_take_snoc s j h
      cases s with
      | nil =>
        have HZ2 : Hid (o = some 0) := by rw [Hid, HZ.out]; rfl
        clear h0 HO HT HZ HV h6'
        go_enter Try.func70, Try.ntmps70
        go_wp2
        refine wp_loop_rounds 1 ?_
        rw [rounds_succ]
        go_wp2
        go_ret2
        rw [HZ2.out]
        exact ⟨⟨0, rfl, by omega, by simp⟩, Below.refl _ _⟩
      | cons a r =>
        have ha : a ≠ 0 := fun e => h0 (by rw [e]; rfl)
        have ha' : ((((ByteArray.mk (a :: r).toArray)[0]'(by simp [ByteArray.size])).toNat : Int) == 0) = false := by
          show ((a.toNat : Int) == 0) = false
          simp only [beq_eq_false_iff_ne, ne_eq]
          intro h
          exact ha (UInt8.toNat_inj.1 (by simpa using h))
        obtain ⟨s, hs⟩ : ∃ s, s = a :: r := ⟨_, rfl⟩
        have hpos : decide ((0 : Int) < (s.length : Int)) = true := by rw [hs]; simp <;> omega
        have hpos' : (0 : Int) < (s.length : Int) := by rw [hs]; simp <;> omega
        have hst : s.toArray.size = s.length := by simp
        have hn0 : 0 < (⟨s.toArray⟩ : ByteArray).size := by rw [hs]; simp [ByteArray.size]
        have ha2 : ((((ByteArray.mk s.toArray)[0]'hn0).toNat : Int) == 0) = false := by subst hs; exact ha'
        rw [← hs] at hl h6 h6b HT HZ HV ⊢
        clear hs ha' ha h0 h6' HO
        go_enter Try.func70, Try.ntmps70
        go_wp2
        go_loop [4, 5] (fun v i => ∃ j m : Nat, j ≤ s.length ∧ i = .int .i64 (j : Int) ∧ v = .int .i64 (m : Int) ∧ Hid (m = valB (s.take j)) ∧ m < 281474976710656) (fun _ i => s.length - (intOf i).toNat)
        case atStart => exact ⟨0, 0, Nat.zero_le _, rfl, rfl, rfl, by omega⟩
        case round =>
          obtain ⟨j, m, hj, rfl, rfl, HM, hmx⟩ := hrel
          by_cases hlt : j < s.length
          · have hj0 : (0 : Int) ≤ (j : Int) := by omega
            have hj1 : (j : Int) < (s.length : Int) := by omega
            have HV2 : Hid (256 * m + s[j].toNat = valB (s.take (j + 1)) ∧ 256 * m + s[j].toNat < 281474976710656) := by
              have h1 := HV.out j hlt
              have h2 := HT.out (j + 1)
              rw [← HM.out] at h1
              exact ⟨h1.symm, by rw [← h1]; exact h2⟩
            have hb := s[j].toNat_lt
            obtain ⟨y, hy⟩ : ∃ y, y = s[j] := ⟨_, rfl⟩
            rw [← hy] at HV2 hb
            have hyi : ((⟨s.toArray⟩ : ByteArray)[j]'(by simp [ByteArray.size]; omega)).toNat = y.toNat := by rw [hy]; rfl
            clear hy
            go_wp2
            go_round
            case rel => exact ⟨j + 1, 256 * m + y.toNat, by omega, by go_num, by go_num, HV2.out.1, HV2.out.2⟩
            case measure => simp [intOf]; omega
          · have hjl : j = s.length := by omega
            subst hjl
            have hm0 : m = valB s := by have := HM.out; rw [List.take_length] at this; exact this
            have HZ2 : Hid (o = if m ≤ 1000000000000 then some m else none) := by rw [Hid, HZ.out, hm0]
            clear hm0 HZ HM
            by_cases hv : m ≤ 1000000000000
            · have hv' : (m : Int) ≤ 1000000000000 := by omega
              have HZ3 : Hid (o = some m) := by rw [Hid, HZ2.out, if_pos hv]
              go_wp2
              go_ret2
              rw [HZ3.out]
              exact ⟨⟨m, rfl, hmx, fun n h => by cases h; rfl⟩, Below.refl _ _⟩
            · have hv' : ¬ (m : Int) ≤ 1000000000000 := by omega
              have HZ3 : Hid (o = none) := by rw [Hid, HZ2.out, if_neg hv]
              go_wp2
              go_ret2
              rw [HZ3.out]
              exact ⟨⟨m, rfl, hmx, by simp⟩, Below.refl _ _⟩
  · have h6' : (6 : Int) < (s.length : Int) := by omega
    have h6b : decide ((6 : Int) < (s.length : Int)) = true := decide_eq_true h6'
    have HZ : Hid (o = none) := by rw [Hid, HO.out]; exact numL_long s h6
    clear HO
    go_enter Try.func70, Try.ntmps70
    go_wp2
    go_ret2
    rw [HZ.out]
    exact ⟨⟨0, rfl, by omega, by simp⟩, Below.refl _ _⟩
end Go.Proofs.Ytcfflfpdoihpmaa
