/-
 Texts that are laid as one: MathRB, INum, IRows.
-/
import Derived.Test.YthnddgdnialogaaGreatDoorNumAll
import Derived.Test.YthnddgdnialogaaGreatDoorMathRs
import Derived.Test.YthnddgdnialogaaGreatDoorWrapTxt
import Derived.Test.YthnddgdnialogaaGreatDoorIReadAll
import Derived.Deep.RegionHeld3
import Derived.Deep.AppendLies
namespace Go.Proofs.YthnddgdnialogaaGreatDoor
open Go.RowKit
set_option linter.unusedVariables false
def numL (s : List UInt8) : Option Nat := if s.length ≤ 6 ∧ s.head? ≠ some 0 ∧ valB s ≤ 1000000000000 then some (valB s) else none
theorem fold_ge (n : Nat) : ∀ l : List UInt8, n ≤ l.foldl (fun n b => 256 * n + b.toNat) n
 | [] => Nat.le_refl _
 | b :: l => Nat.le_trans (by omega) (fold_ge (256 * n + b.toNat) l)
theorem valB_mono (s : List UInt8) (j : Nat) : valB (s.take j) ≤ valB s := by
 conv => rhs; rw [← List.take_append_drop j s]
 simp only [valB, List.foldl_append]
 exact fold_ge _ _
theorem numL_long (s : List UInt8) (h : ¬ s.length ≤ 6) : numL s = none := by rw [numL, if_neg (fun e => h e.1)]
theorem numL_zero (r : List UInt8) : numL (0 :: r) = none := by rw [numL, if_neg (fun e => e.2.1 rfl)]
theorem numL_big (s : List UInt8) (j : Nat) (h : 1000000000000 < valB (s.take j)) : numL s = none := by
 rw [numL, if_neg (fun e => by have := valB_mono s j; have := e.2.2; omega)]
theorem numL_yes (s : List UInt8) (h6 : s.length ≤ 6) (h0 : s.head? ≠ some 0) (h : valB s ≤ 1000000000000) : numL s = some (valB s) := by rw [numL, if_pos ⟨h6, h0, h⟩]
theorem numB_head : ∀ (f n : Nat), n < 256 ^ f → (numB f n).head? ≠ some 0
 | 0, n, _ => by simp [numB]
 | f + 1, n, h => by
   rw [numB]
   split
   · simp
   · rename_i hn
     have hlt : n / 256 < 256 ^ f := by rw [Nat.pow_succ] at h; omega
     have ih := numB_head f (n / 256) hlt
     by_cases hz : n / 256 = 0
     · rw [hz, numB_zero]
       simp only [List.nil_append, List.head?_cons, ne_eq, Option.some.injEq]
       intro e
       have h1 := congrArg UInt8.toNat e
       simp at h1
       omega
     · cases f with
       | zero => simp at hlt; omega
       | succ f =>
         rw [numB, if_neg hz] at ih ⊢
         cases hc : numB f (n / 256 / 256) with
         | nil => rw [hc] at ih; simpa using ih
         | cons a r => rw [hc] at ih; simpa using ih
theorem numB_lenp : ∀ (f k n : Nat), n < 256 ^ k → (numB f n).length ≤ k
 | 0, k, n, _ => by simp [numB]
 | f + 1, k, n, h => by
   rw [numB]
   split
   · simp
   · rename_i hn
     cases k with
     | zero => simp at h; omega
     | succ k =>
       have := numB_lenp f k (n / 256) (by rw [Nat.pow_succ] at h; omega)
       simp; omega
theorem numL_back (s : List UInt8) (h : valB s ≤ 1000000000000) (he : numB 8 (valB s) = s) : numL s = some (valB s) := by
 refine numL_yes s ?_ ?_ h
 · rw [← he]; exact Nat.le_trans (numB_lenp 8 5 _ (by omega)) (by omega)
 · rw [← he]; exact numB_head 8 _ (by omega)
theorem numL_not (s : List UInt8) (he : ¬ numB 8 (valB s) = s) : numL s = none := by
 rw [numL, if_neg (fun e => he (numB_valB 8 s (by omega) e.2.1))]
theorem numL_of (s : List UInt8) (n : Nat) (h : numL s = some n) : n = valB s ∧ s = numB 8 n ∧ n ≤ 1000000000000 := by
 unfold numL at h
 split at h
 · rename_i hc
   cases h
   exact ⟨rfl, (numB_valB 8 s (by omega) hc.2.1).symm, hc.2.2⟩
 · cases h
def rowsOf : List (List UInt8) → List PairL
 | k :: v :: r => (k, v) :: rowsOf r
 | _ => []
theorem rowsOf_length : ∀ ts : List (List UInt8), (rowsOf ts).length = ts.length / 2
 | [] => rfl
 | [_] => by simp [rowsOf]
 | k :: v :: r => by simp only [rowsOf, List.length_cons, rowsOf_length r]; omega
theorem rowsOf_at : ∀ (ts : List (List UInt8)) (j : Nat) (h : j < (rowsOf ts).length), (rowsOf ts)[j] = (ts.getD (2 * j) [], ts.getD (2 * j + 1) [])
 | [], j, h => by simp [rowsOf] at h
 | [_], j, h => by simp [rowsOf] at h
 | k :: v :: r, 0, h => by simp [rowsOf]
 | k :: v :: r, j + 1, h => by
   have := rowsOf_at r j (by simpa [rowsOf] using h)
   simp only [rowsOf, List.getElem_cons_succ, this]
   rw [show 2 * (j + 1) = 2 * j + 1 + 1 by omega]
   simp
def rowsL (s : List UInt8) : Option (List PairL) := match textsL s with
 | none => none
 | some ts => if ts.length = 0 ∨ ts.length % 2 = 1 then none else some (rowsOf ts)
theorem rows_small (s : List UInt8) (rs : List PairL) (h : rowsL s = some rs) : 1 ≤ rs.length ∧ rs.length ≤ s.length ∧ ∀ p ∈ rs, p.1.length ≤ 60000 ∧ p.2.length ≤ 60000 := by
 unfold rowsL at h
 cases ht : textsL s with
 | none => rw [ht] at h; cases h
 | some ts =>
   rw [ht] at h
   simp only at h
   split at h
   · cases h
   · rename_i hc
     cases h
     have he := textsL_each s ts ht
     refine ⟨by rw [rowsOf_length]; omega, by rw [rowsOf_length]; omega, fun p hp => ?_⟩
     obtain ⟨j, hj, rfl⟩ := List.getElem_of_mem hp
     rw [rowsOf_at ts j hj]
     have g : ∀ i, (ts.getD i []).length ≤ 60000 := fun i => by
      rw [List.getD_eq_getElem?_getD]
      by_cases hi : i < ts.length
      · rw [List.getElem?_eq_getElem hi]; exact he.2 _ (List.getElem_mem _)
      · rw [List.getElem?_eq_none (by omega)]; simp
     exact ⟨g _, g _⟩
end Go.Proofs.YthnddgdnialogaaGreatDoor
namespace Go.Proofs.YthnddgdnialogaaGreatDoor
open Go.RowKit
set_option linter.unusedVariables false
def numV (o : Option Nat) : Value := .tuple #[.int .i64 ((o.getD 0 : Nat) : Int), .bool o.isSome]
theorem or_byte (m : Nat) (b : UInt8) (h : m ≤ 1000000000000) : bits BinOp.or IntKind.i64 ((m : Int) * 256) (b.toNat : Int) = ((256 * m + b.toNat : Nat) : Int) := by
 have hb := b.toNat_lt
 have hx : 256 * m ||| b.toNat = 256 * m + b.toNat := (Nat.two_pow_add_eq_or_of_lt (i := 8) (by omega) m).symm
 have e1 : (m : Int) * 256 = ((256 * m : Nat) : Int) := by omega
 rw [e1]
 show IntKind.i64.wrap ((BitVec.ofInt 64 ((256 * m : Nat) : Int) ||| BitVec.ofInt 64 (b.toNat : Int)).toNat : Int) = _
 rw [BitVec.toNat_or, ofInt_u64 (256 * m) (by omega), ofInt_u64 b.toNat (by omega), hx]
 simp [IntKind.wrap, IntKind.signed, IntKind.bits]; omega
set_option maxRecDepth 100000 in
set_option maxHeartbeats 400000 in
theorem impl_numberOf (s : List UInt8) (w : World) (hl : s.length ≤ 1048576) :
 Calls Tryz.prog 78 #[.string ⟨s.toArray⟩] w fun e w' => e = .returned (numV (numL s)) ∧ Below w.heap.size w w' := by
 obtain ⟨o, ho⟩ : ∃ o, o = numL s := ⟨_, rfl⟩
 have HO : Hid (o = numL s) := ho
 rw [← ho]
 clear ho
 go_enter Tryz.func78, Tryz.ntmps78
 go_wp2
 go_loopw [4, 5, 8] (fun v _ i wr => ∃ j m : Nat, j ≤ s.length ∧ i = .int .i64 (j : Int) ∧ v = .int .i64 (m : Int) ∧ Hid (m = valB (s.take j)) ∧ m ≤ 1000000000000 ∧ Below w.heap.size w wr) (fun _ _ i _ => s.length - (intOf i).toNat)
 case atStart => exact ⟨0, 0, Nat.zero_le _, rfl, rfl, rfl, by omega, Below.refl _ _⟩
 case round =>
  obtain ⟨j, m, hj, rfl, rfl, HM, hmx, hbel⟩ := hrel
  by_cases hlt : j < s.length
  · have hj0 : (0 : Int) ≤ (j : Int) := by omega
    have hj1 : (j : Int) < (s.length : Int) := by omega
    have HV : Hid (256 * m + s[j].toNat = valB (s.take (j + 1))) := by rw [Hid, valB_take_snoc s j hlt, HM.out]
    have HBIG : Hid (1000000000000 < 256 * m + s[j].toNat → o = none) := fun h => by rw [HO.out]; exact numL_big s (j + 1) (by rw [← HV.out]; exact h)
    have hor := or_byte m s[j] hmx
    have hb := s[j].toNat_lt
    obtain ⟨y, hy⟩ : ∃ y, y = s[j] := ⟨_, rfl⟩
    rw [← hy] at HV HBIG hor hb
    have hyi : ((⟨s.toArray⟩ : ByteArray)[j]'(by simp [ByteArray.size]; omega)).toNat = y.toNat := by rw [hy]; rfl
    clear hy
    by_cases hbig : 256 * m + y.toNat ≤ 1000000000000
    · have hbig' : 256 * (m : Int) + (y.toNat : Int) ≤ 1000000000000 := by omega
      go_wp2
      go_roundw
      case rel => exact ⟨j + 1, 256 * m + y.toNat, by omega, by go_num, by go_num, HV, hbig, hbel⟩
      case measure => simp [intOf]; omega
    · have hbig' : ¬ 256 * (m : Int) + (y.toNat : Int) ≤ 1000000000000 := by omega
      have HZ : Hid (o = none) := HBIG.out (by omega)
      go_wp2
      go_ret2
      rw [HZ.out]
      exact ⟨rfl, hbel⟩
  · have hjl : j = s.length := by omega
    subst hjl
    have hm0 : m = valB s := by have := HM.out; rw [List.take_length] at this; exact this
    have K := fun W => impl_numberText m W (by omega)
    by_cases he : numB 8 m = s
    · have HZ : Hid (o = some m) := by rw [Hid, HO.out, hm0]; exact numL_back s (by omega) (by rw [← hm0]; exact he)
      rw [he] at K
      clear he hm0 HO
      go_wp2_with fail
      refine (K _).mono ?_
      rintro e w1 ⟨rfl, b1⟩
      have B1 := hbel.trans (b1.mono hbel.size)
      clear b1 K
      go_wp2
      go_ret2
      rw [HZ.out]
      exact ⟨rfl, B1⟩
    · have HZ : Hid (o = none) := by rw [Hid, HO.out]; exact numL_not s (by rw [← hm0]; exact he)
      obtain ⟨t, ht⟩ : ∃ t, t = numB 8 m := ⟨_, rfl⟩
      rw [← ht] at K he
      have heb : (t == s) = false := by rw [beq_eq_false_iff_ne]; exact he
      clear hm0 HO ht
      go_wp2_with fail
      refine (K _).mono ?_
      rintro e w1 ⟨rfl, b1⟩
      have B1 := hbel.trans (b1.mono hbel.size)
      clear b1 K
      go_wp2
      go_ret2
      rw [HZ.out]
      exact ⟨rfl, B1⟩
def numsV (x y : Option Nat) : Value := match x, y with
 | some a, some b => .tuple #[.int .i64 (a : Int), .int .i64 (b : Int), .bool true]
 | _, _ => .tuple #[.int .i64 0, .int .i64 0, .bool false]
set_option maxRecDepth 100000 in
set_option maxHeartbeats 400000 in
theorem impl_numbersOfRow (x y : List UInt8) (w : World) (hx : x.length ≤ 1048576) (hy : y.length ≤ 1048576) :
 Calls Tryz.prog 51 #[.agg #[.string ⟨x.toArray⟩, .string ⟨y.toArray⟩]] w fun e w' => e = .returned (numsV (numL x) (numL y)) ∧ Below w.heap.size w w' := by
 have B0 : Below w.heap.size w (w.alloc (.cells #[.string ⟨x.toArray⟩, .string ⟨y.toArray⟩] 60)) := (Below.refl _ _).alloc (Nat.le_refl _) _
 have HQ : Hid ((w.alloc (.cells #[.string ⟨x.toArray⟩, .string ⟨y.toArray⟩] 60)).heap[w.heap.size]? = some (.cells #[.string ⟨x.toArray⟩, .string ⟨y.toArray⟩] 60 (0, 0))) := heap_alloc_new w _
 have HL : Hid (w.heap.size < (w.alloc (.cells #[.string ⟨x.toArray⟩, .string ⟨y.toArray⟩] 60)).heap.size) := by rw [Hid]; simp
 have K1 := fun W => impl_numberOf x W hx
 have K2 := fun W => impl_numberOf y W hy
 cases ha : numL x with
 | none =>
   rw [ha] at K1
   have HZ : Hid (numsV none (numL y) = .tuple #[.int .i64 0, .int .i64 0, .bool false]) := by rw [Hid]; cases numL y <;> rfl
   obtain ⟨r, hr⟩ : ∃ r, r = numsV none (numL y) := ⟨_, rfl⟩
   rw [← hr] at HZ ⊢
   clear hr ha
   go_enter Tryz.func51, Tryz.ntmps51
   go_wp2_with fail
   refine (K1 _).mono ?_
   rintro e w1 ⟨rfl, b1⟩
   have B1 := B0.trans (b1.mono B0.size)
   simp only [numV]
   clear b1 K1 K2
   go_wp2
   go_ret3
   rw [HZ.out]
   exact ⟨rfl, B1⟩
 | some a =>
   rw [ha] at K1
   clear ha
   cases hc : numL y with
   | none =>
     rw [hc] at K2
     clear hc
     go_enter Tryz.func51, Tryz.ntmps51
     go_wp2_with fail
     refine (K1 _).mono ?_
     rintro e w1 ⟨rfl, b1⟩
     have B1 := B0.trans (b1.mono B0.size)
     have Q1 := (b1.block w.heap.size HL.out).trans HQ.out
     have q1 : w1.cell? ⟨w.heap.size, 1, none⟩ = some (.string ⟨y.toArray⟩) := by simp only [World.cell?, Q1]; rfl
     simp only [numV]
     clear b1 K1 Q1
     go_wp2_with fail
     refine (K2 _).mono ?_
     rintro e w2 ⟨rfl, b2⟩
     have B2 := B1.trans (b2.mono B1.size)
     simp only [numV]
     clear b2 K2
     go_wp2
     go_ret3
     exact ⟨rfl, B2⟩
   | some b =>
     rw [hc] at K2
     clear hc
     go_enter Tryz.func51, Tryz.ntmps51
     go_wp2_with fail
     refine (K1 _).mono ?_
     rintro e w1 ⟨rfl, b1⟩
     have B1 := B0.trans (b1.mono B0.size)
     have Q1 := (b1.block w.heap.size HL.out).trans HQ.out
     have q1 : w1.cell? ⟨w.heap.size, 1, none⟩ = some (.string ⟨y.toArray⟩) := by simp only [World.cell?, Q1]; rfl
     simp only [numV]
     clear b1 K1 Q1
     go_wp2_with fail
     refine (K2 _).mono ?_
     rintro e w2 ⟨rfl, b2⟩
     have B2 := B1.trans (b2.mono B1.size)
     simp only [numV]
     clear b2 K2
     go_wp2
     go_ret3
     exact ⟨rfl, B2⟩
set_option maxRecDepth 100000 in
set_option maxHeartbeats 400000 in
theorem spec_l1Int (s : List UInt8) (w : World) (hl : s.length ≤ 1048576) :
 Calls Tryz.prog 47 #[.string ⟨s.toArray⟩] w fun e w' => (∃ m : Nat, e = .returned (.tuple #[.int .i64 (m : Int), .bool (numL s).isSome]) ∧ m < 281474976710656 ∧ ∀ n, numL s = some n → m = n) ∧ Below w.heap.size w w' := by
 obtain ⟨o, ho⟩ : ∃ o, o = numL s := ⟨_, rfl⟩
 have HO : Hid (o = numL s) := ho
 rw [← ho]
 clear ho
 by_cases h6 : s.length ≤ 6
 · have h6' : ¬ (6 : Int) < (s.length : Int) := by omega
   have h6b : decide ((6 : Int) < (s.length : Int)) = false := decide_eq_false h6'
   by_cases h0 : s.head? = some 0
   · obtain ⟨r, hr⟩ : ∃ r, s = 0 :: r := by cases s with | nil => simp at h0 | cons a r => simp at h0; exact ⟨r, by rw [h0]⟩
     have HZ : Hid (o = none) := by rw [Hid, HO.out, hr]; exact numL_zero r
     have hpos : decide ((0 : Int) < (s.length : Int)) = true := by rw [hr]; simp <;> omega
     have hpos' : (0 : Int) < (s.length : Int) := by rw [hr]; simp <;> omega
     have hn0 : 0 < (⟨s.toArray⟩ : ByteArray).size := by rw [hr]; simp [ByteArray.size]
     have ha2 : ((((ByteArray.mk s.toArray)[0]'hn0).toNat : Int) == 0) = true := by subst hr; rfl
     clear h0 HO hr h6'
     go_enter Tryz.func47, Tryz.ntmps47
     go_wp2
     go_ret2
     rw [HZ.out]
     exact ⟨⟨0, rfl, by omega, by simp⟩, Below.refl _ _⟩
   · have HT : Hid (∀ j, valB (s.take j) < 281474976710656) := fun j => valB_lt 6 _ (by simp; omega)
     have HZ : Hid (o = if valB s ≤ 1000000000000 then some (valB s) else none) := by
      rw [Hid, HO.out, numL]
      by_cases hv : valB s ≤ 1000000000000
      · rw [if_pos ⟨h6, h0, hv⟩, if_pos hv]
      · rw [if_neg (fun e => hv e.2.2), if_neg hv]
     have HV : Hid (∀ j (h : j < s.length), valB (s.take (j + 1)) = 256 * valB (s.take j) + s[j].toNat) := fun j h => valB_take_snoc s j h
     cases s with
     | nil =>
       have HZ2 : Hid (o = some 0) := by rw [Hid, HZ.out]; rfl
       clear h0 HO HT HZ HV h6'
       go_enter Tryz.func47, Tryz.ntmps47
       go_wp2
       refine wp_loop_rounds 1 ?_
       rw [rounds_succ]
       go_wp2
       go_ret2
       rw [HZ2.out]
       exact ⟨⟨0, rfl, by omega, by simp⟩, Below.refl _ _⟩
     | cons a r =>
       have ha : a ≠ 0 := fun e => h0 (by rw [e]; rfl)
       have ha' : ((((ByteArray.mk (a :: r).toArray)[0]'(by simp [ByteArray.size])).toNat : Int) == 0) = false := by
        show ((a.toNat : Int) == 0) = false
        simp only [beq_eq_false_iff_ne, ne_eq]
        intro h
        exact ha (UInt8.toNat_inj.1 (by simpa using h))
       obtain ⟨s, hs⟩ : ∃ s, s = a :: r := ⟨_, rfl⟩
       have hpos : decide ((0 : Int) < (s.length : Int)) = true := by rw [hs]; simp <;> omega
       have hpos' : (0 : Int) < (s.length : Int) := by rw [hs]; simp <;> omega
       have hst : s.toArray.size = s.length := by simp
       have hn0 : 0 < (⟨s.toArray⟩ : ByteArray).size := by rw [hs]; simp [ByteArray.size]
       have ha2 : ((((ByteArray.mk s.toArray)[0]'hn0).toNat : Int) == 0) = false := by subst hs; exact ha'
       rw [← hs] at hl h6 h6b HT HZ HV ⊢
       clear hs ha' ha h0 h6' HO
       go_enter Tryz.func47, Tryz.ntmps47
       go_wp2
       go_loop [4, 5] (fun v i => ∃ j m : Nat, j ≤ s.length ∧ i = .int .i64 (j : Int) ∧ v = .int .i64 (m : Int) ∧ Hid (m = valB (s.take j)) ∧ m < 281474976710656) (fun _ i => s.length - (intOf i).toNat)
       case atStart => exact ⟨0, 0, Nat.zero_le _, rfl, rfl, rfl, by omega⟩
       case round =>
        obtain ⟨j, m, hj, rfl, rfl, HM, hmx⟩ := hrel
        by_cases hlt : j < s.length
        · have hj0 : (0 : Int) ≤ (j : Int) := by omega
          have hj1 : (j : Int) < (s.length : Int) := by omega
          have HV2 : Hid (256 * m + s[j].toNat = valB (s.take (j + 1)) ∧ 256 * m + s[j].toNat < 281474976710656) := by
           have h1 := HV.out j hlt
           have h2 := HT.out (j + 1)
           rw [← HM.out] at h1
           exact ⟨h1.symm, by rw [← h1]; exact h2⟩
          have hb := s[j].toNat_lt
          obtain ⟨y, hy⟩ : ∃ y, y = s[j] := ⟨_, rfl⟩
          rw [← hy] at HV2 hb
          have hyi : ((⟨s.toArray⟩ : ByteArray)[j]'(by simp [ByteArray.size]; omega)).toNat = y.toNat := by rw [hy]; rfl
          clear hy
          go_wp2
          go_round
          case rel => exact ⟨j + 1, 256 * m + y.toNat, by omega, by go_num, by go_num, HV2.out.1, HV2.out.2⟩
          case measure => simp [intOf]; omega
        · have hjl : j = s.length := by omega
          subst hjl
          have hm0 : m = valB s := by have := HM.out; rw [List.take_length] at this; exact this
          have HZ2 : Hid (o = if m ≤ 1000000000000 then some m else none) := by rw [Hid, HZ.out, hm0]
          clear hm0 HZ HM
          by_cases hv : m ≤ 1000000000000
          · have hv' : (m : Int) ≤ 1000000000000 := by omega
            have HZ3 : Hid (o = some m) := by rw [Hid, HZ2.out, if_pos hv]
            go_wp2
            go_ret2
            rw [HZ3.out]
            exact ⟨⟨m, rfl, hmx, fun n h => by cases h; rfl⟩, Below.refl _ _⟩
          · have hv' : ¬ (m : Int) ≤ 1000000000000 := by omega
            have HZ3 : Hid (o = none) := by rw [Hid, HZ2.out, if_neg hv]
            go_wp2
            go_ret2
            rw [HZ3.out]
            exact ⟨⟨m, rfl, hmx, by simp⟩, Below.refl _ _⟩
 · have h6' : (6 : Int) < (s.length : Int) := by omega
   have h6b : decide ((6 : Int) < (s.length : Int)) = true := decide_eq_true h6'
   have HZ : Hid (o = none) := by rw [Hid, HO.out]; exact numL_long s h6
   clear HO
   go_enter Tryz.func47, Tryz.ntmps47
   go_wp2
   go_ret2
   rw [HZ.out]
   exact ⟨⟨0, rfl, by omega, by simp⟩, Below.refl _ _⟩
end Go.Proofs.YthnddgdnialogaaGreatDoor
namespace Go.Proofs.YthnddgdnialogaaGreatDoor
open Go.RowKit
set_option linter.unusedVariables false
def RowsPost (w : World) (o : Option (List PairL)) (e : Ending) (w' : World) : Prop := match o with
 | none => e = .returned (.tuple #[.slice none 0 0, .bool false]) ∧ Below w.heap.size w w'
 | some rs => ∃ g c : Nat, e = .returned (.tuple #[.slice (some ⟨g, 0, none⟩) rs.length c, .bool true]) ∧ w'.ownsRow w.heap.size 60 2 (.slice (some ⟨g, 0, none⟩) rs.length c) rs.length (pcells rs) ∧ Below w.heap.size w w'
theorem strs_two_at {w : World} {a : Option Addr} {ts : List (List UInt8)} (h : IsStrs w a ts) (j : Nat) (hj : 2 * j + 1 < ts.length) : ∃ b off, a = some ⟨b, off, none⟩ ∧ w.cell? ⟨b, off + 2 * j, none⟩ = some (.string ⟨(ts.getD (2 * j) []).toArray⟩) ∧ w.cell? ⟨b, off + (2 * j + 1), none⟩ = some (.string ⟨(ts.getD (2 * j + 1) []).toArray⟩) := by
 rcases h with h | ⟨b, off, h, hc⟩
 · rw [h] at hj; simp at hj
 · refine ⟨b, off, h, ?_, ?_⟩
   · rw [hc (2 * j) (by omega)]; simp [List.getD, List.getElem?_eq_getElem (show 2 * j < ts.length by omega)]
   · rw [hc (2 * j + 1) hj]; simp [List.getD, List.getElem?_eq_getElem hj]
set_option maxRecDepth 100000 in
set_option maxHeartbeats 1000000 in
theorem impl_rows (s : List UInt8) (w : World) (hl : s.length ≤ 1048576) :
 Calls Tryz.prog 50 #[.string ⟨s.toArray⟩] w fun e w' => RowsPost w (rowsL s) e w' := by
 obtain ⟨i0, hi0, hz0, hz1, hz2⟩ := info_parts infoPr
 have K := impl_texts s w hl
 cases ht : textsL s with
 | none =>
   have e1 : rowsL s = none := by simp only [rowsL, ht]
   rw [e1]
   rw [ht] at K
   clear ht e1
   go_enter Tryz.func50, Tryz.ntmps50
   go_wp2_with fail
   refine K.mono ?_
   rintro e w1 ⟨rfl, b1⟩
   go_wp2
   go_ret2
   exact ⟨rfl, b1⟩
 | some ts =>
   rw [ht] at K
   have hts := textsL_each s ts ht
   have hln : ts.length ≤ 1048576 := by omega
   have HR : Hid (rowsL s = if ts.length = 0 ∨ ts.length % 2 = 1 then none else some (rowsOf ts)) := by rw [Hid]; simp only [rowsL, ht]
   obtain ⟨o, ho⟩ : ∃ o, o = rowsL s := ⟨_, rfl⟩
   rw [← ho] at HR ⊢
   clear ho ht hts
   by_cases h0 : ts.length = 0
   · have HZ : Hid (o = none) := by rw [Hid, HR.out, if_pos (.inl h0)]
     have h0b : ((ts.length : Int) == 0) = true := by rw [beq_iff_eq]; omega
     clear HR h0
     go_enter Tryz.func50, Tryz.ntmps50
     go_wp2_with fail
     refine K.mono ?_
     rintro e w1 ⟨a1, c1, rfl, o1, b1, hc1⟩
     clear o1 K
     go_wp2
     go_ret2
     rw [HZ.out]
     exact ⟨rfl, b1⟩
   · have h0b : ((ts.length : Int) == 0) = false := by rw [beq_eq_false_iff_ne]; omega
     by_cases h2 : ts.length % 2 = 1
     · have HZ : Hid (o = none) := by rw [Hid, HR.out, if_pos (.inr h2)]
       have h2b : ((ts.length : Int) % 2 != 0) = true := by rw [bne_iff_ne]; omega
       have h2t : ((ts.length : Int).tmod 2 != 0) = true := by rw [Int.tmod_eq_emod_of_nonneg (by omega)]; exact h2b
       have h2e : ((ts.length : Int) % 2 == 0) = false := by rw [beq_eq_false_iff_ne]; omega
       clear HR h2 h0
       go_enter Tryz.func50, Tryz.ntmps50
       go_wp2_with fail
       refine K.mono ?_
       rintro e w1 ⟨a1, c1, rfl, o1, b1, hc1⟩
       clear o1 K
       go_wp2
       go_ret2
       rw [HZ.out]
       exact ⟨rfl, b1⟩
     · have HZ : Hid (o = some (rowsOf ts)) := by rw [Hid, HR.out, if_neg (by omega)]
       have h2b : ((ts.length : Int) % 2 != 0) = false := by rw [bne_eq_false_iff_eq]; omega
       have h2t : ((ts.length : Int).tmod 2 != 0) = false := by rw [Int.tmod_eq_emod_of_nonneg (by omega)]; exact h2b
       have h2e : ((ts.length : Int) % 2 == 0) = true := by rw [beq_iff_eq]; omega
       obtain ⟨n, hn⟩ : ∃ n, ts.length = 2 * n := ⟨ts.length / 2, by omega⟩
       have hnl : (rowsOf ts).length = n := by rw [rowsOf_length]; omega
       have HAT : Hid (∀ j (h : j < n), pcells ((rowsOf ts).take (j + 1)) = pcells ((rowsOf ts).take j) ++ [.string ⟨(ts.getD (2 * j) []).toArray⟩, .string ⟨(ts.getD (2 * j + 1) []).toArray⟩]) := fun j h => by
        have hj : j < (rowsOf ts).length := by omega
        rw [take_snocP _ j hj, pcells_app, rowsOf_at ts j hj]; rfl
       have HNN : Hid (ts.length = 2 * n) := hn
       have HNL : Hid ((rowsOf ts).length = n) := hnl
       obtain ⟨rs, hrs⟩ : ∃ rs, rs = rowsOf ts := ⟨_, rfl⟩
       rw [← hrs] at HZ HAT HNL
       have hn1 : 1 ≤ n := by omega
       have hnb : n ≤ 1048576 := by omega
       clear HR h2 h0 hn hnl hrs
       go_enter Tryz.func50, Tryz.ntmps50
       go_wp2_with fail
       refine K.mono ?_
       rintro e w1 ⟨a1, c1, rfl, o1, b1, hc1⟩
       have I1 : Hid (IsStrs w1 a1 ts) := (strs_own o1).2.2
       have hs1 := b1.size
       clear o1 K
       go_wp2
       go_loopw [6, 7] (fun v i wr => ∃ j q c2 : Nat, ∃ a2 : Option Addr, j ≤ n ∧ Hid (q = 2 * j) ∧ i = .int .i64 (q : Int) ∧ v = .slice a2 j c2 ∧ wr.ownsRow w1.heap.size 60 2 (.slice a2 j c2) j (pcells (rs.take j)) ∧ Below w1.heap.size w1 wr) (fun _ i _ => ts.length - (intOf i).toNat)
       case atStart => exact ⟨0, 0, 0, none, Nat.zero_le _, rfl, rfl, rfl, World.ownsRow_nil _ _ _ _, Below.refl _ _⟩
       case round =>
        obtain ⟨j, q, c2, a2, hj, HQ, rfl, rfl, hown, hbel⟩ := hrel
        have hqt : Hid (ts.length = 2 * n) := HNN
        have hsz := hbel.size
        have hwb : Below w.heap.size w wr := b1.trans (hbel.mono hs1)
        by_cases hlt : j < n
        · obtain ⟨b, off, ha, d1, d2⟩ := strs_two_at (strs_later I1.out hbel) j (by have := HNN.out; omega)
          subst ha
          have hb1 : Hid (b < w1.heap.size) := by
           obtain ⟨b', off', h, d1', _⟩ := strs_two_at I1.out j (by have := HNN.out; omega)
           cases h; exact World.block_lt_of_cell? w1 _ d1'
          have hqn : q + 1 < ts.length := by have := HNN.out; have := HQ.out; omega
          have hj0 : (0 : Int) ≤ (q : Int) := by omega
          have hj1 : (q : Int) < (ts.length : Int) := by omega
          have hj2 : (q : Int) + 1 < (ts.length : Int) := by omega
          have hj3 : (0 : Int) ≤ (q : Int) + 1 := by omega
          have hj4 : ((q : Int) + 1).toNat = q + 1 := by omega
          have hqw : IntKind.i64.wrap ((q : Int) + 1) = (q : Int) + 1 := i64_wrap_small _ (by omega) (by omega)
          have hlow : ∀ k, (Value.slice a2 j c2).ownBlock = some k → w1.heap.size ≤ k := fun k hk => (hown.lt k hk).1
          have HT := HAT.out j hlt
          rw [← HQ.out] at d1 d2 HT
          obtain ⟨x, hx⟩ : ∃ x, x = ts.getD q [] := ⟨_, rfl⟩
          obtain ⟨y, hy⟩ : ∃ y, y = ts.getD (q + 1) [] := ⟨_, rfl⟩
          rw [← hx] at d1 HT
          rw [← hy] at d2 HT
          have HT2 : Hid (pcells (rs.take (j + 1)) = pcells (rs.take j) ++ [.string ⟨x.toArray⟩, .string ⟨y.toArray⟩]) := HT
          have hbb := World.block_lt_of_cell? wr _ d1
          simp only at hbb
          have Srd : Hid (wr.drew.cell? ⟨b, off + q, none⟩ = some (.string ⟨x.toArray⟩) ∧ wr.drew.cell? ⟨b, off + (q + 1), none⟩ = some (.string ⟨y.toArray⟩)) := ⟨d1, d2⟩
          have Sa : Hid ((wr.alloc (.cells #[.string ⟨x.toArray⟩, .string ⟨y.toArray⟩] 60)).drew.cell? ⟨b, off + q, none⟩ = some (.string ⟨x.toArray⟩) ∧ (wr.alloc (.cells #[.string ⟨x.toArray⟩, .string ⟨y.toArray⟩] 60)).drew.cell? ⟨b, off + (q + 1), none⟩ = some (.string ⟨y.toArray⟩)) := ⟨(World.cell?_alloc_lt wr _ ⟨b, off + q, none⟩ hbb).trans d1, (World.cell?_alloc_lt wr _ ⟨b, off + (q + 1), none⟩ hbb).trans d2⟩
          have Oa : Hid ((wr.alloc (.cells #[.string ⟨x.toArray⟩, .string ⟨y.toArray⟩] 60)).drew.ownsRow w1.heap.size 60 2 (.slice a2 j c2) j (pcells (rs.take j))) := hown.alloc _
          have Na : Hid (∀ q u, [Value.string ⟨x.toArray⟩, Value.string ⟨y.toArray⟩][q]? = some u → (wr.alloc (.cells #[.string ⟨x.toArray⟩, .string ⟨y.toArray⟩] 60)).drew.cell? ((⟨wr.heap.size, 0, none⟩ : Addr).add q) = some u) := World.news_of_block (cs := #[.string ⟨x.toArray⟩, .string ⟨y.toArray⟩]) (t := 60) (fr := (0, 0)) (heap_alloc_new wr _)
          have Ba : Hid (Below w1.heap.size w1 (wr.alloc (.cells #[.string ⟨x.toArray⟩, .string ⟨y.toArray⟩] 60)).drew) := (fun h => ⟨h.os, h.tape, h.output, h.size, h.block⟩ : Below w1.heap.size w1 (wr.alloc (.cells #[.string ⟨x.toArray⟩, .string ⟨y.toArray⟩] 60)) → Below w1.heap.size w1 (wr.alloc (.cells #[.string ⟨x.toArray⟩, .string ⟨y.toArray⟩] 60)).drew) (hbel.alloc hsz _)
          have Za : Hid (w1.heap.size ≤ (wr.alloc (.cells #[.string ⟨x.toArray⟩, .string ⟨y.toArray⟩] 60)).heap.size) := by rw [Hid]; simp; omega
          have HLO : Hid (∀ k, (Value.slice a2 j c2).ownBlock = some k → w1.heap.size ≤ k) := hlow
          have HKB : Hid ((Value.slice a2 j c2).ownBlock ≠ some b) := fun e => by have := hlow _ e; have := hb1.out; omega
          have hba : Hid (b < (wr.alloc (.cells #[.string ⟨x.toArray⟩, .string ⟨y.toArray⟩] 60)).heap.size) := by rw [Hid]; simp; omega
          clear hx hy hown hbel hwb hlow HT hqn
          go_wp2_with fail
          go_region_held3 (fun w' => w'.cell? ⟨b, off + q, none⟩ = some (.string ⟨x.toArray⟩) ∧ w'.cell? ⟨b, off + (q + 1), none⟩ = some (.string ⟨y.toArray⟩))
           (first | with_reducible exact S4.out | with_reducible exact Sa.out | with_reducible exact Srd.out)
           ((refine step_append_lies _ rfl (.tmp 32) (.tmp 43) 35 rfl w1.heap.size 60 i0 (.agg #[.string ⟨#[]⟩, .string ⟨#[]⟩]) 2 32 Tryz.underlying35 hi0 hz0 hz1 hz2 rfl (by decide) (.slice a2 j c2) j (pcells (rs.take j)) (by simp [Act.eval]) Oa.out ⟨wr.heap.size, 0, none⟩ 1 1 [.string ⟨x.toArray⟩, .string ⟨y.toArray⟩] (by simp [Act.eval]) rfl Na.out (by simp [Value.oneCell']) (by decide) (by unfold maxLen; omega) (by omega) Za.out _ rfl ?_
             intro g2 c4 w4 hown4 hgrow4 hat4 hlt4
             have HO4 : Hid (w4.ownsRow w1.heap.size 60 2 (.slice (some ⟨g2, 0, none⟩) (j + 1) c4) (j + 1) (pcells (rs.take (j + 1)))) := by rw [Hid, HT2.out]; exact hown4
             have B4 : Hid (Below w1.heap.size w1 w4) := Ba.out.grown hgrow4 Za.out HLO.out
             have S4 : Hid (w4.cell? ⟨b, off + q, none⟩ = some (.string ⟨x.toArray⟩) ∧ w4.cell? ⟨b, off + (q + 1), none⟩ = some (.string ⟨y.toArray⟩)) := ⟨(hgrow4.cell_far ⟨b, off + q, none⟩ hba.out HKB.out.symm).trans Sa.out.1, (hgrow4.cell_far ⟨b, off + (q + 1), none⟩ hba.out HKB.out.symm).trans Sa.out.2⟩
             clear hown4 hgrow4 hat4 hlt4))
          all_goals
           clear Sa Oa Na Ba Srd
           go_wp2
           go_roundw
           case rel => exact ⟨j + 1, q + 2, c4, some ⟨g2, 0, none⟩, by omega, by rw [Hid]; have := HQ.out; omega, by go_num, rfl, HO4.out, B4.out⟩
           case measure => simp [intOf]; omega
        · have hjl : j = n := by omega
          subst hjl
          have hqe : q = ts.length := by have := HNN.out; have := HQ.out; omega
          subst hqe
          rw [List.take_of_length_le (by have := HNL.out; omega)] at hown
          have HW := hidOwn hown
          clear hown
          go_wp2
          go_ret2
          rw [HZ.out]
          rcases own_cases2 HW.out with ⟨h1, h2, _⟩ | ⟨g, cap, h1, _⟩
          · omega
          · cases h1
            have hw2 := HW.out.mono hs1
            have hnl := HNL.out
            subst hnl
            exact ⟨g, c2, rfl, hw2, hwb⟩
end Go.Proofs.YthnddgdnialogaaGreatDoor
