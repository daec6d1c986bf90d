/-
  The digest's words, as the model lays them.
-/
import Derived.Test.YtddjpfgkjijmoaaDoorMathSum
namespace Go.Proofs.YtddjpfgkjijmoaaDoor
open Go.RowKit
set_option linter.unusedVariables false

theorem getD_app_left (a b : List UInt32) (i : Nat) (h : i < a.length) : (a ++ b).getD i 0 = a.getD i 0 := by
  simp [List.getD, List.getElem?_append_left h]

theorem sch_more (m : List UInt32) (k i : Nat) (h : i < m.length + k) : (sch m (k + 1)).getD i 0 = (sch m k).getD i 0 := by
  rw [sch]; exact getD_app_left _ _ _ (by rw [sch_length]; exact h)

theorem sch_low (m : List UInt32) (k i : Nat) (h : i < m.length) : (sch m k).getD i 0 = m.getD i 0 := by
  induction k with
  | zero => rfl
  | succ k ih => rw [sch_more m k i (by omega), ih]

theorem sch_rec (m : List UInt32) (k n : Nat) (hm : m.length = 16) (h1 : 16 ≤ n) (h2 : n < 16 + k) :
    (sch m k).getD n 0 = ad (ad (ad ((sch m k).getD (n - 16) 0) (s0 ((sch m k).getD (n - 15) 0))) ((sch m k).getD (n - 7) 0)) (s1 ((sch m k).getD (n - 2) 0)) := by
  induction k with
  | zero => omega
  | succ k ih =>
    by_cases h : n < 16 + k
    · rw [sch_more m k n (by omega), sch_more m k (n - 16) (by omega), sch_more m k (n - 15) (by omega), sch_more m k (n - 7) (by omega), sch_more m k (n - 2) (by omega)]
      exact ih h
    · have hn : n = 16 + k := by omega
      rw [sch_more m k (n - 16) (by omega), sch_more m k (n - 15) (by omega), sch_more m k (n - 7) (by omega), sch_more m k (n - 2) (by omega)]
      have hl : (sch m k).length = n := by rw [sch_length]; omega
      have e1 : (sch m (k + 1)).getD n 0 = nxt (sch m k) := by
        rw [sch, List.getD, List.getElem?_append_right (by omega)]
        simp [hl]
      rw [e1, nxt, hl]

theorem ad_comm (a b : UInt32) : ad a b = ad b a := by unfold ad; exact UInt32.add_comm a b
theorem ad_assoc (a b c : UInt32) : ad (ad a b) c = ad a (ad b c) := by unfold ad; exact UInt32.add_assoc a b c
/-- The model's order of the four. -/
theorem ad_four (p x q y : UInt32) : ad (ad (ad y q) x) p = ad (ad (ad p x) q) y := by
  rw [ad_comm (ad (ad y q) x) p, ad_comm (ad y q) x, ← ad_assoc, ad_comm y q, ← ad_assoc]

theorem take_more (F : List UInt32) (n : Nat) (h : n < F.length) : (part (F.take n) F.length).set n (F.getD n 0) = part (F.take (n + 1)) F.length := by
  have hl : (F.take n).length = n := by rw [List.length_take]; omega
  have := part_set (F.take n) F.length (F.getD n 0) (by omega)
  rw [hl] at this
  rw [this, List.take_succ_eq_append_getElem h]
  simp [List.getD, h]

theorem take_getD (F : List UInt32) (n i : Nat) (h : i < n) (hn : n ≤ F.length) : (F.take n).getD i 0 = F.getD i 0 := by
  simp [List.getD, h]

theorem take_known {w : World} {b t : Nat} {F : List UInt32} {n : Nat} (h : Arr w b t (part (F.take n) F.length)) (i : Nat) (hi : i < n) (hn : n ≤ F.length) : w.cell? ⟨b, i, none⟩ = some (.int .u32 (num (F.getD i 0))) := by
  have hl : (F.take n).length = n := by rw [List.length_take]; omega
  rw [arr_known h i (by omega) (by omega), take_getD F n i hi hn]

/-- Four bytes as a word: the model's way. -/
def w4 (a b c d : UInt8) : UInt32 := UInt32.ofNat (a.toNat * 16777216 + b.toNat * 65536 + c.toNat * 256 + d.toNat)

theorem ap_num (x : UInt32) (b : UInt8) (h : x.toNat < 16777216) : (ap x b).toNat = x.toNat * 256 + b.toNat := by
  have hb := b.toNat_lt
  have e : x.toNat * 256 % 4294967296 = x.toNat * 256 := Nat.mod_eq_of_lt (by omega)
  rw [ap, e, nat_join 8 (x.toNat * 256) b.toNat (by omega) (by omega), UInt32.toNat_ofNat']
  exact Nat.mod_eq_of_lt (by omega)

theorem fold_w4 (a b c d : UInt8) : [a, b, c, d].foldl ap 0 = w4 a b c d := by
  have ha := a.toNat_lt
  have hb := b.toNat_lt
  have hc := c.toNat_lt
  have hd := d.toNat_lt
  simp only [List.foldl]
  have z : (0 : UInt32).toNat = 0 := rfl
  have h1 : (ap 0 a).toNat = a.toNat := by rw [ap_num 0 a (by rw [z]; omega), z]; omega
  have h2 : (ap (ap 0 a) b).toNat = a.toNat * 256 + b.toNat := by rw [ap_num _ b (by rw [h1]; omega), h1]
  have h3 : (ap (ap (ap 0 a) b) c).toNat = (a.toNat * 256 + b.toNat) * 256 + c.toNat := by rw [ap_num _ c (by rw [h2]; omega), h2]
  have h4 : (ap (ap (ap (ap 0 a) b) c) d).toNat = ((a.toNat * 256 + b.toNat) * 256 + c.toNat) * 256 + d.toNat := by rw [ap_num _ d (by rw [h3]; omega), h3]
  apply UInt32.toNat_inj.1
  rw [h4, w4, UInt32.toNat_ofNat', Nat.mod_eq_of_lt (by omega)]
  omega

theorem e_w4 (a b c d : UInt8) : bits .or .u32 (bits .or .u32 (bits .or .u32 ((a.toNat : Int) * 16777216) ((b.toNat : Int) * 65536)) ((c.toNat : Int) * 256)) (d.toNat : Int) = num (w4 a b c d) := by
  have ha := a.toNat_lt
  have hb := b.toNat_lt
  have hc := c.toNat_lt
  have hd := d.toNat_lt
  have e1 : bits .or .u32 ((a.toNat : Int) * 16777216) ((b.toNat : Int) * 65536) = ((a.toNat * 16777216 + b.toNat * 65536 : Nat) : Int) := by
    have := u32_or_nat (a.toNat * 16777216) (b.toNat * 65536) (by omega) (by omega)
    rw [nat_join 24 (a.toNat * 16777216) (b.toNat * 65536) (by omega) (by omega)] at this
    rw [← this]; congr 1 <;> omega
  have e2 : bits .or .u32 ((a.toNat * 16777216 + b.toNat * 65536 : Nat) : Int) ((c.toNat : Int) * 256) = ((a.toNat * 16777216 + b.toNat * 65536 + c.toNat * 256 : Nat) : Int) := by
    have := u32_or_nat (a.toNat * 16777216 + b.toNat * 65536) (c.toNat * 256) (by omega) (by omega)
    rw [nat_join 16 (a.toNat * 16777216 + b.toNat * 65536) (c.toNat * 256) (by omega) (by omega)] at this
    rw [← this]; congr 1
  have e3 : bits .or .u32 ((a.toNat * 16777216 + b.toNat * 65536 + c.toNat * 256 : Nat) : Int) (d.toNat : Int) = ((a.toNat * 16777216 + b.toNat * 65536 + c.toNat * 256 + d.toNat : Nat) : Int) := by
    have := u32_or_nat (a.toNat * 16777216 + b.toNat * 65536 + c.toNat * 256) d.toNat (by omega) (by omega)
    rw [nat_join 8 (a.toNat * 16777216 + b.toNat * 65536 + c.toNat * 256) d.toNat (by omega) (by omega)] at this
    exact this
  rw [e1, e2, e3, w4, num_of _ (by omega)]

theorem bl_at (l : List UInt8) (hl : l.length = 64) (t : Nat) (h : t < 16) : (bl l).getD t 0 = w4 (l.getD (4 * t) 0) (l.getD (4 * t + 1) 0) (l.getD (4 * t + 2) 0) (l.getD (4 * t + 3) 0) := by
  rw [← fold_w4]
  have e1 : (bl l).getD t 0 = bw l 64 t := by simp [bl, bws, List.getD, h]
  rw [e1, bw]
  congr 1
  rw [List.take_of_length_le (l := l) (by omega)]
  apply List.ext_getElem?
  intro i
  simp only [List.getElem?_take, List.getElem?_drop]
  match i with
  | 0 => simp [List.getD, show 4 * t < l.length by omega]
  | 1 => simp [List.getD, show 4 * t + 1 < l.length by omega]
  | 2 => simp [List.getD, show 4 * t + 2 < l.length by omega]
  | 3 => simp [List.getD, show 4 * t + 3 < l.length by omega]
  | i + 4 => simp; omega
end Go.Proofs.YtddjpfgkjijmoaaDoor
