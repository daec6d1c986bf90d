/-
  Contracts: the program's text of a right node, and its NodeText.
-/
import Derived.Test.YtjlkeoocddianaaDoorINode
import Derived.Test.YtjlkeoocddianaaDoorHexP
import Derived.Test.YtjlkeoocddianaaDoorIL1
import Derived.Deep.AppendLies
import Derived.Deep.RegionHeld3
namespace Go.Proofs.YtjlkeoocddianaaDoor
open Go.RowKit
set_option linter.unusedVariables false

theorem hexp_at (l : List UInt8) (leaf : Bool) (w : World) (hl : l.length ≤ 24) (hn : isNibs l = true) :
    Calls Tryd.prog 83 #[.string ⟨l.toArray⟩, .bool leaf] w fun e w' => e = .returned (.tuple #[.string ⟨(pack (withFlag l leaf)).toArray⟩, .bool true]) ∧ Below w.heap.size w w' := by
  have h := impl_hexPrefix ⟨l.toArray⟩ leaf w (by simp [ByteArray.size]; omega)
  have e1 : (ByteArray.mk l.toArray).data.toList = l := by simp
  have e2 : hexPre l leaf = pack (withFlag l leaf) := if_pos ⟨by omega, hn⟩
  have e3 : hexOk l = true := by rw [hexOk, decide_eq_true (by omega), hn]; rfl
  rw [e1, e2, e3] at h
  exact h
theorem quad_cells {w : World} {b : Nat} {u v x y : Value} {t : TypeId} (h : w.heap[b]? = some (.cells #[u, v, x, y] t (0, 0))) :
    w.cell? ⟨b, 0, none⟩ = some u ∧ w.cell? ⟨b, 1, none⟩ = some v ∧ w.cell? ⟨b, 2, none⟩ = some x ∧ w.cell? ⟨b, 3, none⟩ = some y ∧ ∀ j, w.frozen? ⟨b, j, none⟩ = false := by
  refine ⟨?_, ?_, ?_, ?_, fun j => frozen_of_row w b j _ t h⟩ <;> simp only [World.cell?, h] <;> rfl
theorem pack_flag_le (l : List UInt8) (leaf : Bool) : (pack (withFlag l leaf)).length ≤ l.length + 2 := by
  have h := pack_le (withFlag l leaf)
  have h2 : (withFlag l leaf).length ≤ l.length + 2 := by unfold withFlag; split <;> simp
  omega
theorem strs_two (w : World) (x y : List UInt8) (t : TypeId) : IsStrs (w.alloc (.cells #[.string ⟨x.toArray⟩, .string ⟨y.toArray⟩] t)) (some ⟨w.heap.size, 0, none⟩) [x, y] := by
  refine .inr ⟨w.heap.size, 0, rfl, fun j hj => ?_⟩
  have h := heap_alloc_new w (.cells #[.string ⟨x.toArray⟩, .string ⟨y.toArray⟩] t)
  have hj' : j = 0 ∨ j = 1 := by simp at hj; omega
  rcases hj' with rfl | rfl <;> simp only [World.cell?, h] <;> rfl

set_option maxRecDepth 100000 in
set_option maxHeartbeats 1000000 in
theorem impl_text1 (p : List UInt8) (a : Option Addr) (cap n : Nat) (v : List UInt8) (w : World) (hp : p.length ≤ 24) (hn : isNibs p = true) (hv : v.length ≤ 60) :
    Calls Tryd.prog 71 #[.agg #[.int .i64 1, .string ⟨p.toArray⟩, .slice a n cap, .string ⟨v.toArray⟩]] w fun e w' => e = .returned (.string ⟨(listB [pack (withFlag p true), v]).toArray⟩) ∧ Below w.heap.size w w' := by
  have K1 := hexp_at p true (w.alloc (.cells #[.int .i64 1, .string ⟨p.toArray⟩, .slice a n cap, .string ⟨v.toArray⟩] 48)) hp hn
  have HB0 : Hid ((w.alloc (.cells #[.int .i64 1, .string ⟨p.toArray⟩, .slice a n cap, .string ⟨v.toArray⟩] 48)).heap[w.heap.size]? = some (.cells #[.int .i64 1, .string ⟨p.toArray⟩, .slice a n cap, .string ⟨v.toArray⟩] 48 (0, 0)) ∧ Below w.heap.size w (w.alloc (.cells #[.int .i64 1, .string ⟨p.toArray⟩, .slice a n cap, .string ⟨v.toArray⟩] 48)) ∧ w.heap.size < (w.alloc (.cells #[.int .i64 1, .string ⟨p.toArray⟩, .slice a n cap, .string ⟨v.toArray⟩] 48)).heap.size) := ⟨heap_alloc_new w _, (Below.refl _ _).alloc (Nat.le_refl _) _, by simp⟩
  have hxl := pack_flag_le p true
  obtain ⟨x, hx⟩ : ∃ x, x = pack (withFlag p true) := ⟨_, rfl⟩
  rw [← hx] at K1 hxl ⊢
  have HF : Hid ([x, v].flatten.length ≤ 30000) := by rw [Hid]; simp; omega
  obtain ⟨out, hout⟩ : ∃ out, listB [x, v] = out := ⟨_, rfl⟩
  have HOU : Hid (listB [x, v] = out) := hout
  rw [hout]
  clear hout
  clear hx
  go_enter Tryd.func71, Tryd.ntmps71
  go_wp2_with fail
  refine K1.mono ?_
  rintro e w1 ⟨rfl, b1⟩
  have B1 := HB0.out.2.1.trans (b1.mono HB0.out.2.1.size)
  obtain ⟨q0, q1, q2, q3, _⟩ := quad_cells ((b1.block _ HB0.out.2.2).trans HB0.out.1)
  have K2 := impl_listOfTexts (some ⟨w1.heap.size, 0, none⟩) 2 [x, v] (w1.alloc (.cells #[.string ⟨x.toArray⟩, .string ⟨v.toArray⟩] 9)) HF.out (by simp) (strs_two w1 x v 9)
  rw [HOU.out] at K2
  clear K1 b1
  go_wp2_with fail
  refine K2.mono ?_
  rintro e w2 ⟨rfl, b2⟩
  have B2 := (B1.alloc B1.size (.cells #[.string ⟨x.toArray⟩, .string ⟨v.toArray⟩] 9)).trans (b2.mono (by simp; have := B1.size; omega))
  go_wp2
  go_ret
  exact ⟨rfl, B2⟩

set_option maxRecDepth 100000 in
set_option maxHeartbeats 1000000 in
theorem impl_text2 (p : List UInt8) (b off cap : Nat) (y v : List UInt8) (w : World) (hp : p.length ≤ 24) (hn : isNibs p = true) (hy : y.length = 32) (hc : w.cell? ⟨b, off, none⟩ = some (.string ⟨y.toArray⟩)) :
    Calls Tryd.prog 71 #[.agg #[.int .i64 2, .string ⟨p.toArray⟩, .slice (some ⟨b, off, none⟩) 1 cap, .string ⟨v.toArray⟩]] w fun e w' => e = .returned (.string ⟨(listB [pack (withFlag p false), y]).toArray⟩) ∧ Below w.heap.size w w' := by
  have K1 := hexp_at p false (w.alloc (.cells #[.int .i64 2, .string ⟨p.toArray⟩, .slice (some ⟨b, off, none⟩) 1 cap, .string ⟨v.toArray⟩] 48)) hp hn
  have HB0 : Hid ((w.alloc (.cells #[.int .i64 2, .string ⟨p.toArray⟩, .slice (some ⟨b, off, none⟩) 1 cap, .string ⟨v.toArray⟩] 48)).heap[w.heap.size]? = some (.cells #[.int .i64 2, .string ⟨p.toArray⟩, .slice (some ⟨b, off, none⟩) 1 cap, .string ⟨v.toArray⟩] 48 (0, 0)) ∧ Below w.heap.size w (w.alloc (.cells #[.int .i64 2, .string ⟨p.toArray⟩, .slice (some ⟨b, off, none⟩) 1 cap, .string ⟨v.toArray⟩] 48)) ∧ w.heap.size < (w.alloc (.cells #[.int .i64 2, .string ⟨p.toArray⟩, .slice (some ⟨b, off, none⟩) 1 cap, .string ⟨v.toArray⟩] 48)).heap.size) := ⟨heap_alloc_new w _, (Below.refl _ _).alloc (Nat.le_refl _) _, by simp⟩
  have hxl := pack_flag_le p false
  obtain ⟨x, hx⟩ : ∃ x, x = pack (withFlag p false) := ⟨_, rfl⟩
  rw [← hx] at K1 hxl ⊢
  have HF : Hid ([x, y].flatten.length ≤ 30000) := by rw [Hid]; simp; omega
  obtain ⟨out, hout⟩ : ∃ out, listB [x, y] = out := ⟨_, rfl⟩
  have HOU : Hid (listB [x, y] = out) := hout
  rw [hout]
  clear hout
  have HC : Hid (w.cell? ⟨b, off, none⟩ = some (.string ⟨y.toArray⟩)) := hc
  clear hx hc hy
  go_enter Tryd.func71, Tryd.ntmps71
  go_wp2_with fail
  refine K1.mono ?_
  rintro e w1 ⟨rfl, b1⟩
  have B1 := HB0.out.2.1.trans (b1.mono HB0.out.2.1.size)
  obtain ⟨q0, q1, q2, q3, _⟩ := quad_cells ((b1.block _ HB0.out.2.2).trans HB0.out.1)
  have c1 := (B1.cell (p := ⟨b, off, none⟩) (World.block_lt_of_cell? w _ HC.out)).trans HC.out
  have K2 := impl_listOfTexts (some ⟨w1.heap.size, 0, none⟩) 2 [x, y] (w1.alloc (.cells #[.string ⟨x.toArray⟩, .string ⟨y.toArray⟩] 9)) HF.out (by simp) (strs_two w1 x y 9)
  rw [HOU.out] at K2
  clear K1 b1
  go_wp2_with fail
  refine K2.mono ?_
  rintro e w2 ⟨rfl, b2⟩
  have B2 := (B1.alloc B1.size (.cells #[.string ⟨x.toArray⟩, .string ⟨y.toArray⟩] 9)).trans (b2.mono (by simp; have := B1.size; omega))
  go_wp2
  go_ret
  exact ⟨rfl, B2⟩

theorem strs_flat {w : World} {b off : Nat} {qs : List (List UInt8)} (h : IsStrs w (some ⟨b, off, none⟩) qs) : ∀ j u, (scells qs)[j]? = some u → w.cell? ((⟨b, off, none⟩ : Addr).add j) = some u := by
  intro j u hu
  have hj : j < qs.length := by have := (List.getElem?_eq_some_iff.1 hu).1; rwa [scells_length] at this
  rcases h with rfl | ⟨b', off', he, hc⟩
  · simp at hj
  · cases he
    have e1 : (⟨b, off, none⟩ : Addr).add j = ⟨b, off + j, none⟩ := by simp [Addr.add]
    rw [scells_at qs j hj] at hu
    cases hu
    rw [e1]; exact hc j hj
theorem scells_one (qs : List (List UInt8)) : ∀ u ∈ scells qs, u.oneCell' = true := by
  intro u hu
  simp only [scells, List.mem_map] at hu
  obtain ⟨l, _, rfl⟩ := hu
  rfl

set_option maxHeartbeats 1000000 in
set_option maxRecDepth 100000 in
theorem cloneS_any (b off cap : Nat) (qs : List (List UInt8)) (w : World) (hl : qs.length ≤ 1000) (hs : IsStrs w (some ⟨b, off, none⟩) qs) :
    Calls Tryd.prog 68 #[.slice (some ⟨b, off, none⟩) qs.length cap] w fun e w' => ∃ (a : Option Addr) (m c : Nat), e = .returned (.slice a m c) ∧ w'.ownsRow w.heap.size 9 1 (.slice a m c) qs.length (scells qs) ∧ Below w.heap.size w w' := by
  obtain ⟨i0, hi0, hz0, hz1, hz2⟩ := info_parts info9i
  have B0 : Below w.heap.size w (w.alloc (.cells #[] 9)) := (Below.refl _ _).alloc (Nat.le_refl _) _
  have HF : Hid (∀ j u, (scells qs)[j]? = some u → (w.alloc (.cells #[] 9)).cell? ((⟨b, off, none⟩ : Addr).add j) = some u) := strs_flat (strs_later hs B0)
  have o0 := World.ownsRow_lit (e := 9) (size := 1) w #[] 0 (base := w.heap.size) (Nat.le_refl _) (Nat.zero_le _) rfl
  have HO0 := hidOwn o0
  have hnil : ∀ W, (binOp .eql 46 (.slice (some ⟨b, off, none⟩) qs.length cap) (.slice none 0 0)).run Tryd.prog W = .ok (.bool false) W := fun W => by first | rfl | (simp [binOp, Op.equal, run_underlying Tryd.underlying46])
  clear hs o0
  go_enter Tryd.func68, Tryd.ntmps68
  go_wp2_with (at_builtin; refine wpList_append_own _ rfl _ _ 46 rfl w.heap.size 9 i0 (.string ⟨#[]⟩) 1 16 Tryd.underlying46 hi0 hz0 hz1 hz2 rfl (by decide) (.slice (some ⟨w.heap.size, 0, none⟩) 0 0) 0 _ rfl HO0.out ⟨b, off, none⟩ qs.length cap (scells qs) rfl (by rw [scells_length, Nat.mul_one]) HF.out (scells_one qs) (by unfold maxLen; omega) (by omega) (by simp <;> omega) ?_; intro v3 w3 hown3 hgrow3 hnil3; obtain ⟨a3, m3, c3, rfl⟩ := own_slice hown3)
  have B3 : Below w.heap.size w w3 := B0.grown hgrow3 (by simp) (fun k hk => by simp [Value.ownBlock] at hk; omega)
  have HO3 : Hid (w3.ownsRow w.heap.size 9 1 (.slice a3 m3 c3) qs.length (scells qs)) := by rw [Hid]; simpa using hown3
  clear hown3 hgrow3 hnil3
  go_wp2
  go_ret
  exact ⟨a3, m3, c3, rfl, HO3.out, B3⟩
end Go.Proofs.YtjlkeoocddianaaDoor
