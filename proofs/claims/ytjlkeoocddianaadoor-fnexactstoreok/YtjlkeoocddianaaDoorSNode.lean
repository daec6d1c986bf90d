/-
  Contract: the model's NodeText (written by mksnode.py).
-/
import Derived.Test.YtjlkeoocddianaaDoorITextA
import Derived.Test.YtjlkeoocddianaaDoorSL1
namespace Go.Proofs.YtjlkeoocddianaaDoor
open Go.RowKit
set_option linter.unusedVariables false

theorem l1nib_at (l : List UInt8) (w : World) (hl : l.length ≤ 1048576) :
    Calls Tryd.prog 54 #[.string ⟨l.toArray⟩] w fun e w' => e = .returned (.bool (isNibs l)) ∧ w' = w := by
  have h := spec_l1Nibbles ⟨l.toArray⟩ w (by simp [ByteArray.size]; omega)
  have e1 : (ByteArray.mk l.toArray).data.toList = l := by simp
  rw [e1] at h
  exact h
theorem l1pre_at (l : List UInt8) (leaf : Bool) (w : World) (hl : l.length ≤ 24) :
    Calls Tryd.prog 56 #[.string ⟨l.toArray⟩, .bool leaf] w fun e w' => e = .returned (.string ⟨(pack (withFlag l leaf)).toArray⟩) ∧ Below w.heap.size w w' := by
  have h := spec_l1Prefix ⟨l.toArray⟩ leaf w (by simp [ByteArray.size]; omega)
  have e1 : (ByteArray.mk l.toArray).data.toList = l := by simp
  rw [e1] at h
  exact h
set_option maxRecDepth 100000 in
theorem l6Hash_at (x : List UInt8) (r : Bool) (w : World) (hx : x.length ≤ 1048576) (hr : r = decide (x.length = 32)) :
    Calls Tryd.prog 57 #[.string ⟨x.toArray⟩] w fun e w' => e = .returned (.bool r) ∧ w' = w := by
  by_cases h : x.length = 32
  · have h' : ((x.length : Int) == 32) = true := by rw [beq_iff_eq]; omega
    have e : r = true := by rw [hr]; exact decide_eq_true h
    subst e
    clear hr h
    go_enter Tryd.func57, Tryd.ntmps57
    go_wp2
    go_ret
    exact ⟨rfl, rfl⟩
  · have h' : ((x.length : Int) == 32) = false := by rw [beq_eq_false_iff_ne]; omega
    have e : r = false := by rw [hr]; exact decide_eq_false h
    subst e
    clear hr h
    go_enter Tryd.func57, Tryd.ntmps57
    go_wp2
    go_ret
    exact ⟨rfl, rfl⟩

theorem own_two (w : World) (x y : List UInt8) (base : Nat) (hb : base ≤ w.heap.size) : (w.alloc (.cells #[.string ⟨x.toArray⟩, .string ⟨y.toArray⟩] 9)).ownsRow base 9 1 (.slice (some ⟨w.heap.size, 0, none⟩) 2 2) 2 (scells [x, y]) :=
  World.ownsRow_lit w #[_, _] 2 hb (by decide) rfl

set_option maxRecDepth 100000 in
set_option maxHeartbeats 2000000 in
theorem spec_text1 (p : List UInt8) (a : Option Addr) (cap n : Nat) (v : List UInt8) (w : World) (hp : p.length ≤ 24) (hn : isNibs p = true) (hv : v.length ≤ 60) (hve : v.isEmpty = false) (hn0 : n = 0) :
    Calls Tryd.prog 40 #[.agg #[.int .i64 1, .string ⟨p.toArray⟩, .slice a n cap, .string ⟨v.toArray⟩]] w fun e w' => e = .returned (.tuple #[.string ⟨(listB [pack (withFlag p true), v]).toArray⟩, .bool true]) ∧ Below w.heap.size w w' := by
  subst hn0
  have B0 : Below w.heap.size w (w.alloc (.cells #[.int .i64 1, .string ⟨p.toArray⟩, .slice a 0 cap, .string ⟨v.toArray⟩] 48)) := (Below.refl _ _).alloc (Nat.le_refl _) _
  have HQ : Hid ((w.alloc (.cells #[.int .i64 1, .string ⟨p.toArray⟩, .slice a 0 cap, .string ⟨v.toArray⟩] 48)).heap[w.heap.size]? = some (.cells #[.int .i64 1, .string ⟨p.toArray⟩, .slice a 0 cap, .string ⟨v.toArray⟩] 48 (0, 0))) := heap_alloc_new w _
  obtain ⟨wx, hwx⟩ : ∃ wx, wx = w.alloc (.cells #[.int .i64 1, .string ⟨p.toArray⟩, .slice a 0 cap, .string ⟨v.toArray⟩] 48) := ⟨_, rfl⟩
  have hsx : wx.heap.size = w.heap.size + 1 := by rw [hwx]; simp
  have KN := l1nib_at p (w.alloc (.cells #[.int .i64 1, .string ⟨p.toArray⟩, .slice a 0 cap, .string ⟨v.toArray⟩] 48)) (by omega)
  rw [hn] at KN
  have HWX : Hid (w.alloc (.cells #[.int .i64 1, .string ⟨p.toArray⟩, .slice a 0 cap, .string ⟨v.toArray⟩] 48) = wx) := hwx.symm
  rw [← hwx] at HQ B0
  have BX : Hid (Below w.heap.size w wx) := B0
  have HSX : Hid (wx.heap.size = w.heap.size + 1) := hsx
  have KP := l1pre_at p true wx.drew hp
  have hxl := pack_flag_le p true
  obtain ⟨x, hx⟩ : ∃ x, x = pack (withFlag p true) := ⟨_, rfl⟩
  rw [← hx] at KP hxl ⊢
  have HKL : Hid (∀ W g, W.ownsRow (w.heap.size + 1) 9 1 (.slice (some ⟨g, 0, none⟩) 2 2) 2 (scells [x, v]) → Calls Tryd.prog 55 #[.slice (some ⟨g, 0, none⟩) 2 2] W fun e w' => e = .returned (.string ⟨(listB [x, v]).toArray⟩) ∧ Below W.heap.size W w') := fun W g ho => spec_l1List g 2 [x, v] _ W (by simp; omega) (by simp) ho
  obtain ⟨out, hout⟩ : ∃ out, listB [x, v] = out := ⟨_, rfl⟩
  rw [hout] at HKL ⊢
  have hp' : (p.length : Int) ≤ 24 := by omega
  have hpd : decide ((24 : Int) < (p.length : Int)) = false := decide_eq_false (by omega)
  have hv' : (v.length : Int) ≤ 60 := by omega
  have hvd : decide ((60 : Int) < (v.length : Int)) = false := decide_eq_false (by omega)
  clear hwx hx hout B0 hsx
  go_enter Tryd.func40, Tryd.ntmps40
  go_wp2_with fail
  refine KN.mono ?_
  rintro e w1 ⟨rfl, rfl⟩
  go_wp2_with fail
  rw [HWX.out]
  have SX : Hid (wx.cell? ⟨w.heap.size, 1, none⟩ = some (.string ⟨p.toArray⟩) ∧ wx.cell? ⟨w.heap.size, 3, none⟩ = some (.string ⟨v.toArray⟩)) := ⟨(quad_cells HQ.out).2.1, (quad_cells HQ.out).2.2.2.1⟩
  go_region_held3 (fun w' => w'.cell? ⟨w.heap.size, 1, none⟩ = some (.string ⟨p.toArray⟩) ∧ w'.cell? ⟨w.heap.size, 3, none⟩ = some (.string ⟨v.toArray⟩))
    (first | exact S2.out | exact S1a.out | exact S1.out | exact SX.out)
    (first
      | (go_at_call 55
         with_reducible refine (HKL.out _ _ O1.out).mono ?_
         rintro e w2 ⟨rfl, b2⟩
         have B2 : Hid (Below w.heap.size w w2) := B1a.out.trans (b2.mono B1a.out.size)
         have q2' := quad_cells ((b2.block w.heap.size L1a.out).trans Q1a.out)
         have S2 : Hid (w2.cell? ⟨w.heap.size, 1, none⟩ = some (.string ⟨p.toArray⟩) ∧ w2.cell? ⟨w.heap.size, 3, none⟩ = some (.string ⟨v.toArray⟩)) := ⟨q2'.2.1, q2'.2.2.2.1⟩
         clear q2' b2)
      | (go_at_call 56
         with_reducible refine KP.mono ?_
         rintro e w1 ⟨rfl, b1'⟩
         have b1 : Below wx.heap.size wx w1 := below_undrew b1'
         have B1 : Hid (Below w.heap.size w w1) := BX.out.trans (b1.mono BX.out.size)
         have Q1 : Hid (w1.heap[w.heap.size]? = _) := (b1.block w.heap.size (by have := HSX.out; omega)).trans HQ.out
         have q1' := quad_cells Q1.out
         have S1 : Hid (w1.cell? ⟨w.heap.size, 1, none⟩ = some (.string ⟨p.toArray⟩) ∧ w1.cell? ⟨w.heap.size, 3, none⟩ = some (.string ⟨v.toArray⟩)) := ⟨q1'.2.1, q1'.2.2.2.1⟩
         have Z1 : Hid (w.heap.size + 1 ≤ w1.heap.size) := Nat.le_trans (by have := HSX.out; omega) b1.size
         have Q1a : Hid ((w1.alloc (.cells #[.string ⟨x.toArray⟩, .string ⟨v.toArray⟩] 9)).heap[w.heap.size]? = _) := (Below.heap_alloc w1 (.cells #[.string ⟨x.toArray⟩, .string ⟨v.toArray⟩] 9) w.heap.size (by have := Z1.out; omega)).trans Q1.out
         have L1a : Hid (w.heap.size < (w1.alloc (.cells #[.string ⟨x.toArray⟩, .string ⟨v.toArray⟩] 9)).heap.size) := (by rw [Hid]; simp; have := Z1.out; omega)
         have B1a : Hid (Below w.heap.size w (w1.alloc (.cells #[.string ⟨x.toArray⟩, .string ⟨v.toArray⟩] 9))) := B1.out.alloc B1.out.size _
         have q1a := quad_cells Q1a.out
         have S1a : Hid ((w1.alloc (.cells #[.string ⟨x.toArray⟩, .string ⟨v.toArray⟩] 9)).cell? ⟨w.heap.size, 1, none⟩ = some (.string ⟨p.toArray⟩) ∧ (w1.alloc (.cells #[.string ⟨x.toArray⟩, .string ⟨v.toArray⟩] 9)).cell? ⟨w.heap.size, 3, none⟩ = some (.string ⟨v.toArray⟩)) := ⟨q1a.2.1, q1a.2.2.2.1⟩
         have O1 := hidOwn (own_two w1 x v (w.heap.size + 1) Z1.out)
         clear q1' q1a b1 b1'))
  all_goals
    go_wp2
    go_ret2
    exact ⟨rfl, B2.out⟩

set_option maxRecDepth 100000 in
set_option maxHeartbeats 2000000 in
theorem spec_text2 (p : List UInt8) (b off cap : Nat) (y v : List UInt8) (w : World) (hp : p.length ≤ 24) (hn : isNibs p = true) (hv : v.length ≤ 60) (hy : y.length = 32) (hpe : p.isEmpty = false) (hve : v.isEmpty = true) (hc : w.cell? ⟨b, off, none⟩ = some (.string ⟨y.toArray⟩)) :
    Calls Tryd.prog 40 #[.agg #[.int .i64 2, .string ⟨p.toArray⟩, .slice (some ⟨b, off, none⟩) 1 cap, .string ⟨v.toArray⟩]] w fun e w' => e = .returned (.tuple #[.string ⟨(listB [pack (withFlag p false), y]).toArray⟩, .bool true]) ∧ Below w.heap.size w w' := by
  have HC : Hid (w.cell? ⟨b, off, none⟩ = some (.string ⟨y.toArray⟩)) := hc
  have B0 : Below w.heap.size w (w.alloc (.cells #[.int .i64 2, .string ⟨p.toArray⟩, .slice (some ⟨b, off, none⟩) 1 cap, .string ⟨v.toArray⟩] 48)) := (Below.refl _ _).alloc (Nat.le_refl _) _
  have HQ : Hid ((w.alloc (.cells #[.int .i64 2, .string ⟨p.toArray⟩, .slice (some ⟨b, off, none⟩) 1 cap, .string ⟨v.toArray⟩] 48)).heap[w.heap.size]? = some (.cells #[.int .i64 2, .string ⟨p.toArray⟩, .slice (some ⟨b, off, none⟩) 1 cap, .string ⟨v.toArray⟩] 48 (0, 0))) := heap_alloc_new w _
  obtain ⟨wx, hwx⟩ : ∃ wx, wx = w.alloc (.cells #[.int .i64 2, .string ⟨p.toArray⟩, .slice (some ⟨b, off, none⟩) 1 cap, .string ⟨v.toArray⟩] 48) := ⟨_, rfl⟩
  have hsx : wx.heap.size = w.heap.size + 1 := by rw [hwx]; simp
  have KN := l1nib_at p (w.alloc (.cells #[.int .i64 2, .string ⟨p.toArray⟩, .slice (some ⟨b, off, none⟩) 1 cap, .string ⟨v.toArray⟩] 48)) (by omega)
  rw [hn] at KN
  have HWX : Hid (w.alloc (.cells #[.int .i64 2, .string ⟨p.toArray⟩, .slice (some ⟨b, off, none⟩) 1 cap, .string ⟨v.toArray⟩] 48) = wx) := hwx.symm
  rw [← hwx] at HQ B0
  have BX : Hid (Below w.heap.size w wx) := B0
  have HSX : Hid (wx.heap.size = w.heap.size + 1) := hsx
  have KH := l6Hash_at y true wx (by omega) (by rw [decide_eq_true hy])
  have KP := l1pre_at p false wx.drew hp
  have hxl := pack_flag_le p false
  obtain ⟨x, hx⟩ : ∃ x, x = pack (withFlag p false) := ⟨_, rfl⟩
  rw [← hx] at KP hxl ⊢
  have HKL : Hid (∀ W g, W.ownsRow (w.heap.size + 1) 9 1 (.slice (some ⟨g, 0, none⟩) 2 2) 2 (scells [x, y]) → Calls Tryd.prog 55 #[.slice (some ⟨g, 0, none⟩) 2 2] W fun e w' => e = .returned (.string ⟨(listB [x, y]).toArray⟩) ∧ Below W.heap.size W w') := fun W g ho => spec_l1List g 2 [x, y] _ W (by simp; omega) (by simp) ho
  obtain ⟨out, hout⟩ : ∃ out, listB [x, y] = out := ⟨_, rfl⟩
  rw [hout] at HKL ⊢
  have hp' : (p.length : Int) ≤ 24 := by omega
  have hpd : decide ((24 : Int) < (p.length : Int)) = false := decide_eq_false (by omega)
  have hv' : (v.length : Int) ≤ 60 := by omega
  have hvd : decide ((60 : Int) < (v.length : Int)) = false := decide_eq_false (by omega)
  have c0 : wx.cell? ⟨b, off, none⟩ = some (.string ⟨y.toArray⟩) := (B0.cell (p := ⟨b, off, none⟩) (World.block_lt_of_cell? w _ hc)).trans hc
  have c0x : (w.alloc (.cells #[.int .i64 2, .string ⟨p.toArray⟩, .slice (some ⟨b, off, none⟩) 1 cap, .string ⟨v.toArray⟩] 48)).cell? ⟨b, off, none⟩ = some (.string ⟨y.toArray⟩) := by rw [← hwx]; exact c0
  clear hwx hx hout B0 hsx hc hy
  go_enter Tryd.func40, Tryd.ntmps40
  go_wp2_with fail
  refine KN.mono ?_
  rintro e w1 ⟨rfl, rfl⟩
  go_wp2_with fail
  rw [HWX.out]
  refine KH.mono ?_
  rintro e wx ⟨rfl, rfl⟩
  obtain ⟨q0, q1, q2, q3, _⟩ := quad_cells HQ.out
  go_wp2_with fail

  have SX : Hid (wx.cell? ⟨w.heap.size, 1, none⟩ = some (.string ⟨p.toArray⟩) ∧ wx.cell? ⟨w.heap.size, 2, none⟩ = some (.slice (some ⟨b, off, none⟩) 1 cap) ∧ wx.cell? ⟨b, off, none⟩ = some (.string ⟨y.toArray⟩)) := ⟨(quad_cells HQ.out).2.1, (quad_cells HQ.out).2.2.1, (BX.out.cell (p := ⟨b, off, none⟩) (World.block_lt_of_cell? w _ HC.out)).trans HC.out⟩
  go_region_held3 (fun w' => w'.cell? ⟨w.heap.size, 1, none⟩ = some (.string ⟨p.toArray⟩) ∧ w'.cell? ⟨w.heap.size, 2, none⟩ = some (.slice (some ⟨b, off, none⟩) 1 cap) ∧ w'.cell? ⟨b, off, none⟩ = some (.string ⟨y.toArray⟩))
    (first | exact S2.out | exact S1a.out | exact S1.out | exact SX.out)
    (first
      | (go_at_call 55
         with_reducible refine (HKL.out _ _ O1.out).mono ?_
         rintro e w2 ⟨rfl, b2⟩
         have B2 : Hid (Below w.heap.size w w2) := B1a.out.trans (b2.mono B1a.out.size)
         have q2' := quad_cells ((b2.block w.heap.size L1a.out).trans Q1a.out)
         have S2 : Hid (w2.cell? ⟨w.heap.size, 1, none⟩ = some (.string ⟨p.toArray⟩) ∧ w2.cell? ⟨w.heap.size, 2, none⟩ = some (.slice (some ⟨b, off, none⟩) 1 cap) ∧ w2.cell? ⟨b, off, none⟩ = some (.string ⟨y.toArray⟩)) := ⟨q2'.2.1, q2'.2.2.1, (B2.out.cell (p := ⟨b, off, none⟩) (World.block_lt_of_cell? w _ HC.out)).trans HC.out⟩
         clear q2' b2)
      | (go_at_call 56
         with_reducible refine KP.mono ?_
         rintro e w1 ⟨rfl, b1'⟩
         have b1 : Below wx.heap.size wx w1 := below_undrew b1'
         have B1 : Hid (Below w.heap.size w w1) := BX.out.trans (b1.mono BX.out.size)
         have Q1 : Hid (w1.heap[w.heap.size]? = _) := (b1.block w.heap.size (by have := HSX.out; omega)).trans HQ.out
         have q1' := quad_cells Q1.out
         have S1 : Hid (w1.cell? ⟨w.heap.size, 1, none⟩ = some (.string ⟨p.toArray⟩) ∧ w1.cell? ⟨w.heap.size, 2, none⟩ = some (.slice (some ⟨b, off, none⟩) 1 cap) ∧ w1.cell? ⟨b, off, none⟩ = some (.string ⟨y.toArray⟩)) := ⟨q1'.2.1, q1'.2.2.1, (B1.out.cell (p := ⟨b, off, none⟩) (World.block_lt_of_cell? w _ HC.out)).trans HC.out⟩
         have Z1 : Hid (w.heap.size + 1 ≤ w1.heap.size) := Nat.le_trans (by have := HSX.out; omega) b1.size
         have Q1a : Hid ((w1.alloc (.cells #[.string ⟨x.toArray⟩, .string ⟨y.toArray⟩] 9)).heap[w.heap.size]? = _) := (Below.heap_alloc w1 (.cells #[.string ⟨x.toArray⟩, .string ⟨y.toArray⟩] 9) w.heap.size (by have := Z1.out; omega)).trans Q1.out
         have L1a : Hid (w.heap.size < (w1.alloc (.cells #[.string ⟨x.toArray⟩, .string ⟨y.toArray⟩] 9)).heap.size) := (by rw [Hid]; simp; have := Z1.out; omega)
         have B1a : Hid (Below w.heap.size w (w1.alloc (.cells #[.string ⟨x.toArray⟩, .string ⟨y.toArray⟩] 9))) := B1.out.alloc B1.out.size _
         have q1a := quad_cells Q1a.out
         have S1a : Hid ((w1.alloc (.cells #[.string ⟨x.toArray⟩, .string ⟨y.toArray⟩] 9)).cell? ⟨w.heap.size, 1, none⟩ = some (.string ⟨p.toArray⟩) ∧ (w1.alloc (.cells #[.string ⟨x.toArray⟩, .string ⟨y.toArray⟩] 9)).cell? ⟨w.heap.size, 2, none⟩ = some (.slice (some ⟨b, off, none⟩) 1 cap) ∧ (w1.alloc (.cells #[.string ⟨x.toArray⟩, .string ⟨y.toArray⟩] 9)).cell? ⟨b, off, none⟩ = some (.string ⟨y.toArray⟩)) := ⟨q1a.2.1, q1a.2.2.1, (B1a.out.cell (p := ⟨b, off, none⟩) (World.block_lt_of_cell? w _ HC.out)).trans HC.out⟩
         have O1 := hidOwn (own_two w1 x y (w.heap.size + 1) Z1.out)
         clear q1' q1a b1 b1'))
  all_goals
    go_wp2
    go_ret2
    exact ⟨rfl, B2.out⟩
end Go.Proofs.YtjlkeoocddianaaDoor
