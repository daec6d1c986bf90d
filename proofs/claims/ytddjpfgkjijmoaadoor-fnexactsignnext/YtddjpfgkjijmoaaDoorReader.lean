/-
  Contracts of the reader's methods: what each takes off the text in the reader's cell, or that it gives up with a panic.
-/
import Derived.Test.YtddjpfgkjijmoaaDoorBase
import Derived.Test.YtddjpfgkjijmoaaDoorMathAll
import Derived.Recover
import Derived.OneCell
namespace Go.Proofs.YtddjpfgkjijmoaaDoor
open Go.RowKit
set_option linter.unusedVariables false

/-- What a reader's method does to the world: the reader's one cell holds r'; no other block that was there has turned. -/
structure Turned (b : Nat) (r' : List UInt8) (w w' : World) : Prop where
  os : w'.os = w.os
  tape : w'.tape = w.tape
  output : w'.output = w.output
  size : w.heap.size ≤ w'.heap.size
  block : ∀ k, k < w.heap.size → k ≠ b → w'.heap[k]? = w.heap[k]?
  cell : w'.heap[b]? = some (.cells #[.string ⟨r'.toArray⟩] 120 (0, 0))

theorem Turned.trans {b : Nat} {r1 r2 : List UInt8} {w w1 w2 : World} (h : Turned b r1 w w1) (h2 : Turned b r2 w1 w2) : Turned b r2 w w2 :=
  ⟨h2.os.trans h.os, h2.tape.trans h.tape, h2.output.trans h.output, Nat.le_trans h.size h2.size, fun k hk hb => (h2.block k (Nat.lt_of_lt_of_le hk h.size) hb).trans (h.block k hk hb), h2.cell⟩

theorem Turned.store {b : Nat} {r : List UInt8} {w : World} (h : w.heap[b]? = some (.cells #[.string ⟨r.toArray⟩] 120 (0, 0))) (r' : List UInt8) : Turned b r' w (w.setCell ⟨b, 0, none⟩ (.string ⟨r'.toArray⟩)) :=
  ⟨rfl, rfl, rfl, by simp [World.setCell], fun k _ hb => Below.heap_setCell _ _ _ _ hb, one_setCell h⟩

theorem Turned.same {b : Nat} {r : List UInt8} {w : World} (h : w.heap[b]? = some (.cells #[.string ⟨r.toArray⟩] 120 (0, 0))) : Turned b r w w :=
  ⟨rfl, rfl, rfl, Nat.le_refl _, fun _ _ _ => rfl, h⟩

theorem Turned.alloc {b : Nat} {r : List UInt8} {w w' : World} (h : Turned b r w w') (o : Obj) : Turned b r w (w'.alloc o) :=
  ⟨h.os, h.tape, h.output, by have := h.size; simp; omega, fun k hk hb => by rw [Below.heap_alloc _ _ _ (Nat.lt_of_lt_of_le hk h.size)]; exact h.block k hk hb, by rw [Below.heap_alloc _ _ _ (lt_of_block h.cell)]; exact h.cell⟩

theorem Turned.drew {b : Nat} {r : List UInt8} {w w' : World} (h : Turned b r w w') : Turned b r w w'.drew := ⟨h.os, h.tape, h.output, h.size, h.block, h.cell⟩

/-- The reader gives up. -/
def GivesUp (e : Ending) : Prop := ∃ msg : ByteArray, e = .panicked [{ v := .iface 9 (.string msg), recovered := false }]

set_option maxRecDepth 100000 in
set_option maxHeartbeats 400000 in
theorem take_ok (b n : Nat) (x : Int) (r : List UInt8) (w : World) (hx : x = (n : Int)) (hb : w.heap[b]? = some (.cells #[.string ⟨r.toArray⟩] 120 (0, 0))) (hn : n ≤ r.length) (hr : r.length ≤ 1048576) :
    Calls Tryd.prog 105 #[.pointer (some ⟨b, 0, none⟩), .int .i64 x] w fun e w' => e = .returned (.string ⟨(r.take n).toArray⟩) ∧ Turned b (r.drop n) w w' := by
  subst hx
  have hc := cell_of_one hb
  have hf := free_of_one hb
  have hn' : (n : Int) ≤ (r.length : Int) := by omega
  have hs3 := ext_to r n hn
  have hs4 := ext_from r n hn
  have HT := Turned.store hb (r.drop n)
  clear hb
  go_enter Tryd.func105, Tryd.ntmps105
  go_wp2
  go_ret
  exact ⟨rfl, HT⟩

set_option maxRecDepth 100000 in
set_option maxHeartbeats 400000 in
theorem take_few (b n : Nat) (x : Int) (r : List UInt8) (w : World) (hx : x = (n : Int)) (hb : w.heap[b]? = some (.cells #[.string ⟨r.toArray⟩] 120 (0, 0))) (hn : r.length < n) (hn' : n ≤ 16777216) :
    Calls Tryd.prog 105 #[.pointer (some ⟨b, 0, none⟩), .int .i64 x] w fun e w' => GivesUp e ∧ ∃ r', Turned b r' w w' := by
  subst hx
  have hc := cell_of_one hb
  have hf := free_of_one hb
  have hn'' : (r.length : Int) < (n : Int) := by omega
  have HT := Turned.same hb
  clear hb
  go_enter Tryd.func105, Tryd.ntmps105
  go_wp2
  exact ⟨rfl, ⟨_, rfl⟩, r, HT⟩

set_option maxRecDepth 100000 in
set_option maxHeartbeats 400000 in
theorem length_ok (b m : Nat) (x : Int) (r : List UInt8) (w : World) (hx : x = (m : Int)) (hb : w.heap[b]? = some (.cells #[.string ⟨r.toArray⟩] 120 (0, 0))) (hm : 1 ≤ m) (hm3 : m ≤ 3) (hn : m ≤ r.length) (hr : r.length ≤ 1048576) (h0 : r.head? ≠ some 0) :
    Calls Tryd.prog 109 #[.pointer (some ⟨b, 0, none⟩), .int .i64 x] w fun e w' => e = .returned (.int .i64 (valB (r.take m) : Int)) ∧ Turned b (r.drop m) w w' := by
  subst hx
  have hm' : (m : Int) ≤ 3 := by omega
  obtain ⟨d, hd⟩ : ∃ d, d = r.take m := ⟨_, rfl⟩
  have hdl : d.length = m := by rw [hd]; simp; omega
  have hd1 : d.length ≤ m := by omega
  have hd2 : m ≤ d.length := by omega
  have h0' : ∃ c d', d = c :: d' ∧ c ≠ 0 := by
    match r, hn, h0 with
    | [], hn, _ => simp at hn; omega
    | c :: r', _, h0 =>
      obtain ⟨m', rfl⟩ : ∃ m', m = m' + 1 := ⟨m - 1, by omega⟩
      exact ⟨c, r'.take m', by rw [hd]; rfl, fun h => h0 (by rw [h]; rfl)⟩
  obtain ⟨c, d', hdc, hc0⟩ := h0'
  have hic : ∀ W, (Instr.index 9 (.string ⟨d.toArray⟩) (.int .i64 0)).run Tryd.prog W = .ok (.int .u8 (c.toNat : Int)) W := fun W => by
    rw [ix_at (P := Tryd.prog) Tryd.underlying9 d 0 0 rfl (by omega) W]; simp [hdc]
  have hc' : ((c.toNat : Int) == 0) = false := by
    simp only [beq_eq_false_iff_ne, ne_eq]
    intro h
    exact hc0 (UInt8.toNat_inj.1 (by simpa using h))
  have HK := take_ok b m m r w rfl hb hn hr
  rw [← hd] at HK ⊢
  clear hd hdc hc0 hb hdl h0
  go_enter Tryd.func109, Tryd.ntmps109
  go_wp2_with fail
  refine HK.mono ?_
  rintro e w1 ⟨rfl, hT⟩
  go_wp2
  go_loop [6, 7, 20] (fun n _ i => ∃ j : Nat, j ≤ m ∧ i = .int .i64 (j : Int) ∧ n = .int .i64 (valB (d.take j) : Int)) (fun _ _ i => m - (intOf i).toNat)
  case atStart => exact ⟨0, Nat.zero_le _, rfl, rfl⟩
  case round =>
    obtain ⟨j, hj, rfl, rfl⟩ := hrel
    have hvj : valB (d.take j) < 16777216 := valB_lt3 d j (by omega)
    by_cases hlt : j < m
    · have hjr : j < d.length := by omega
      have hij := ix_at (P := Tryd.prog) Tryd.underlying9 d (j : Int) j rfl hjr
      have HS : Hid (valB (d.take (j + 1)) = 256 * valB (d.take j) + d[j].toNat) := valB_take_snoc d j hjr
      obtain ⟨x, hx⟩ : ∃ x, x = valB (d.take j) := ⟨_, rfl⟩
      obtain ⟨y, hy⟩ : ∃ y, y = d[j] := ⟨_, rfl⟩
      rw [← hx] at hvj HS ⊢
      rw [← hy] at hij HS
      have hyl := y.toNat_lt
      clear hx hy
      go_wp2
      go_round
      case rel => exact ⟨j + 1, by omega, by go_num, by rw [HS.out, i64_or256 x y.toNat hvj hyl]⟩
      case measure => simp [intOf]; omega
    · have hjm : j = m := by omega
      subst hjm
      have HV : Hid (valB (d.take j) = valB d) := by rw [Hid, List.take_of_length_le (by omega)]
      go_wp2
      go_ret
      exact ⟨by rw [← HV.out]; rfl, hT⟩

set_option maxRecDepth 100000 in
set_option maxHeartbeats 400000 in
theorem length_no (b m : Nat) (x : Int) (r : List UInt8) (w : World) (hx : x = (m : Int)) (hb : w.heap[b]? = some (.cells #[.string ⟨r.toArray⟩] 120 (0, 0))) (hm : 1 ≤ m) (hm8 : m ≤ 8) (hr : r.length ≤ 1048576) (h : r.length < m ∨ 3 < m ∨ r.head? = some 0) :
    Calls Tryd.prog 109 #[.pointer (some ⟨b, 0, none⟩), .int .i64 x] w fun e w' => GivesUp e ∧ ∃ r', Turned b r' w w' := by
  subst hx
  by_cases h3 : 3 < m
  · have h3' : (3 : Int) < (m : Int) := by omega
    have HT := Turned.same hb
    clear hb h
    go_enter Tryd.func109, Tryd.ntmps109
    go_wp2
    exact ⟨rfl, ⟨_, rfl⟩, r, HT⟩
  · have h3' : (m : Int) ≤ 3 := by omega
    by_cases hf : r.length < m
    · have HK := take_few b m m r w rfl hb hf (by omega)
      clear hb h
      go_enter Tryd.func109, Tryd.ntmps109
      go_wp2_with fail
      refine HK.mono ?_
      rintro e w1 ⟨⟨msg, rfl⟩, hT⟩
      exact ⟨rfl, ⟨_, rfl⟩, hT⟩
    · have h0 : r.head? = some 0 := by rcases h with h | h | h; exact absurd h hf; exact absurd h h3; exact h
      have HK := take_ok b m m r w rfl hb (by omega) hr
      obtain ⟨d, hd⟩ : ∃ d, d = r.take m := ⟨_, rfl⟩
      have hdl : m ≤ d.length := by rw [hd]; simp; omega
      have hdc : ∃ d', d = 0 :: d' := by
        match r, hf, h0 with
        | [], hf, _ => simp at hf; omega
        | c :: r', _, h0 =>
          obtain ⟨m', rfl⟩ : ∃ m', m = m' + 1 := ⟨m - 1, by omega⟩
          have : c = 0 := by simpa using h0
          exact ⟨r'.take m', by rw [hd, this]; rfl⟩
      obtain ⟨d', hdc⟩ := hdc
      have hic : ∀ W, (Instr.index 9 (.string ⟨d.toArray⟩) (.int .i64 0)).run Tryd.prog W = .ok (.int .u8 0) W := fun W => by
        rw [ix_at (P := Tryd.prog) Tryd.underlying9 d 0 0 rfl (by omega) W]; simp [hdc]
      rw [← hd] at HK
      clear hd hdc hb h h0
      go_enter Tryd.func109, Tryd.ntmps109
      go_wp2_with fail
      refine HK.mono ?_
      rintro e w1 ⟨rfl, hT⟩
      go_wp2
      exact ⟨rfl, ⟨_, rfl⟩, _, hT⟩

set_option maxRecDepth 100000 in
set_option maxHeartbeats 400000 in
theorem body_ok (b n : Nat) (x : Int) (r bd rest : List UInt8) (w : World) (hx : x = (n : Int)) (hb : w.heap[b]? = some (.cells #[.string ⟨r.toArray⟩] 120 (0, 0))) (hn : n ≤ 63) (hr : r.length ≤ 1048576) (h : bodyL n r = some (bd, rest)) :
    Calls Tryd.prog 106 #[.pointer (some ⟨b, 0, none⟩), .int .i64 x] w fun e w' => e = .returned (.string ⟨bd.toArray⟩) ∧ Turned b rest w w' := by
  subst hx
  by_cases h55 : n ≤ 55
  · have h55' : (n : Int) ≤ 55 := by omega
    rw [bodyL_short n r h55] at h
    by_cases hf : r.length < n
    · rw [if_pos hf] at h; cases h
    · rw [if_neg hf] at h
      cases h
      have HK := take_ok b n n r w rfl hb (by omega) hr
      clear hb
      go_enter Tryd.func106, Tryd.ntmps106
      go_wp2_with fail
      refine HK.mono ?_
      rintro e w1 ⟨rfl, hT⟩
      go_wp2
      go_ret
      exact ⟨rfl, hT⟩
  · obtain ⟨m, rfl⟩ : ∃ m, n = 55 + m := ⟨n - 55, by omega⟩
    rw [bodyL_long m r (by omega)] at h
    by_cases hl : r.length < m ∨ 3 < m ∨ r.head? = some 0
    · rw [if_pos hl] at h; cases h
    · rw [if_neg hl] at h
      by_cases hf : valB (r.take m) ≤ 55 ∨ 60000 < valB (r.take m) ∨ (r.drop m).length < valB (r.take m)
      · rw [if_pos hf] at h; cases h
      · rw [if_neg hf] at h
        cases h
        have HK := length_ok b m (55 + (m : Int) - 55) r w (by omega) hb (by omega) (by omega) (by omega) hr (fun h => hl (.inr (.inr h)))
        have hrl : (r.drop m).length ≤ 1048576 := by simp; omega
        obtain ⟨v, hv⟩ : ∃ v, v = valB (r.take m) := ⟨_, rfl⟩
        obtain ⟨r2, hr2⟩ : ∃ r2, r2 = r.drop m := ⟨_, rfl⟩
        rw [← hv, ← hr2] at HK hf ⊢
        rw [← hr2] at hrl
        have hv1 : ¬ (v : Int) ≤ 55 := by omega
        have hv2 : ¬ (60000 : Int) < (v : Int) := by omega
        have hv3 : v ≤ r2.length := by omega
        have hm1 : ¬ (55 + (m : Int)) ≤ 55 := by omega
        clear hb hl hv hr2 hf
        go_enter Tryd.func106, Tryd.ntmps106
        go_wp2_with fail
        refine HK.mono ?_
        rintro e w1 ⟨rfl, hT⟩
        go_wp2_with fail
        refine (take_ok b v v r2 _ rfl hT.cell hv3 hrl).mono ?_
        rintro e w2 ⟨rfl, hT2⟩
        go_wp2
        go_ret
        exact ⟨rfl, hT.trans hT2⟩

set_option maxRecDepth 100000 in
set_option maxHeartbeats 400000 in
theorem body_no (b n : Nat) (x : Int) (r : List UInt8) (w : World) (hx : x = (n : Int)) (hb : w.heap[b]? = some (.cells #[.string ⟨r.toArray⟩] 120 (0, 0))) (hn : n ≤ 63) (hr : r.length ≤ 1048576) (h : bodyL n r = none) :
    Calls Tryd.prog 106 #[.pointer (some ⟨b, 0, none⟩), .int .i64 x] w fun e w' => GivesUp e ∧ ∃ r', Turned b r' w w' := by
  subst hx
  by_cases h55 : n ≤ 55
  · have h55' : (n : Int) ≤ 55 := by omega
    rw [bodyL_short n r h55] at h
    by_cases hf : r.length < n
    · have HK := take_few b n n r w rfl hb hf (by omega)
      clear hb h
      go_enter Tryd.func106, Tryd.ntmps106
      go_wp2_with fail
      refine HK.mono ?_
      rintro e w1 ⟨⟨msg, rfl⟩, hT⟩
      exact ⟨rfl, ⟨_, rfl⟩, hT⟩
    · rw [if_neg hf] at h; cases h
  · obtain ⟨m, rfl⟩ : ∃ m, n = 55 + m := ⟨n - 55, by omega⟩
    have hm1 : ¬ (55 + (m : Int)) ≤ 55 := by omega
    rw [bodyL_long m r (by omega)] at h
    by_cases hl : r.length < m ∨ 3 < m ∨ r.head? = some 0
    · have HK := length_no b m (55 + (m : Int) - 55) r w (by omega) hb (by omega) (by omega) hr hl
      clear hb h hl
      go_enter Tryd.func106, Tryd.ntmps106
      go_wp2_with fail
      refine HK.mono ?_
      rintro e w1 ⟨⟨msg, rfl⟩, hT⟩
      exact ⟨rfl, ⟨_, rfl⟩, hT⟩
    · rw [if_neg hl] at h
      by_cases hf : valB (r.take m) ≤ 55 ∨ 60000 < valB (r.take m) ∨ (r.drop m).length < valB (r.take m)
      · have HK := length_ok b m (55 + (m : Int) - 55) r w (by omega) hb (by omega) (by omega) (by omega) hr (fun h => hl (.inr (.inr h)))
        have hrl : (r.drop m).length ≤ 1048576 := by simp; omega
        have hvl : valB (r.take m) < 16777216 := valB_lt3 r m (by omega)
        obtain ⟨v, hv⟩ : ∃ v, v = valB (r.take m) := ⟨_, rfl⟩
        obtain ⟨r2, hr2⟩ : ∃ r2, r2 = r.drop m := ⟨_, rfl⟩
        rw [← hv, ← hr2] at HK hf
        rw [← hr2] at hrl
        rw [← hv] at hvl
        clear hb h hl hv hr2
        by_cases hv1 : v ≤ 55
        · have hv1' : (v : Int) ≤ 55 := by omega
          clear hf
          go_enter Tryd.func106, Tryd.ntmps106
          go_wp2_with fail
          refine HK.mono ?_
          rintro e w1 ⟨rfl, hT⟩
          go_wp2
          exact ⟨rfl, ⟨_, rfl⟩, _, hT⟩
        · have hv1' : ¬ (v : Int) ≤ 55 := by omega
          by_cases hv2 : 60000 < v
          · have hv2' : (60000 : Int) < (v : Int) := by omega
            clear hf
            go_enter Tryd.func106, Tryd.ntmps106
            go_wp2_with fail
            refine HK.mono ?_
            rintro e w1 ⟨rfl, hT⟩
            go_wp2
            exact ⟨rfl, ⟨_, rfl⟩, _, hT⟩
          · have hv2' : ¬ (60000 : Int) < (v : Int) := by omega
            have hv3 : r2.length < v := by omega
            clear hf
            go_enter Tryd.func106, Tryd.ntmps106
            go_wp2_with fail
            refine HK.mono ?_
            rintro e w1 ⟨rfl, hT⟩
            go_wp2_with fail
            refine (take_few b v v r2 _ rfl hT.cell hv3 (by omega)).mono ?_
            rintro e w2 ⟨⟨msg, rfl⟩, r', hT2⟩
            exact ⟨rfl, ⟨_, rfl⟩, r', hT.trans hT2⟩
      · rw [if_neg hf] at h; cases h
end Go.Proofs.YtddjpfgkjijmoaaDoor
