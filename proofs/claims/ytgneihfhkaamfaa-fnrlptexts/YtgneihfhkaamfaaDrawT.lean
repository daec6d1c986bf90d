/-
  Contracts: the draws of texts and of bytes that may be an item.
-/
import Derived.Test.YtgneihfhkaamfaaItems
import Derived.Deep.RegionWith
namespace Go.Proofs.Ytgneihfhkaamfaa
open Go.RowKit
set_option linter.unusedVariables false

set_option maxRecDepth 100000 in
set_option maxHeartbeats 400000 in
theorem drawText (n cap : Nat) (a : Option Addr) (w : World) (hn : n ≤ 1048576) (h : Code w a n) :
    Calls Try.prog 7 #[.slice a n cap] w fun e w' => ∃ l : List UInt8, l.length ≤ 56 ∧ e = .returned (.string ⟨l.toArray⟩) ∧ Below w.heap.size w w' := by
  have H1 := open_any n cap a w h
  clear h
  go_enter Try.func7, Try.ntmps7
  go_wp2_with fail
  refine H1.mono ?_
  rintro e w1 ⟨rfl, hR, hb⟩
  have H2 := once_any w.heap.size n cap 5 5 a w1 rfl (by omega) (by omega) hn hR
  clear H1 hR
  go_wp2_with fail
  refine H2.mono ?_
  rintro e w2 ⟨t, rfl, hR2, hG2⟩
  have hb2 := below_rd hb hG2
  clear H2 hG2 hb
  cases t
  · have H3 := text_any w.heap.size n cap a w2 hn hR2
    clear hR2
    go_wp2_with fail
    refine H3.mono ?_
    rintro e w3 ⟨l, hl, rfl, hR3, hG3⟩
    have hb3 := below_rd hb2 hG3
    clear H3 hR3 hG3 hb2
    go_wp2
    go_ret
    exact ⟨l, by omega, rfl, hb3⟩
  · have H3 := bytes_any w.heap.size n cap 3 3 a w2 rfl (by omega) (by omega) hn hR2
    clear hR2
    go_wp2_with fail
    refine H3.mono ?_
    rintro e w3 ⟨l, hl, rfl, hR3, hG3⟩
    have hb3 := below_rd hb2 hG3
    clear H3 hR3 hG3 hb2
    go_wp2
    go_ret
    exact ⟨l, by omega, rfl, hb3⟩

theorem tab8_short : (#[Value.string (ByteArray.mk #[129, 5]), Value.string (ByteArray.mk #[184, 1, 97]), Value.string (ByteArray.mk #[184, 0]), Value.string (ByteArray.mk #[185, 0, 64]), Value.string (ByteArray.mk #[248, 55]), Value.string (ByteArray.mk #[191]), Value.string (ByteArray.mk #[193]), Value.string (ByteArray.mk #[184])] : Array Value).all (shortV 3) = true := by decide +kernel

theorem tab8_get (k : Nat) (hk : k < 8) : ∃ l : List UInt8, l.length ≤ 3 ∧ (#[Value.string (ByteArray.mk #[129, 5]), Value.string (ByteArray.mk #[184, 1, 97]), Value.string (ByteArray.mk #[184, 0]), Value.string (ByteArray.mk #[185, 0, 64]), Value.string (ByteArray.mk #[248, 55]), Value.string (ByteArray.mk #[191]), Value.string (ByteArray.mk #[193]), Value.string (ByteArray.mk #[184])] : Array Value)[k]? = some (.string ⟨l.toArray⟩) := by
  have hv := (Array.all_eq_true.1 tab8_short) k hk
  obtain ⟨l, hl, e⟩ := short_is 3 _ hv
  exact ⟨l, hl, by rw [← e]; exact Array.getElem?_eq_getElem hk⟩

theorem new_cell (w : World) (cs : Array Value) (t : TypeId) (k : Nat) (v : Value) (h : cs[k]? = some v) : (w.alloc (.cells cs t)).cell? ⟨w.heap.size, k, none⟩ = some v := by
  have hb := heap_alloc_new w (.cells cs t)
  simp only [World.cell?, hb]
  simpa using h

theorem new_lt (w : World) (o : Obj) : w.heap.size < (w.alloc o).heap.size := by simp

theorem below_drew {b : Nat} {w w1 : World} (h : Below b w w1) : Below b w w1.drew := ⟨h.os, h.tape, h.output, h.size, h.block⟩
theorem grown_drew {w w1 : World} {row : Option Nat} (h : w.drew.grownBy w1 row) : w.grownBy w1 row := ⟨h.os, h.tape, h.output, h.size, h.block⟩

set_option maxRecDepth 100000 in
set_option maxHeartbeats 1000000 in
theorem drawTake (n cap : Nat) (a : Option Addr) (w : World) (hn : n ≤ 1048576) (h : Code w a n) :
    Calls Try.prog 11 #[.slice a n cap] w fun e w' => ∃ l : List UInt8, l.length ≤ 1000 ∧ e = .returned (.string ⟨l.toArray⟩) ∧ Below w.heap.size w w' := by
  have H1 := open_any n cap a w h
  clear h
  go_enter Try.func11, Try.ntmps11
  go_wp2_with fail
  refine H1.mono ?_
  rintro e w1 ⟨rfl, hR, hb⟩
  have H2 := below_any w.heap.size n cap 6 6 a w1 rfl (by omega) (by omega) hn hR
  clear H1 hR
  go_wp2_with fail
  refine H2.mono ?_
  rintro e w2 ⟨y, hy, rfl, hR2, hG2⟩
  have hb2 := below_rd hb hG2
  clear H2 hG2 hb
  by_cases y0 : y = 0
  · subst y0
    have H3 := bytes_any w.heap.size n cap 8 8 a w2 rfl (by omega) (by omega) hn hR2
    clear hR2
    go_wp2_with fail
    refine H3.mono ?_
    rintro e w3 ⟨l, hl, rfl, hR3, hG3⟩
    have hb3 := below_rd hb2 hG3
    clear H3 hR3 hG3 hb2
    go_wp2
    go_ret
    exact ⟨l, by omega, rfl, hb3⟩
  · have y0' : ((y : Int) == 0) = false := by simp only [beq_eq_false_iff_ne, ne_eq]; omega
    by_cases y1 : y = 1
    · subst y1
      have HR2 : Hid (Rd w.heap.size a n cap w2) := hR2
      have hrd := hR2.lt
      clear hR2 y0 y0'
      go_wp2_with fail
      go_region_with (first
        | (go_at_call 38
           refine (below_any w.heap.size n cap 8 8 a (w2.alloc (Obj.cells (#[Value.string (ByteArray.mk #[129, 5]), Value.string (ByteArray.mk #[184, 1, 97]), Value.string (ByteArray.mk #[184, 0]), Value.string (ByteArray.mk #[185, 0, 64]), Value.string (ByteArray.mk #[248, 55]), Value.string (ByteArray.mk #[191]), Value.string (ByteArray.mk #[193]), Value.string (ByteArray.mk #[184])] : Array Value) 9)).drew rfl ?_ ?_ hn ?_).mono ?_
           · omega
           · omega
           · exact HR2.out.keptNone (below_drew ((Below.refl _ _).alloc (Nat.le_refl _) _))
           rintro e w3 ⟨k, hk, rfl, hR3, hG3⟩
           have hG3' := grown_drew hG3
           obtain ⟨l, hl, hc⟩ := tab_any (m := 3) (k := k) hrd hG3' tab8_short hk
           have hk' : (k : Int) < 8 := by omega
           have hs3 : w2.heap.size < w3.heap.size := by have := hG3'.size; simp at this; omega
           have HR3 : Hid (Rd w.heap.size a n cap w3) := hR3
           have HB3 : Hid (Below w.heap.size w w3) := below_rd (hb2.alloc hb2.size _) hG3'
           clear hR3 hG3 hG3' HR2)
        | (go_at_call 38
           refine (below_any w.heap.size n cap 8 8 a w2.drew rfl ?_ ?_ hn ?_).mono ?_
           · omega
           · omega
           · exact HR2.out.keptNone (below_drew (Below.refl _ _))
           rintro e w3 ⟨k, hk, rfl, hR3, hG3⟩
           have hG3' := grown_drew hG3
           obtain ⟨l, hl, hv⟩ := tab8_get k hk
           have hc0 := new_cell w3 (#[Value.string (ByteArray.mk #[129, 5]), Value.string (ByteArray.mk #[184, 1, 97]), Value.string (ByteArray.mk #[184, 0]), Value.string (ByteArray.mk #[185, 0, 64]), Value.string (ByteArray.mk #[248, 55]), Value.string (ByteArray.mk #[191]), Value.string (ByteArray.mk #[193]), Value.string (ByteArray.mk #[184])] : Array Value) 9 k _ hv
           have hk' : (k : Int) < 8 := by omega
           have HR3 : Hid (Rd w.heap.size a n cap w3) := hR3
           have HB3 : Hid (Below w.heap.size w w3) := below_rd hb2 hG3'
           clear hR3 hG3 hG3' HR2)
        | (go_at_call 32
           refine (text_any w.heap.size n cap a w3 hn ?_).mono ?_
           · exact HR3.out
           rintro e w4 ⟨q, hq, rfl, hR4, hG4⟩
           have hc4 := (hG4.cell_far ⟨w2.heap.size, k, none⟩ hs3 (by simp; omega)).trans hc
           have HB4 : Hid (Below w.heap.size w w4) := below_rd HB3.out hG4
           have happ := ba_app2 l q
           clear hR4 hG4 HR3)
        | (go_at_call 32
           refine (text_any w.heap.size n cap a w3 hn ?_).mono ?_
           · exact HR3.out
           rintro e w4 ⟨q, hq, rfl, hR4, hG4⟩
           have hc4 := new_cell w4 (#[Value.string (ByteArray.mk #[129, 5]), Value.string (ByteArray.mk #[184, 1, 97]), Value.string (ByteArray.mk #[184, 0]), Value.string (ByteArray.mk #[185, 0, 64]), Value.string (ByteArray.mk #[248, 55]), Value.string (ByteArray.mk #[191]), Value.string (ByteArray.mk #[193]), Value.string (ByteArray.mk #[184])] : Array Value) 9 k _ hv
           have HB4 : Hid (Below w.heap.size w w4) := below_rd HB3.out hG4
           have happ := ba_app2 l q
           clear hR4 hG4 HR3)
        | (go_at_call 32
           refine (text_any w.heap.size n cap a (w3.alloc (Obj.cells (#[Value.string (ByteArray.mk #[129, 5]), Value.string (ByteArray.mk #[184, 1, 97]), Value.string (ByteArray.mk #[184, 0]), Value.string (ByteArray.mk #[185, 0, 64]), Value.string (ByteArray.mk #[248, 55]), Value.string (ByteArray.mk #[191]), Value.string (ByteArray.mk #[193]), Value.string (ByteArray.mk #[184])] : Array Value) 9)) hn ?_).mono ?_
           · exact HR3.out.keptNone ((Below.refl _ _).alloc (Nat.le_refl _) _)
           rintro e w4 ⟨q, hq, rfl, hR4, hG4⟩
           have hc4 := (hG4.cell_far ⟨w3.heap.size, k, none⟩ (new_lt w3 _) (by have := HR3.out.lt; simp; omega)).trans hc0
           have HB4 : Hid (Below w.heap.size w w4) := below_rd (HB3.out.alloc HB3.out.size _) hG4
           have happ := ba_app2 l q
           clear hR4 hG4 HR3))
      all_goals
        go_wp2
        go_ret
        exact ⟨l ++ q, by simp; omega, rfl, by first | exact HB4.out | exact HB4.out.alloc HB4.out.size _⟩
    · have y1' : ((y : Int) == 1) = false := by simp only [beq_eq_false_iff_ne, ne_eq]; omega
      have H3 := item_2 w.heap.size n cap a w2 hn hR2
      clear hR2 y0 y1
      go_wp2_with fail
      refine H3.mono ?_
      rintro e w3 ⟨l, hl, rfl, hR3, hG3⟩
      have hb3 := below_rd hb2 hG3
      have H4 := bytes_any w.heap.size n cap 2 2 a w3 rfl (by omega) (by omega) hn hR3
      clear H3 hR3 hG3 hb2
      go_wp2_with fail
      refine H4.mono ?_
      rintro e w4 ⟨q, hq, rfl, hR4, hG4⟩
      have hb4 := below_rd hb3 hG4
      have happ := ba_app2 l q
      have H5 := hurt_any w.heap.size n cap a (l ++ q) w4 (by simp; omega) hn hR4
      have hlq : (l ++ q).length ≤ 554 := by simp; omega
      clear H4 hR4 hG4 hb3
      go_wp2_with fail
      refine H5.mono ?_
      rintro e w5 ⟨r, hr, rfl, hR5, hG5⟩
      have hb5 := below_rd hb4 hG5
      clear H5 hR5 hG5 hb4
      go_wp2
      go_ret
      exact ⟨r, by omega, rfl, hb5⟩
end Go.Proofs.Ytgneihfhkaamfaa
