
/-
  Contracts: a hurt text, an opened reader, the draws of nibbles.
-/
import Derived.Test.YtgoohohkgmiemaaDoorDraw
import Derived.Test.YtgoohohkgmiemaaDoorMathAll
import Derived.Test.YtgoohohkgmiemaaDoorPre
namespace Go.Proofs.YtgoohohkgmiemaaDoor
open Go.RowKit
set_option linter.unusedVariables false

theorem ba_app2 (a b : List UInt8) : ByteArray.mk a.toArray ++ ByteArray.mk b.toArray = ⟨(a ++ b).toArray⟩ := by
  apply ByteArray.ext; simp

set_option maxRecDepth 100000 in
set_option maxHeartbeats 1000000 in
theorem hurt_any (rd n cap : Nat) (a : Option Addr) (s : List UInt8) (w : World) (hs : s.length ≤ 60000) (hn : n ≤ 1048576) (h : Rd rd a n cap w) :
    Calls Tryd.prog 20 #[.pointer (some ⟨rd, 0, none⟩), .string ⟨s.toArray⟩] w fun e w' => ∃ l : List UInt8, l.length ≤ s.length + 2 ∧ e = .returned (.string ⟨l.toArray⟩) ∧ Rd rd a n cap w' ∧ w.grownBy w' (some rd) := by
  have HK := below_any rd n cap 6 6 a w rfl (by omega) (by omega) hn h
  clear h
  go_enter Tryd.func20, Tryd.ntmps20
  go_wp2_with fail
  refine HK.mono ?_
  rintro e w1 ⟨y, hy, rfl, hR, hG⟩
  have HG : Hid (w.grownBy w1 (some rd)) := hG
  clear HK hG
  by_cases y0 : y = 0
  · subst y0
    have HK2 := bytes_any rd n cap 2 2 a w1 rfl (by omega) (by omega) hn hR
    clear hR
    go_wp2_with fail
    refine HK2.mono ?_
    rintro e w2 ⟨l, hl, rfl, hR2, hG2⟩
    have HR2 : Hid (Rd rd a n cap w2) := hR2
    have HG2 : Hid (w.grownBy w2 (some rd)) := HG.out.trans hG2
    have happ := ba_app2 s l
    clear hR2 hG2 HK2 HG
    go_wp2
    go_ret
    exact ⟨s ++ l, by simp; omega, by simp, HR2.out, HG2.out⟩
  · have y0' : ((y : Int) == 0) = false := by simp only [beq_eq_false_iff_ne, ne_eq]; omega
    by_cases y1 : y = 1
    · subst y1
      have HK2 := below_gen rd n cap (s.length + 1) ((s.length : Int) + 1) a w1 (by omega) (by omega) (by omega) hn hR
      clear hR y0 y0'
      go_wp2_with fail
      refine HK2.mono ?_
      rintro e w2 ⟨k, hk, rfl, hR2, hG2⟩
      have HR2 : Hid (Rd rd a n cap w2) := hR2
      have HG2 : Hid (w.grownBy w2 (some rd)) := HG.out.trans hG2
      have hx := ext_to s k (by omega)
      have hk' : (k : Int) ≤ (s.length : Int) := by omega
      clear hR2 hG2 HK2 HG
      go_wp2
      go_ret
      exact ⟨s.take k, by simp; omega, by simp, HR2.out, HG2.out⟩
    · have y1' : ((y : Int) == 1) = false := by simp only [beq_eq_false_iff_ne, ne_eq]; omega
      by_cases y2 : y = 2
      · subst y2
        by_cases hse : s = []
        · subst hse
          have HR2 : Hid (Rd rd a n cap w1) := hR
          clear hR
          go_wp2
          go_ret
          exact ⟨[], by simp, rfl, HR2.out, HG.out⟩
        · have hsl : 1 ≤ s.length := by cases s with
            | nil => exact absurd rfl hse
            | cons c r => simp
          have hsl' : (1 : Int) ≤ (s.length : Int) := by omega
          have HK2 := below_gen rd n cap s.length s.length a w1 rfl hsl (by omega) hn hR
          clear hR y0 y0' y1 y1' hse
          go_wp2_with fail
          refine HK2.mono ?_
          rintro e w2 ⟨k, hk, rfl, hR2, hG2⟩
          have HR2 : Hid (Rd rd a n cap w2) := hR2
          have HG2 : Hid (w.grownBy w2 (some rd)) := HG.out.trans hG2
          have hx1 := ext_to s k (by omega)
          have hx2 := ext_from s (k + 1) (by omega)
          have hk' : (k : Int) < (s.length : Int) := by omega
          have hk0 : (0 : Int) ≤ (k : Int) := by omega
          have hk1 : (k : Int) + 1 ≤ (s.length : Int) := by omega
          have hk2 : (0 : Int) ≤ (k : Int) + 1 := by omega
          have hwr : IntKind.i64.wrap ((k : Int) + 1) = (k : Int) + 1 := i64_wrap_small _ (by omega) (by omega)
          obtain ⟨q1, hq1⟩ : ∃ q1, q1 = s.take k := ⟨_, rfl⟩
          obtain ⟨q2, hq2⟩ : ∃ q2, q2 = s.drop (k + 1) := ⟨_, rfl⟩
          have hl1 : q1.length ≤ k := by rw [hq1]; simp; omega
          have hl2 : q2.length + k + 1 ≤ s.length := by rw [hq2]; simp; omega
          rw [← hq1] at hx1
          rw [← hq2] at hx2
          clear hR2 hG2 HK2 HG hq1 hq2
          go_wp2_with fail
          go_region_with (go_at_call 28; refine (bytes_any rd n cap 1 1 a _ rfl (by omega) (by omega) hn (by exact HR2.out)).mono ?_; rintro e w3 ⟨l, hl, rfl, hR3, hG3⟩; have HR3 : Hid (Rd rd a n cap w3) := hR3; have HG3 : Hid (w.grownBy w3 (some rd)) := HG2.out.trans ⟨hG3.os, hG3.tape, hG3.output, hG3.size, hG3.block⟩; have ha1 := ba_app2 q1 l; have ha2 := ba_app2 (q1 ++ l) q2; clear hR3 hG3)
          all_goals
            go_wp2
            go_ret
            exact ⟨q1 ++ (l ++ q2), by simp; omega, rfl, HR3.out, HG3.out⟩
      · have y2' : ((y : Int) == 2) = false := by simp only [beq_eq_false_iff_ne, ne_eq]; omega
        have HR2 : Hid (Rd rd a n cap w1) := hR
        clear hR
        go_wp2
        go_ret
        exact ⟨s, by omega, rfl, HR2.out, HG.out⟩

/-- What the walk is told of the code: nothing, or bytes at their places. -/
def Code (w : World) (a : Option Addr) (n : Nat) : Prop := n = 0 ∨ ∃ cb off, a = some ⟨cb, off, none⟩ ∧ cb < w.heap.size ∧ ∀ i, i < n → ∃ z : UInt8, w.cell? ⟨cb, off + i, none⟩ = some (.int .u8 (z.toNat : Int))

theorem Code.later {w w' : World} {a : Option Addr} {n : Nat} (h : Code w a n) (hb : Below w.heap.size w w') : Code w' a n := by
  rcases h with h | ⟨cb, off, h1, h2, h3⟩
  · exact .inl h
  · exact .inr ⟨cb, off, h1, Nat.lt_of_lt_of_le h2 hb.size, fun i hi => by obtain ⟨z, hz⟩ := h3 i hi; exact ⟨z, by rw [hb.cell (p := ⟨cb, off + i, none⟩) h2]; exact hz⟩⟩

set_option maxRecDepth 100000 in
set_option maxHeartbeats 400000 in
theorem open_any (n cap : Nat) (a : Option Addr) (w : World) (h : Code w a n) :
    Calls Tryd.prog 17 #[.slice a n cap] w fun e w' => e = .returned (.pointer (some ⟨w.heap.size, 0, none⟩)) ∧ Rd w.heap.size a n cap w' ∧ Below w.heap.size w w' := by
  have HR : Hid (Rd w.heap.size a n cap (w.alloc (.cells #[.slice a n cap, .int .i64 0] 44))) := by
    refine ⟨⟨0, Nat.zero_le _, heap_alloc_new w _⟩, ?_⟩
    rcases h with h | ⟨cb, off, h1, h2, h3⟩
    · exact .inl h
    · exact .inr ⟨cb, off, h1, by omega, by simp; omega, fun i hi => by obtain ⟨z, hz⟩ := h3 i hi; exact ⟨z, by rw [World.cell?_of_block (w := w) (Below.heap_alloc _ _ _ h2)]; exact hz⟩⟩
  clear h
  go_enter Tryd.func17, Tryd.ntmps17
  go_wp2
  go_ret
  exact ⟨rfl, HR.out, (Below.refl _ _).alloc (Nat.le_refl _) _⟩

theorem below_rd {w w1 w2 : World} (h : Below w.heap.size w w1) (hg : w1.grownBy w2 (some w.heap.size)) : Below w.heap.size w w2 :=
  h.grown hg h.size (fun k hk => by simp at hk; omega)

end Go.Proofs.YtgoohohkgmiemaaDoor
