
/-
  Contracts: the draws of seeds, of numbers that may be off, of what chapter 3 wants.
-/
import Derived.Test.YtddjpfgkjijmoaaDoorDrawC
import Derived.Test.YtddjpfgkjijmoaaDoorSSum
import Derived.Test.YtddjpfgkjijmoaaDoorMath2
namespace Go.Proofs.YtddjpfgkjijmoaaDoor
open Go.RowKit
set_option linter.unusedVariables false

theorem results_tmp4 {fn : Func} {t u v x : Tmp} (h : fn.results = #[.tmp t, .tmp u, .tmp v, .tmp x]) (tmps : Array Value) (P : Program) (w : World) :
    (results fn tmps).run P w = .ok (.tuple #[tmps.getD t undef, tmps.getD u undef, tmps.getD v undef, tmps.getD x undef]) w := by
  simp [results, h]

set_option maxRecDepth 100000 in
theorem below_one (rd : Nat) (w : World) :
    Calls Tryd.prog 56 #[.pointer (some ⟨rd, 0, none⟩), .int .i64 1] w fun e w' => e = .returned (.int .i64 0) ∧ w' = w := by
  go_enter Tryd.func56, Tryd.ntmps56
  go_wp2
  go_ret
  exact ⟨rfl, rfl⟩

set_option maxRecDepth 100000 in
set_option maxHeartbeats 400000 in
theorem seed_any (rd n cap : Nat) (a : Option Addr) (w : World) (hn : n ≤ 1048576) (h : Rd rd a n cap w) :
    Calls Tryd.prog 49 #[.pointer (some ⟨rd, 0, none⟩)] w fun e w' => ∃ l : List UInt8, l.length ≤ 32 ∧ e = .returned (.string ⟨l.toArray⟩) ∧ Rd rd a n cap w' ∧ w.grownBy w' (some rd) := by
  have K1 := text_any rd n cap a w hn h
  clear h
  go_enter Tryd.func49, Tryd.ntmps49
  go_wp2_with fail
  refine K1.mono ?_
  rintro e w1 ⟨t, ht, rfl, hR1, hG1⟩
  have K2 := spec_sum t w1 (by omega)
  have hl := sumL_len t
  obtain ⟨s, hs⟩ : ∃ s, s = sumL t := ⟨_, rfl⟩
  rw [← hs] at K2 hl
  have HR1 : Hid (Rd rd a n cap w1) := hR1
  have HG1 : Hid (w.grownBy w1 (some rd)) := hG1
  clear K1 hR1 hG1 hs
  go_wp2_with fail
  refine K2.mono ?_
  rintro e w2 ⟨rfl, b2⟩
  have HR2 : Hid (Rd rd a n cap w2) := HR1.out.keptNone b2
  have HG2 : Hid (w.grownBy w2 (some rd)) := grown_more HG1.out (row' := none) ⟨b2.os, b2.tape, b2.output, b2.size, fun k hk _ => b2.block k hk⟩ (by simp)
  have K3 := once_any rd n cap 24 24 a w2 rfl (by omega) (by omega) hn HR2.out
  clear K2 HR1 HG1 b2 HR2
  go_wp2_with fail
  refine K3.mono ?_
  rintro e w3 ⟨t3, rfl, hR3, hG3⟩
  have HR3 : Hid (Rd rd a n cap w3) := hR3
  have HG3 : Hid (w.grownBy w3 (some rd)) := grown_more HG2.out hG3 (by simp)
  clear K3 hR3 hG3 HG2
  cases t3
  · go_wp2
    go_ret
    exact ⟨s, by omega, rfl, HR3.out, HG3.out⟩
  · have K4 := below_any rd n cap 33 33 a w3 rfl (by omega) (by omega) hn HR3.out
    clear HR3
    go_wp2_with fail
    refine K4.mono ?_
    rintro e w4 ⟨y, hy, rfl, hR4, hG4⟩
    have HR4 : Hid (Rd rd a n cap w4) := hR4
    have HG4 : Hid (w.grownBy w4 (some rd)) := grown_more HG3.out hG4 (by simp)
    have hsl := fun W => sl_to (P := Tryd.prog) Tryd.underlying9 s (y : Int) y rfl (by omega) W
    have hyl : (y : Int) ≤ (s.length : Int) := by omega
    clear K4 hR4 hG4 HG3
    go_wp2
    go_ret
    exact ⟨s.take y, by simp; omega, by simp, HR4.out, HG4.out⟩

set_option maxRecDepth 100000 in
set_option maxHeartbeats 400000 in
theorem word_any (rd n cap : Nat) (a : Option Addr) (w : World) (hn : n ≤ 1048576) (h : Rd rd a n cap w) :
    Calls Tryd.prog 86 #[.pointer (some ⟨rd, 0, none⟩)] w fun e w' => ∃ x : Int, e = .returned (.int .u64 x) ∧ Rd rd a n cap w' ∧ w.grownBy w' (some rd) := by
  go_enter Tryd.func86, Tryd.ntmps86
  go_wp2
  go_loopw [3, 4] (fun v i wr => ∃ j : Nat, ∃ x : Int, j ≤ 8 ∧ i = .int .i64 (j : Int) ∧ v = .int .u64 x ∧ Rd rd a n cap wr ∧ w.grownBy wr (some rd)) (fun _ i _ => 8 - (intOf i).toNat)
  case atStart => exact ⟨0, 0, by omega, rfl, rfl, h, World.grownBy.refl _ _⟩
  case round =>
    obtain ⟨j, x, hj, rfl, rfl, hRr, hgr⟩ := hrel
    clear h
    by_cases hlt : j < 8
    · have hlt' : (j : Int) < 8 := by omega
      have K := next_any rd n cap a wr hn hRr
      have HG : Hid (w.grownBy wr (some rd)) := hgr
      clear hRr hgr
      go_wp2_with fail
      refine K.mono ?_
      rintro e w1 ⟨y, hy, rfl, hR1, hG1⟩
      have HR1 : Hid (Rd rd a n cap w1) := hR1
      have HG1 : Hid (w.grownBy w1 (some rd)) := grown_more HG.out hG1 (by simp)
      clear K hR1 hG1 HG
      go_wp2
      go_roundw
      case rel => exact ⟨j + 1, _, by omega, by go_num, rfl, HR1.out, HG1.out⟩
      case measure => simp [intOf]; omega
    · have HRr : Hid (Rd rd a n cap wr) := hRr
      have HG : Hid (w.grownBy wr (some rd)) := hgr
      clear hRr hgr
      go_wp2
      go_ret
      exact ⟨x, rfl, HRr.out, HG.out⟩

set_option maxRecDepth 100000 in
set_option maxHeartbeats 400000 in
theorem near_any (rd n cap hi : Nat) (x : Int) (a : Option Addr) (w : World) (hx : x = (hi : Int)) (hh : hi ≤ 1000) (hn : n ≤ 1048576) (h : Rd rd a n cap w) :
    Calls Tryd.prog 73 #[.pointer (some ⟨rd, 0, none⟩), .int .i64 0, .int .i64 x] w fun e w' => ∃ x : Int, e = .returned (.int .i64 x) ∧ Rd rd a n cap w' ∧ w.grownBy w' (some rd) := by
  subst hx
  have K1 := below_any rd n cap 8 8 a w rfl (by omega) (by omega) hn h
  clear h
  go_enter Tryd.func73, Tryd.ntmps73
  go_wp2_with fail
  refine K1.mono ?_
  rintro e w1 ⟨y, hy, rfl, hR1, hG1⟩
  have HR1 : Hid (Rd rd a n cap w1) := hR1
  have HG1 : Hid (w.grownBy w1 (some rd)) := hG1
  clear K1 hR1 hG1
  by_cases y0 : y = 0
  · subst y0
    go_wp2
    go_ret
    exact ⟨_, rfl, HR1.out, HG1.out⟩
  · have y0' : ((y : Int) == 0) = false := by simp only [beq_eq_false_iff_ne, ne_eq]; omega
    by_cases y1 : y = 1
    · subst y1
      go_wp2
      go_ret
      exact ⟨_, rfl, HR1.out, HG1.out⟩
    · have y1' : ((y : Int) == 1) = false := by simp only [beq_eq_false_iff_ne, ne_eq]; omega
      have K2 := word_any rd n cap a w1 hn HR1.out
      have hp : ¬ (hi : Int) < 0 := by omega
      have hp1 : (hi : Int) + 1 ≠ 0 := by omega
      clear HR1
      go_wp2_with fail
      refine K2.mono ?_
      rintro e w2 ⟨z, rfl, hR2, hG2⟩
      have HR2 : Hid (Rd rd a n cap w2) := hR2
      have HG2 : Hid (w.grownBy w2 (some rd)) := grown_more HG1.out hG2 (by simp)
      clear K2 hR2 hG2 HG1
      go_wp2
      go_ret
      exact ⟨_, rfl, HR2.out, HG2.out⟩

/-- A number of 64 bits. -/
def isI64 : Value → Bool
  | .int .i64 _ => true
  | _ => false
theorem isI64_is (v : Value) (h : isI64 v = true) : ∃ x, v = .int .i64 x := by
  match v, h with
  | .int .i64 x, _ => exact ⟨x, rfl⟩
theorem tabI_any {w w1 : World} {rd k : Nat} {cs : Array Value} {t : TypeId} (hrd : rd < w.heap.size) (hG : (w.alloc (.cells cs t)).grownBy w1 (some rd)) (hall : cs.all isI64 = true) (hk : k < cs.size) :
    ∃ x : Int, w1.cell? ⟨w.heap.size, k, none⟩ = some (.int .i64 x) := by
  have hb : w1.heap[w.heap.size]? = some (.cells cs t) := by rw [hG.block _ (by simp) (by simp; omega)]; exact heap_alloc_new w _
  have hv := (Array.all_eq_true.1 hall) k hk
  obtain ⟨x, e⟩ := isI64_is _ hv
  refine ⟨x, ?_⟩
  rw [← e]
  simp [World.cell?, hb, hk]

set_option maxRecDepth 100000 in
set_option maxHeartbeats 400000 in
theorem off_any (rd n cap hi : Nat) (x : Int) (a : Option Addr) (w : World) (hx : x = (hi : Int)) (hh : hi ≤ 1000) (hn : n ≤ 1048576) (h : Rd rd a n cap w) :
    Calls Tryd.prog 57 #[.pointer (some ⟨rd, 0, none⟩), .int .i64 0, .int .i64 x] w fun e w' => ∃ x : Int, e = .returned (.int .i64 x) ∧ Rd rd a n cap w' ∧ w.grownBy w' (some rd) := by
  subst hx
  have K1 := once_any rd n cap 24 24 a w rfl (by omega) (by omega) hn h
  clear h
  go_enter Tryd.func57, Tryd.ntmps57
  go_wp2_with fail
  refine K1.mono ?_
  rintro e w1 ⟨t, rfl, hR1, hG1⟩
  have HR1 : Hid (Rd rd a n cap w1) := hR1
  have HG1 : Hid (w.grownBy w1 (some rd)) := hG1
  have hrd := hR1.lt
  clear K1 hR1 hG1
  cases t
  · have K2 := near_any rd n cap hi hi a w1 rfl hh hn HR1.out
    clear HR1
    go_wp2_with fail
    refine K2.mono ?_
    rintro e w2 ⟨z, rfl, hR2, hG2⟩
    have HR2 : Hid (Rd rd a n cap w2) := hR2
    have HG2 : Hid (w.grownBy w2 (some rd)) := grown_more HG1.out hG2 (by simp)
    clear K2 hR2 hG2 HG1
    go_wp2
    go_ret
    exact ⟨z, rfl, HR2.out, HG2.out⟩
  · go_wp2_with fail
    refine (below_any rd n cap 4 4 a _ rfl (by omega) (by omega) hn (HR1.out.keptNone ((Below.refl _ _).alloc (Nat.le_refl _) _))).mono ?_
    rintro e w2 ⟨k, hk, rfl, hR2, hG2⟩
    obtain ⟨z, hc⟩ := tabI_any (k := k) hrd hG2 (by simp [isI64]) (by simpa using hk)
    have HR2 : Hid (Rd rd a n cap w2) := hR2
    have HG2 : Hid (w.grownBy w2 (some rd)) := grown_more HG1.out ((World.grownBy_alloc w1 _ (some rd)).trans hG2) (by simp)
    have hk' : (k : Int) < 4 := by omega
    have hk0 : (0 : Int) ≤ (k : Int) := by omega
    clear hR2 hG2 HG1 HR1
    go_wp2
    go_ret
    exact ⟨z, rfl, HR2.out, HG2.out⟩

end Go.Proofs.YtddjpfgkjijmoaaDoor
