
/-
  Contracts: a drawn text, drawn items of depth 0, 1, 2.
-/
import Derived.Test.YtgoohohkgmiemaaDoorHurt
import Derived.Test.YtgoohohkgmiemaaDoorTxt
import Derived.Test.YtgoohohkgmiemaaDoorMathAll
namespace Go.Proofs.YtgoohohkgmiemaaDoor
open Go.RowKit
set_option linter.unusedVariables false

/-- A text of so many bytes at most. -/
def shortV (m : Nat) : Value → Bool
  | .string s => decide (s.size ≤ m)
  | _ => false

theorem short_is (m : Nat) (v : Value) (h : shortV m v = true) : ∃ l : List UInt8, l.length ≤ m ∧ v = .string ⟨l.toArray⟩ := by
  match v, h with
  | .string s, h => exact ⟨s.data.toList, by simpa [shortV] using h, by rw [← ba_eq]⟩

theorem tab_any {w w1 : World} {rd m k : Nat} {cs : Array Value} {t : TypeId} (hrd : rd < w.heap.size) (hG : (w.alloc (.cells cs t)).grownBy w1 (some rd)) (hall : cs.all (shortV m) = true) (hk : k < cs.size) :
    ∃ l : List UInt8, l.length ≤ m ∧ w1.cell? ⟨w.heap.size, k, none⟩ = some (.string ⟨l.toArray⟩) := by
  have hb : w1.heap[w.heap.size]? = some (.cells cs t) := by rw [hG.block _ (by simp) (by simp; omega)]; exact heap_alloc_new w _
  have hv := (Array.all_eq_true.1 hall) k hk
  obtain ⟨l, hl, e⟩ := short_is m _ hv
  refine ⟨l, hl, ?_⟩
  rw [← e]
  simp [World.cell?, hb, hk]

set_option maxRecDepth 100000 in
set_option maxHeartbeats 400000 in
theorem text_any (rd n cap : Nat) (a : Option Addr) (w : World) (hn : n ≤ 1048576) (h : Rd rd a n cap w) :
    Calls Tryd.prog 19 #[.pointer (some ⟨rd, 0, none⟩)] w fun e w' => ∃ l : List UInt8, l.length ≤ 56 ∧ e = .returned (.string ⟨l.toArray⟩) ∧ Rd rd a n cap w' ∧ w.grownBy w' (some rd) := by
  have hrd := h.lt
  have HR0 : Hid (Rd rd a n cap w) := h
  clear h
  go_enter Tryd.func19, Tryd.ntmps19
  go_wp2_with fail
  refine (below_any rd n cap 12 12 a _ rfl (by omega) (by omega) hn (HR0.out.keptNone ((Below.refl _ _).alloc (Nat.le_refl _) _))).mono ?_
  rintro e w1 ⟨k, hk, rfl, hR, hG⟩
  obtain ⟨l, hl, hc⟩ := tab_any (m := 56) (k := k) hrd hG (by decide +kernel) hk
  have HR : Hid (Rd rd a n cap w1) := hR
  have HG : Hid (w.grownBy w1 (some rd)) := (World.grownBy_alloc w _ (some rd)).trans hG
  have hk' : (k : Int) < 12 := by omega
  clear hR hG HR0
  go_wp2
  go_ret
  exact ⟨l, hl, rfl, HR.out, HG.out⟩

theorem grown_below {w w1 w2 : World} {rd : Nat} (h : w.grownBy w1 (some rd)) (hb : Below w1.heap.size w1 w2) : w.grownBy w2 (some rd) :=
  h.trans ⟨hb.os, hb.tape, hb.output, hb.size, fun k hk _ => hb.block k hk⟩

end Go.Proofs.YtgoohohkgmiemaaDoor
