/-
  Contracts: the model's root to which a signature leads: what is refused, and all of it.
-/
import Derived.Test.YtajckopldkmcnaaDoorSRoot
namespace Go.Proofs.YtajckopldkmcnaaDoor
open Go.RowKit
set_option linter.unusedVariables false

/-- A signature is as chapter 4 wants it. -/
def sigOkS (i : Int) (os ps : List (List UInt8)) : Prop := (os.length = 19 ∧ ∀ l ∈ os, l.length = 32) ∧ (0 ≤ i ∧ i ≤ 3) ∧ ps.length = 2 ∧ ∀ l ∈ ps, l.length = 32

set_option maxRecDepth 100000 in
set_option maxHeartbeats 2000000 in
theorem spec_root_no (msg : List UInt8) (i : Int) (ao ap : Option Addr) (co cp : Nat) (os ps : List (List UInt8)) (w : World) (hm : msg.length ≤ 1048576) (hol : os.length ≤ 1048576) (hom : ∀ l ∈ os, l.length ≤ 1048576) (hpl : ps.length ≤ 1048576) (hpm : ∀ l ∈ ps, l.length ≤ 1048576) (hs : IsStrs w ao os) (hp : IsStrs w ap ps) (hno : ¬ sigOkS i os ps) :
    Calls Tryd.prog 93 #[.string ⟨msg.toArray⟩, .agg #[.int .i64 i, .slice ao os.length co, .slice ap ps.length cp]] w fun e w' => e = .returned (.tuple #[.string ⟨#[]⟩, .bool false]) ∧ Below w.heap.size w w' := by
  obtain ⟨c0, c1, c2⟩ := three_cellsS (w := w) (.int .i64 i) (.slice ao os.length co) (.slice ap ps.length cp) 31
  have B1 : Below w.heap.size w (w.alloc (.cells #[.int .i64 i, .slice ao os.length co, .slice ap ps.length cp] 31)) := (Below.refl _ _).alloc (Nat.le_refl _) _
  by_cases hO : os.length = 19 ∧ ∀ l ∈ os, l.length = 32
  · have K1 := spec_publicOf msg ao co os (w.alloc (.cells #[.int .i64 i, .slice ao os.length co, .slice ap ps.length cp] 31)) hm hO.1 hO.2 (isStrs_later hs B1)
    obtain ⟨x, hx⟩ : ∃ x, x = publicOfL msg os := ⟨_, rfl⟩
    rw [← hx] at K1
    have HPS : Hid (∀ W, Below w.heap.size w W → IsStrs W ap ps) := fun W hW => isStrs_later hp hW
    have HNO : Hid (¬ ((0 ≤ i ∧ i ≤ 3) ∧ ps.length = 2 ∧ ∀ l ∈ ps, l.length = 32)) := fun h => hno ⟨hO, h⟩
    have HPM : Hid (∀ l ∈ ps, l.length ≤ 1048576) := hpm
    clear hx hs hno hO hom hp hpm
    go_enter Tryd.func93, Tryd.ntmps93
    go_wp2_with fail
    refine K1.mono ?_
    rintro e w2 ⟨rfl, b2⟩
    have B2 := B1.trans (b2.mono (by simp))
    have f0 := (b2.cell (p := ⟨w.heap.size, 0, none⟩) (by simp)).trans c0
    have f2 := (b2.cell (p := ⟨w.heap.size, 2, none⟩) (by simp)).trans c2
    clear K1 b2 c0 c1 c2 B1
    by_cases hi : 0 ≤ i ∧ i ≤ 3
    · have K2 := l1In_yes i 0 3 w2 hi
      go_wp2_with fail
      refine K2.mono ?_
      rintro e w2 ⟨rfl, rfl⟩
      clear K2
      by_cases h2 : ps.length = 2
      · obtain ⟨p, q, rfl⟩ : ∃ p q, ps = [p, q] := by
          match ps, h2 with
          | [p, q], _ => exact ⟨p, q, rfl⟩
        obtain ⟨b, off, hap, hcell⟩ : ∃ b off, ap = some ⟨b, off, none⟩ ∧ ∀ j (h : j < [p, q].length), w2.cell? ⟨b, off + j, none⟩ = some (.string ⟨[p, q][j].toArray⟩) := by
          rcases HPS.out _ B2 with h | h
          · cases h
          · exact h
        have d0 := hcell 0 (by simp)
        have d1 := hcell 1 (by simp)
        simp only [List.getElem_cons_zero, List.getElem_cons_succ, Nat.add_zero] at d0 d1
        have m0 := HPM.out p (by simp)
        have m1 := HPM.out q (by simp)
        have HBAD : Hid (¬ (p.length = 32 ∧ q.length = 32)) := fun h => HNO.out ⟨hi, h2, by simp [h.1, h.2]⟩
        subst hap
        simp only [List.length_cons, List.length_nil] at f2
        clear hcell h2 HPS HPM HNO hpl
        by_cases hp32 : p.length = 32
        · have hq32 : ¬ q.length = 32 := fun h => HBAD.out ⟨hp32, h⟩
          have hp' : (p.length : Int) = 32 := by omega
          have hq' : ¬ (q.length : Int) = 32 := by omega
          go_wp2
          refine wp_loop_rounds 3 ?_
          rw [rounds_succ]
          go_wp2
          rw [rounds_succ]
          go_wp2
          go_ret2
          exact ⟨rfl, B2⟩
        · have hp' : ¬ (p.length : Int) = 32 := by omega
          go_wp2
          refine wp_loop_rounds 3 ?_
          rw [rounds_succ]
          go_wp2
          go_ret2
          exact ⟨rfl, B2⟩
      · have h2' : ¬ (ps.length : Int) = 2 := by omega
        go_wp2
        go_ret2
        exact ⟨rfl, B2⟩
    · have K2 := l1In_no i 0 3 w2 hi
      clear hi
      go_wp2_with fail
      refine K2.mono ?_
      rintro e w2 ⟨rfl, rfl⟩
      go_wp2
      go_ret2
      exact ⟨rfl, B2⟩
  · have K1 := spec_publicOf_no msg ao co os (w.alloc (.cells #[.int .i64 i, .slice ao os.length co, .slice ap ps.length cp] 31)) hol hom hO (isStrs_later hs B1)
    clear hs hno hO hom hp hpm
    go_enter Tryd.func93, Tryd.ntmps93
    go_wp2_with fail
    refine K1.mono ?_
    rintro e w2 ⟨rfl, rfl⟩
    go_wp2
    go_ret2
    exact ⟨rfl, B1⟩

/-- What RootOfSignature answers. -/
def RootIsS (msg : List UInt8) (i : Int) (os ps : List (List UInt8)) (r : List UInt8) (ok : Bool) : Prop :=
  (ok = true ∧ sigOkS i os ps ∧ ∃ k p q, k ≤ 3 ∧ i = ((k : Nat) : Int) ∧ ps = [p, q] ∧ r = leadsL k (publicOfL msg os) p q) ∨ (ok = false ∧ r = [] ∧ ¬ sigOkS i os ps)

theorem rootIs_someS (msg : List UInt8) (i : Int) (os ps : List (List UInt8)) : ∃ r ok, RootIsS msg i os ps r ok := by
  by_cases h : sigOkS i os ps
  · obtain ⟨k, hk⟩ := Int.eq_ofNat_of_zero_le h.2.1.1
    obtain ⟨p, q, hpq⟩ : ∃ p q, ps = [p, q] := by
      match ps, h.2.2.1 with
      | [p, q], _ => exact ⟨p, q, rfl⟩
    exact ⟨_, true, .inl ⟨rfl, h, k, p, q, by have := h.2.1.2; omega, hk, hpq, rfl⟩⟩
  · exact ⟨[], false, .inr ⟨rfl, rfl, h⟩⟩

theorem spec_root_any (msg : List UInt8) (i : Int) (ao ap : Option Addr) (co cp : Nat) (os ps : List (List UInt8)) (w : World) (hm : msg.length ≤ 1048576) (hol : os.length ≤ 1048576) (hom : ∀ l ∈ os, l.length ≤ 1048576) (hpl : ps.length ≤ 1048576) (hpm : ∀ l ∈ ps, l.length ≤ 1048576) (hs : IsStrs w ao os) (hp : IsStrs w ap ps) (r : List UInt8) (ok : Bool) (hr : RootIsS msg i os ps r ok) :
    Calls Tryd.prog 93 #[.string ⟨msg.toArray⟩, .agg #[.int .i64 i, .slice ao os.length co, .slice ap ps.length cp]] w fun e w' => e = .returned (.tuple #[.string ⟨r.toArray⟩, .bool ok]) ∧ Below w.heap.size w w' := by
  rcases hr with ⟨h0, h, k, p, q, hk, hi, hps, hr⟩ | ⟨h0, hr, h⟩
  · rw [h0, hr, hi]
    obtain ⟨⟨h19, h32⟩, _, _, hp32⟩ := h
    rw [hps] at hp hp32 ⊢
    rw [h19]
    have hp1 := hp32 p (by simp)
    have hq1 := hp32 q (by simp)
    rcases (by omega : k = 0 ∨ k = 1 ∨ k = 2 ∨ k = 3) with rfl | rfl | rfl | rfl
    · exact spec_root0 msg ao ap co cp os p q w hm h19 h32 hp1 hq1 hs hp
    · exact spec_root1 msg ao ap co cp os p q w hm h19 h32 hp1 hq1 hs hp
    · exact spec_root2 msg ao ap co cp os p q w hm h19 h32 hp1 hq1 hs hp
    · exact spec_root3 msg ao ap co cp os p q w hm h19 h32 hp1 hq1 hs hp
  · rw [h0, hr]
    exact spec_root_no msg i ao ap co cp os ps w hm hol hom hpl hpm hs hp h
end Go.Proofs.YtajckopldkmcnaaDoor
