/-
  Rows of texts that came in: they stay, and rows that are owned are such.
-/
import Derived.Test.YtljalgjpedpnjaaStrsAll
namespace Go.Proofs.Ytljalgjpedpnjaa
open Go.RowKit
set_option linter.unusedVariables false

theorem strs_later {w w' : World} {a : Option Addr} {ls : List (List UInt8)} (h : IsStrs w a ls) (hb : Below w.heap.size w w') : IsStrs w' a ls := by
  rcases h with h | ⟨b, off, h1, h2⟩
  · exact .inl h
  · exact .inr ⟨b, off, h1, fun j h => (hb.cell (p := ⟨b, off + j, none⟩) (World.block_lt_of_cell? w _ (h2 j h))).trans (h2 j h)⟩
theorem strs_own {w : World} {base e n : Nat} {a : Option Addr} {m cap : Nat} {ls : List (List UInt8)} (h : w.ownsRow base e 1 (.slice a m cap) n (scells ls)) : m = ls.length ∧ n = ls.length ∧ IsStrs w a ls := by
  have hn : n = ls.length := by have := h.1; rw [scells_length] at this; omega
  rcases own_cases h with ⟨hv, h0, hx⟩ | ⟨g, cap', hv, hg1, hg2, hc, hf⟩
  · cases hv
    exact ⟨by omega, hn, .inl (List.length_eq_zero_iff.1 (by omega))⟩
  · cases hv
    exact ⟨hn, hn, .inr ⟨g, 0, rfl, fun j hj => by rw [Nat.zero_add, hc j (by omega), scells_at ls j hj]⟩⟩

theorem keptX {w w' : World} {b e n : Nat} {v : Value} {xs : List Value} (h : w.ownsRow b e 1 v n xs) (hb : Below w.heap.size w w') : w'.ownsRow b e 1 v n xs :=
  h.kept (row := none) ⟨hb.os, hb.tape, hb.output, hb.size, fun k hk _ => hb.block k hk⟩ (by
    cases hv : v.ownBlock with
    | none => exact .inl rfl
    | some k => exact .inr (by simp))
/-- The bytes of texts. -/
def bytesN (ls : List (List UInt8)) : Nat := ls.flatten.length

set_option maxRecDepth 100000 in
set_option maxHeartbeats 400000 in
theorem impl_proofBytes (a : Option Addr) (cap : Nat) (ls : List (List UInt8)) (w : World) (hl : ls.length + ls.flatten.length ≤ 1048576) (hs : IsStrs w a ls) :
    Calls Try.prog 23 #[.slice a ls.length cap] w fun e w' => e = .returned (.int .i64 (bytesN ls : Int)) ∧ w' = w := by
  rcases hs with rfl | ⟨b, off, rfl, hc⟩
  · go_enter Try.func23, Try.ntmps23
    go_wp2
    refine wp_loop_rounds 1 ?_
    rw [rounds_succ]
    go_wp2
    go_ret
    exact ⟨rfl, rfl⟩
  · obtain ⟨r, hr⟩ : ∃ r, r = bytesN ls := ⟨_, rfl⟩
    rw [← hr]
    have HR : Hid (r = bytesN ls) := hr
    have HL : Hid (ls.length + ls.flatten.length ≤ 1048576) := hl
    have hln : ls.length ≤ 1048576 := by omega
    clear hr hl
    go_enter Try.func23, Try.ntmps23
    go_wp2
    go_loop [3, 5, 8] (fun v _ i => ∃ j q : Nat, j ≤ ls.length ∧ i = .int .i64 (j : Int) ∧ v = .int .i64 (q : Int) ∧ q ≤ 1048576 ∧ Hid (q = (ls.take j).flatten.length)) (fun _ _ i => ls.length - (intOf i).toNat)
    case atStart => exact ⟨0, 0, Nat.zero_le _, rfl, rfl, by omega, by rw [Hid]; simp⟩
    case round =>
      obtain ⟨j, q, hj, rfl, rfl, hq1, hq⟩ := hrel
      by_cases hlt : j < ls.length
      · have c1 := hc j hlt
        have HS : Hid ((ls.take (j + 1)).flatten.length = q + ls[j].length) := by rw [Hid, flat_snoc ls j hlt, List.length_append, hq.out]
        have hqx : q + ls[j].length ≤ 1048576 := by have h1 := HS.out; have h2 := flat_le ls (j + 1); have h3 := HL.out; omega
        have hj0 : (0 : Int) ≤ (j : Int) := by omega
        have hj1 : (j : Int) < (ls.length : Int) := by omega
        obtain ⟨x, hx⟩ : ∃ x, x = ls[j] := ⟨_, rfl⟩
        rw [← hx] at c1 HS hqx
        have hqx' : (q : Int) + (x.length : Int) ≤ 1048576 := by omega
        clear hc hx hq
        go_wp2
        go_round
        case rel => exact ⟨j + 1, q + x.length, by omega, by go_num, by go_num, hqx, HS.out.symm⟩
        case measure => simp [intOf]; omega
      · have hjl : j = ls.length := by omega
        subst hjl
        have HQ : Hid (q = r) := by rw [Hid, HR.out, bytesN]; have := hq.out; rw [List.take_length] at this; exact this
        clear hq
        go_wp2
        go_ret
        exact ⟨by rw [HQ.out]; rfl, rfl⟩

set_option maxRecDepth 100000 in
set_option maxHeartbeats 400000 in
theorem spec_proofBytes (a : Option Addr) (cap : Nat) (ls : List (List UInt8)) (w : World) (hl : ls.length + ls.flatten.length ≤ 1048576) (hs : IsStrs w a ls) :
    Calls Try.prog 21 #[.slice a ls.length cap] w fun e w' => e = .returned (.int .i64 (bytesN ls : Int)) ∧ w' = w := by
  rcases hs with rfl | ⟨b, off, rfl, hc⟩
  · go_enter Try.func21, Try.ntmps21
    go_wp2
    refine wp_loop_rounds 1 ?_
    rw [rounds_succ]
    go_wp2
    go_ret
    exact ⟨rfl, rfl⟩
  · obtain ⟨r, hr⟩ : ∃ r, r = bytesN ls := ⟨_, rfl⟩
    rw [← hr]
    have HR : Hid (r = bytesN ls) := hr
    have HL : Hid (ls.length + ls.flatten.length ≤ 1048576) := hl
    have hln : ls.length ≤ 1048576 := by omega
    clear hr hl
    go_enter Try.func21, Try.ntmps21
    go_wp2
    go_loop [3, 4] (fun v i => ∃ j q : Nat, j ≤ ls.length ∧ i = .int .i64 (j : Int) ∧ v = .int .i64 (q : Int) ∧ q ≤ 1048576 ∧ Hid (q = (ls.take j).flatten.length)) (fun _ i => ls.length - (intOf i).toNat)
    case atStart => exact ⟨0, 0, Nat.zero_le _, rfl, rfl, by omega, by rw [Hid]; simp⟩
    case round =>
      obtain ⟨j, q, hj, rfl, rfl, hq1, hq⟩ := hrel
      by_cases hlt : j < ls.length
      · have c1 := hc j hlt
        have HS : Hid ((ls.take (j + 1)).flatten.length = q + ls[j].length) := by rw [Hid, flat_snoc ls j hlt, List.length_append, hq.out]
        have hqx : q + ls[j].length ≤ 1048576 := by have h1 := HS.out; have h2 := flat_le ls (j + 1); have h3 := HL.out; omega
        have hj0 : (0 : Int) ≤ (j : Int) := by omega
        have hj1 : (j : Int) < (ls.length : Int) := by omega
        obtain ⟨x, hx⟩ : ∃ x, x = ls[j] := ⟨_, rfl⟩
        rw [← hx] at c1 HS hqx
        have hqx' : (q : Int) + (x.length : Int) ≤ 1048576 := by omega
        clear hc hx hq
        go_wp2
        go_round
        case rel => exact ⟨j + 1, q + x.length, by omega, by go_num, by go_num, hqx, HS.out.symm⟩
        case measure => simp [intOf]; omega
      · have hjl : j = ls.length := by omega
        subst hjl
        have HQ : Hid (q = r) := by rw [Hid, HR.out, bytesN]; have := hq.out; rw [List.take_length] at this; exact this
        clear hq
        go_wp2
        go_ret
        exact ⟨by rw [HQ.out]; rfl, rfl⟩
end Go.Proofs.Ytljalgjpedpnjaa
