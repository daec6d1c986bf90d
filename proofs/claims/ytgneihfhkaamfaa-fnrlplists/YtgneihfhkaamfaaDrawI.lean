/-
  Contracts: the draw of bytes that may be a list, and the laws' test of two rows of texts.
-/
import Derived.Test.YtgneihfhkaamfaaItems
import Derived.Deep.QuietTactic
import Derived.BigQuiet
namespace Go.Proofs.Ytgneihfhkaamfaa
open Go.RowKit
set_option linter.unusedVariables false

set_option maxRecDepth 100000 in
set_option maxHeartbeats 1000000 in
theorem drawItems (n cap : Nat) (a : Option Addr) (w : World) (hn : n ≤ 1048576) (h : Code w a n) :
    Calls Try.prog 18 #[.slice a n cap] w fun e w' => ∃ l : List UInt8, l.length ≤ 1000 ∧ e = .returned (.string ⟨l.toArray⟩) ∧ Below w.heap.size w w' := by
  have H1 := open_any n cap a w h
  clear h
  go_enter Try.func18, Try.ntmps18
  go_wp2_with fail
  refine H1.mono ?_
  rintro e w1 ⟨rfl, hR, hb⟩
  have H2 := below_any w.heap.size n cap 5 5 a w1 rfl (by omega) (by omega) hn hR
  clear H1 hR
  go_wp2_with fail
  refine H2.mono ?_
  rintro e w2 ⟨y, hy, rfl, hR2, hG2⟩
  have hb2 := below_rd hb hG2
  clear H2 hG2 hb
  go_wp2
  go_loopw [4, 5] (fun v i wr => ∃ j : Nat, ∃ l : List UInt8, l.length + j * 183 ≤ 4 * 183 ∧ i = .int .i64 (j : Int) ∧ v = .string ⟨l.toArray⟩ ∧ Rd w.heap.size a n cap wr ∧ Below w.heap.size w wr) (fun _ i _ => (intOf i).toNat)
  case atStart => exact ⟨y, [], by simp; omega, rfl, rfl, hR2, hb2⟩
  case round =>
    obtain ⟨j, l, hjl, rfl, rfl, hRr, hbr⟩ := hrel
    clear hR2 hb2
    by_cases hlt : 0 < j
    · have HK := item_1 w.heap.size n cap a wr hn hRr
      have HBr : Hid (Below w.heap.size w wr) := hbr
      clear hRr hbr
      go_wp2_with fail
      refine HK.mono ?_
      rintro e w3 ⟨q, hq, rfl, hR3, hG3⟩
      have HR3 : Hid (Rd w.heap.size a n cap w3) := hR3
      have HB3 : Hid (Below w.heap.size w w3) := below_rd HBr.out hG3
      have happ := ba_app2 l q
      clear hR3 hG3 HK HBr
      go_wp2
      go_roundw
      case rel => exact ⟨j - 1, l ++ q, by simp; omega, by go_num, by simp, HR3.out, HB3.out⟩
      case measure => simp [intOf]; omega
    · have HK := l1wrap_is l wr (by omega)
      have HR3 : Hid (Rd w.heap.size a n cap wr) := hRr
      have HB3 : Hid (Below w.heap.size w wr) := hbr
      have htl := wrapB_len l 192 (by omega)
      clear hRr hbr
      obtain ⟨q, hq⟩ : ∃ q, q = wrapB l 192 := ⟨_, rfl⟩
      rw [← hq] at HK htl
      clear hq
      go_wp2_with fail
      refine HK.mono ?_
      rintro e w3 ⟨rfl, hb3⟩
      have H5 := hurt_any w.heap.size n cap a q w3 (by omega) hn (HR3.out.keptNone hb3)
      have HB4 : Hid (Below w.heap.size w w3) := HB3.out.trans (hb3.mono HB3.out.size)
      clear HR3 HB3 HK hb3
      go_wp2_with fail
      refine H5.mono ?_
      rintro e w5 ⟨r, hr, rfl, hR5, hG5⟩
      have hb5 := below_rd HB4.out hG5
      clear H5 hR5 hG5 HB4
      go_wp2
      go_ret
      exact ⟨r, by omega, rfl, hb5⟩

set_option maxRecDepth 100000 in
set_option maxHeartbeats 400000 in
theorem sameT (ls : List (List UInt8)) (u v : Value) (b1 b2 : Nat) (w : World) (hl : ls.length ≤ 16777216) (hu : w.ownsRow b1 9 1 u ls.length (scells ls)) (hv : w.ownsRow b2 9 1 v ls.length (scells ls)) :
    Calls Try.prog 17 #[u, v] w fun e w' => e = .returned (.bool true) ∧ ∃ q, w' = w.drewN q := by
  rcases own_cases hu with ⟨rfl, hn, hx⟩ | ⟨g, cap, rfl, hg1, hg2, hc, hf⟩
  · rcases own_cases hv with ⟨rfl, _, _⟩ | ⟨g', cap', rfl, hg1', hg2', hc', hf'⟩
    · go_enter Try.func17, Try.ntmps17
      go_wp2
      refine wp_loop_rounds 1 ?_
      rw [rounds_succ]
      go_wp2
      go_ret
      exact ⟨rfl, 0, rfl⟩
    · rw [hn]
      go_enter Try.func17, Try.ntmps17
      go_wp2
      refine wp_loop_rounds 1 ?_
      rw [rounds_succ]
      go_wp2
      go_ret
      exact ⟨rfl, 0, rfl⟩
  · rcases own_cases hv with ⟨rfl, hn, _⟩ | ⟨g', cap', rfl, hg1', hg2', hc', hf'⟩
    · rw [hn]
      go_enter Try.func17, Try.ntmps17
      go_wp2
      refine wp_loop_rounds 1 ?_
      rw [rounds_succ]
      go_wp2
      go_ret
      exact ⟨rfl, 0, rfl⟩
    · clear hu hv hf hf'
      go_enter Try.func17, Try.ntmps17
      go_wp2
      go_loopw [5] (fun i wr => ∃ j q : Nat, j ≤ ls.length ∧ i = .int .i64 (j : Int) ∧ wr = w.drewN q) (fun i _ => ls.length - (intOf i).toNat)
      case atStart => exact ⟨0, 0, Nat.zero_le _, rfl, rfl⟩
      case round =>
        obtain ⟨j, q, hj, rfl, rfl⟩ := hrel
        by_cases hlt : j < ls.length
        · have c1 := (hc j hlt).trans (scells_at ls j hlt)
          have c2 := (hc' j hlt).trans (scells_at ls j hlt)
          have hj0 : (0 : Int) ≤ (j : Int) := by omega
          have hj1 : (j : Int) < (ls.length : Int) := by omega
          obtain ⟨x, hx⟩ : ∃ x, x = ls[j] := ⟨_, rfl⟩
          rw [← hx] at c1 c2
          clear hc hc' hx
          go_wp2
          go_quiet (fail)
          go_wp2
          go_roundw
          case rel => exact ⟨j + 1, _, by omega, by go_num, rfl⟩
          case measure => simp [intOf]; omega
        · go_wp2
          go_ret
          exact ⟨rfl, q, rfl⟩
end Go.Proofs.Ytgneihfhkaamfaa
