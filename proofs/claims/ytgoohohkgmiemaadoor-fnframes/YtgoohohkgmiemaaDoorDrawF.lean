/-
  Contracts: the draws of frames, the laws' equal rows of texts over a beginning of a row.
-/
import Derived.Test.YtgoohohkgmiemaaDoorFrameS
import Derived.Test.YtgoohohkgmiemaaDoorItems
import Derived.Test.YtgoohohkgmiemaaDoorSame
import Derived.Test.YtgoohohkgmiemaaDoorStrsAll
namespace Go.Proofs.YtgoohohkgmiemaaDoor
open Go.RowKit
set_option linter.unusedVariables false

set_option maxRecDepth 100000 in
set_option maxHeartbeats 400000 in
theorem drawFrameOf (n cap : Nat) (a : Option Addr) (w : World) (hn : n ≤ 1048576) (h : Code w a n) :
    Calls Tryd.prog 12 #[.slice a n cap] w fun e w' => ∃ l : List UInt8, l.length ≤ 56 ∧ e = .returned (.string ⟨l.toArray⟩) ∧ Below w.heap.size w w' := by
  have H1 := open_any n cap a w h
  clear h
  go_enter Tryd.func12, Tryd.ntmps12
  go_wp2_with fail
  refine H1.mono ?_
  rintro e w1 ⟨rfl, hR, hb⟩
  have H3 := text_any w.heap.size n cap a w1 hn hR
  clear H1 hR
  go_wp2_with fail
  refine H3.mono ?_
  rintro e w3 ⟨l, hl, rfl, hR3, hG3⟩
  have hb3 := below_rd hb hG3
  clear H3 hR3 hG3 hb
  go_wp2
  go_ret
  exact ⟨l, hl, rfl, hb3⟩

theorem frameL_len (d : List UInt8) (h : d.length ≤ 56) : (frameL d).length ≤ 68 := by
  rw [frameL, if_pos (by omega), frameB_length]; omega

set_option maxRecDepth 100000 in
set_option maxHeartbeats 1000000 in
theorem drawTakeFrames (n cap : Nat) (a : Option Addr) (w : World) (hn : n ≤ 1048576) (h : Code w a n) :
    Calls Tryd.prog 7 #[.slice a n cap] w fun e w' => ∃ l : List UInt8, l.length ≤ 206 ∧ e = .returned (.string ⟨l.toArray⟩) ∧ Below w.heap.size w w' := by
  have H1 := open_any n cap a w h
  clear h
  go_enter Tryd.func7, Tryd.ntmps7
  go_wp2_with fail
  refine H1.mono ?_
  rintro e w1 ⟨rfl, hR, hb⟩
  have H3 := below_any w.heap.size n cap 4 4 a w1 rfl (by omega) (by omega) hn hR
  clear H1 hR
  go_wp2_with fail
  refine H3.mono ?_
  rintro e w2 ⟨y, hy, rfl, hR2, hG2⟩
  have hb2 := below_rd hb hG2
  clear H3 hG2 hb
  go_wp2
  go_loopw [4, 5] (fun v i wr => ∃ j : Nat, ∃ s : List UInt8, j ≤ 3 ∧ s.length + j * 68 ≤ 204 ∧ v = .string ⟨s.toArray⟩ ∧ i = .int .i64 (j : Int) ∧ Rd w.heap.size a n cap wr ∧ Below w.heap.size w wr) (fun _ i _ => (intOf i).toNat)
  case atStart => exact ⟨y, [], by omega, by simp; omega, rfl, rfl, hR2, hb2⟩
  case round =>
    obtain ⟨j, s, hj, hs, rfl, rfl, hRr, hbr⟩ := hrel
    have hzs : (ByteArray.mk s.toArray).size = s.length := by simp [ByteArray.size]
    have HR : Hid (Rd w.heap.size a n cap wr) := hRr
    clear hRr hR2 hb2
    by_cases hlt : 0 < j
    · have H4 := text_any w.heap.size n cap a wr hn HR.out
      go_wp2_with fail
      refine H4.mono ?_
      rintro e w3 ⟨t, ht, rfl, hR3, hG3⟩
      have hb3 := below_rd hbr hG3
      have HR3 : Hid (Rd w.heap.size a n cap w3) := hR3
      have H5 := spec_frameOf t w3 (by omega)
      have hfl := frameL_len t ht
      obtain ⟨ft, hft⟩ : ∃ ft, ft = frameL t := ⟨_, rfl⟩
      rw [← hft] at H5 hfl
      have hzf : (ByteArray.mk ft.toArray).size = ft.length := by simp [ByteArray.size]
      clear H4 hR3 hG3 hbr hft
      go_wp2_with fail
      refine H5.mono ?_
      rintro e w4 ⟨rfl, b4⟩
      have hR4 : Rd w.heap.size a n cap w4 := HR3.out.keptNone b4
      have hb4 := hb3.trans (b4.mono hb3.size)
      clear H5 b4 HR3 HR hb3
      go_wp2
      go_roundw
      case rel => exact ⟨j - 1, s ++ ft, by omega, by simp; omega, by rw [ba_app], by go_num, hR4, hb4⟩
      case measure => simp [intOf]; omega
    · have H4 := hurt_any w.heap.size n cap a s wr (by omega) hn HR.out
      go_wp2_with fail
      refine H4.mono ?_
      rintro e w3 ⟨t, ht, rfl, hR3, hG3⟩
      have hb3 := below_rd hbr hG3
      clear H4 hR3 hG3 hbr
      go_wp2
      go_ret
      exact ⟨t, by omega, rfl, hb3⟩

/-- The texts of a slice, from the front of a block. -/
def AtStrs (w : World) (a : Option Addr) (ls : List (List UInt8)) : Prop := ls = [] ∨ ∃ g, a = some ⟨g, 0, none⟩ ∧ ∀ j (h : j < ls.length), w.cell? ⟨g, j, none⟩ = some (.string ⟨ls[j].toArray⟩)

set_option maxRecDepth 100000 in
set_option maxHeartbeats 400000 in
theorem sameT_any (ls : List (List UInt8)) (a1 a2 : Option Addr) (cap1 cap2 : Nat) (w : World) (hl : ls.length ≤ 16777216) (h1 : AtStrs w a1 ls) (h2 : AtStrs w a2 ls) :
    Calls Tryd.prog 10 #[.slice a1 ls.length cap1, .slice a2 ls.length cap2] w fun e w' => e = .returned (.bool true) ∧ ∃ q, w' = w.drewN q := by
  by_cases hn : ls = []
  · subst hn
    clear h1 h2
    go_enter Tryd.func10, Tryd.ntmps10
    go_wp2
    refine wp_loop_rounds 1 ?_
    rw [rounds_succ]
    go_wp2
    go_ret
    exact ⟨rfl, 0, rfl⟩
  · rcases h1 with h | ⟨g, rfl, hc⟩
    · exact absurd h hn
    rcases h2 with h | ⟨g', rfl, hc'⟩
    · exact absurd h hn
    clear hn
    go_enter Tryd.func10, Tryd.ntmps10
    go_wp2
    go_loopw [5] (fun i wr => ∃ j q : Nat, j ≤ ls.length ∧ i = .int .i64 (j : Int) ∧ wr = w.drewN q) (fun i _ => ls.length - (intOf i).toNat)
    case atStart => exact ⟨0, 0, Nat.zero_le _, rfl, rfl⟩
    case round =>
      obtain ⟨j, q, hj, rfl, rfl⟩ := hrel
      by_cases hlt : j < ls.length
      · have c1 := hc j hlt
        have c2 := hc' j hlt
        have hj0 : (0 : Int) ≤ (j : Int) := by omega
        have hj1 : (j : Int) < (ls.length : Int) := by omega
        obtain ⟨x, hx⟩ : ∃ x, x = ls[j] := ⟨_, rfl⟩
        rw [← hx] at c1 c2
        clear hc hc' hx
        go_wp2
        go_quiet (fail)
        go_wp2
        go_roundw
        case rel => exact ⟨j + 1, _, by omega, by go_num, rfl⟩
        case measure => simp [intOf]; omega
      · go_wp2
        go_ret
        exact ⟨rfl, q, rfl⟩
end Go.Proofs.YtgoohohkgmiemaaDoor
