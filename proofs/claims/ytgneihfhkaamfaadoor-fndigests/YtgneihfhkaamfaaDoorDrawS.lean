/-
  Contracts: the draws of a text to be summed, of a tag and parts.
-/
import Derived.Test.YtgneihfhkaamfaaDoorDrawC
import Derived.Test.YtgneihfhkaamfaaDoorMathList
import Derived.Test.YtgneihfhkaamfaaDoorBase
import Derived.Deep.QuietTactic
import Derived.BigQuiet
namespace Go.Proofs.YtgneihfhkaamfaaDoor
open Go.RowKit
set_option linter.unusedVariables false

theorem info9s : (Tryd.prog.info? 9).map (fun i => (i.zero, i.size, i.bytes)) = some (some (.string ⟨#[]⟩), 1, 16) := by kernel_rfl

theorem flat_oneS (ls : List (List UInt8)) (it : List UInt8) : (ls ++ [it]).flatten.length = ls.flatten.length + it.length := by rw [List.flatten_append, List.length_append]; congr 2; exact List.append_nil _

theorem Code.ltS {w : World} {a : Option Addr} {n : Nat} (h : Code w a n) : ∀ cb off, a = some ⟨cb, off, none⟩ → n ≠ 0 → cb < w.heap.size := by
  intro cb off ha hn
  rcases h with h0 | ⟨cb', off', ha', hlt, _⟩
  · exact absurd h0 hn
  · rw [ha] at ha'
    simp only [Option.some.injEq, Addr.mk.injEq, and_true] at ha'
    rw [ha'.1]; exact hlt

set_option maxRecDepth 100000 in
set_option maxHeartbeats 1000000 in
theorem drawTagged (n cap : Nat) (a : Option Addr) (w : World) (hn : n ≤ 1048576) (h : Code w a n) :
    Calls Tryd.prog 6 #[.slice a n cap] w fun e w' => ∃ g c : Nat, ∃ tag : List UInt8, ∃ ls : List (List UInt8), tag.length ≤ 56 ∧ ls.length ≤ 3 ∧ ls.flatten.length ≤ 168 ∧ e = .returned (.tuple #[.string ⟨tag.toArray⟩, .slice (some ⟨g, 0, none⟩) ls.length c]) ∧ w'.ownsRow w.heap.size 9 1 (.slice (some ⟨g, 0, none⟩) ls.length c) ls.length (scells ls) ∧ Below w.heap.size w w' := by
  obtain ⟨i0, hi0, hz0, hz1, hz2⟩ := info_parts info9s
  have H1 := open_any n cap a w h
  have hcode := h.ltS
  clear h
  go_enter Tryd.func6, Tryd.ntmps6
  go_wp2_with fail
  refine H1.mono ?_
  rintro e w1 ⟨rfl, hR, hb⟩
  have H2 := text_any w.heap.size n cap a w1 hn hR
  clear H1 hR
  go_wp2_with fail
  refine H2.mono ?_
  rintro e w2 ⟨tag, htag, rfl, hR2, hG2⟩
  have hb2 := below_rd hb hG2
  have hrd2 := hR2.lt
  have hR3 : Rd w.heap.size a n cap (w2.alloc (.cells #[] 9)) := hR2.keptNone ((Below.refl _ _).alloc (Nat.le_refl _) _)
  have H3 := below_any w.heap.size n cap 4 4 a _ rfl (by omega) (by omega) hn hR3
  have hsz := hb2.size
  clear H2 hG2 hb hR2 hR3
  go_wp2_with fail
  refine H3.mono ?_
  rintro e w3 ⟨y, hy, rfl, hR3, hG3⟩
  have own3 : w3.ownsRow (w.heap.size + 1) 9 1 (.slice (some ⟨w2.heap.size, 0, none⟩) 0 0) 0 (scells []) := (World.ownsRow_lit w2 #[] 0 (by omega) (Nat.zero_le _) rfl).kept hG3 (.inr (by simp [Value.ownBlock]; omega))
  have hb3 := below_rd (hb2.alloc hsz _) hG3
  clear H3 hG3 hb2
  go_wp2
  go_loopw [6, 7] (fun v i wr => ∃ j g c : Nat, ∃ ls : List (List UInt8), ls.length + j ≤ 3 ∧ ls.flatten.length + j * 56 ≤ 168 ∧ i = .int .i64 (j : Int) ∧ v = .slice (some ⟨g, 0, none⟩) ls.length c ∧ wr.ownsRow (w.heap.size + 1) 9 1 (.slice (some ⟨g, 0, none⟩) ls.length c) ls.length (scells ls) ∧ Rd w.heap.size a n cap wr ∧ Below w.heap.size w wr) (fun _ i _ => (intOf i).toNat)
  case atStart => exact ⟨y, w2.heap.size, 0, [], by simp; omega, by simp; omega, rfl, rfl, own3, hR3, hb3⟩
  case round =>
    obtain ⟨j, g, c, ls, hjl, hfl, rfl, rfl, hown, hRr, hbr⟩ := hrel
    have hbg := own_base hown
    have hgl := own_lt hown
    clear own3 hR3 hb3
    by_cases hlt : 0 < j
    · have HK := text_any w.heap.size n cap a wr hn hRr
      have HO := hidOwn hown
      have HBr : Hid (Below w.heap.size w wr) := hbr
      clear hRr hown hbr
      go_wp2_with fail
      refine HK.mono ?_
      rintro e w3 ⟨it, hit, rfl, hR3, hG3⟩
      have hown3 := HO.out.kept hG3 (.inr (by simp [Value.ownBlock]; omega))
      have hb3 := below_rd HBr.out hG3
      have hs3 := hb3.size
      have HR3 : Hid (Rd w.heap.size a n cap w3) := hR3
      clear HK HO hR3 hG3 HBr
      go_wp2_with (at_builtin; refine wpList_append_lies _ rfl _ _ 25 rfl (w.heap.size + 1) 9 i0 (.string ⟨#[]⟩) 1 16 Tryd.underlying25 hi0 hz0 hz1 hz2 rfl (by decide) (.slice (some ⟨g, 0, none⟩) ls.length c) ls.length _ rfl (hown3.alloc _) ⟨w3.heap.size, 0, none⟩ 1 1 [.string ⟨it.toArray⟩] rfl rfl (World.news_of_block (cs := #[.string ⟨it.toArray⟩]) (t := 9) (fr := (0, 0)) (heap_alloc_new w3 _)) (by simp [Value.oneCell']) (by omega) (by unfold maxLen; omega) (by omega) (by simp; omega) (w3.heap.size + 1) (by simp) ?_; intro g2 c2 w4 hown4 hgrow hat hlt4)
      have hR4 : Rd w.heap.size a n cap w4 := (HR3.out.keptNone ((Below.refl _ _).alloc (Nat.le_refl _) _)).kept hgrow (by simp [Value.ownBlock]; omega) (fun cb off ha hn0 => by have := hcode cb off ha hn0; simp [Value.ownBlock]; omega)
      have hb4 : Below w.heap.size w w4 := (hb3.alloc hs3 _).grown hgrow (by simp; omega) (fun k e => by simp [Value.ownBlock] at e; omega)
      clear hgrow HR3 hb3
      go_roundw
      case rel => exact ⟨j - 1, g2, c2, ls ++ [it], by simp; omega, by rw [flat_oneS]; omega, by go_num, by simp, by rw [scells_snoc]; simpa using hown4, hR4, hb4⟩
      case measure => simp [intOf]; omega
    · have HO3 := hidOwn hown
      clear hown hRr
      go_wp2
      go_ret2
      exact ⟨g, c, tag, ls, htag, by omega, by omega, rfl, HO3.out.mono (by omega), hbr⟩

set_option maxRecDepth 100000 in
set_option maxHeartbeats 1000000 in
theorem drawSum (n cap : Nat) (a : Option Addr) (w : World) (hn : n ≤ 1048576) (h : Code w a n) :
    Calls Tryd.prog 5 #[.slice a n cap] w fun e w' => ∃ l : List UInt8, l.length ≤ 200 ∧ e = .returned (.string ⟨l.toArray⟩) ∧ Below w.heap.size w w' := by
  obtain ⟨i0, hi0, hz0, hz1, hz2⟩ := info_parts info5
  have H1 := open_any n cap a w h
  clear h
  go_enter Tryd.func5, Tryd.ntmps5
  go_wp2_with fail
  refine H1.mono ?_
  rintro e w1 ⟨rfl, hR, hb⟩
  have H2 := once_any w.heap.size n cap 6 6 a w1 rfl (by omega) (by omega) hn hR
  clear H1 hR
  go_wp2_with fail
  refine H2.mono ?_
  rintro e w2 ⟨t, rfl, hR2, hG2⟩
  have hb2 := below_rd hb hG2
  clear H2 hG2 hb
  cases t
  · have H3 := text_any w.heap.size n cap a w2 hn hR2
    clear hR2
    go_wp2_with fail
    refine H3.mono ?_
    rintro e w3 ⟨l, hl, rfl, hR3, hG3⟩
    have hb3 := below_rd hb2 hG3
    have H4 := text_any w.heap.size n cap a w3 hn hR3
    clear H3 hR3 hG3 hb2
    go_wp2_with fail
    refine H4.mono ?_
    rintro e w4 ⟨q, hq, rfl, hR4, hG4⟩
    have hb4 := below_rd hb3 hG4
    have happ := ba_app2 l q
    clear H4 hR4 hG4 hb3
    go_wp2
    go_ret
    exact ⟨l ++ q, by simp; omega, by simp, hb4⟩
  · have H3 := below_any w.heap.size n cap 20 20 a w2 rfl (by omega) (by omega) hn hR2
    clear hR2
    go_wp2_with fail
    refine H3.mono ?_
    rintro e w3 ⟨y, hy, rfl, hR3, hG3⟩
    have hb3 := below_rd hb2 hG3
    have hs3 := hb3.size
    clear H3 hR3 hG3 hb2
    go_wp2_with (at_make; refine wpList_make_full _ rfl _ _ 22 rfl w3.heap.size 5 i0 (.int .u8 0) 1 Tryd.underlying22 hi0 hz0 hz1 _ _ _ _ (50 + y) rfl rfl (by omega) (by omega) (by rw [hz2]; omega) (by unfold maxLen; omega) (Nat.le_refl _) ?_; intro w4 hown0 hgrow0; rw [show (Value.int .u8 0).cells = #[.int .u8 0] from rfl, Nat.mul_one, toList_madeCells_one] at hown0; have hown1 : w4.ownsRow w3.heap.size 5 1 (.slice (some ⟨w3.heap.size, 0, none⟩) (50 + y) (50 + y)) (50 + y) (bcells (List.replicate (50 + y) 0)) := (by simpa [bcells] using hown0); have hcv := own_string (P := Tryd.prog) Tryd.underlying22 Tryd.underlying5 Tryd.underlying9 hown1)
    have hb4 := hb3.grown hgrow0 hs3 (by simp)
    clear hown0 hown1 hgrow0
    go_ret
    exact ⟨List.replicate (50 + y) 0, by simp; omega, rfl, hb4⟩
end Go.Proofs.YtgneihfhkaamfaaDoor
