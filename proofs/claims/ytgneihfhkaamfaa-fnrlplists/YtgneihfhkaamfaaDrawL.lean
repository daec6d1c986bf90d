/-
  Contract: the draw of a row of items.
-/
import Derived.Test.YtgneihfhkaamfaaItems
import Derived.Deep.QuietTactic
import Derived.BigQuiet
namespace Go.Proofs.Ytgneihfhkaamfaa
open Go.RowKit
set_option linter.unusedVariables false

theorem info9d : (Try.prog.info? 9).map (fun i => (i.zero, i.size, i.bytes)) = some (some (.string ⟨#[]⟩), 1, 16) := by kernel_rfl

theorem flat_one (ls : List (List UInt8)) (it : List UInt8) : (ls ++ [it]).flatten.length = ls.flatten.length + it.length := by rw [List.flatten_append, List.length_append]; congr 2; exact List.append_nil _

theorem Code.lt {w : World} {a : Option Addr} {n : Nat} (h : Code w a n) : ∀ cb off, a = some ⟨cb, off, none⟩ → n ≠ 0 → cb < w.heap.size := by
  intro cb off ha hn
  rcases h with h0 | ⟨cb', off', ha', hlt, _⟩
  · exact absurd h0 hn
  · rw [ha] at ha'
    simp only [Option.some.injEq, Addr.mk.injEq, and_true] at ha'
    rw [ha'.1]; exact hlt

set_option maxRecDepth 100000 in
set_option maxHeartbeats 1000000 in
theorem drawList (n cap : Nat) (a : Option Addr) (w : World) (hn : n ≤ 1048576) (h : Code w a n) :
    Calls Try.prog 13 #[.slice a n cap] w fun e w' => ∃ g c : Nat, ∃ ls : List (List UInt8), ls.length ≤ 5 ∧ ls.flatten.length ≤ 2300 ∧ e = .returned (.slice (some ⟨g, 0, none⟩) ls.length c) ∧ w'.ownsRow w.heap.size 9 1 (.slice (some ⟨g, 0, none⟩) ls.length c) ls.length (scells ls) ∧ Below w.heap.size w w' := by
  obtain ⟨i0, hi0, hz0, hz1, hz2⟩ := info_parts info9d
  have H1 := open_any n cap a w h
  have hcode := h.lt
  clear h
  go_enter Try.func13, Try.ntmps13
  go_wp2_with fail
  refine H1.mono ?_
  rintro e w1 ⟨rfl, hR, hb⟩
  have hrd := hR.lt
  have hR1 : Rd w.heap.size a n cap (w1.alloc (.cells #[] 9)) := hR.keptNone ((Below.refl _ _).alloc (Nat.le_refl _) _)
  have H2 := below_any w.heap.size n cap 5 5 a _ rfl (by omega) (by omega) hn hR1
  have hsz := hb.size
  clear H1 hR hR1
  go_wp2_with fail
  refine H2.mono ?_
  rintro e w2 ⟨y, hy, rfl, hR2, hG2⟩
  have own2 : w2.ownsRow (w.heap.size + 1) 9 1 (.slice (some ⟨w1.heap.size, 0, none⟩) 0 0) 0 (scells []) := (World.ownsRow_lit w1 #[] 0 (by omega) (Nat.zero_le _) rfl).kept hG2 (.inr (by simp [Value.ownBlock]; omega))
  have hb2 := below_rd (hb.alloc hsz _) hG2
  clear H2 hG2 hb
  go_wp2
  go_loopw [4, 5] (fun v i wr => ∃ j g c : Nat, ∃ ls : List (List UInt8), ls.length + j ≤ 4 ∧ ls.flatten.length + j * 552 ≤ 2208 ∧ i = .int .i64 (j : Int) ∧ v = .slice (some ⟨g, 0, none⟩) ls.length c ∧ wr.ownsRow (w.heap.size + 1) 9 1 (.slice (some ⟨g, 0, none⟩) ls.length c) ls.length (scells ls) ∧ Rd w.heap.size a n cap wr ∧ Below w.heap.size w wr) (fun _ i _ => (intOf i).toNat)
  case atStart => exact ⟨y, w1.heap.size, 0, [], by simp; omega, by simp; omega, rfl, rfl, own2, hR2, hb2⟩
  case round =>
    obtain ⟨j, g, c, ls, hjl, hfl, rfl, rfl, hown, hRr, hbr⟩ := hrel
    have hbg := own_base hown
    have hgl := own_lt hown
    clear own2 hR2 hb2
    by_cases hlt : 0 < j
    · have HK := item_2 w.heap.size n cap a wr hn hRr
      have HO := hidOwn hown
      have HBr : Hid (Below w.heap.size w wr) := hbr
      clear hRr hown hbr
      go_wp2_with fail
      refine HK.mono ?_
      rintro e w3 ⟨it, hit, rfl, hR3, hG3⟩
      have hown3 := HO.out.kept hG3 (.inr (by simp [Value.ownBlock]; omega))
      have hb3 := below_rd HBr.out hG3
      have hs3 := hb3.size
      have HR3 : Hid (Rd w.heap.size a n cap w3) := hR3
      clear HK HO hR3 hG3 HBr
      go_wp2_with (at_builtin; refine wpList_append_lies _ rfl _ _ 28 rfl (w.heap.size + 1) 9 i0 (.string ⟨#[]⟩) 1 16 Try.underlying28 hi0 hz0 hz1 hz2 rfl (by decide) (.slice (some ⟨g, 0, none⟩) ls.length c) ls.length _ rfl (hown3.alloc _) ⟨w3.heap.size, 0, none⟩ 1 1 [.string ⟨it.toArray⟩] rfl rfl (World.news_of_block (cs := #[.string ⟨it.toArray⟩]) (t := 9) (fr := (0, 0)) (heap_alloc_new w3 _)) (by simp [Value.oneCell']) (by omega) (by unfold maxLen; omega) (by omega) (by simp; omega) (w3.heap.size + 1) (by simp) ?_; intro g2 c2 w4 hown4 hgrow hat hlt4)
      have hR4 : Rd w.heap.size a n cap w4 := (HR3.out.keptNone ((Below.refl _ _).alloc (Nat.le_refl _) _)).kept hgrow (by simp [Value.ownBlock]; omega) (fun cb off ha hn0 => by have := hcode cb off ha hn0; simp [Value.ownBlock]; omega)
      have hb4 : Below w.heap.size w w4 := (hb3.alloc hs3 _).grown hgrow (by simp; omega) (fun k e => by simp [Value.ownBlock] at e; omega)
      clear hgrow HR3 hb3
      go_roundw
      case rel => exact ⟨j - 1, g2, c2, ls ++ [it], by simp; omega, by rw [flat_one]; omega, by go_num, by simp, by rw [scells_snoc]; simpa using hown4, hR4, hb4⟩
      case measure => simp [intOf]; omega
    · have HK := once_any w.heap.size n cap 12 12 a wr rfl (by omega) (by omega) hn hRr
      have HO := hidOwn hown
      have HBr : Hid (Below w.heap.size w wr) := hbr
      clear hRr hown hbr
      go_wp2_with fail
      refine HK.mono ?_
      rintro e w3 ⟨t, rfl, hR3, hG3⟩
      have hown3 := HO.out.kept hG3 (.inr (by simp [Value.ownBlock]; omega))
      have hb3 := below_rd HBr.out hG3
      have hs3 := hb3.size
      clear HK HO hG3 HBr
      cases t
      · have HO3 := hidOwn hown3
        clear hown3 hR3
        go_wp2
        go_ret
        exact ⟨g, c, ls, by omega, by omega, rfl, HO3.out.mono (by omega), hb3⟩
      · have HK := bytes_any w.heap.size n cap 4 4 a w3 rfl (by omega) (by omega) hn hR3
        have HO := hidOwn hown3
        clear hown3 hR3
        go_wp2_with fail
        refine HK.mono ?_
        rintro e w5 ⟨it, hit, rfl, hR5, hG5⟩
        have hown5 := HO.out.kept hG5 (.inr (by simp [Value.ownBlock]; omega))
        have hb5 := below_rd hb3 hG5
        have hs5 := hb5.size
        clear HK HO hR5 hG5 hb3
        go_wp2_with (at_builtin; refine wpList_append_lies _ rfl _ _ 28 rfl (w.heap.size + 1) 9 i0 (.string ⟨#[]⟩) 1 16 Try.underlying28 hi0 hz0 hz1 hz2 rfl (by decide) (.slice (some ⟨g, 0, none⟩) ls.length c) ls.length _ rfl (hown5.alloc _) ⟨w5.heap.size, 0, none⟩ 1 1 [.string ⟨it.toArray⟩] rfl rfl (World.news_of_block (cs := #[.string ⟨it.toArray⟩]) (t := 9) (fr := (0, 0)) (heap_alloc_new w5 _)) (by simp [Value.oneCell']) (by omega) (by unfold maxLen; omega) (by omega) (by simp; omega) (w5.heap.size + 1) (by simp) ?_; intro g2 c2 w4 hown4 hgrow hat hlt4)
        have hb4 : Below w.heap.size w w4 := (hb5.alloc hs5 _).grown hgrow (by simp; omega) (fun k e => by simp [Value.ownBlock] at e; omega)
        have hown6 : w4.ownsRow w.heap.size 9 1 (.slice (some ⟨g2, 0, none⟩) (ls ++ [it]).length c2) (ls ++ [it]).length (scells (ls ++ [it])) := by rw [scells_snoc]; simpa using hown4.mono (by omega)
        have HO6 := hidOwn hown6
        clear hgrow hb5 hown4 hown5 hown6
        go_wp2
        go_ret
        exact ⟨g2, c2, ls ++ [it], by simp; omega, by rw [flat_one]; omega, by simp, HO6.out, hb4⟩
end Go.Proofs.Ytgneihfhkaamfaa
