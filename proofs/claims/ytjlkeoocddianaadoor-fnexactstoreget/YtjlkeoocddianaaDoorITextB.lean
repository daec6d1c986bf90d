/-
  Contract: the program's text of a right branch.
-/
import Derived.Test.YtjlkeoocddianaaDoorITextN
namespace Go.Proofs.YtjlkeoocddianaaDoor
open Go.RowKit
set_option linter.unusedVariables false

theorem below_drewX {B : Nat} {w w' : World} (h : Below B w w') : Below B w w'.drew := ⟨h.os, h.tape, h.output, h.size, h.block⟩
theorem below_undrew {B : Nat} {w w' : World} (h : Below B w.drew w') : Below B w w' := ⟨h.os, h.tape, h.output, h.size, h.block⟩
theorem some_own {w : World} {base e n : Nat} {a : Option Addr} {m cap : Nat} {xs : List Value} (h : w.ownsRow base e 1 (.slice a m cap) n xs) (hn : 0 < n) : m = n ∧ ∃ g, a = some ⟨g, 0, none⟩ ∧ base ≤ g ∧ g < w.heap.size ∧ n ≤ cap := by
  rcases h.2 with ⟨h', h0⟩ | ⟨g, cap', cur, h', hb, hg, hc, _⟩
  · omega
  · cases h'; exact ⟨rfl, g, rfl, hb, (Array.getElem?_eq_some_iff.1 hg).1, hc⟩

set_option maxRecDepth 100000 in
set_option maxHeartbeats 2000000 in
theorem impl_text3 (p : List UInt8) (b off cap : Nat) (ls : List (List UInt8)) (v : List UInt8) (w : World) (h16 : ls.length = 16) (hk : ls.flatten.length ≤ 1000) (hv : v.length ≤ 60) (hs : IsStrs w (some ⟨b, off, none⟩) ls) :
    Calls Tryd.prog 71 #[.agg #[.int .i64 3, .string ⟨p.toArray⟩, .slice (some ⟨b, off, none⟩) 16 cap, .string ⟨v.toArray⟩]] w fun e w' => e = .returned (.string ⟨(listB (ls ++ [v])).toArray⟩) ∧ Below w.heap.size w w' := by
  obtain ⟨i0, hi0, hz0, hz1, hz2⟩ := info_parts info9i
  have B0 : Below w.heap.size w (w.alloc (.cells #[.int .i64 3, .string ⟨p.toArray⟩, .slice (some ⟨b, off, none⟩) 16 cap, .string ⟨v.toArray⟩] 48)) := (Below.refl _ _).alloc (Nat.le_refl _) _
  have HQ : Hid ((w.alloc (.cells #[.int .i64 3, .string ⟨p.toArray⟩, .slice (some ⟨b, off, none⟩) 16 cap, .string ⟨v.toArray⟩] 48)).heap[w.heap.size]? = some (.cells #[.int .i64 3, .string ⟨p.toArray⟩, .slice (some ⟨b, off, none⟩) 16 cap, .string ⟨v.toArray⟩] 48 (0, 0))) := heap_alloc_new w _
  have HX : Hid (w.heap.size < (w.alloc (.cells #[.int .i64 3, .string ⟨p.toArray⟩, .slice (some ⟨b, off, none⟩) 16 cap, .string ⟨v.toArray⟩] 48)).heap.size) := by rw [Hid]; simp
  obtain ⟨wx, hwx⟩ : ∃ wx, wx = w.alloc (.cells #[.int .i64 3, .string ⟨p.toArray⟩, .slice (some ⟨b, off, none⟩) 16 cap, .string ⟨v.toArray⟩] 48) := ⟨_, rfl⟩
  have hsx : wx.heap.size = w.heap.size + 1 := by rw [hwx]; simp
  have HWX : Hid (w.alloc (.cells #[.int .i64 3, .string ⟨p.toArray⟩, .slice (some ⟨b, off, none⟩) 16 cap, .string ⟨v.toArray⟩] 48) = wx) := hwx.symm
  rw [← hwx] at HQ HX B0
  have BX : Hid (Below w.heap.size w wx) := B0
  have HKC : Hid (∀ W, Below w.heap.size w W → Calls Tryd.prog 68 #[.slice (some ⟨b, off, none⟩) 16 cap] W fun e w' => ∃ (c : Nat) (g : Nat), e = .returned (.slice (some ⟨g, 0, none⟩) 16 c) ∧ w'.ownsRow W.heap.size 9 1 (.slice (some ⟨g, 0, none⟩) 16 c) 16 (scells ls) ∧ Below W.heap.size W w') := fun W hW => by
    have h := cloneS_any b off cap ls W (by omega) (strs_later hs hW)
    rw [h16] at h
    refine h.mono ?_
    rintro e w' ⟨a, m, c, rfl, o, bb⟩
    obtain ⟨rfl, g, rfl, _⟩ := some_own o (by omega)
    exact ⟨c, g, rfl, o, bb⟩
  have HKL : Hid (∀ W g c, W.ownsRow (w.heap.size + 1) 9 1 (.slice (some ⟨g, 0, none⟩) 17 c) 17 (scells (ls ++ [v])) → Calls Tryd.prog 82 #[.slice (some ⟨g, 0, none⟩) 17 c] W fun e w' => e = .returned (.string ⟨(listB (ls ++ [v])).toArray⟩) ∧ Below W.heap.size W w') := fun W g c ho => by
    have hlen : (ls ++ [v]).length = 17 := by simp [h16]
    have h := impl_listOfTexts (some ⟨g, 0, none⟩) c (ls ++ [v]) W (by rw [List.flatten_append, List.length_append, show ([v] : List (List UInt8)).flatten = v by simp]; omega) (by omega) (strs_own ho).2.2
    rw [hlen] at h
    exact h
  have HSN : Hid (scells (ls ++ [v]) = scells ls ++ [.string ⟨v.toArray⟩]) := scells_snoc ls v
  obtain ⟨out, hout⟩ : ∃ out, listB (ls ++ [v]) = out := ⟨_, rfl⟩
  rw [hout] at HKL ⊢
  obtain ⟨cs, hcs⟩ : ∃ cs, cs = scells ls := ⟨_, rfl⟩
  rw [← hcs] at HKC HSN
  rw [HSN.out] at HKL
  have HSX : Hid (wx.heap.size = w.heap.size + 1) := hsx
  have BXA : Hid (Below w.heap.size w (wx.alloc (.cells #[.string ⟨v.toArray⟩] 9)).drew) := below_drewX (B0.alloc (by omega) _)
  have HXA : Hid ((wx.alloc (.cells #[.string ⟨v.toArray⟩] 9)).drew.heap.size = wx.heap.size + 1) := by rw [Hid]; simp [heap_drew]
  have HNA : Hid ((wx.alloc (.cells #[.string ⟨v.toArray⟩] 9)).drew.heap[wx.heap.size]? = some (.cells #[.string ⟨v.toArray⟩] 9 (0, 0))) := heap_alloc_new wx _
  have HQA : Hid ((wx.alloc (.cells #[.string ⟨v.toArray⟩] 9)).drew.heap[w.heap.size]? = some (.cells #[.int .i64 3, .string ⟨p.toArray⟩, .slice (some ⟨b, off, none⟩) 16 cap, .string ⟨v.toArray⟩] 48 (0, 0))) := (Below.heap_alloc wx _ w.heap.size (by omega)).trans HQ.out
  clear hwx hs h16 hk hout hcs HSN B0 hsx
  go_enter Tryd.func71, Tryd.ntmps71
  go_wp2_with fail
  rw [HWX.out]
  obtain ⟨q0, q1, q2, q3, _⟩ := quad_cells HQ.out
  have SA : Hid ((wx.alloc (.cells #[.string ⟨v.toArray⟩] 9)).drew.cell? ⟨w.heap.size, 2, none⟩ = some (.slice (some ⟨b, off, none⟩) 16 cap) ∧ (wx.alloc (.cells #[.string ⟨v.toArray⟩] 9)).drew.cell? ⟨w.heap.size, 3, none⟩ = some (.string ⟨v.toArray⟩)) := ⟨(quad_cells HQA.out).2.2.1, (quad_cells HQA.out).2.2.2.1⟩
  go_region_held3 (fun w' => w'.cell? ⟨w.heap.size, 2, none⟩ = some (.slice (some ⟨b, off, none⟩) 16 cap) ∧ w'.cell? ⟨w.heap.size, 3, none⟩ = some (.string ⟨v.toArray⟩))
    (first | exact S3.out | exact S1a.out | exact S1.out | exact SA.out | exact ⟨q2, q3⟩)
    (first
      | (go_at_call 82
         with_reducible refine (HKL.out _ _ _ HO3.out).mono ?_
         rintro e w4 ⟨rfl, b4⟩
         have B4 := B3.out.trans (b4.mono B3.out.size)
         have S3 : Hid (w4.cell? ⟨w.heap.size, 2, none⟩ = some (.slice (some ⟨b, off, none⟩) 16 cap) ∧ w4.cell? ⟨w.heap.size, 3, none⟩ = some (.string ⟨v.toArray⟩)) := ⟨(b4.cell (p := ⟨w.heap.size, 2, none⟩) L3.out).trans S3.out.1, (b4.cell (p := ⟨w.heap.size, 3, none⟩) L3.out).trans S3.out.2⟩)
      | (refine step_append_lies _ rfl (.tmp 10) (.tmp 13) 46 rfl (w.heap.size + 1) 9 i0 (.string ⟨#[]⟩) 1 16 Tryd.underlying46 hi0 hz0 hz1 hz2 rfl (by decide) (.slice (some ⟨g1, 0, none⟩) 16 c1) 16 cs (by simp [Act.eval]) O1n.out ⟨w1.heap.size, 0, none⟩ 1 1 [.string ⟨v.toArray⟩] (by simp [Act.eval]) rfl N1.out (by simp [Value.oneCell']) (by decide) (by unfold maxLen; omega) (by omega) Z1.out _ rfl ?_
         intro g3 c3 w3 hown3 hgrow3 hat3 hlt3
         have HO3 := hidOwn hown3
         have B3 : Hid (Below w.heap.size w w3) := B1a.out.grown hgrow3 (by have := Z1.out; omega) G1.out
         have L3 : Hid (w.heap.size < w3.heap.size) := Nat.lt_of_lt_of_le (by have := Z1.out; omega) hgrow3.size
         have S3 : Hid (w3.cell? ⟨w.heap.size, 2, none⟩ = some (.slice (some ⟨b, off, none⟩) 16 cap) ∧ w3.cell? ⟨w.heap.size, 3, none⟩ = some (.string ⟨v.toArray⟩)) := ⟨(hgrow3.cell_far ⟨w.heap.size, 2, none⟩ (by show w.heap.size < _; have := Z1.out; omega) F1.out.symm).trans S1a.out.1, (hgrow3.cell_far ⟨w.heap.size, 3, none⟩ (by show w.heap.size < _; have := Z1.out; omega) F1.out.symm).trans S1a.out.2⟩)
      | (refine step_append_lies _ rfl (.tmp 10) (.tmp 13) 46 rfl (w.heap.size + 1) 9 i0 (.string ⟨#[]⟩) 1 16 Tryd.underlying46 hi0 hz0 hz1 hz2 rfl (by decide) (.slice (some ⟨g2, 0, none⟩) 16 c2) 16 cs (by simp [Act.eval]) O2n.out ⟨wx.heap.size, 0, none⟩ 1 1 [.string ⟨v.toArray⟩] (by simp [Act.eval]) rfl N2.out (by simp [Value.oneCell']) (by decide) (by unfold maxLen; omega) (by omega) Z2.out _ rfl ?_
         intro g3 c3 w3 hown3 hgrow3 hat3 hlt3
         have HO3 := hidOwn hown3
         have B3 : Hid (Below w.heap.size w w3) := B2.out.grown hgrow3 (by have := Z2.out; omega) G2.out
         have L3 : Hid (w.heap.size < w3.heap.size) := Nat.lt_of_lt_of_le (by have := Z2.out; omega) hgrow3.size
         have S3 : Hid (w3.cell? ⟨w.heap.size, 2, none⟩ = some (.slice (some ⟨b, off, none⟩) 16 cap) ∧ w3.cell? ⟨w.heap.size, 3, none⟩ = some (.string ⟨v.toArray⟩)) := ⟨(hgrow3.cell_far ⟨w.heap.size, 2, none⟩ (by show w.heap.size < _; have := Z2.out; omega) F2.out.symm).trans S1.out.1, (hgrow3.cell_far ⟨w.heap.size, 3, none⟩ (by show w.heap.size < _; have := Z2.out; omega) F2.out.symm).trans S1.out.2⟩)
      | (go_at_call 68
         with_reducible refine (HKC.out wx.drew (below_drewX BX.out)).mono ?_
         rintro e w1 ⟨c1, g1, rfl, o1, b1'⟩
         have b1 : Below wx.heap.size wx w1 := below_undrew b1'
         have B1 : Hid (Below w.heap.size w w1) := BX.out.trans (b1.mono BX.out.size)
         have q1' := quad_cells ((b1.block _ HX.out).trans HQ.out)
         have S1 : Hid (w1.cell? ⟨w.heap.size, 2, none⟩ = some (.slice (some ⟨b, off, none⟩) 16 cap) ∧ w1.cell? ⟨w.heap.size, 3, none⟩ = some (.string ⟨v.toArray⟩)) := ⟨q1'.2.2.1, q1'.2.2.2.1⟩
         have q1a := quad_cells ((Below.heap_alloc w1 (.cells #[.string ⟨v.toArray⟩] 9) w.heap.size (Nat.lt_of_lt_of_le HX.out b1.size)).trans ((b1.block _ HX.out).trans HQ.out))
         have S1a : Hid ((w1.alloc (.cells #[.string ⟨v.toArray⟩] 9)).cell? ⟨w.heap.size, 2, none⟩ = some (.slice (some ⟨b, off, none⟩) 16 cap) ∧ (w1.alloc (.cells #[.string ⟨v.toArray⟩] 9)).cell? ⟨w.heap.size, 3, none⟩ = some (.string ⟨v.toArray⟩)) := ⟨q1a.2.2.1, q1a.2.2.2.1⟩
         have gb := (some_own o1 (by omega)).2
         have O1n := hidOwn ((o1.mono (by show w.heap.size + 1 ≤ wx.heap.size; have := HSX.out; omega)).alloc (.cells #[.string ⟨v.toArray⟩] 9))
         have N1 : Hid (∀ j u, [Value.string ⟨v.toArray⟩][j]? = some u → (w1.alloc (.cells #[.string ⟨v.toArray⟩] 9)).cell? ((⟨w1.heap.size, 0, none⟩ : Addr).add j) = some u) := World.news_of_block (cs := #[.string ⟨v.toArray⟩]) (t := 9) (fr := (0, 0)) (heap_alloc_new w1 _)
         have Z1 : Hid (w.heap.size + 1 ≤ (w1.alloc (.cells #[.string ⟨v.toArray⟩] 9)).heap.size) := (by rw [Hid]; simp; have := B1.out.size; omega)
         have B1a : Hid (Below w.heap.size w (w1.alloc (.cells #[.string ⟨v.toArray⟩] 9))) := B1.out.alloc B1.out.size _
         have G1 : Hid (∀ k, (Value.slice (some ⟨g1, 0, none⟩) 16 c1).ownBlock = some k → w.heap.size ≤ k) := fun k hk => (by obtain ⟨g', hg', hb', _⟩ := gb; cases hg'; simp [Value.ownBlock] at hk; have h9 : wx.heap.size ≤ g1 := hb'; have := HSX.out; omega)
         have F1 : Hid ((Value.slice (some ⟨g1, 0, none⟩) 16 c1).ownBlock ≠ some w.heap.size) := (by obtain ⟨g', hg', hb', _⟩ := gb; cases hg'; rw [Hid]; simp [Value.ownBlock]; have h9 : wx.heap.size ≤ g1 := hb'; have := HSX.out; omega)
         clear q1' q1a gb o1 b1 b1')
      | (go_at_call 68
         with_reducible refine (HKC.out ((wx.alloc (.cells #[.string ⟨v.toArray⟩] 9)).drew) BXA.out).mono ?_
         rintro e w2 ⟨c2, g2, rfl, o2, b2⟩
         have B2 : Hid (Below w.heap.size w w2) := BXA.out.trans (b2.mono BXA.out.size)
         have q2' := quad_cells ((b2.block w.heap.size (by have := HXA.out; have := HX.out; omega)).trans HQA.out)
         have S1 : Hid (w2.cell? ⟨w.heap.size, 2, none⟩ = some (.slice (some ⟨b, off, none⟩) 16 cap) ∧ w2.cell? ⟨w.heap.size, 3, none⟩ = some (.string ⟨v.toArray⟩)) := ⟨q2'.2.2.1, q2'.2.2.2.1⟩
         have gb := (some_own o2 (by omega)).2
         have O2n := hidOwn (o2.mono (by have := HXA.out; have := HSX.out; omega : w.heap.size + 1 ≤ (wx.alloc (.cells #[.string ⟨v.toArray⟩] 9)).drew.heap.size))
         have N2 : Hid (∀ j u, [Value.string ⟨v.toArray⟩][j]? = some u → w2.cell? ((⟨wx.heap.size, 0, none⟩ : Addr).add j) = some u) := World.news_of_block (cs := #[.string ⟨v.toArray⟩]) (t := 9) (fr := (0, 0)) ((b2.block wx.heap.size (by have := HXA.out; omega)).trans HNA.out)
         have Z2 : Hid (w.heap.size + 1 ≤ w2.heap.size) := Nat.le_trans (by have := HXA.out; have := HSX.out; omega) b2.size
         have G2 : Hid (∀ k, (Value.slice (some ⟨g2, 0, none⟩) 16 c2).ownBlock = some k → w.heap.size ≤ k) := fun k hk => (by obtain ⟨g', hg', hb', _⟩ := gb; cases hg'; simp [Value.ownBlock] at hk; have := HXA.out; have := HSX.out; omega)
         have F2 : Hid ((Value.slice (some ⟨g2, 0, none⟩) 16 c2).ownBlock ≠ some w.heap.size) := (by obtain ⟨g', hg', hb', _⟩ := gb; cases hg'; rw [Hid]; simp [Value.ownBlock]; have := HXA.out; have := HSX.out; omega)
         clear q2' gb o2 b2))
  all_goals
    go_wp2
    go_ret
    exact ⟨rfl, B4⟩
end Go.Proofs.YtjlkeoocddianaaDoor
