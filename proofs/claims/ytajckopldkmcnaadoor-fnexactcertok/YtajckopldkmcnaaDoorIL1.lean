/-
  Contracts: items of texts, and the program's list of texts.
-/
import Derived.Test.YtajckopldkmcnaaDoorMath2
import Derived.Test.YtajckopldkmcnaaDoorMathAll
import Derived.Test.YtajckopldkmcnaaDoorTxtC
import Derived.Test.YtajckopldkmcnaaDoorIListN
import Derived.Test.YtajckopldkmcnaaDoorStrsX
namespace Go.Proofs.YtajckopldkmcnaaDoor
open Go.RowKit
set_option linter.unusedVariables false

theorem info9i : (Tryd.prog.info? 9).map (fun i => (i.zero, i.size, i.bytes)) = some (some (.string ⟨#[]⟩), 1, 16) := by kernel_rfl

theorem rlptext_at (l : List UInt8) (hl : l.length ≤ 60000) (w : World) :
    Calls Tryd.prog 67 #[.string ⟨l.toArray⟩] w fun e w' => e = .returned (.string ⟨(textB l).toArray⟩) ∧ Below w.heap.size w w' := by
  have h := impl_rlpText ⟨l.toArray⟩ w (by simp [ByteArray.size]; omega)
  have e1 : (ByteArray.mk l.toArray).data.toList = l := by simp
  have e2 : rlpText l = textB l := if_pos hl
  rw [e1, e2] at h
  exact h

theorem own_capT {w : World} {base e n g cap : Nat} {xs : List Value} (h : w.ownsRow base e 1 (.slice (some ⟨g, 0, none⟩) n cap) n xs) : n ≤ cap := by
  rcases h.2 with ⟨h', _⟩ | ⟨g', cap', cur, h', _, _, hc, _⟩
  · cases h'
  · cases h'; exact hc

set_option maxRecDepth 100000 in
set_option maxHeartbeats 1000000 in
theorem impl_listOfTexts (a : Option Addr) (cap : Nat) (ls : List (List UInt8)) (w : World) (hf : ls.flatten.length ≤ 30000) (hl : ls.length ≤ 1001) (hs : IsStrs w a ls) :
    Calls Tryd.prog 173 #[.slice a ls.length cap] w fun e w' => e = .returned (.string ⟨(listB ls).toArray⟩) ∧ Below w.heap.size w w' := by
  obtain ⟨i0, hi0, hz0, hz1, hz2⟩ := info_parts info9i
  obtain ⟨out, hout⟩ : ∃ out, out = listB ls := ⟨_, rfl⟩
  have HO : Hid (listL (ls.map textB) = out) := by rw [Hid, hout, listL_texts ls hf hl]
  have HF : Hid ((ls.map textB).length + (ls.map textB).flatten.length ≤ 1048576) := by rw [Hid]; have h1 := (listB_len ls hf hl).1; unfold textsB at h1; rw [List.length_map]; omega
  rw [← hout]
  clear hout
  rcases hs with rfl | ⟨b, off, rfl, hc⟩
  · go_enter Tryd.func173, Tryd.ntmps173
    go_wp2
    refine wp_loop_rounds 1 ?_
    rw [rounds_succ]
    have K := impl_list_nil w
    rw [show listL [] = out from HO.out] at K
    go_wp2_with fail
    refine K.mono ?_
    rintro e w1 ⟨rfl, b1⟩
    go_wp2
    go_ret
    exact ⟨rfl, b1⟩
  · go_enter Tryd.func173, Tryd.ntmps173
    go_wp2
    go_loopw [3, 5, 8] (fun v _ i wr => ∃ j c1 : Nat, ∃ a1 : Option Addr, j ≤ ls.length ∧ i = .int .i64 (j : Int) ∧ v = .slice a1 j c1 ∧ wr.ownsRow w.heap.size 9 1 (.slice a1 j c1) j (scells ((ls.take j).map textB)) ∧ Below w.heap.size w wr) (fun _ _ i _ => ls.length - (intOf i).toNat)
    case atStart => exact ⟨0, 0, none, Nat.zero_le _, rfl, rfl, World.ownsRow_nil _ _ _ _, Below.refl _ _⟩
    case round =>
      obtain ⟨j, c1, a1, hj, rfl, rfl, hown, hbel⟩ := hrel
      have hsz := hbel.size
      by_cases hlt : j < ls.length
      · have hbl := World.block_lt_of_cell? w _ (hc j hlt)
        have c1' := (hbel.cell (p := ⟨b, off + j, none⟩) hbl).trans (hc j hlt)
        have hxl := each_le ls j hlt
        have HI : Hid ((ls.take (j + 1)).map textB = (ls.take j).map textB ++ [textB ls[j]]) := by rw [Hid, List.take_succ_eq_append_getElem hlt, List.map_append]; rfl
        have hj0 : (0 : Int) ≤ (j : Int) := by omega
        have hj1 : (j : Int) < (ls.length : Int) := by omega
        have hlow : ∀ k, (Value.slice a1 j c1).ownBlock = some k → w.heap.size ≤ k := fun k hk => (hown.lt k hk).1
        obtain ⟨x, hx⟩ : ∃ x, x = ls[j] := ⟨_, rfl⟩
        rw [← hx] at c1' hxl HI
        have H1 := fun W => rlptext_at x (by omega) W
        obtain ⟨y, hy⟩ : ∃ y, y = textB x := ⟨_, rfl⟩
        rw [← hy] at H1 HI
        have HO1 := hidOwn hown
        clear hc hx hy hown
        go_wp2_with fail
        refine (H1 _).mono ?_
        rintro e w2 ⟨rfl, hb2⟩
        have hown2 := keptX HO1.out hb2
        have hbel2 := hbel.trans (hb2.mono hsz)
        have hsz2 := hbel2.size
        clear HO1 hbel hb2 H1 c1'
        go_wp2_with (at_builtin; refine wpList_append_lies _ rfl _ _ 29 rfl w.heap.size 9 i0 (.string ⟨#[]⟩) 1 16 Tryd.underlying29 hi0 hz0 hz1 hz2 rfl (by decide) (.slice a1 j c1) j _ rfl (hown2.alloc _) ⟨w2.heap.size, 0, none⟩ 1 1 [.string ⟨y.toArray⟩] rfl rfl (World.news_of_block (cs := #[.string ⟨y.toArray⟩]) (t := 9) (fr := (0, 0)) (heap_alloc_new w2 _)) (by simp [Value.oneCell']) (by omega) (by unfold maxLen; omega) (by omega) (by simp; omega) (w2.heap.size + 1) (by simp) ?_; intro g2 cap2 w3 hown3 hgrow hat hlt3)
        have hbel3 : Below w.heap.size w w3 := (hbel2.alloc hsz2 _).grown hgrow (by simp; omega) hlow
        have HO3 : Hid (w3.ownsRow w.heap.size 9 1 (.slice (some ⟨g2, 0, none⟩) (j + 1) cap2) (j + 1) (scells ((ls.take (j + 1)).map textB))) := by rw [Hid, HI.out, scells_snoc]; exact hown3
        clear hgrow hown3 hown2 hbel2
        go_roundw
        case rel => exact ⟨j + 1, cap2, some ⟨g2, 0, none⟩, by omega, by go_num, rfl, HO3.out, hbel3⟩
        case measure => simp [intOf]; omega
      · have hjl : j = ls.length := by omega
        subst hjl
        rw [List.take_length] at hown
        have hown' : wr.ownsRow w.heap.size 9 1 (.slice a1 ls.length c1) (ls.map textB).length (scells (ls.map textB)) := by rw [List.length_map]; exact hown
        have K := impl_list_any (ls.map textB) (.slice a1 ls.length c1) w.heap.size wr HF.out hown'
        rw [HO.out] at K
        clear hown hown' hc
        go_wp2_with fail
        refine K.mono ?_
        rintro e w2 ⟨rfl, hb2⟩
        go_wp2
        go_ret
        exact ⟨rfl, hbel.trans (hb2.mono hsz)⟩
end Go.Proofs.YtajckopldkmcnaaDoor
