/-
  The contract of the model's RlpItems.
-/
import Derived.Test.YtapmakefpmholaaGreatDoorSTakes
import Derived.Test.YtapmakefpmholaaGreatDoorMathAll
namespace Go.Proofs.YtapmakefpmholaaGreatDoor
open Go.RowKit
set_option linter.unusedVariables false

theorem info9 : (Tryz.prog.info? 9).map (fun i => (i.zero, i.size, i.bytes)) = some (some (.string ⟨#[]⟩), 1, 16) := by kernel_rfl

set_option maxRecDepth 100000 in
set_option maxHeartbeats 400000 in
theorem spec_items_no (l : List UInt8) (w : World) (hl : l.length ≤ 1048576) (h : takeL l = none ∨ ∃ k bd rest, takeL l = some (k, bd, rest) ∧ (k ≠ 2 ∨ rest ≠ [])) :
    Calls Tryz.prog 60 #[.string ⟨l.toArray⟩] w fun e w' => e = .returned (.tuple #[.slice none 0 0, .bool false]) ∧ Below w.heap.size w w' := by
  have H1 := fun W => spec_take l W hl
  rcases h with h | ⟨k, bd, rest, h, hk⟩
  · rw [h] at H1
    simp only [tkV] at H1
    clear h
    go_enter Tryz.func60, Tryz.ntmps60
    go_wp2_with fail
    refine (H1 _).mono ?_
    rintro e w1 ⟨rfl, hb1⟩
    go_wp2
    go_ret2
    exact ⟨rfl, hb1⟩
  · have hk12 := takeL_kind l k bd rest h
    rw [h] at H1
    simp only [tkV] at H1
    clear h
    rcases hk12 with rfl | rfl
    · go_enter Tryz.func60, Tryz.ntmps60
      go_wp2_with fail
      refine (H1 _).mono ?_
      rintro e w1 ⟨rfl, hb1⟩
      go_wp2
      go_ret2
      exact ⟨rfl, hb1⟩
    · have hr : rest ≠ [] := by rcases hk with hk | hk; exact absurd rfl hk; exact hk
      obtain ⟨a, r, rfl⟩ : ∃ a r, rest = a :: r := by cases rest with
        | nil => exact absurd rfl hr
        | cons a r => exact ⟨a, r, rfl⟩
      clear hk hr
      go_enter Tryz.func60, Tryz.ntmps60
      go_wp2_with fail
      refine (H1 _).mono ?_
      rintro e w1 ⟨rfl, hb1⟩
      go_wp2
      go_ret2
      exact ⟨rfl, hb1⟩

set_option maxRecDepth 100000 in
set_option maxHeartbeats 1000000 in
theorem spec_items_list (l body : List UInt8) (w : World) (hl : l.length ≤ 1048576) (h : takeL l = some (2, body, [])) :
    Calls Tryz.prog 60 #[.string ⟨l.toArray⟩] w fun e w' => ItemsPost w (itemsF body.length body) e w' := by
  obtain ⟨i0, hi0, hz0, hz1, hz2⟩ := info_parts info9
  have hbl := (takeL_less l 2 body [] h).2
  have H1 := fun W => spec_take l W hl
  rw [h] at H1
  simp only [tkV] at H1
  obtain ⟨total, htot⟩ : ∃ total, total = itemsF body.length body := ⟨_, rfl⟩
  rw [← htot]
  have HT : Hid (total = itemsF body.length body) := htot
  clear h htot
  go_enter Tryz.func60, Tryz.ntmps60
  go_wp2_with fail
  refine (H1 _).mono ?_
  rintro e w1 ⟨rfl, hb1⟩
  clear H1
  have hs1 := hb1.size
  go_wp2
  go_loopw [5, 8] (fun v o wr => ∃ f g cap : Nat, ∃ left : List UInt8, ∃ done : List (List UInt8), left.length ≤ f ∧ done.length + left.length ≤ body.length ∧ v = .string ⟨left.toArray⟩ ∧ o = .slice (some ⟨g, 0, none⟩) done.length cap ∧
      wr.ownsRow w.heap.size 9 1 (.slice (some ⟨g, 0, none⟩) done.length cap) done.length (scells done) ∧ Below w.heap.size w wr ∧ Hid (total = (itemsF f left).map (done ++ ·))) (fun v _ _ => match v with | .string s => s.size | _ => 0)
  case atStart => exact ⟨body.length, w1.heap.size, 0, body, [], Nat.le_refl _, by simp, rfl, rfl, World.ownsRow_lit w1 #[] 0 (by omega) (Nat.zero_le _) rfl, hb1.alloc hs1 _, by rw [Hid, HT.out]; cases itemsF body.length body <;> rfl⟩
  case round =>
    obtain ⟨f, g, cap, left, done, hf, hdl, rfl, rfl, hown, hbel, HL⟩ := hrel
    have hsz := hbel.size
    have hbg := own_base hown
    match left, hf, hdl, HL with
    | [], hf, hdl, HL =>
      have HR : Hid (total = some done) := by rw [Hid, HL.out, itemsF_nil]; simp
      go_wp2
      go_ret2
      rw [HR.out]
      exact ⟨_, rfl, hown, hbel, by simp at hdl; omega⟩
    | c :: r, hf, hdl, HL =>
      have hll : (c :: r).length ≤ 1048576 := by omega
      have H2 := fun W => spec_take (c :: r) W hll
      cases ht : takeL (c :: r) with
      | none =>
        have HR : Hid (total = none) := by rw [Hid, HL.out, itemsF_none f c r ht]; rfl
        rw [ht] at H2
        simp only [tkV] at H2
        clear ht
        go_wp2_with fail
        refine (H2 _).mono ?_
        rintro e w2 ⟨rfl, hb2⟩
        go_wp2
        go_ret2
        rw [HR.out]
        exact ⟨rfl, hbel.trans (hb2.mono hsz)⟩
      | some x =>
        obtain ⟨k, bd, more⟩ := x
        have hml := (takeL_less _ _ _ _ ht).1
        obtain ⟨f', rfl⟩ : ∃ f', f = f' + 1 := ⟨f - 1, by simp at hf; omega⟩
        have HR : Hid (total = (itemsF f' more).map ((done ++ [(c :: r).take ((c :: r).length - more.length)]) ++ ·)) := by
          rw [Hid, HL.out, itemsF_some f' c r k bd more ht]
          cases itemsF f' more <;> simp
        rw [ht] at H2
        simp only [tkV] at H2
        clear ht
        have hx1 := ext_to (c :: r) ((c :: r).length - more.length) (by omega)
        have hml' : more.length ≤ r.length := by simp at hml; omega
        have hrl : r.length ≤ 1048576 := by simp at hll; omega
        obtain ⟨it, hit⟩ : ∃ it, it = (c :: r).take ((c :: r).length - more.length) := ⟨_, rfl⟩
        rw [← hit] at hx1 HR
        rw [List.length_cons] at hx1
        clear hit hml
        go_wp2_with fail
        refine (H2 _).mono ?_
        rintro e w2 ⟨rfl, hb2⟩
        have hown2 := hown.kept (row := none) ⟨hb2.os, hb2.tape, hb2.output, hb2.size, fun k hk _ => hb2.block k hk⟩ (.inr (by simp [Value.ownBlock]))
        have hbel2 := hbel.trans (hb2.mono hsz)
        have hsz2 := hbel2.size
        clear hown hbel hb2 H2
        go_wp2_with (at_builtin; refine wpList_append_lies _ rfl _ _ 31 rfl w.heap.size 9 i0 (.string ⟨#[]⟩) 1 16 Tryz.underlying31 hi0 hz0 hz1 hz2 rfl (by decide) (.slice (some ⟨g, 0, none⟩) done.length cap) done.length _ rfl (hown2.alloc _) ⟨w2.heap.size, 0, none⟩ 1 1 [.string ⟨it.toArray⟩] rfl rfl (World.news_of_block (cs := #[.string ⟨it.toArray⟩]) (t := 9) (fr := (0, 0)) (heap_alloc_new w2 _)) (by simp [Value.oneCell']) (by omega) (by simp at hdl; unfold maxLen; omega) (by simp at hdl; omega) (by simp; omega) (w2.heap.size + 1) (by simp) ?_; intro g2 cap2 w3 hown3 hgrow hat hlt1)
        have hbel3 := below_app0 hbel2 hsz2 hbg hgrow
        go_roundw
        case rel => exact ⟨f', g2, cap2, more, done ++ [it], by simp at hf; omega, by simp at hdl ⊢; omega, rfl, by simp, by rw [scells_snoc]; simpa using hown3, hbel3, HR⟩
        case measure => simp [ByteArray.size]; omega

theorem spec_items (l : List UInt8) (w : World) (hl : l.length ≤ 1048576) :
    Calls Tryz.prog 60 #[.string ⟨l.toArray⟩] w fun e w' => ItemsPost w (itemsL l) e w' := by
  cases h : takeL l with
  | none => rw [itemsL_none l h]; exact spec_items_no l w hl (.inl h)
  | some x =>
    obtain ⟨k, bd, rest⟩ := x
    by_cases hk : k ≠ 2 ∨ rest ≠ []
    · rw [itemsL_kind l k bd rest h hk]; exact spec_items_no l w hl (.inr ⟨k, bd, rest, h, hk⟩)
    · have hk2 : k = 2 := by omega
      have hr : rest = [] := Classical.byContradiction fun hn => hk (.inr hn)
      subst hk2 hr
      rw [itemsL_list l bd h]
      exact spec_items_list l bd w hl h
end Go.Proofs.YtapmakefpmholaaGreatDoor
