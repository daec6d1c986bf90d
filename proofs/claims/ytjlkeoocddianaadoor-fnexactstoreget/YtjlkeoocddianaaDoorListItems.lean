/-
  The contract of listItems: the items of a list, or that it gives up.
-/
import Derived.Test.YtjlkeoocddianaaDoorReadAll
import Derived.Test.YtjlkeoocddianaaDoorMathAll
namespace Go.Proofs.YtjlkeoocddianaaDoor
open Go.RowKit
set_option linter.unusedVariables false

theorem info9' : (Tryd.prog.info? 9).map (fun i => (i.zero, i.size, i.bytes)) = some (some (.string ⟨#[]⟩), 1, 16) := by kernel_rfl

/-- What listItems tells. -/
def ListPost (w : World) (o : Option (List (List UInt8))) (e : Ending) (w' : World) : Prop := match o with
  | none => GivesUp e ∧ Below w.heap.size w w'
  | some ls => ∃ v, e = .returned v ∧ w'.ownsRow w.heap.size 9 1 v ls.length (scells ls) ∧ Below w.heap.size w w' ∧ ls.length ≤ 1048576

theorem Turned.below {b : Nat} {r : List UInt8} {w w' w0 : World} (h : Turned b r w w') (h0 : Below w0.heap.size w0 w) (hb : w0.heap.size ≤ b) : Below w0.heap.size w0 w' :=
  h0.trans ⟨h.os, h.tape, h.output, h.size, fun k hk => h.block k (Nat.lt_of_lt_of_le hk h0.size) (by omega)⟩

theorem Turned.grown {b : Nat} {r : List UInt8} {w w' : World} (h : Turned b r w w') : w.grownBy w' (some b) := ⟨h.os, h.tape, h.output, h.size, fun k hk hn => h.block k hk (fun e => hn (by rw [e]))⟩

set_option maxRecDepth 100000 in
set_option maxHeartbeats 400000 in
theorem list_no (l : List UInt8) (w : World) (hl : l.length ≤ 1048576) (h : takeL l = none ∨ ∃ k bd rest, takeL l = some (k, bd, rest) ∧ (k ≠ 2 ∨ rest ≠ [])) :
    Calls Tryd.prog 76 #[.string ⟨l.toArray⟩] w fun e w' => GivesUp e ∧ Below w.heap.size w w' := by
  have hb := heap_alloc_new w (.cells #[.string ⟨l.toArray⟩] 109)
  have hB : Below w.heap.size w (w.alloc (.cells #[.string ⟨l.toArray⟩] 109)) := (Below.refl _ _).alloc (Nat.le_refl _) _
  rcases h with h | ⟨k, bd, rest, h, hk⟩
  · have HK := item_no w.heap.size l _ hb hl h
    clear h hb
    go_enter Tryd.func76, Tryd.ntmps76
    go_wp2_with fail
    refine HK.mono ?_
    rintro e w1 ⟨⟨msg, rfl⟩, r', hT⟩
    exact ⟨rfl, ⟨_, rfl⟩, hT.below hB (Nat.le_refl _)⟩
  · have HK := item_ok w.heap.size l bd rest k _ hb hl h
    have hk12 := takeL_kind l k bd rest h
    clear h hb
    rcases hk12 with rfl | rfl
    · go_enter Tryd.func76, Tryd.ntmps76
      go_wp2_with fail
      refine HK.mono ?_
      rintro e w1 ⟨rfl, hT⟩
      go_wp2
      exact ⟨rfl, ⟨_, rfl⟩, hT.below hB (Nat.le_refl _)⟩
    · have hr : rest ≠ [] := by rcases hk with hk | hk; exact absurd rfl hk; exact hk
      obtain ⟨a, r, rfl⟩ : ∃ a r, rest = a :: r := by cases rest with
        | nil => exact absurd rfl hr
        | cons a r => exact ⟨a, r, rfl⟩
      clear hk hr
      go_enter Tryd.func76, Tryd.ntmps76
      go_wp2_with fail
      refine HK.mono ?_
      rintro e w1 ⟨rfl, hT⟩
      have hc := cell_of_one hT.cell
      go_wp2
      exact ⟨rfl, ⟨_, rfl⟩, hT.below hB (Nat.le_refl _)⟩

set_option maxRecDepth 100000 in
set_option maxHeartbeats 400000 in
theorem list_list (l body : List UInt8) (w : World) (hl : l.length ≤ 1048576) (h : takeL l = some (2, body, [])) :
    Calls Tryd.prog 76 #[.string ⟨l.toArray⟩] w fun e w' => ListPost w (itemsF body.length body) e w' := by
  obtain ⟨i0, hi0, hz0, hz1, hz2⟩ := info_parts info9'
  have hbl := (takeL_less l 2 body [] h).2
  have hb := heap_alloc_new w (.cells #[.string ⟨l.toArray⟩] 109)
  have hB : Below w.heap.size w (w.alloc (.cells #[.string ⟨l.toArray⟩] 109)) := (Below.refl _ _).alloc (Nat.le_refl _) _
  have HK := item_ok w.heap.size l body [] 2 _ hb hl h
  obtain ⟨total, htot⟩ : ∃ total, total = itemsF body.length body := ⟨_, rfl⟩
  rw [← htot]
  have HT : Hid (total = itemsF body.length body) := htot
  clear h htot hb
  go_enter Tryd.func76, Tryd.ntmps76
  go_wp2_with fail
  refine HK.mono ?_
  rintro e w1 ⟨rfl, hT⟩
  have hc := cell_of_one hT.cell
  have hb1 := hT.below hB (Nat.le_refl _)
  have hs1 := hb1.size
  clear HK hT hB
  go_wp2
  go_loopw [6, 8] (fun o _ wr => ∃ f : Nat, ∃ left : List UInt8, ∃ done : List (List UInt8), left.length ≤ f ∧ done.length + left.length ≤ body.length ∧
      wr.heap[w1.heap.size]? = some (.cells #[.string ⟨left.toArray⟩] 109 (0, 0)) ∧ w1.heap.size + 1 ≤ wr.heap.size ∧
      wr.ownsRow (w1.heap.size + 1) 9 1 o done.length (scells done) ∧ Below w.heap.size w wr ∧ Hid (total = (itemsF f left).map (done ++ ·))) (fun o _ _ => body.length - vlen o)
  case atStart => exact ⟨body.length, body, [], Nat.le_refl _, by simp, heap_alloc_new w1 _, by simp, World.ownsRow_nil _ _ _ _, hb1.alloc hs1 _, by rw [Hid, HT.out]; cases itemsF body.length body <;> rfl⟩
  case round =>
    obtain ⟨f, left, done, hf, hdl, hrd, hsr, hown, hbel, HL⟩ := hrel
    have hc1 := cell_of_one hrd
    have HVL : Hid (vlen _ = done.length) := own_vlen hown
    cases left with
    | nil =>
      have HR : Hid (total = some done) := by rw [Hid, HL.out, itemsF_nil]; simp
      clear hrd
      go_wp2
      go_ret
      rw [HR.out]
      exact ⟨_, rfl, hown.mono (by omega), hbel, by simp at hdl; omega⟩
    | cons c r =>
      have hll : (c :: r).length ≤ 1048576 := by omega
      cases ht : takeL (c :: r) with
      | none =>
        have HR : Hid (total = none) := by rw [Hid, HL.out, itemsF_none f c r ht]; rfl
        have HK := item_no w1.heap.size (c :: r) wr hrd hll ht
        clear ht hrd
        go_wp2_with fail
        refine HK.mono ?_
        rintro e w2 ⟨⟨msg, rfl⟩, r', hT⟩
        refine ⟨rfl, ?_⟩
        rw [HR.out]
        exact ⟨⟨_, rfl⟩, hT.below hbel (by omega)⟩
      | some x =>
        obtain ⟨k, bd, more⟩ := x
        have hml := (takeL_less _ _ _ _ ht).1
        obtain ⟨f', rfl⟩ : ∃ f', f = f' + 1 := ⟨f - 1, by simp at hf; omega⟩
        have HR : Hid (total = (itemsF f' more).map ((done ++ [(c :: r).take ((c :: r).length - more.length)]) ++ ·)) := by
          rw [Hid, HL.out, itemsF_some f' c r k bd more ht]
          cases itemsF f' more <;> simp
        have HK := item_ok w1.heap.size (c :: r) bd more k wr hrd hll ht
        clear ht hrd
        have hx1 := ext_to (c :: r) ((c :: r).length - more.length) (by omega)
        have hml' : more.length ≤ r.length := by simp at hml; omega
        have hrl : r.length ≤ 1048576 := by simp at hll; omega
        obtain ⟨it, hit⟩ : ∃ it, it = (c :: r).take ((c :: r).length - more.length) := ⟨_, rfl⟩
        rw [← hit] at hx1 HR
        rw [List.length_cons] at hx1
        clear hit hml
        have hlt0 := hown.lt
        go_wp2_with fail
        refine HK.mono ?_
        rintro e w2 ⟨rfl, hT⟩
        have hc2 := cell_of_one hT.cell
        have hown2 := hown.kept hT.grown (.inr (fun e => by have := (hlt0 _ e).1; omega))
        have hbel2 := hT.below hbel (by omega)
        have hsz2 := hbel2.size
        have hs2 := hT.size
        have hcell2 := hT.cell
        clear hown hbel HK hT hc1
        go_wp2_with (at_builtin; refine wpList_append_lies _ rfl _ _ 46 rfl (w1.heap.size + 1) 9 i0 (.string ⟨#[]⟩) 1 16 Tryd.underlying46 hi0 hz0 hz1 hz2 rfl (by decide) _ done.length _ rfl (hown2.alloc _) ⟨w2.heap.size, 0, none⟩ 1 1 [.string ⟨it.toArray⟩] rfl rfl (World.news_of_block (cs := #[.string ⟨it.toArray⟩]) (t := 9) (fr := (0, 0)) (heap_alloc_new w2 _)) (by simp [Value.oneCell']) (by omega) (by simp at hdl; unfold maxLen; omega) (by simp at hdl; omega) (by simp; omega) (w2.heap.size + 1) (by simp) ?_; intro g2 cap2 w3 hown3 hgrow hat hlt1)
        have hgr : (w2.alloc (.cells #[.string ⟨it.toArray⟩] 9)).grownBy w3 u6.ownBlock := hgrow
        have hrd3 : w3.heap[w1.heap.size]? = some (.cells #[.string ⟨more.toArray⟩] 109 (0, 0)) := by
          rw [hgr.block w1.heap.size (by simp; omega) (fun e => by have := (hlt0 _ e.symm).1; omega), Below.heap_alloc _ _ _ (by omega)]; exact hcell2
        have hbel3 : Below w.heap.size w w3 := (hbel2.alloc hsz2 _).grown hgr (by simp; omega) (fun k e => by have := (hlt0 _ e).1; omega)
        have hs3 : w1.heap.size + 1 ≤ w3.heap.size := by have := hgr.size; simp at this; omega
        clear hgrow hgr hat
        go_roundw
        case rel => exact ⟨f', more, done ++ [it], by simp at hf; omega, by simp at hdl ⊢; omega, hrd3, hs3, by rw [scells_snoc]; simpa using hown3, hbel3, HR⟩
        case measure => rw [HVL.out]; simp [vlen] at hdl ⊢; omega

theorem list_any (l : List UInt8) (w : World) (hl : l.length ≤ 1048576) :
    Calls Tryd.prog 76 #[.string ⟨l.toArray⟩] w fun e w' => ListPost w (itemsL l) e w' := by
  cases h : takeL l with
  | none => rw [itemsL_none l h]; exact list_no l w hl (.inl h)
  | some x =>
    obtain ⟨k, bd, rest⟩ := x
    by_cases hk : k ≠ 2 ∨ rest ≠ []
    · rw [itemsL_kind l k bd rest h hk]; exact list_no l w hl (.inr ⟨k, bd, rest, h, hk⟩)
    · have hk2 : k = 2 := by omega
      have hr : rest = [] := Classical.byContradiction fun hn => hk (.inr hn)
      subst hk2 hr
      rw [itemsL_list l bd h]
      exact list_list l bd w hl h
end Go.Proofs.YtjlkeoocddianaaDoor
