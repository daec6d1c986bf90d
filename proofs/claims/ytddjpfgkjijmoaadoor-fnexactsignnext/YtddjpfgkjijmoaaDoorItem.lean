/-
  The contract of the reader's item: the item that stands first, or that it gives up.
-/
import Derived.Test.YtddjpfgkjijmoaaDoorReader
namespace Go.Proofs.YtddjpfgkjijmoaaDoor
open Go.RowKit
set_option linter.unusedVariables false

set_option maxRecDepth 100000 in
set_option maxHeartbeats 400000 in
theorem item_ok (b : Nat) (r bd rest : List UInt8) (k : Nat) (w : World) (hb : w.heap[b]? = some (.cells #[.string ⟨r.toArray⟩] 120 (0, 0))) (hr : r.length ≤ 1048576) (h : takeL r = some (k, bd, rest)) :
    Calls Tryd.prog 100 #[.pointer (some ⟨b, 0, none⟩)] w fun e w' => e = .returned (.tuple #[.int .i64 (k : Int), .string ⟨bd.toArray⟩]) ∧ Turned b rest w w' := by
  match r, hb, hr, h with
  | [], _, _, h => cases h
  | c :: r', hb, hr, h =>
    have HK := take_ok b 1 1 (c :: r') w rfl hb (by simp) hr
    simp only [List.take_succ_cons, List.take_zero, List.drop_succ_cons, List.drop_zero] at HK
    have hix : ∀ W, (Instr.index 9 (.string ⟨#[c]⟩) (.int .i64 0)).run Tryd.prog W = .ok (.int .u8 (c.toNat : Int)) W := fun W => by
      rw [show (ByteArray.mk #[c]) = ByteArray.mk [c].toArray from rfl, ix_at (P := Tryd.prog) Tryd.underlying9 [c] 0 0 rfl (by simp) W]; rfl
    have hcl := c.toNat_lt
    by_cases h1 : c.toNat < 128
    · have e : takeL (c :: r') = some (1, [c], r') := by simp only [takeL]; rw [if_pos h1]
      rw [e] at h
      cases h
      have h1' : (c.toNat : Int) < 128 := by omega
      have hcv := lit_string_drew [c] #[.int .u8 (c.toNat : Int)] rfl 1 rfl (by decide)
      clear hb e
      go_enter Tryd.func100, Tryd.ntmps100
      go_wp2_with fail
      refine HK.mono ?_
      rintro e w1 ⟨rfl, hT⟩
      go_wp2_with fail
      go_region
      all_goals go_wp2
      all_goals go_ret2
      all_goals exact ⟨rfl, (hT.alloc _).drew⟩
    · have h1' : ¬ (c.toNat : Int) < 128 := by omega
      by_cases h2 : c.toNat < 192
      · have h2' : (c.toNat : Int) < 192 := by omega
        rw [takeL_item1 c r' h1 h2] at h
        cases hbd : bodyL (c.toNat - 128) r' with
        | none => rw [hbd] at h; cases h
        | some x =>
          obtain ⟨bd', rest'⟩ := x
          rw [hbd] at h
          simp only [itemL, Bool.true_and] at h
          by_cases hl : loneB bd' = true
          · rw [if_pos hl] at h; cases h
          · rw [if_neg hl] at h
            cases h
            have hr' : r'.length ≤ 1048576 := by simp at hr; omega
            have HB : Hid (bodyL (c.toNat - 128) r' = some (bd, rest)) := hbd
            clear hb hbd
            by_cases hb1 : bd.length = 1
            · obtain ⟨d, rfl⟩ : ∃ d, bd = [d] := by
                match bd, hb1 with
                | [d], _ => exact ⟨d, rfl⟩
              have hd : ¬ (d.toNat : Int) < 128 := by simp [loneB] at hl; omega
              have hid : ∀ W, (Instr.index 9 (.string ⟨#[d]⟩) (.int .i64 0)).run Tryd.prog W = .ok (.int .u8 (d.toNat : Int)) W := fun W => by
                rw [show (ByteArray.mk #[d]) = ByteArray.mk [d].toArray from rfl, ix_at (P := Tryd.prog) Tryd.underlying9 [d] 0 0 rfl (by simp) W]; rfl
              clear hl hb1
              go_enter Tryd.func100, Tryd.ntmps100
              go_wp2_with fail
              refine HK.mono ?_
              rintro e w1 ⟨rfl, hT⟩
              go_wp2_with fail
              refine (body_ok b (c.toNat - 128) _ r' [d] rest _ (by omega) hT.cell (by omega) hr' HB.out).mono ?_
              rintro e w2 ⟨rfl, hT2⟩
              go_wp2
              go_ret2
              exact ⟨rfl, hT.trans hT2⟩
            · have hb1' : ((bd.length : Int) == 1) = false := by simp only [beq_eq_false_iff_ne, ne_eq]; omega
              clear hl hb1
              go_enter Tryd.func100, Tryd.ntmps100
              go_wp2_with fail
              refine HK.mono ?_
              rintro e w1 ⟨rfl, hT⟩
              go_wp2_with fail
              refine (body_ok b (c.toNat - 128) _ r' bd rest _ (by omega) hT.cell (by omega) hr' HB.out).mono ?_
              rintro e w2 ⟨rfl, hT2⟩
              go_wp2
              go_ret2
              exact ⟨rfl, hT.trans hT2⟩
      · have h2' : ¬ (c.toNat : Int) < 192 := by omega
        rw [takeL_item2 c r' h2] at h
        cases hbd : bodyL (c.toNat - 192) r' with
        | none => rw [hbd] at h; cases h
        | some x =>
          obtain ⟨bd', rest'⟩ := x
          rw [hbd] at h
          simp only [itemL, Bool.false_and, Bool.false_eq_true, if_false] at h
          cases h
          have hr' : r'.length ≤ 1048576 := by simp at hr; omega
          have HB : Hid (bodyL (c.toNat - 192) r' = some (bd, rest)) := hbd
          clear hb hbd
          go_enter Tryd.func100, Tryd.ntmps100
          go_wp2_with fail
          refine HK.mono ?_
          rintro e w1 ⟨rfl, hT⟩
          go_wp2_with fail
          refine (body_ok b (c.toNat - 192) _ r' bd rest _ (by omega) hT.cell (by omega) hr' HB.out).mono ?_
          rintro e w2 ⟨rfl, hT2⟩
          go_wp2
          go_ret2
          exact ⟨rfl, hT.trans hT2⟩

set_option maxRecDepth 100000 in
set_option maxHeartbeats 400000 in
theorem item_no (b : Nat) (r : List UInt8) (w : World) (hb : w.heap[b]? = some (.cells #[.string ⟨r.toArray⟩] 120 (0, 0))) (hr : r.length ≤ 1048576) (h : takeL r = none) :
    Calls Tryd.prog 100 #[.pointer (some ⟨b, 0, none⟩)] w fun e w' => GivesUp e ∧ ∃ r', Turned b r' w w' := by
  match r, hb, hr, h with
  | [], hb, _, _ =>
    have HK := take_few b 1 1 [] w rfl hb (by simp) (by omega)
    clear hb
    go_enter Tryd.func100, Tryd.ntmps100
    go_wp2_with fail
    refine HK.mono ?_
    rintro e w1 ⟨⟨msg, rfl⟩, hT⟩
    exact ⟨rfl, ⟨_, rfl⟩, hT⟩
  | c :: r', hb, hr, h =>
    have HK := take_ok b 1 1 (c :: r') w rfl hb (by simp) hr
    simp only [List.take_succ_cons, List.take_zero, List.drop_succ_cons, List.drop_zero] at HK
    have hix : ∀ W, (Instr.index 9 (.string ⟨#[c]⟩) (.int .i64 0)).run Tryd.prog W = .ok (.int .u8 (c.toNat : Int)) W := fun W => by
      rw [show (ByteArray.mk #[c]) = ByteArray.mk [c].toArray from rfl, ix_at (P := Tryd.prog) Tryd.underlying9 [c] 0 0 rfl (by simp) W]; rfl
    have hcl := c.toNat_lt
    by_cases h1 : c.toNat < 128
    · have e : takeL (c :: r') = some (1, [c], r') := by simp only [takeL]; rw [if_pos h1]
      rw [e] at h
      cases h
    · have h1' : ¬ (c.toNat : Int) < 128 := by omega
      have hr' : r'.length ≤ 1048576 := by simp at hr; omega
      by_cases h2 : c.toNat < 192
      · have h2' : (c.toNat : Int) < 192 := by omega
        rw [takeL_item1 c r' h1 h2] at h
        cases hbd : bodyL (c.toNat - 128) r' with
        | none =>
          have HB : Hid (bodyL (c.toNat - 128) r' = none) := hbd
          clear hb hbd h
          go_enter Tryd.func100, Tryd.ntmps100
          go_wp2_with fail
          refine HK.mono ?_
          rintro e w1 ⟨rfl, hT⟩
          go_wp2_with fail
          refine (body_no b (c.toNat - 128) _ r' _ (by omega) hT.cell (by omega) hr' HB.out).mono ?_
          rintro e w2 ⟨⟨msg, rfl⟩, r'', hT2⟩
          exact ⟨rfl, ⟨_, rfl⟩, r'', hT.trans hT2⟩
        | some x =>
          obtain ⟨bd', rest'⟩ := x
          rw [hbd] at h
          simp only [itemL, Bool.true_and] at h
          by_cases hl : loneB bd' = true
          · obtain ⟨d, rfl, hd⟩ : ∃ d, bd' = [d] ∧ d.toNat < 128 := by
              match bd', hl with
              | [d], hl => exact ⟨d, rfl, by simpa [loneB] using hl⟩
              | [], hl => simp [loneB] at hl
              | _ :: _ :: _, hl => simp [loneB] at hl
            have hd' : (d.toNat : Int) < 128 := by omega
            have hid : ∀ W, (Instr.index 9 (.string ⟨#[d]⟩) (.int .i64 0)).run Tryd.prog W = .ok (.int .u8 (d.toNat : Int)) W := fun W => by
              rw [show (ByteArray.mk #[d]) = ByteArray.mk [d].toArray from rfl, ix_at (P := Tryd.prog) Tryd.underlying9 [d] 0 0 rfl (by simp) W]; rfl
            have HB : Hid (bodyL (c.toNat - 128) r' = some ([d], rest')) := hbd
            clear hb hbd h hl
            go_enter Tryd.func100, Tryd.ntmps100
            go_wp2_with fail
            refine HK.mono ?_
            rintro e w1 ⟨rfl, hT⟩
            go_wp2_with fail
            refine (body_ok b (c.toNat - 128) _ r' [d] rest' _ (by omega) hT.cell (by omega) hr' HB.out).mono ?_
            rintro e w2 ⟨rfl, hT2⟩
            go_wp2
            exact ⟨rfl, ⟨_, rfl⟩, _, hT.trans hT2⟩
          · rw [if_neg hl] at h; cases h
      · have h2' : ¬ (c.toNat : Int) < 192 := by omega
        rw [takeL_item2 c r' h2] at h
        cases hbd : bodyL (c.toNat - 192) r' with
        | none =>
          have HB : Hid (bodyL (c.toNat - 192) r' = none) := hbd
          clear hb hbd h
          go_enter Tryd.func100, Tryd.ntmps100
          go_wp2_with fail
          refine HK.mono ?_
          rintro e w1 ⟨rfl, hT⟩
          go_wp2_with fail
          refine (body_no b (c.toNat - 192) _ r' _ (by omega) hT.cell (by omega) hr' HB.out).mono ?_
          rintro e w2 ⟨⟨msg, rfl⟩, r'', hT2⟩
          exact ⟨rfl, ⟨_, rfl⟩, r'', hT.trans hT2⟩
        | some x =>
          obtain ⟨bd', rest'⟩ := x
          rw [hbd] at h
          simp only [itemL, Bool.false_and, Bool.false_eq_true, if_false] at h
          cases h
end Go.Proofs.YtddjpfgkjijmoaaDoor
