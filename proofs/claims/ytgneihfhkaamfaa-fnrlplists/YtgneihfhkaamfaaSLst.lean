/-
  Contract: the model's RlpList.
-/
import Derived.Test.YtgneihfhkaamfaaSTakeAll
import Derived.Test.YtgneihfhkaamfaaWrap
import Derived.Test.YtgneihfhkaamfaaMathList
namespace Go.Proofs.Ytgneihfhkaamfaa
open Go.RowKit
set_option linter.unusedVariables false

theorem info9a : (Try.prog.info? 9).map (fun i => (i.zero, i.size, i.bytes)) = some (some (.string ⟨#[]⟩), 1, 16) := by kernel_rfl

set_option maxRecDepth 100000 in
set_option maxHeartbeats 1000000 in
theorem spec_list (g cap : Nat) (ls : List (List UInt8)) (b0 : Nat) (w : World) (hl : ls.length + ls.flatten.length ≤ 1048576) (hv : w.ownsRow b0 9 1 (.slice (some ⟨g, 0, none⟩) ls.length cap) ls.length (scells ls)) :
    Calls Try.prog 16 #[.slice (some ⟨g, 0, none⟩) ls.length cap] w fun e w' => e = .returned (.string ⟨(listL ls).toArray⟩) ∧ Below w.heap.size w w' := by
  have hgl := own_lt hv
  have hc : ∀ j (h : j < ls.length), w.cell? ⟨g, j, none⟩ = some (.string ⟨ls[j].toArray⟩) := fun j h => by rw [hv.cellAt j (by omega), scells_at ls j h]
  have hln : ls.length ≤ 1048576 := by omega
  have hfn : ls.flatten.length ≤ 1048576 := by omega
  obtain ⟨out, hout⟩ : ∃ out, out = listL ls := ⟨_, rfl⟩
  rw [← hout]
  have HO : Hid (out = listL ls) := hout
  clear hout hv hl
  go_enter Try.func16, Try.ntmps16
  go_wp2
  go_loopw [3, 4] (fun v i wr => ∃ j : Nat, ∃ t : List UInt8, j ≤ ls.length ∧ i = .int .i64 (j : Int) ∧ v = .string ⟨t.toArray⟩ ∧ Hid (t = (ls.take j).flatten) ∧ t.length ≤ 60000 ∧ Hid ((ls.take j).all isItemL = true) ∧ Below w.heap.size w wr) (fun _ i _ => ls.length - (intOf i).toNat)
  case atStart => exact ⟨0, [], Nat.zero_le _, rfl, rfl, rfl, by simp, rfl, Below.refl _ _⟩
  case round =>
    obtain ⟨j, t, hj, rfl, rfl, HT, ht6, HA, hbel⟩ := hrel
    have hsz := hbel.size
    by_cases hlt : j < ls.length
    · have c1 := (hbel.cell (p := ⟨g, j, none⟩) hgl).trans (hc j hlt)
      have hxl := each_le ls j hlt
      have HF : Hid ((ls.take (j + 1)).flatten = t ++ ls[j]) := by rw [Hid, flat_snoc ls j hlt, ← HT.out]
      have HN : isItemL ls[j] = false → out = [] := fun h => by rw [HO.out]; exact listL_item ls j hlt h
      have HG : 60000 < (ls.take (j + 1)).flatten.length → out = [] := fun h => by rw [HO.out]; exact listL_long ls (j + 1) h
      have HS : isItemL ls[j] = true → (ls.take (j + 1)).all isItemL = true := fun h => all_snoc ls j hlt HA.out h
      have hj0 : (0 : Int) ≤ (j : Int) := by omega
      have hj1 : (j : Int) < (ls.length : Int) := by omega
      obtain ⟨x, hx⟩ : ∃ x, x = ls[j] := ⟨_, rfl⟩
      rw [← hx] at c1 hxl HF HN HS
      rw [HF.out] at HG
      have hxn : x.length ≤ 1048576 := by omega
      have H1 := fun W => spec_take x W hxn
      have HHN : Hid (isItemL x = false → out = []) := HN
      have HHG : Hid (60000 < (t ++ x).length → out = []) := HG
      have HHS : Hid (isItemL x = true → (ls.take (j + 1)).all isItemL = true) := HS
      clear hc hx HN HG HS hxl HA
      cases htk : takeL x with
      | none =>
        have HR : Hid (out = []) := HHN.out (isItemL_none x htk)
        rw [htk] at H1
        simp only [tkV] at H1
        clear htk
        go_wp2_with fail
        refine (H1 _).mono ?_
        rintro e w1 ⟨rfl, hb1⟩
        go_wp2
        go_ret
        exact ⟨by rw [HR.out]; rfl, hbel.trans (hb1.mono hsz)⟩
      | some y =>
        obtain ⟨k, bd, rest⟩ := y
        cases rest with
        | cons a r =>
          have HR : Hid (out = []) := HHN.out (isItemL_more x k bd a r htk)
          rw [htk] at H1
          simp only [tkV] at H1
          clear htk
          go_wp2_with fail
          refine (H1 _).mono ?_
          rintro e w1 ⟨rfl, hb1⟩
          go_wp2
          go_ret
          exact ⟨by rw [HR.out]; rfl, hbel.trans (hb1.mono hsz)⟩
        | nil =>
          have HR : Hid ((ls.take (j + 1)).all isItemL = true) := HHS.out (isItemL_yes x k bd htk)
          rw [htk] at H1
          simp only [tkV] at H1
          clear htk
          have happ := ba_apps t x
          by_cases hbig : t.length + x.length ≤ 60000
          · have hbig' : (t.length : Int) + (x.length : Int) ≤ 60000 := by omega
            go_wp2_with fail
            refine (H1 _).mono ?_
            rintro e w1 ⟨rfl, hb1⟩
            have c2 := (hb1.cell (p := ⟨g, j, none⟩) (Nat.lt_of_lt_of_le hgl hsz)).trans c1
            have hbel2 := hbel.trans (hb1.mono hsz)
            clear H1 hb1 hbel c1
            go_wp2
            go_roundw
            case rel => exact ⟨j + 1, t ++ x, by omega, by go_num, by simp, HF.out.symm, by simp; omega, HR, hbel2⟩
            case measure => simp [intOf]; omega
          · have hbig' : ¬ (t.length : Int) + (x.length : Int) ≤ 60000 := by omega
            have HZ : Hid (out = []) := HHG.out (by simp; omega)
            go_wp2_with fail
            refine (H1 _).mono ?_
            rintro e w1 ⟨rfl, hb1⟩
            have c2 := (hb1.cell (p := ⟨g, j, none⟩) (Nat.lt_of_lt_of_le hgl hsz)).trans c1
            have hbel2 := hbel.trans (hb1.mono hsz)
            clear H1 hb1 hbel c1
            go_wp2
            go_ret
            exact ⟨by rw [HZ.out]; rfl, hbel2⟩
    · have hjl : j = ls.length := by omega
      subst hjl
      have HR : Hid (out = wrapB t 192) := by
        have e1 := HT.out
        have e2 := HA.out
        rw [List.take_length] at e1 e2
        rw [Hid, HO.out, listL_yes ls (by rw [← e1]; exact ht6) e2, e1]
      have H1 := fun W => spec_l1Wrap ⟨t.toArray⟩ 192 W (by simp [ByteArray.size]; omega) (by omega)
      clear hc HT HA
      go_wp2_with fail
      refine (H1 _).mono ?_
      rintro e w1 ⟨rfl, hb1⟩
      go_wp2
      go_ret
      exact ⟨by rw [HR.out]; rfl, hbel.trans (hb1.mono hsz)⟩
end Go.Proofs.Ytgneihfhkaamfaa
