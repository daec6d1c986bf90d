/-
  A batch comes back from its text, on lists.
-/
import Derived.Test.YtcfflfpdoihpmaaMathRB
import Derived.Test.YtcfflfpdoihpmaaMathBackL
namespace Go.Proofs.Ytcfflfpdoihpmaa
open Go.RowKit
set_option linter.unusedVariables false

theorem textsF_map : ∀ ts : List (List UInt8), (∀ t ∈ ts, t.length ≤ 60000) → textsF (ts.map textB) = some ts
  | [], _ => rfl
  | t :: ts, h => by
    have h1 : textOf (textB t) = some t := textOf_some _ t [] (by have := takeL_text_fore t [] (h t (by simp)); simpa using this)
    have h2 := textsF_map ts (fun x hx => h x (by simp [hx]))
    simp only [List.map_cons, textsF, h1, h2]; rfl
theorem texts_fore (ts : List (List UInt8)) (h : ts.flatten.length ≤ 30000) (hl : ts.length ≤ 1001) : textsL (listB ts) = some ts := by
  have e := listL_texts ts h hl
  have hs : ∀ t ∈ ts, t.length ≤ 60000 := fun t ht => by
    obtain ⟨j, hj, rfl⟩ := List.getElem_of_mem ht
    have := each_le ts j hj
    omega
  rcases items_list (ts.map textB) with ⟨h0, _⟩ | ⟨_, h1⟩
  · rw [e] at h0
    exfalso
    simp [listB, wrapB] at h0
    split at h0 <;> simp at h0
  · rw [e] at h1
    simp only [textsL, h1]
    exact textsF_map ts hs
theorem textsF_back : ∀ (ls ts : List (List UInt8)), ls.all isItemL = true → textsF ls = some ts → ls = ts.map textB
  | [], ts, _, h => by simp [textsF] at h; subst h; rfl
  | l :: ls, ts, ha, h => by
    simp only [List.all_cons, Bool.and_eq_true] at ha
    obtain ⟨k, bd, hk⟩ := isItem_is l ha.1
    cases h1 : textOf l with
    | none => simp [textsF, h1] at h
    | some t =>
      cases h2 : textsF ls with
      | none => simp [textsF, h1, h2] at h
      | some tr =>
        simp only [textsF, h1, h2] at h
        have h' : t :: tr = ts := by simpa using h
        subst h'
        clear h
        have hk1 : k = 1 ∧ bd = t := by
          rcases takeL_kind l k bd [] hk with rfl | rfl
          · rw [textOf_some l bd [] hk] at h1; cases h1; exact ⟨rfl, rfl⟩
          · rw [textOf_list l bd [] hk] at h1; cases h1
        obtain ⟨rfl, rfl⟩ := hk1
        have := (takeL_text_back l bd [] hk).1
        rw [List.append_nil] at this
        rw [List.map_cons, this, ← textsF_back ls tr ha.2 h2]
theorem texts_back (s : List UInt8) (ts : List (List UInt8)) (h : textsL s = some ts) : listB ts = s := by
  unfold textsL at h
  cases hi : itemsL s with
  | none => rw [hi] at h; cases h
  | some ls =>
    rw [hi] at h
    have hb := list_items s ls hi
    by_cases hc : ls.flatten.length ≤ 60000 ∧ ls.all isItemL = true
    · have e := textsF_back ls ts hc.2 h
      rw [listL_yes ls hc.1 hc.2] at hb
      rw [← hb, listB, textsB, e]
    · have h0 : listL ls = [] := if_neg hc
      rw [h0] at hb
      subst hb
      simp [itemsL, takeL] at hi
theorem valB_numBf : ∀ (f n : Nat), n < 256 ^ f → valB (numB f n) = n
  | 0, n, h => by simp at h; subst h; rfl
  | f + 1, n, h => by
    rw [numB]
    split
    · rename_i h0; subst h0; rfl
    · rw [valB_snoc, valB_numBf f (n / 256) (by rw [Nat.pow_succ] at h; omega), UInt8.toNat_ofNat']
      omega
theorem numL_numB (n : Nat) (h : n ≤ 1000000000000) : numL (numB 8 n) = some n := by
  have hv := valB_numBf 8 n (by omega)
  have := numL_back (numB 8 n) (by omega) (by rw [hv])
  rw [hv] at this
  exact this
theorem opsR_opRows (ps : List OpL) (h : ps.all opOk = true) : opsR (opRows ps) = ps := by
  induction ps with
  | nil => rfl
  | cons p ps ih =>
    simp only [List.all_cons, Bool.and_eq_true] at h
    have ih' := ih h.2
    obtain ⟨k, v, c⟩ := p
    have hc : v.isEmpty = c := by
      have := h.1
      cases c <;> cases v <;> simp_all [opOk]
    simp only [opsR, opRows, List.map_cons, List.map_map] at ih' ⊢
    rw [ih', hc]
theorem opRows_opsR (rs : List PairL) : opRows (opsR rs) = rs := by
  induction rs with
  | nil => rfl
  | cons r rs ih => simp only [opRows, opsR, List.map_cons, List.map_map] at ih ⊢; rw [ih]
theorem batch_fore (c n : Int) (ps : List OpL) (h : batchOk c n ps = true) : readBatch (batchB c n ps) = some (c.toNat, n.toNat, ps) := by
  obtain ⟨h1, h2, h3, h4, h5⟩ := batchOk_of c n ps h
  have hf := batchTs_flat c n ps h
  obtain ⟨hc1, hc2⟩ := numOk_nat c h1
  obtain ⟨hn1, hn2⟩ := numOk_nat n h2
  have e1 : textsL (batchB c n ps) = some (batchTs c n ps) := by rw [batchB, if_pos h]; exact texts_fore _ (by omega) (by omega)
  have hlen : (batchTs c n ps).length = 2 * ps.length + 2 := by simp [batchTs, opTs_length]
  have e2 : rowsL (batchB c n ps) = some ((numB 8 c.toNat, numB 8 n.toNat) :: opRows ps) := by
    simp only [rowsL, e1]
    rw [if_neg (by omega), ← rows_batch, rowsOf_back]
  simp only [readBatch, e2, readRows, numL_numB _ hc2, numL_numB _ hn2, opsR_opRows ps h5, batOf]
  rw [← hc1, ← hn1, if_pos h]
theorem batch_empty : readBatch [] = none := by rfl
theorem batch_not (c n : Int) (ps : List OpL) (h : batchOk c n ps = false) : batchB c n ps = [] := by rw [batchB, if_neg (by rw [h]; simp)]
theorem batch_back (s : List UInt8) (c n : Nat) (ps : List OpL) (h : readBatch s = some (c, n, ps)) : batchOk c n ps = true ∧ batchB c n ps = s := by
  unfold readBatch at h
  cases hr : rowsL s with
  | none => rw [hr] at h; cases h
  | some rs =>
    rw [hr] at h
    unfold rowsL at hr
    cases ht : textsL s with
    | none => rw [ht] at hr; cases hr
    | some ts =>
      rw [ht] at hr
      simp only at hr
      split at hr
      · cases hr
      · rename_i hc
        cases hr
        cases hro : rowsOf ts with
        | nil => rw [hro] at h; simp [readRows] at h
        | cons r rs =>
          rw [hro] at h
          simp only [readRows] at h
          cases hx : numL r.1 with
          | none => rw [hx, batOf_no1] at h; cases h
          | some c' => cases hy : numL r.2 with
            | none => rw [hx, hy] at h; simp [batOf] at h
            | some n' =>
              rw [hx, hy] at h
              simp only [batOf] at h
              split at h
              · rename_i hb
                cases h
                refine ⟨hb, ?_⟩
                rw [batchB, if_pos hb]
                have e1 := (numL_of _ _ hx).2.1
                have e2 := (numL_of _ _ hy).2.1
                have e3 : batchTs (c : Int) (n : Int) (opsR rs) = ts := by
                  rw [← rows_batch, opRows_opsR, Int.toNat_natCast, Int.toNat_natCast, ← e1, ← e2]
                  have := rowsOf_pairTs ts (by omega)
                  rw [hro] at this
                  exact this
                rw [e3]
                exact texts_back s ts ht
              · cases h
end Go.Proofs.Ytcfflfpdoihpmaa
