/-
  Pairs on lists: a key that was set has its value; unlike pairs have unlike roots, unless two unlike nodes have one hash.
-/
import Derived.Test.YtldkilpndcafjaaGreatDoorTellM
import Derived.Test.YtldkilpndcafjaaGreatDoorSetAll
namespace Go.Proofs.YtldkilpndcafjaaGreatDoor
open Go.RowKit
set_option linter.unusedVariables false

structure SetI (k v : List UInt8) (st : List PairL × Bool) : Prop where
  key : ∀ x ∈ st.1, x.1 = k → x.2 = v ∧ v ≠ []
  yes : st.2 = true → v = [] ∨ (k, v) ∈ st.1
  no : st.2 = false → v ≠ []

theorem SetI.step {k v : List UInt8} {st : List PairL × Bool} (h : SetI k v st) (p : PairL) : SetI k v (setStep k v st p) := by
  unfold setStep
  by_cases hc : (!st.2 && !(Op.bytesLess p.1 k)) = true
  · rw [if_pos hc]
    have hs : st.2 = false := by
      rw [Bool.and_eq_true] at hc
      simpa using hc.1
    have hv := h.no hs
    refine ⟨fun x hx hk => ?_, fun _ => .inr ?_, fun e => by simp at e⟩
    · split at hx
      · rcases List.mem_append.1 hx with hx | hx
        · exact h.key x hx hk
        · simp at hx; rw [hx]; exact ⟨rfl, hv⟩
      · rename_i hpk
        rcases List.mem_append.1 hx with hx | hx
        · rcases List.mem_append.1 hx with hx | hx
          · exact h.key x hx hk
          · simp at hx; rw [hx]; exact ⟨rfl, hv⟩
        · simp at hx; rw [hx] at hk; exact absurd hk hpk
    · split <;> simp
  · rw [if_neg hc]
    refine ⟨fun x hx hk => ?_, fun e => ?_, fun e => h.no e⟩
    · split at hx
      · exact h.key x hx hk
      · rename_i hpk
        rcases List.mem_append.1 hx with hx | hx
        · exact h.key x hx hk
        · simp at hx; rw [hx] at hk; exact absurd hk hpk
    · rcases h.yes e with h1 | h1
      · exact .inl h1
      · right
        split
        · exact h1
        · exact List.mem_append_left _ h1

theorem SetI.fold {k v : List UInt8} : ∀ (ps : List PairL) (st : List PairL × Bool), SetI k v st → SetI k v (ps.foldl (setStep k v) st)
  | [], _, h => h
  | p :: ps, st, h => SetI.fold ps _ (h.step p)

theorem set_value (ps : List PairL) (k v : List UInt8) : (findL (setL ps k v) k).getD [] = v := by
  have hI : SetI k v (setFold k v ps) := SetI.fold ps _ ⟨fun x hx => by simp at hx, fun e => .inl (by simpa using e), fun e => by simpa using e⟩
  have hkey : ∀ x ∈ setL ps k v, x.1 = k → x.2 = v ∧ v ≠ [] := by
    intro x hx hk
    unfold setL at hx
    split at hx
    · exact hI.key x hx hk
    · rename_i hf
      rcases List.mem_append.1 hx with hx | hx
      · exact hI.key x hx hk
      · simp at hx; rw [hx]; exact ⟨rfl, hI.no (by simpa using hf)⟩
  have hyes : v ≠ [] → (k, v) ∈ setL ps k v := by
    intro hv
    unfold setL
    split
    · rename_i hf
      rcases hI.yes hf with h | h
      · exact absurd h hv
      · exact h
    · simp
  unfold findL
  cases hf : (setL ps k v).find? (fun p => p.1 == k) with
  | none =>
    by_cases hv : v = []
    · simp [hv]
    · have := List.find?_eq_none.1 hf _ (hyes hv)
      simp at this
  | some x =>
    have h1 := List.mem_of_find?_eq_some hf
    have h2 := List.find?_some hf
    simp only [beq_iff_eq] at h2
    simp [(hkey x h1 h2).1]

theorem ge_of (ps : List PairL) (h : pairsOkL ps = true) : GE 60 (esOf ps) := by
  have hfit := fit_of ps h
  refine ⟨es_fits hfit, es_small hfit, fun e he => ?_, pairs_rise ps h, fun e he => ?_⟩
  · obtain ⟨x, _, rfl⟩ := List.mem_map.1 he
    exact nibs_isNibs _
  · obtain ⟨x, hx, rfl⟩ := List.mem_map.1 he
    obtain ⟨i, hi, rfl⟩ := List.getElem_of_mem hx
    unfold pairsOkL at h
    rw [Bool.and_eq_true, List.all_eq_true] at h
    have := h.2 i (List.mem_range.2 hi)
    unfold okAt at this
    rw [valAt_get ps i hi] at this
    simp only [Bool.and_eq_true, decide_eq_true_iff] at this
    intro e
    have h1 := this.1.1.2
    simp only at e
    rw [e] at h1
    simp at h1

theorem es_inj {a b : List PairL} (h : esOf a = esOf b) : a = b := by
  have hl : a.length = b.length := by rw [← es_length a, ← es_length b, h]
  apply List.ext_getElem hl
  intro i h1 h2
  have := congrArg (fun l => l[i]?) h
  simp [esOf, h1, h2] at this
  have e := congrArg pack this.1
  rw [pack_nibs, pack_nibs] at e
  exact Prod.ext e this.2

theorem nodes_mem {ps : List PairL} (h : rootOk ps = true) {x : PairL} (hx : x ∈ allL ps) : x ∈ nodesR ps := by
  have hm : madeOk (allL ps) = true := by simp only [rootOk, Bool.and_eq_true] at h; exact h.2
  have hg := (made_good _).1 hm
  obtain ⟨s1, s2, s3⟩ := sorted_facts (allL ps)
  rw [nodesR, if_pos h]
  obtain ⟨y, hy, he⟩ := s3 x hx
  have := hg.2 y (s2 y hy) x hx he
  rw [← this]; exact hy

theorem root_ne_empty {ps : List PairL} (h : rootOk ps = true) (h0 : ps ≠ []) : rootR ps = rootH (allL ps) ∧ rootR ps ≠ emptyL := by
  obtain ⟨nn, tt, hall⟩ := all_ne ps h0
  have hna : allL ps ≠ [] := by rw [hall]; simp
  have e1 : rootR ps = rootH (allL ps) := by rw [rootR, if_pos h, rootOr, if_neg hna]
  refine ⟨e1, ?_⟩
  have hm : madeOk (allL ps) = true := by simp only [rootOk, Bool.and_eq_true] at h; exact h.2
  have hg := (made_good _).1 hm
  rw [e1, hall, rootH_snoc]
  exact hg.1 (nodeP tt) (by rw [hall]; simp)

/-- Unlike pairs with one root have two unlike nodes with one hash. -/
theorem tell_pairs (a b : List PairL) (ha : rootOk a = true) (hb : rootOk b = true) (hne : a ≠ b) (hr : rootR a = rootR b) : ∃ x ∈ nodesR a, ∃ y ∈ nodesR b, x.1 = y.1 ∧ x.2 ≠ y.2 := by
  have pa : pairsOkL a = true := by simp only [rootOk, Bool.and_eq_true] at ha; exact ha.1
  have pb : pairsOkL b = true := by simp only [rootOk, Bool.and_eq_true] at hb; exact hb.1
  have hz : ∀ c : List PairL, c = [] → rootOk c = true → rootR c = emptyL := fun c e h => by
    subst e
    have ea : allL [] = [] := build_nil 60
    rw [rootR, if_pos h, ea, rootOr, if_pos rfl]
  by_cases a0 : a = []
  · have b0 : b ≠ [] := fun e => hne (a0.trans e.symm)
    exact absurd (hr.symm.trans (hz a a0 ha)) (root_ne_empty hb b0).2
  · by_cases b0 : b = []
    · exact absurd (hr.trans (hz b b0 hb)) (root_ne_empty ha a0).2
    · have h1 := (root_ne_empty ha a0).1
      have h2 := (root_ne_empty hb b0).1
      have he : ∀ c : List PairL, c ≠ [] → esOf c ≠ [] := fun c hc e => hc (by
        have := es_length c
        rw [e] at this
        exact List.length_eq_zero_iff.1 this.symm)
      rcases tellE 60 (esOf a) (esOf b) (ge_of a pa) (ge_of b pb) (he a a0) (he b b0) (h1.symm.trans (hr.trans h2)) with h | ⟨x, hx, y, hy, h⟩
      · exact absurd (es_inj h) hne
      · exact ⟨x, nodes_mem ha hx, y, nodes_mem hb hy, h⟩
end Go.Proofs.YtldkilpndcafjaaGreatDoor
