/-
  Tries on lists of paths that rise: what the first and the last have in common, groups that lie together.
-/
import Derived.Test.YtlknhcnfpkjpbaaGreatDoorSCom
namespace Go.Proofs.YtlknhcnfpkjpbaaGreatDoor
open Go.RowKit
set_option linter.unusedVariables false

/-- Paths that rise. -/
def RiseE (es : List PairL) : Prop := es.Pairwise fun a b => Op.bytesLess a.1 b.1 = true
theorem lcp_comm : ∀ a b : List UInt8, lcp a b = lcp b a
  | [], [] => rfl
  | [], _ :: _ => rfl
  | _ :: _, [] => rfl
  | x :: xs, y :: ys => by
    simp only [lcp]
    by_cases h : x = y
    · rw [if_pos h, if_pos h.symm, lcp_comm xs ys]
    · rw [if_neg h, if_neg (fun e => h e.symm)]
theorem less_nil (a : List UInt8) : Op.bytesLess a [] = false := by cases a <;> rfl
theorem less_cons (x y : UInt8) (xs ys : List UInt8) : Op.bytesLess (x :: xs) (y :: ys) = (decide (x < y) || (decide (x = y) && Op.bytesLess xs ys)) := by
  simp only [Op.bytesLess]
  by_cases h1 : x < y
  · simp [h1]
  · by_cases h2 : x = y
    · subst h2; simp
    · have h3 : y < x := by
        rcases UInt8.lt_or_lt_of_ne h2 with h | h
        · exact absurd h h1
        · exact h
      simp [h1, h2]
/-- Of three that rise the first and the last have no more in common than the first two. -/
theorem lcp_mono : ∀ a b c : List UInt8, Op.bytesLess a b = true → Op.bytesLess b c = true → lcp a c ≤ lcp a b
  | [], _, _, _, _ => by simp [lcp]
  | _ :: _, [], _, h, _ => by rw [less_nil] at h; cases h
  | _ :: _, _ :: _, [], _, h => by rw [less_nil] at h; cases h
  | x :: xs, y :: ys, z :: zs, h1, h2 => by
    rw [less_cons] at h1 h2
    simp only [Bool.or_eq_true, Bool.and_eq_true, decide_eq_true_eq] at h1 h2
    simp only [lcp]
    by_cases hxz : x = z
    · rw [if_pos hxz]
      rcases h1 with h1 | ⟨h1, h1'⟩
      · rcases h2 with h2 | ⟨h2, _⟩
        · rw [hxz] at h1; exact absurd (UInt8.lt_trans h1 h2) (UInt8.lt_irrefl _)
        · rw [hxz, h2] at h1; exact absurd h1 (UInt8.lt_irrefl _)
      · rcases h2 with h2 | ⟨h2, h2'⟩
        · rw [← h1, hxz] at h2; exact absurd h2 (UInt8.lt_irrefl _)
        · rw [if_pos h1]
          have := lcp_mono xs ys zs h1' h2'
          omega
    · rw [if_neg hxz]; omega
theorem comTo_ge (p0 : List UInt8) (m : Nat) : ∀ (qs : List (List UInt8)) (n : Nat), m ≤ n → (∀ q ∈ qs, m ≤ lcp q p0) → m ≤ qs.foldl (fun n p => min n (lcp p p0)) n
  | [], n, h, _ => h
  | q :: qs, n, h, hq => by
    simp only [List.foldl_cons]
    exact comTo_ge p0 m qs _ (by have := hq q (by simp); omega) (fun x hx => hq x (by simp [hx]))
/-- What the first and the last have in common all have. -/
theorem common_ends (es : List PairL) (h2 : 2 ≤ es.length) (hr : RiseE es) : commonL es = lcp (es[0]'(by omega)).1 (es[es.length - 1]'(by omega)).1 := by
  match es, h2 with
  | e :: e' :: es', _ =>
    have hp := List.pairwise_cons.1 hr
    have hlast : (e :: e' :: es')[(e :: e' :: es').length - 1]'(by simp) ∈ e' :: es' := by
      have : (e :: e' :: es')[(e :: e' :: es').length - 1]'(by simp) = (e' :: es')[es'.length]'(by simp) := by simp
      rw [this]; exact List.getElem_mem _
    obtain ⟨l, hl⟩ : ∃ l, l = (e :: e' :: es')[(e :: e' :: es').length - 1]'(by simp) := ⟨_, rfl⟩
    rw [← hl] at hlast ⊢
    show comTo e.1 ((e' :: es').map (·.1)) = lcp e.1 l.1
    have f := foldl_min_le e.1 ((e' :: es').map (·.1)) e.1.length
    apply Nat.le_antisymm
    · rw [lcp_comm]
      exact f.2 l.1 (List.mem_map_of_mem hlast)
    · apply comTo_ge
      · exact lcp_le_left _ _
      · intro q hq
        obtain ⟨x, hx, rfl⟩ := List.mem_map.1 hq
        rw [lcp_comm x.1 e.1]
        by_cases hxl : x = l
        · rw [hxl]; exact Nat.le_refl _
        · apply lcp_mono e.1 x.1 l.1 (hp.1 x hx)
          obtain ⟨i, hi, rfl⟩ := List.getElem_of_mem hx
          have hl2 : l = (e' :: es')[es'.length]'(by simp) := by rw [hl]; simp
          have hne : i ≠ es'.length := fun e => hxl (by rw [hl2]; simp [e])
          rw [hl2]
          exact List.pairwise_iff_getElem.1 hp.2 i es'.length hi (by simp) (by simp at hi; omega)
theorem lcp_take : ∀ (n : Nat) (a b : List UInt8), n ≤ lcp a b → a.take n = b.take n
  | 0, _, _, _ => by simp
  | n + 1, [], _, h => by simp [lcp] at h
  | n + 1, _ :: _, [], h => by simp [lcp] at h
  | n + 1, x :: xs, y :: ys, h => by
    simp only [lcp] at h
    split at h
    · rename_i e
      rw [List.take_succ_cons, List.take_succ_cons, e, lcp_take n xs ys (by omega)]
    · omega
theorem less_take : ∀ (n : Nat) (a b : List UInt8), n ≤ a.length → n ≤ b.length → a.take n = b.take n → Op.bytesLess a b = Op.bytesLess (a.drop n) (b.drop n)
  | 0, _, _, _, _, _ => by simp
  | n + 1, [], _, h, _, _ => by simp at h
  | n + 1, _ :: _, [], _, h, _ => by simp at h
  | n + 1, x :: xs, y :: ys, h1, h2, h => by
    rw [List.take_succ_cons, List.take_succ_cons] at h
    obtain ⟨e, h'⟩ := List.cons.inj h
    rw [less_cons, List.drop_succ_cons, List.drop_succ_cons, e, ← less_take n xs ys (by simpa using h1) (by simpa using h2) h']
    simp [UInt8.lt_irrefl]
theorem common_take (es : List PairL) (n : Nat) (hn : n ≤ commonL es) : ∀ e ∈ es, e.1.take n = (headP es).take n := by
  match es with
  | [] => simp
  | e :: es =>
    intro x hx
    rcases List.mem_cons.1 hx with rfl | hx
    · rfl
    · have f := (foldl_min_le e.1 (es.map (·.1)) e.1.length).2 x.1 (List.mem_map_of_mem hx)
      exact lcp_take n x.1 e.1 (Nat.le_trans hn f)
theorem rise_cut {n : Nat} {es : List PairL} (hr : RiseE es) (hn : n ≤ commonL es) : RiseE (cutE n es) := by
  unfold RiseE cutE
  rw [List.pairwise_map]
  refine List.Pairwise.imp_of_mem ?_ hr
  intro a b ha hb h
  rw [← less_take n a.1 b.1 (Nat.le_trans hn (commonL_le es a ha)) (Nat.le_trans hn (commonL_le es b hb)) (by rw [common_take es n hn a ha, common_take es n hn b hb])]
  exact h
theorem grp1_some {d : Nat} {e r : PairL} (h : grp1 d e = some r) : ∃ x, e.1 = x :: r.1 ∧ x.toNat = d ∧ e.2 = r.2 := by
  unfold grp1 at h
  split at h
  · cases h
  · rename_i x xs hx
    split at h
    · rename_i hd
      cases h
      exact ⟨x, hx, hd, rfl⟩
    · cases h
theorem rise_grp {d : Nat} {es : List PairL} (hr : RiseE es) : RiseE (grp d es) := by
  unfold RiseE grp
  rw [List.pairwise_filterMap]
  refine List.Pairwise.imp ?_ hr
  intro a b h r hr' q hq
  obtain ⟨x, hx, hxd, _⟩ := grp1_some hr'
  obtain ⟨y, hy, hyd, _⟩ := grp1_some hq
  have hxy : x = y := UInt8.toNat_inj.1 (by omega)
  rw [hx, hy, less_cons, hxy] at h
  simpa [UInt8.lt_irrefl] using h
/-- The first nibble. -/
def hdE (e : PairL) : Option UInt8 := e.1.head?
theorem hd_le {a b : PairL} {x y : UInt8} (h : Op.bytesLess a.1 b.1 = true) (ha : hdE a = some x) (hb : hdE b = some y) : x ≤ y := by
  unfold hdE at ha hb
  match h1 : a.1, h2 : b.1 with
  | [], _ => rw [h1] at ha; simp at ha
  | _ :: _, [] => rw [h2] at hb; simp at hb
  | x' :: xs, y' :: ys =>
    rw [h1] at ha; rw [h2] at hb
    simp at ha hb
    subst ha hb
    rw [h1, h2, less_cons] at h
    simp only [Bool.or_eq_true, Bool.and_eq_true, decide_eq_true_eq] at h
    rcases h with h | h
    · exact UInt8.le_of_lt h
    · rw [h.1]; exact UInt8.le_refl _
theorem grp1_none {d : Nat} {e : PairL} (h : ∀ x, hdE e = some x → x.toNat ≠ d) : grp1 d e = none := by
  unfold grp1
  split
  · rfl
  · rename_i x xs hx
    rw [if_neg (h x (by simp [hdE, hx]))]
theorem grp1_head {e : PairL} {x : UInt8} (h : hdE e = some x) : grp1 x.toNat e = some (e.1.drop 1, e.2) := by
  unfold hdE at h
  unfold grp1
  match h1 : e.1 with
  | [] => rw [h1] at h; simp at h
  | y :: ys =>
    rw [h1] at h
    simp at h
    subst h
    simp
theorem grp_none {d : Nat} {es : List PairL} (h : ∀ e ∈ es, ∀ x, hdE e = some x → x.toNat ≠ d) : grp d es = [] := by
  rw [grp, List.filterMap_eq_nil_iff]
  exact fun e he => grp1_none (h e he)
theorem grp_run {x : UInt8} {es : List PairL} (h : ∀ e ∈ es, hdE e = some x) : grp x.toNat es = cutE 1 es := by
  induction es with
  | nil => rfl
  | cons e es ih =>
    rw [grp, List.filterMap_cons, grp1_head (h e (by simp))]
    simp only [cutE, List.map_cons]
    rw [← grp, ih (fun y hy => h y (by simp [hy]))]
    rfl
/-- A piece of the entries. -/
def subE (es : List PairL) (i e : Nat) : List PairL := (es.drop i).take (e - i)
theorem take_sub (es : List PairL) (i e : Nat) (h : i ≤ e) : es.take e = es.take i ++ subE es i e := by
  have : e = i + (e - i) := by omega
  conv => lhs; rw [this]
  rw [List.take_add, subE]
theorem mem_sub {es : List PairL} {i e : Nat} {y : PairL} (h : y ∈ subE es i e) : ∃ k, ∃ hk : k < es.length, i ≤ k ∧ k < e ∧ es[k] = y := by
  obtain ⟨m, hm, rfl⟩ := List.getElem_of_mem h
  simp [subE] at hm
  exact ⟨i + m, by omega, by omega, by omega, by simp [subE]⟩
theorem grp_take {es : List PairL} {i e : Nat} {x : UInt8} (hie : i ≤ e) (hb : ∀ k (hk : k < es.length), k < i → hdE es[k] ≠ some x) (hrun : ∀ k (hk : k < es.length), i ≤ k → k < e → hdE es[k] = some x) :
    grp x.toNat (es.take e) = cutE 1 (subE es i e) ∧ ∀ d, d ≠ x.toNat → grp d (es.take e) = grp d (es.take i) := by
  have happ : ∀ d, grp d (es.take e) = grp d (es.take i) ++ grp d (subE es i e) := fun d => by rw [take_sub es i e hie, grp, List.filterMap_append]; rfl
  constructor
  · rw [happ, grp_none, List.nil_append]
    · exact grp_run (fun y hy => by
        obtain ⟨k, hk, h1, h2, rfl⟩ := mem_sub hy
        exact hrun k hk h1 h2)
    · intro y hy z hz hzx
      obtain ⟨k, hk, rfl⟩ := List.getElem_of_mem hy
      simp at hk
      simp only [List.getElem_take] at hz
      exact hb k (by omega) (by omega) (by rw [hz, UInt8.toNat_inj.1 hzx])
  · intro d hd
    rw [happ, grp_none (es := subE es i e), List.append_nil]
    intro y hy z hz hzd
    obtain ⟨k, hk, h1, h2, rfl⟩ := mem_sub hy
    rw [hrun k hk h1 h2] at hz
    cases hz
    exact hd hzd.symm
/-- Behind a run another one begins. -/
theorem run_next {es : List PairL} {i e : Nat} {x : UInt8} (hr : RiseE es) (hi : i < e) (he : e < es.length) (hb : ∀ k (hk : k < es.length), k < i → hdE es[k] ≠ some x) (hrun : ∀ k (hk : k < es.length), i ≤ k → k < e → hdE es[k] = some x) (hx : hdE es[e] ≠ some x) :
    ∀ k (hk : k < es.length), k < e → hdE es[k] = none ∨ hdE es[k] ≠ hdE es[e] := by
  intro k hk hke
  by_cases hik : i ≤ k
  · right
    rw [hrun k hk hik hke]
    exact fun h => hx h.symm
  · cases hz : hdE es[k] with
    | none => exact .inl rfl
    | some z =>
      right
      intro h
      have h1 := hd_le (List.pairwise_iff_getElem.1 hr k i hk (by omega) (by omega)) hz (hrun i (by omega) (Nat.le_refl _) hi)
      have h2 := hd_le (List.pairwise_iff_getElem.1 hr i e (by omega) he hi) (hrun i (by omega) (Nat.le_refl _) hi) h.symm
      have : z = x := UInt8.le_antisymm h1 h2
      exact hb k hk (by omega) (by rw [hz, this])
/-- Only the first can be empty. -/
theorem end_rise {es : List PairL} (hr : RiseE es) (h0 : 0 < es.length) : (∀ k (hk : k < es.length), 0 < k → es[k].1 ≠ []) ∧ endV es = if es[0].1 = [] then es[0].2 else [] := by
  have hne : ∀ k (hk : k < es.length), 0 < k → es[k].1 ≠ [] := fun k hk hk0 e => by
    have := List.pairwise_iff_getElem.1 hr 0 k h0 hk hk0
    rw [e, less_nil] at this
    cases this
  refine ⟨hne, ?_⟩
  have : ∀ m, m + 1 ≤ es.length → endV (es.take (m + 1)) = if es[0].1 = [] then es[0].2 else [] := by
    intro m
    induction m with
    | zero =>
      intro h
      rw [endV_snoc es 0 (by omega)]
      simp [endV]
    | succ m ih =>
      intro h
      rw [endV_snoc es (m + 1) (by omega), if_neg (hne (m + 1) (by omega) (by omega)), ih (by omega)]
  have h9 := this (es.length - 1) (by omega)
  rw [show es.length - 1 + 1 = es.length by omega, List.take_length] at h9
  exact h9
end Go.Proofs.YtlknhcnfpkjpbaaGreatDoor
