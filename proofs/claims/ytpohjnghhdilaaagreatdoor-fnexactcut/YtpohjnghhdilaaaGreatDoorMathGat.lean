/-
  The pairs under a node, on lists.
-/
import Derived.Test.YtpohjnghhdilaaaGreatDoorGetAll
import Derived.Test.YtpohjnghhdilaaaGreatDoorIReads
import Derived.Test.YtpohjnghhdilaaaGreatDoorSMades
namespace Go.Proofs.YtpohjnghhdilaaaGreatDoor
open Go.RowKit
set_option linter.unusedVariables false

/-- What a node says by itself: a pair, or nothing. -/
def ownP (full v : List UInt8) : List PairL := if v = [] then [] else [(pack full, v)]
/-- The way to a node's kid. -/
def stepK (k : Int) (full : List UInt8) (i : Nat) : List UInt8 := if k = 3 then full ++ [UInt8.ofNat i] else full
/-- The pairs under the first j kids of a node. -/
def underTo (g : List UInt8 → List UInt8 → Option (List PairL)) (k : Int) (full : List UInt8) (ls : List (List UInt8)) : Nat → Option (List PairL)
  | 0 => some []
  | j + 1 => match underTo g k full ls j with
    | none => none
    | some l => if ls.getD j [] = [] then some l else (g (ls.getD j []) (stepK k full j)).map (l ++ ·)
/-- A node's way can be that of a key. -/
def fullOk (full v : List UInt8) : Bool := decide (full.length ≤ 24) && (decide (v = []) || decide (full.length % 2 = 0))
/-- The pairs under a hash; none: a node is not there, or a way is no key's. -/
def atF (find : List UInt8 → Option (List UInt8)) : Nat → List UInt8 → List UInt8 → Option (List PairL)
  | 0, _, _ => none
  | f + 1, h, path => match find h with
    | none => none
    | some t => if fullOk (path ++ (nodeAt t).p) (nodeAt t).v = true then (underTo (atF find f) (nodeAt t).k (path ++ (nodeAt t).p) (nodeAt t).ls (nodeAt t).ls.length).map (ownP (path ++ (nodeAt t).p) (nodeAt t).v ++ ·) else none
/-- No more than 60. -/
def cap60 (r : Option (List PairL)) : Option (List PairL) := r.bind fun l => if l.length ≤ 60 then some l else none

theorem atF_none (find : List UInt8 → Option (List UInt8)) (f : Nat) (h path : List UInt8) (hf : find h = none) : atF find f h path = none := by
  cases f with
  | zero => rfl
  | succ f => simp only [atF, hf]
theorem atF_some (find : List UInt8 → Option (List UInt8)) (f : Nat) (h path t : List UInt8) (k : Int) (p v : List UInt8) (ls : List (List UInt8)) (hf : find h = some t) (hn : nodeAt t = ⟨k, p, ls, v⟩) :
    atF find (f + 1) h path = if fullOk (path ++ p) v = true then (underTo (atF find f) k (path ++ p) ls ls.length).map (ownP (path ++ p) v ++ ·) else none := by
  simp only [atF, hf, hn]
theorem atF_long (find : List UInt8 → Option (List UInt8)) (f : Nat) (h path : List UInt8) (hp : 24 < path.length) : atF find f h path = none := by
  cases f with
  | zero => rfl
  | succ f =>
    cases hf : find h with
    | none => exact atF_none find _ h path hf
    | some t =>
      simp only [atF, hf]
      rw [if_neg]
      simp only [fullOk, Bool.and_eq_true, decide_eq_true_eq, List.length_append]
      omega
theorem underTo_skip {g : List UInt8 → List UInt8 → Option (List PairL)} {k : Int} {full : List UInt8} {ls : List (List UInt8)} {j : Nat} {l : List PairL} (h : underTo g k full ls j = some l) (hk : ls.getD j [] = []) : underTo g k full ls (j + 1) = some l := by
  simp only [underTo, h, if_pos hk]
theorem underTo_on {g : List UInt8 → List UInt8 → Option (List PairL)} {k : Int} {full : List UInt8} {ls : List (List UInt8)} {j : Nat} {l : List PairL} (h : underTo g k full ls j = some l) (hk : ls.getD j [] ≠ []) : underTo g k full ls (j + 1) = (g (ls.getD j []) (stepK k full j)).map (l ++ ·) := by
  simp only [underTo, h, if_neg hk]
theorem underTo_stays {g : List UInt8 → List UInt8 → Option (List PairL)} {k : Int} {full : List UInt8} {ls : List (List UInt8)} {j : Nat} (h : underTo g k full ls j = none) : ∀ m, j ≤ m → underTo g k full ls m = none
  | 0, hm => by obtain rfl : j = 0 := by omega
                exact h
  | m + 1, hm => by
    by_cases e : j = m + 1
    · rw [← e]; exact h
    · simp only [underTo, underTo_stays h m (by omega)]
theorem underTo_grows {g : List UInt8 → List UInt8 → Option (List PairL)} {k : Int} {full : List UInt8} {ls : List (List UInt8)} {j : Nat} {l : List PairL} (h : underTo g k full ls j = some l) : ∀ m, j ≤ m → ∀ r, underTo g k full ls m = some r → l.length ≤ r.length
  | 0, hm, r, hr => by
    obtain rfl : j = 0 := by omega
    rw [h] at hr; cases hr; exact Nat.le_refl _
  | m + 1, hm, r, hr => by
    by_cases e : j = m + 1
    · subst e; rw [h] at hr; cases hr; exact Nat.le_refl _
    · cases hk : underTo g k full ls m with
      | none => simp only [underTo, hk] at hr; cases hr
      | some l2 =>
        have h1 := underTo_grows h m (by omega) l2 hk
        simp only [underTo, hk] at hr
        split at hr
        · cases hr; exact h1
        · rw [Option.map_eq_some_iff] at hr
          obtain ⟨x, _, rfl⟩ := hr
          simp only [List.length_append]; omega
/-- A node's answer is lost, or too great beside what there is. -/
def Lost (r : Option (List PairL)) (n : Nat) : Prop := r = none ∨ ∃ l, r = some l ∧ 60 < n + l.length
theorem lost_cap {r : Option (List PairL)} : Lost r 0 ↔ cap60 r = none := by
  cases r with
  | none => simp [Lost, cap60]
  | some l => simp [Lost, cap60]
theorem lost_own {r : Option (List PairL)} {o : List PairL} {n : Nat} (h : Lost r (n + o.length)) : Lost (r.map (o ++ ·)) n := by
  rcases h with rfl | ⟨l, rfl, h⟩
  · exact .inl rfl
  · exact .inr ⟨_, rfl, by simp only [List.length_append]; omega⟩
/-- A kid that is lost loses its node. -/
theorem lost_kid {g : List UInt8 → List UInt8 → Option (List PairL)} {k : Int} {full : List UInt8} {ls : List (List UInt8)} {j n : Nat} {l : List PairL} (h : underTo g k full ls j = some l) (hj : j < ls.length) (hk : ls.getD j [] ≠ []) (hl : Lost (g (ls.getD j []) (stepK k full j)) (n + l.length)) : Lost (underTo g k full ls ls.length) n := by
  have h1 := underTo_on h hk
  rcases hl with e | ⟨x, e, hx⟩
  · rw [e] at h1
    exact .inl (underTo_stays h1 _ hj)
  · rw [e] at h1
    cases hr : underTo g k full ls ls.length with
    | none => exact .inl rfl
    | some r =>
      have := underTo_grows h1 _ hj r hr
      simp only [List.length_append] at this
      exact .inr ⟨r, rfl, by omega⟩
/-- A way that has grown too long is lost below. -/
theorem kids_long (find : List UInt8 → Option (List UInt8)) (f : Nat) (k : Int) (full y : List UInt8) (hy : y.length = 32) (hf : 24 < full.length) : underTo (atF find f) k full [y] 1 = none := by
  have h0 : underTo (atF find f) k full [y] 0 = some [] := rfl
  have hne : [y].getD 0 [] ≠ [] := fun e => by
    have : y = [] := e
    subst this
    simp at hy
  rw [underTo_on h0 hne, atF_long find f _ _ (by
    unfold stepK
    split
    · simp; omega
    · exact hf)]
  rfl
theorem lost_more {r : Option (List PairL)} {a b : Nat} (h : Lost r a) (hab : a ≤ b) : Lost r b := by
  rcases h with e | ⟨l, e, h⟩
  · exact .inl e
  · exact .inr ⟨l, e, by omega⟩
theorem kid_lost {g : List UInt8 → List UInt8 → Option (List PairL)} {k : Int} {full : List UInt8} {ls : List (List UInt8)} {j n : Nat} {l o : List PairL} (h : underTo g k full ls j = some l) (hj : j < ls.length) (hk : ls.getD j [] ≠ []) (hl : Lost (g (ls.getD j []) (stepK k full j)) (n + o.length + l.length)) : Lost ((underTo g k full ls ls.length).map (o ++ ·)) n :=
  lost_own (lost_kid h hj hk hl)
theorem cap_get {r : Option (List PairL)} {l : List PairL} (h : r = some l) (hl : l.length ≤ 60) : cap60 r = some l := by subst h; simp [cap60, hl]
theorem cap_some {r : Option (List PairL)} {l : List PairL} (h : cap60 r = some l) : r = some l ∧ l.length ≤ 60 := by
  unfold cap60 at h
  rw [Option.bind_eq_some_iff] at h
  obtain ⟨x, rfl, hx⟩ := h
  split at hx
  · cases hx; exact ⟨rfl, by assumption⟩
  · cases hx
theorem own_len (full v : List UInt8) : (ownP full v).length ≤ 1 := by unfold ownP; split <;> simp
/-! ### what the pairs are like -/
theorem underTo_all {g : List UInt8 → List UInt8 → Option (List PairL)} {k : Int} {full : List UInt8} {ls : List (List UInt8)} {P : PairL → Prop} (hg : ∀ h p l, g h p = some l → ∀ e ∈ l, P e) : ∀ j l, underTo g k full ls j = some l → ∀ e ∈ l, P e
  | 0, l, h, e, he => by cases h; cases he
  | j + 1, l, h, e, he => by
    cases hk : underTo g k full ls j with
    | none => simp only [underTo, hk] at h; cases h
    | some l2 =>
      simp only [underTo, hk] at h
      split at h
      · rw [← Option.some.inj h] at he; exact underTo_all hg j l2 hk e he
      · rw [Option.map_eq_some_iff] at h
        obtain ⟨x, hx, rfl⟩ := h
        rcases List.mem_append.1 he with h | h
        · exact underTo_all hg j l2 hk e h
        · exact hg _ _ _ hx e h
theorem atF_small (find : List UInt8 → Option (List UInt8)) (hok : ∀ h t, find h = some t → (nodeAt t).ok = true) : ∀ f h path l, atF find f h path = some l → ∀ e ∈ l, e.1.length ≤ 12 ∧ e.2.length ≤ 60
  | 0, h, path, l, hl, e, he => by cases hl
  | f + 1, h, path, l, hl, e, he => by
    cases hf : find h with
    | none => rw [atF_none find _ h path hf] at hl; cases hl
    | some t =>
      have ho := ok_parts _ (hok h t hf)
      rw [atF_some find f h path t (nodeAt t).k (nodeAt t).p (nodeAt t).v (nodeAt t).ls hf rfl] at hl
      by_cases hfu : fullOk (path ++ (nodeAt t).p) (nodeAt t).v = true
      · rw [if_pos hfu] at hl
        simp only [fullOk, Bool.and_eq_true, Bool.or_eq_true, decide_eq_true_eq] at hfu
        rw [Option.map_eq_some_iff] at hl
        obtain ⟨x, hx, rfl⟩ := hl
        rcases List.mem_append.1 he with h | h
        · unfold ownP at h
          split at h
          · cases h
          · rename_i hv
            simp only [List.mem_singleton] at h
            subst h
            have h2 := hfu.2.resolve_left hv
            have hp := pack_len _ h2
            refine ⟨?_, ho.2.2.1⟩
            show (pack _).length ≤ 12
            rw [hp]; omega
        · exact underTo_all (fun h p l hl => atF_small find hok f h p l hl) _ x hx e h
      · rw [if_neg hfu] at hl
        cases hl
/-! ### the pairs of a root -/
def pairsAtR (ps : List PairL) (root : List UInt8) : Option (List PairL) :=
  if storeOkL ps = true then (if root = emptyL then some [] else (atF (findL ps) 26 root []).bind fun l => if rootOk l = true ∧ rootR l = root then some l else none) else none
theorem pairsAt_no {ps : List PairL} {root : List UInt8} (h : ¬ storeOkL ps = true) : pairsAtR ps root = none := by unfold pairsAtR; rw [if_neg h]
theorem pairsAt_empty {ps : List PairL} {root : List UInt8} (h : storeOkL ps = true) (he : root = emptyL) : pairsAtR ps root = some [] := by unfold pairsAtR; rw [if_pos h, if_pos he]
theorem pairsAt_lost {ps : List PairL} {root : List UInt8} (h : storeOkL ps = true) (he : ¬ root = emptyL) (hl : Lost (atF (findL ps) 26 root []) 0) : pairsAtR ps root = none := by
  unfold pairsAtR; rw [if_pos h, if_neg he]
  rcases hl with e | ⟨l, e, hn⟩
  · rw [e]; rfl
  · rw [e]
    show (if rootOk l = true ∧ rootR l = root then some l else none) = none
    rw [if_neg]
    rintro ⟨h1, _⟩
    simp only [rootOk, Bool.and_eq_true] at h1
    have := (pairsOk_of l h1.1).1
    omega
theorem pairsAt_some {ps : List PairL} {root : List UInt8} {l : List PairL} (h : storeOkL ps = true) (he : ¬ root = emptyL) (hl : atF (findL ps) 26 root [] = some l) : pairsAtR ps root = if rootOk l = true ∧ rootR l = root then some l else none := by
  unfold pairsAtR; rw [if_pos h, if_neg he, hl]; rfl
end Go.Proofs.YtpohjnghhdilaaaGreatDoor
