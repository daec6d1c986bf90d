/-
  Updates on lists: the store and the root behind a put or a cut; how great nodes are.
-/
import Derived.Test.YtpohjnghhdilaaaGreatDoorPairsAt
import Derived.Test.YtpohjnghhdilaaaGreatDoorIAdd
import Derived.Test.YtpohjnghhdilaaaGreatDoorISet0
import Derived.Test.YtpohjnghhdilaaaGreatDoorLaidAll
namespace Go.Proofs.YtpohjnghhdilaaaGreatDoor
open Go.RowKit
set_option linter.unusedVariables false

theorem build_small : ∀ (f : Nat) (es : List PairL), Fits f es → smallE es → ∀ p ∈ buildL f es, p.1.length ≤ 32 ∧ p.2.length ≤ 33006
  | 0, es, _, _, p, hp => by cases hp
  | f + 1, es, hf, hs, p, hp => by
    by_cases h0 : es = []
    · subst h0; rw [build_nil] at hp; cases hp
    by_cases h1 : es.length = 1
    · obtain ⟨e, rfl⟩ := List.length_eq_one_iff.1 h1
      rw [build_one, List.mem_singleton] at hp
      subst hp
      have he := hs e (by simp)
      exact ⟨Nat.le_of_eq (sumL_len _), leaf_len e he.1 he.2⟩
    have h2 : 2 ≤ es.length := by
      have : es.length ≠ 0 := fun e => h0 (List.length_eq_zero_iff.1 e)
      omega
    by_cases hc : 0 < commonL es
    · rw [build_long f es h2 hc] at hp
      rcases List.mem_append.1 hp with h | h
      · exact build_small f _ (fits_cut hf hc) (small_cut9 hs) p h
      · rw [List.mem_singleton] at h
        subst h
        have hhd : (headP es) ∈ es.map (·.1) := by cases es with | nil => exact absurd rfl h0 | cons e es => simp [headP]
        obtain ⟨e0, he0, hh0⟩ := List.mem_map.1 hhd
        refine ⟨Nat.le_of_eq (sumL_len _), long_len _ _ ?_ ?_⟩
        · rw [List.length_take, ← hh0]; have := (hs e0 he0).1; omega
        · have := root_len f (cutE (commonL es) es); omega
    · rw [build_branch f es h2 hc] at hp
      rcases List.mem_append.1 hp with h | h
      · obtain ⟨l, hl, hp⟩ := List.mem_flatten.1 h
        obtain ⟨d, _, rfl⟩ := List.mem_map.1 hl
        exact build_small f _ (fits_grp (d := d) hf) (small_grp hs) p hp
      · rw [List.mem_singleton] at h
        subst h
        have hk32 : ∀ d, (rootH (buildL f (grp d es))).length ≤ 32 := fun d => root_len f _
        have hfl := hash_flat f es 16 hk32
        have hhl16 := hashTo_length f es 16
        have hv := end_le hs
        refine ⟨Nat.le_of_eq (sumL_len _), ?_⟩
        have := (listB_len (hashTo f es 16 ++ [endV es]) (by simp only [List.flatten_append, List.length_append, List.flatten_singleton]; omega) (by simp [hhl16])).2
        exact this
theorem nodes_small (ps : List PairL) : ∀ p ∈ nodesR ps, p.1.length ≤ 1048576 ∧ p.2.length ≤ 1048576 := fun p hp => by
  unfold nodesR at hp
  split at hp
  · rename_i hr
    simp only [rootOk, Bool.and_eq_true] at hr
    have hfit := fit_of ps hr.1
    have := build_small 60 (esOf ps) (es_fits hfit) (es_small hfit) p ((sorted_facts _).2.1 p hp)
    omega
  · cases hp

/-- The pairs l laid out beside a store: the store and the root behind it. -/
def turnR (ps l : List PairL) : Option (List PairL × List UInt8) := if rootOk l = true ∧ addOk ps (nodesR l) = true then some (addR ps (nodesR l), rootR l) else none
def updR (ps : List PairL) (root key val : List UInt8) : Option (List PairL × List UInt8) := (pairsAtR ps root).bind fun l => if pairsOkL (setL l key val) = true then turnR ps (setL l key val) else none
def putR (ps : List PairL) (root key val : List UInt8) : Option (List PairL × List UInt8) := if val = [] then none else updR ps root key val
def cutR (ps : List PairL) (root key : List UInt8) : Option (List PairL × List UInt8) := if key.length ≤ 12 then updR ps root key [] else none
/-- What an update tells. -/
def UPost (w : World) (res : Option (List PairL × List UInt8)) (e : Ending) (w' : World) : Prop := ∃ (a : Option Addr) (m c : Nat), e = .returned (.tuple #[.slice a m c, .string ⟨((res.map (·.2)).getD []).toArray⟩, .bool res.isSome]) ∧ w'.ownsRow w.heap.size 58 2 (.slice a m c) ((res.map (·.1)).getD []).length (pcells ((res.map (·.1)).getD [])) ∧ Below w.heap.size w w'
theorem up_none {w w' : World} {res : Option (List PairL × List UInt8)} (h : res = none) (hb : Below w.heap.size w w') : UPost w res (.returned (.tuple #[.slice none 0 0, .string ⟨#[]⟩, .bool false])) w' := by
  subst h
  exact ⟨none, 0, 0, rfl, World.ownsRow_nil _ _ _ _, hb⟩
theorem UPost.later {w w1 w' : World} {res : Option (List PairL × List UInt8)} {e : Ending} (h : UPost w1 res e w') (hb : Below w.heap.size w w1) : UPost w res e w' := by
  obtain ⟨a, m, c, he, ho, hb'⟩ := h
  exact ⟨a, m, c, he, ho.mono hb.size, hb.trans (hb'.mono hb.size)⟩
theorem pairsAt_ok {ps : List PairL} {root : List UInt8} {l : List PairL} (h : pairsAtR ps root = some l) : pairsOkL l = true := by
  unfold pairsAtR at h
  split at h
  · split at h
    · cases h; rfl
    · rw [Option.bind_eq_some_iff] at h
      obtain ⟨x, _, hx⟩ := h
      split at hx
      · rename_i h1
        cases hx
        have := h1.1
        simp only [rootOk, Bool.and_eq_true] at this
        exact this.1
      · cases hx
  · cases h
theorem add_len (ps qs : List PairL) : (addR ps qs).length ≤ ps.length + qs.length := by
  have h1 := sorted_len (ps ++ qs) (ps ++ qs).length (Nat.le_refl _)
  rw [List.take_length, List.length_append] at h1
  unfold addR
  split
  · omega
  · simp
theorem upd_len (ps : List PairL) (root key val : List UInt8) : (((updR ps root key val).map (·.1)).getD []).length ≤ ps.length + 3600 := by
  cases h : updR ps root key val with
  | none => simp
  | some r =>
    unfold updR at h
    rw [Option.bind_eq_some_iff] at h
    obtain ⟨l, _, hl⟩ := h
    split at hl
    · unfold turnR at hl
      split at hl
      · cases hl
        have h1 := add_len ps (nodesR (setL l key val))
        have h2 := nodesR_len (setL l key val)
        simp only [Option.map_some, Option.getD_some]
        omega
      · cases hl
    · cases hl
end Go.Proofs.YtpohjnghhdilaaaGreatDoor
