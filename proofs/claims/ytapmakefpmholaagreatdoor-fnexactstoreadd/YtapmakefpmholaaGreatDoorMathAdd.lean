/-
  Two stores put together, on lists.
-/
import Derived.Test.YtapmakefpmholaaGreatDoorMathSrt
import Derived.Test.YtapmakefpmholaaGreatDoorMapG
namespace Go.Proofs.YtapmakefpmholaaGreatDoor
open Go.RowKit
set_option linter.unusedVariables false

/-- A hash has unlike texts in the two. -/
def clashB (ps qs : List PairL) : Bool := qs.any fun q => match findL ps q.1 with
  | none => false
  | some t => !(t == q.2)
def addOk (ps qs : List PairL) : Bool := storeOkL ps && (storeOkL qs && (!clashB ps qs && decide ((sortedL (ps ++ qs)).length ≤ 400)))
def addR (ps qs : List PairL) : List PairL := if addOk ps qs = true then sortedL (ps ++ qs) else []
/-- The text at a hash in both together. -/
def unionF (ps qs : List PairL) (x : List UInt8) : Option (List UInt8) := (findL qs x).or (findL ps x)

theorem store_rises (ps : List PairL) (h : storeOkL ps = true) : ps.Pairwise (fun x y => x.1 < y.1) := by
  rw [List.pairwise_iff_getElem]
  intro i j hi hj hij
  have := storeOk_rise ps h i (j - i - 1) (by omega)
  rw [show i + 1 + (j - i - 1) = j by omega, keyAt_lt ps i hi, keyAt_lt ps j hj] at this
  exact (less_iff _ _).1 this
theorem find_iff (ps : List PairL) (h : ps.Pairwise (fun x y => x.1 < y.1)) (x t : List UInt8) : findL ps x = some t ↔ (x, t) ∈ ps := by
  constructor
  · intro hf
    unfold findL at hf
    rw [Option.map_eq_some_iff] at hf
    obtain ⟨p, hp, rfl⟩ := hf
    have h1 := List.find?_some hp
    have h2 := List.mem_of_find?_eq_some hp
    have e : p.1 = x := by simpa using h1
    rw [← e]
    exact h2
  · intro hm
    exact find_mem ps h (x, t) hm
theorem clash_no (ps qs : List PairL) (hq : qs.Pairwise (fun x y => x.1 < y.1)) (h : clashB ps qs = false) (x t t' : List UInt8) (h1 : findL qs x = some t) (h2 : findL ps x = some t') : t' = t := by
  rw [find_iff qs hq] at h1
  rw [clashB, List.any_eq_false] at h
  have := h _ h1
  simp only [h2] at this
  simpa using this
theorem clash_yes (ps qs : List PairL) (hq : qs.Pairwise (fun x y => x.1 < y.1)) (x t t' : List UInt8) (h1 : findL qs x = some t) (h2 : findL ps x = some t') (hne : t' ≠ t) : clashB ps qs = true := by
  rw [find_iff qs hq] at h1
  rw [clashB, List.any_eq_true]
  exact ⟨_, h1, by simp only [h2]; simpa using hne⟩
theorem clash_all (ps qs : List PairL) (h : ∀ j (hj : j < qs.length), ∀ t', findL ps qs[j].1 = some t' → t' = qs[j].2) : clashB ps qs = false := by
  rw [clashB, List.any_eq_false]
  intro q hq
  obtain ⟨j, hj, rfl⟩ := List.getElem_of_mem hq
  cases hf : findL ps qs[j].1 with
  | none => simp
  | some t' => simp [h j hj t' hf]
theorem clash_at (ps qs : List PairL) (j : Nat) (hj : j < qs.length) (t' : List UInt8) (h : findL ps qs[j].1 = some t') (hne : t' ≠ qs[j].2) : clashB ps qs = true := by
  rw [clashB, List.any_eq_true]
  exact ⟨_, List.getElem_mem hj, by simp only [h]; simpa using hne⟩

theorem union_mem (ps qs : List PairL) (hp : ps.Pairwise (fun x y => x.1 < y.1)) (hq : qs.Pairwise (fun x y => x.1 < y.1)) (hc : clashB ps qs = false) (x t : List UInt8) : unionF ps qs x = some t ↔ (x, t) ∈ ps ++ qs := by
  unfold unionF
  rw [List.mem_append, ← find_iff ps hp, ← find_iff qs hq]
  cases h1 : findL qs x with
  | none => simp
  | some u =>
    simp only [Option.or, Option.some.injEq]
    constructor
    · intro e; exact .inr e
    · rintro (e | e)
      · exact (clash_no ps qs hq hc x u t h1 e).symm
      · exact e
theorem union_same (ps qs : List PairL) (hp : ps.Pairwise (fun x y => x.1 < y.1)) (hq : qs.Pairwise (fun x y => x.1 < y.1)) (hc : clashB ps qs = false) : ∀ x ∈ ps ++ qs, ∀ y ∈ ps ++ qs, x.1 = y.1 → x = y := by
  intro x hx y hy e
  have h1 := (union_mem ps qs hp hq hc x.1 x.2).2 hx
  have h2 := (union_mem ps qs hp hq hc y.1 y.2).2 hy
  rw [e, h2] at h1
  exact Prod.ext e (Option.some.inj h1).symm
/-- What rises and has just the nodes of both is the model's list. -/
theorem union_unique (ps qs : List PairL) (hp : ps.Pairwise (fun x y => x.1 < y.1)) (hq : qs.Pairwise (fun x y => x.1 < y.1)) (hc : clashB ps qs = false) (L : List PairL) (hL : L.Pairwise (fun x y => x.1 < y.1)) (hm : ∀ x t, (x, t) ∈ L ↔ unionF ps qs x = some t) : L = sortedL (ps ++ qs) := by
  obtain ⟨s1, s2, s3⟩ := sorted_facts (ps ++ qs)
  refine rise_unique _ _ hL s1 fun x => ?_
  have hx := hm x.1 x.2
  rw [union_mem ps qs hp hq hc] at hx
  rw [show x = (x.1, x.2) from rfl, hx]
  constructor
  · intro h
    obtain ⟨y, hy, he⟩ := s3 _ h
    have := union_same ps qs hp hq hc y (s2 y hy) _ h he
    rw [← this]; exact hy
  · exact s2 _
theorem union_keys (ps qs : List PairL) (hp : storeOkL ps = true) (hq : storeOkL qs = true) (hc : clashB ps qs = false) : ((sortedL (ps ++ qs)).map (·.1)).Pairwise (· ≠ ·) ∧ (∀ x ∈ (sortedL (ps ++ qs)).map (·.1), x.length = 32) ∧ ∀ x, x ∈ (sortedL (ps ++ qs)).map (·.1) ↔ (unionF ps qs x).isSome = true := by
  obtain ⟨s1, s2, s3⟩ := sorted_facts (ps ++ qs)
  refine ⟨?_, fun x hx => ?_, fun x => ?_⟩
  · rw [List.pairwise_map]
    exact s1.imp fun {a b} h e => by rw [e] at h; exact List.lt_irrefl _ h
  · obtain ⟨p, hp', rfl⟩ := List.mem_map.1 hx
    have := s2 p hp'
    rw [List.mem_append] at this
    rcases this with h | h
    · exact storeOk_32 ps hp p h
    · exact storeOk_32 qs hq p h
  · constructor
    · intro hx
      obtain ⟨p, hp', rfl⟩ := List.mem_map.1 hx
      rw [(union_mem ps qs (store_rises ps hp) (store_rises qs hq) hc p.1 p.2).2 (s2 p hp')]
      rfl
    · intro hx
      obtain ⟨t, ht⟩ := Option.isSome_iff_exists.1 hx
      rw [union_mem ps qs (store_rises ps hp) (store_rises qs hq) hc] at ht
      obtain ⟨y, hy, he⟩ := s3 _ ht
      exact List.mem_map.2 ⟨y, hy, he⟩
end Go.Proofs.YtapmakefpmholaaGreatDoor
