/-
  What stands in pairs with another value for a key; the model's SetPair.
-/
import Derived.Test.YtgcaofedhhkacaaSSet
namespace Go.Proofs.Ytgcaofedhhkacaa
open Go.RowKit
set_option linter.unusedVariables false

theorem setStep_mem (k v : List UInt8) (st : List PairL × Bool) (p q : PairL) (h : q ∈ (setStep k v st p).1) : q ∈ st.1 ∨ q = (k, v) ∨ q = p := by
  unfold setStep at h
  split at h
  · split at h
    · simp at h; rcases h with h | h
      · exact .inl h
      · exact .inr (.inl h)
    · simp at h; rcases h with h | h | h
      · exact .inl h
      · exact .inr (.inl h)
      · exact .inr (.inr h)
  · split at h
    · exact .inl h
    · simp at h; rcases h with h | h
      · exact .inl h
      · exact .inr (.inr h)
theorem setFold_mem (k v : List UInt8) : ∀ (ps : List PairL) (st : List PairL × Bool) (q : PairL), q ∈ (ps.foldl (setStep k v) st).1 → q ∈ st.1 ∨ q = (k, v) ∨ q ∈ ps
  | [], st, q, h => .inl h
  | p :: ps, st, q, h => by
    rcases setFold_mem k v ps (setStep k v st p) q h with h | h | h
    · rcases setStep_mem k v st p q h with h | h | h
      · exact .inl h
      · exact .inr (.inl h)
      · exact .inr (.inr (by rw [h]; simp))
    · exact .inr (.inl h)
    · exact .inr (.inr (List.mem_cons_of_mem _ h))
theorem setL_mem (ps : List PairL) (k v : List UInt8) (q : PairL) (h : q ∈ setL ps k v) : q = (k, v) ∨ q ∈ ps := by
  unfold setL at h
  split at h
  · rcases setFold_mem k v ps _ q h with h | h | h
    · simp at h
    · exact .inl h
    · exact .inr h
  · rw [List.mem_append] at h
    rcases h with h | h
    · rcases setFold_mem k v ps _ q h with h | h | h
      · simp at h
      · exact .inl h
      · exact .inr h
    · simp at h; exact .inl h
/-- What SetPair answers: pairs, and whether they are right. -/
def setOk (ps : List PairL) (k v : List UInt8) : Bool := pairsOkL ps && pairsOkL (setL ps k v)
def setR (ps : List PairL) (k v : List UInt8) : List PairL := if setOk ps k v = true then setL ps k v else []

set_option maxRecDepth 100000 in
set_option maxHeartbeats 1000000 in
theorem spec_setPair (a : Option Addr) (cp : Nat) (ps : List PairL) (k v : List UInt8) (w : World) (hl : ps.length ≤ 1048576) (hm : ∀ p ∈ ps, p.1.length ≤ 1048576 ∧ p.2.length ≤ 1048576) (hkl : k.length ≤ 1048576) (hvl : v.length ≤ 1048576) (hs : IsPairs w a ps) :
    Calls Try.prog 21 #[.slice a ps.length cp, .string ⟨k.toArray⟩, .string ⟨v.toArray⟩] w fun e w' => ∃ (a' : Option Addr) (m cap : Nat), e = .returned (.tuple #[.slice a' m cap, .bool (setOk ps k v)]) ∧ w'.ownsRow w.heap.size 68 2 (.slice a' m cap) (setR ps k v).length (pcells (setR ps k v)) ∧ Below w.heap.size w w' := by
  have K1 := l5Set_any a cp ps k v w hl hm hkl hvl hs
  have HK2 : Hid (∀ W, Below w.heap.size w W → Calls Try.prog 17 #[.slice a ps.length cp] W fun e w' => e = .returned (.bool (pairsOkL ps)) ∧ Below W.heap.size W w') := fun W hW => spec_pairsOk a cp ps W hl hm (hs.later hW)
  have hmm : ∀ p ∈ setL ps k v, p.1.length ≤ 1048576 ∧ p.2.length ≤ 1048576 := fun p hp => by
    rcases setL_mem ps k v p hp with h | h
    · rw [h]; exact ⟨hkl, hvl⟩
    · exact hm p h
  have h60 : pairsOkL ps = true → ps.length ≤ 60 := fun h => (pairsOk_of ps h).1
  have HD : Hid (setOk ps k v = (pairsOkL ps && pairsOkL (setL ps k v)) ∧ setR ps k v = if setOk ps k v = true then setL ps k v else []) := ⟨rfl, rfl⟩
  obtain ⟨r, hr⟩ : ∃ r, r = setR ps k v := ⟨_, rfl⟩
  obtain ⟨ok, hok⟩ : ∃ ok, ok = setOk ps k v := ⟨_, rfl⟩
  obtain ⟨L, hL⟩ : ∃ L, L = setL ps k v := ⟨_, rfl⟩
  obtain ⟨p1, hp1⟩ : ∃ p1, p1 = pairsOkL ps := ⟨_, rfl⟩
  rw [← hok, ← hr, ← hL, ← hp1] at HD
  rw [← hr, ← hok]
  rw [← hL] at K1 hmm
  rw [← hp1] at HK2 h60
  have HMM : Hid (∀ p ∈ L, p.1.length ≤ 1048576 ∧ p.2.length ≤ 1048576) := hmm
  clear hs hm hr hok hL hp1 hmm
  go_enter Try.func21, Try.ntmps21
  go_wp2_with fail
  refine K1.mono ?_
  rintro e w1 ⟨g, cap, rfl, hll, o1, b1⟩
  have O1 := hidOwn o1
  clear o1 K1
  go_wp2_with fail
  refine (HK2.out _ b1).mono ?_
  rintro e w2 ⟨rfl, b2⟩
  have B2 := b1.trans (b2.mono b1.size)
  have O2 := hidOwn (kept2 O1.out b2)
  clear O1 HK2 b2
  cases p1
  · have e1 : ok = false := by rw [HD.out.1]; rfl
    subst e1
    have e2 : r = [] := by rw [HD.out.2]; rfl
    subst e2
    go_wp2
    go_ret2
    exact ⟨none, 0, 0, rfl, World.ownsRow_nil _ _ _ _, B2⟩
  · have hn := h60 rfl
    have K3 := spec_pairsOk (some ⟨g, 0, none⟩) cap L w2 (by omega) HMM.out (isPairs_own O2.out).2.2
    obtain ⟨p2, hp2⟩ : ∃ p2, p2 = pairsOkL L := ⟨_, rfl⟩
    rw [← hp2] at K3 HD
    clear hp2
    go_wp2_with fail
    refine K3.mono ?_
    rintro e w3 ⟨rfl, b3⟩
    have B3 := B2.trans (b3.mono B2.size)
    have O3 := hidOwn (kept2 O2.out b3)
    clear K3 O2 b3
    cases p2
    · have e1 : ok = false := by rw [HD.out.1]; rfl
      subst e1
      have e2 : r = [] := by rw [HD.out.2]; rfl
      subst e2
      go_wp2
      go_ret2
      exact ⟨none, 0, 0, rfl, World.ownsRow_nil _ _ _ _, B3⟩
    · have e1 : ok = true := by rw [HD.out.1]; rfl
      subst e1
      have e2 : r = L := by rw [HD.out.2]; rfl
      subst e2
      go_wp2
      go_ret2
      exact ⟨_, _, _, rfl, O3.out, B3⟩
end Go.Proofs.Ytgcaofedhhkacaa
