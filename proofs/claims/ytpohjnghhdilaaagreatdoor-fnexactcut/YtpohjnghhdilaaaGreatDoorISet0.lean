/-
  Contract: SetPair of the program, at no pairs at all (a slice that is nil).
-/
import Derived.Test.YtpohjnghhdilaaaGreatDoorSetAll
import Derived.Laws.AppendOwnNone
namespace Go.Proofs.YtpohjnghhdilaaaGreatDoor
open Go.RowKit
set_option linter.unusedVariables false

set_option maxHeartbeats 2000000 in
set_option maxRecDepth 100000 in
theorem search_none (k : List UInt8) (w : World) :
    Calls Tryz.prog 131 #[.slice none 0 0, .string ⟨k.toArray⟩, .func (.func 132) #[] #[]] w fun e w' => e = .returned (.tuple #[.int .i64 0, .bool false]) ∧ Below w.heap.size w w' := by
  go_enter Tryz.func131, Tryz.ntmps131
  go_wp2
  refine wp_loop_rounds 1 ?_
  rw [rounds_succ]
  go_wp2
  go_ret2
  exact ⟨rfl, Below.refl _ _⟩

set_option maxHeartbeats 1000000 in
set_option maxRecDepth 100000 in
theorem clone_none (w : World) :
    Calls Tryz.prog 133 #[.slice none 0 0] w fun e w' => e = .returned (.slice none 0 0) ∧ w' = w := by
  have hnil : ∀ W, (binOp .eql 31 (.slice none 0 0) (.slice none 0 0)).run Tryz.prog W = .ok (.bool true) W := fun W => by first | rfl | (simp [binOp, Op.equal, run_underlying Tryz.underlying31])
  go_enter Tryz.func133, Tryz.ntmps133
  go_wp2
  go_ret
  exact ⟨rfl, rfl⟩

theorem setL_nil (k v : List UInt8) : setL [] k v = if v = [] then [] else [(k, v)] := by
  simp only [setL, setFold, List.foldl_nil]
  by_cases h : v = [] <;> simp [h]

set_option maxHeartbeats 2000000 in
set_option maxRecDepth 100000 in
theorem impl_setPair0 (k v : List UInt8) (w : World) (hkl : k.length ≤ 1048576) (hvl : v.length ≤ 1048576) :
    Calls Tryz.prog 95 #[.slice none 0 0, .string ⟨k.toArray⟩, .string ⟨v.toArray⟩] w fun e w' => ∃ (a' : Option Addr) (m cap : Nat), e = .returned (.tuple #[.slice a' m cap, .bool (setOk [] k v)]) ∧ w'.ownsRow w.heap.size 65 2 (.slice a' m cap) (setR [] k v).length (pcells (setR [] k v)) ∧ Below w.heap.size w w' := by
  obtain ⟨i0, hi0, hz0, hz1, hz2⟩ := info_parts infoPair
  have K1 := impl_pairsOk none 0 [] w (by simp) (by simp) (.inl rfl)
  have hp0 : pairsOkL [] = true := rfl
  rw [hp0] at K1
  have KS := fun W => search_none k W
  have KC := fun W => clone_none W
  by_cases hv : v = []
  · have HR : Hid (setOk [] k v = true ∧ setR [] k v = []) := by
      have h1 : setL [] k v = [] := by rw [setL_nil, if_pos hv]
      have h2 : setOk [] k v = true := by simp only [setOk, h1, hp0]; rfl
      exact ⟨h2, by simp only [setR, h2, if_true, h1]⟩
    rw [HR.out.1, HR.out.2]
    subst hv
    have KP := fun W => impl_pairsOk none 0 [] W (by simp) (by simp) (.inl rfl)
    rw [hp0] at KP
    clear HR hp0
    go_enter Tryz.func95, Tryz.ntmps95
    go_wp2_with fail
    refine K1.mono ?_
    rintro e w1 ⟨rfl, b1⟩
    go_wp2_with fail
    refine (KS w1).mono ?_
    rintro e w2 ⟨rfl, b2⟩
    have B2 := b1.trans (b2.mono b1.size)
    go_wp2_with fail
    refine (KC w2).mono ?_
    rintro e w3 ⟨rfl, rfl⟩
    go_wp2_with (at_builtin; refine wpList_append_own_none rfl _ _ 31 rfl w.heap.size 65 i0 2 Tryz.underlying31 hi0 (.slice none 0 0) 0 [] rfl (World.ownsRow_nil _ _ _ _) rfl ?_)
    refine (KP _).mono ?_
    rintro e w4 ⟨rfl, b4⟩
    have B4 := B2.trans (b4.mono B2.size)
    go_wp2
    go_ret2
    exact ⟨none, 0, 0, rfl, World.ownsRow_nil _ _ _ _, B4⟩
  · have h1 : setL [] k v = [(k, v)] := by rw [setL_nil, if_neg hv]
    obtain ⟨ok, hok⟩ : ∃ ok, ok = pairsOkL [(k, v)] := ⟨_, rfl⟩
    have HR : Hid (setOk [] k v = ok ∧ setR [] k v = if ok = true then [(k, v)] else []) := by
      have h2 : setOk [] k v = ok := by simp only [setOk, h1, hp0, hok, Bool.true_and]
      exact ⟨h2, by simp only [setR, h2, h1]⟩
    rw [HR.out.1, HR.out.2]
    have KP : Hid (∀ (a : Option Addr) (c : Nat) W, IsPairs W a [(k, v)] → Calls Tryz.prog 102 #[.slice a 1 c] W fun e w' => e = .returned (.bool ok) ∧ Below W.heap.size W w') := fun a c W h => by
      have := impl_pairsOk a c [(k, v)] W (by simp) (by simp; omega) h
      rw [← hok] at this
      exact this
    have hve : v.isEmpty = false := by cases v with | nil => exact absurd rfl hv | cons _ _ => rfl
    clear HR hp0 h1 hok hv
    go_enter Tryz.func95, Tryz.ntmps95
    go_wp2_with fail
    refine K1.mono ?_
    rintro e w1 ⟨rfl, b1⟩
    go_wp2_with fail
    refine (KS w1).mono ?_
    rintro e w2 ⟨rfl, b2⟩
    have B2 : Hid (Below w.heap.size w w2) := b1.trans (b2.mono b1.size)
    have S2 := B2.out.size
    have BA : Hid (Below w.heap.size w (w2.alloc (.cells #[.string ⟨k.toArray⟩, .string ⟨v.toArray⟩] 65))) := B2.out.alloc S2 _
    go_wp2_with fail
    refine (KC w2).mono ?_
    rintro e w3 ⟨rfl, rfl⟩
    clear b1 b2
    go_wp2_with (first
      | (at_builtin; refine wpList_append_lies _ rfl _ _ 31 rfl w.heap.size 65 i0 (.agg #[.string ⟨#[]⟩, .string ⟨#[]⟩]) 2 32 Tryz.underlying31 hi0 hz0 hz1 hz2 rfl (by decide) (.slice none 0 0) 0 [] rfl (World.ownsRow_nil _ _ _ _) ⟨w3.heap.size, 0, none⟩ 1 1 [.string ⟨k.toArray⟩, .string ⟨v.toArray⟩] rfl rfl (World.news_of_block (cs := #[.string ⟨k.toArray⟩, .string ⟨v.toArray⟩]) (t := 65) (fr := (0, 0)) (heap_alloc_new w3 _)) (by simp [Value.oneCell']) (by omega) (by unfold maxLen; omega) (by omega) (by simp; omega) (w3.heap.size + 1) (by simp) ?_
         intro g5 cap5 w5 hown5 hgrow5 hat5 hlt5
         have O5 : Hid (w5.ownsRow w.heap.size 65 2 (.slice (some ⟨g5, 0, none⟩) 1 cap5) 1 (pcells [(k, v)])) := hown5
         have B5 : Hid (Below w.heap.size w w5) := BA.out.grown hgrow5 (by simp; omega) (by simp [Value.ownBlock])
         clear hown5 hgrow5 hat5)
      | (at_builtin; refine wpList_append_own_none rfl _ _ 31 rfl w.heap.size 65 i0 2 Tryz.underlying31 hi0 (.slice (some ⟨g5, 0, none⟩) 1 cap5) 1 (pcells [(k, v)]) rfl O5.out rfl ?_))
    refine (KP.out (some ⟨g5, 0, none⟩) cap5 w5 (isPairs_own O5.out).2.2).mono ?_
    rintro e w6 ⟨rfl, b6⟩
    have B6 := B5.out.trans (b6.mono B5.out.size)
    have O6 := hidOwn (kept2 O5.out b6)
    cases ok with
    | false =>
      go_wp2
      go_ret2
      exact ⟨none, 0, 0, rfl, World.ownsRow_nil _ _ _ _, B6⟩
    | true =>
      go_wp2
      go_ret2
      exact ⟨_, _, _, rfl, O6.out, B6⟩
end Go.Proofs.YtpohjnghhdilaaaGreatDoor
