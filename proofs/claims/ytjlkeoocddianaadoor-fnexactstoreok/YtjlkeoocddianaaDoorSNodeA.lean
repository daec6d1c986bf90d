/-
  Contract: the model's NodeText (written by mksnodea.py).
-/
import Derived.Test.YtjlkeoocddianaaDoorSNodeB
namespace Go.Proofs.YtjlkeoocddianaaDoor
open Go.RowKit
set_option linter.unusedVariables false

set_option maxRecDepth 100000 in
set_option maxHeartbeats 1000000 in
theorem spec_nodeText (k : Int) (p : List UInt8) (a : Option Addr) (cap : Nat) (ls : List (List UInt8)) (v : List UInt8) (w : World) (hp : p.length ≤ 1048576) (hv : v.length ≤ 1048576) (hl : ls.length ≤ 1048576) (hm : ∀ l ∈ ls, l.length ≤ 1048576) (hs : IsStrs w a ls) :
    Calls Tryd.prog 40 #[.agg #[.int .i64 k, .string ⟨p.toArray⟩, .slice a ls.length cap, .string ⟨v.toArray⟩]] w fun e w' => e = .returned (.tuple #[.string ⟨(nodeB k p ls v).toArray⟩, .bool (nodeOk k p ls v)]) ∧ Below w.heap.size w w' := by
  have B0 : Below w.heap.size w (w.alloc (.cells #[.int .i64 k, .string ⟨p.toArray⟩, .slice a ls.length cap, .string ⟨v.toArray⟩] 48)) := (Below.refl _ _).alloc (Nat.le_refl _) _
  have BB : Hid (Below w.heap.size w (w.alloc (.cells #[.int .i64 k, .string ⟨p.toArray⟩, .slice a ls.length cap, .string ⟨v.toArray⟩] 48))) := B0
  have KN := l1nib_at p (w.alloc (.cells #[.int .i64 k, .string ⟨p.toArray⟩, .slice a ls.length cap, .string ⟨v.toArray⟩] 48)) hp
  have HS : Hid (IsStrs w a ls) := hs
  have HSX : Hid (IsStrs (w.alloc (.cells #[.int .i64 k, .string ⟨p.toArray⟩, .slice a ls.length cap, .string ⟨v.toArray⟩] 48)) a ls) := strs_later hs B0
  have HK1 : Hid (∀ l ∈ ls, l.length ≤ 1048576) := hm
  obtain ⟨r, hr⟩ : ∃ r, r = nodeOk k p ls v := ⟨_, rfl⟩
  obtain ⟨t, ht⟩ : ∃ t, t = nodeB k p ls v := ⟨_, rfl⟩
  have HTN : Hid (r = false → t = []) := fun h => by rw [ht, nodeB, ← hr, h]; rfl
  have HTY : Hid (r = true → t = listB (nodeTs k p ls v)) := fun h => by rw [ht, nodeB, ← hr, h]; rfl
  have HRR : Hid (r = (headOk p v && kindOk k p ls v)) := by rw [Hid, hr]; rfl
  rw [← hr, ← ht]
  clear hr ht hs hm B0
  by_cases hp24 : p.length ≤ 24
  · have hp24' : (p.length : Int) ≤ 24 := by omega
    have hpd : decide ((24 : Int) < (p.length : Int)) = false := decide_eq_false (by omega)
    cases hn : isNibs p with
    | false =>
      rw [hn] at KN
      have HR : Hid (r = false) := by rw [Hid, HRR.out, headOk, hn]; simp
      have HT : Hid (t = []) := HTN.out HR.out
      clear HRR hn
      go_enter Tryd.func40, Tryd.ntmps40
      go_wp2_with fail
      refine KN.mono ?_
      rintro e w1 ⟨rfl, rfl⟩
      go_wp2
      go_ret2
      exact ⟨by rw [HR.out, HT.out]; rfl, BB.out⟩
    | true =>
      rw [hn] at KN
      by_cases hv60 : v.length ≤ 60
      · have hv60' : (v.length : Int) ≤ 60 := by omega
        have hvd : decide ((60 : Int) < (v.length : Int)) = false := decide_eq_false (by omega)
        have HR0 : Hid (r = kindOk k p ls v) := by rw [Hid, HRR.out, headOk, hn, decide_eq_true hp24, decide_eq_true hv60]; rfl
        have HNN : Hid (isNibs p = true) := hn
        clear HRR hn
        by_cases h1 : k = 1
        · subst h1
          have HR1 : Hid (r = (!v.isEmpty && decide (ls.length = 0))) := HR0
          clear HR0
          by_cases hl0 : ls.length = 0
          · rcases empty_cases v with hve | hve
            · have HR : Hid (r = false) := by rw [Hid, HR1.out, hve]; rfl
              have HT : Hid (t = []) := HTN.out HR.out
              rw [hl0] at KN BB
              rw [hl0]
              clear hl0
              go_enter Tryd.func40, Tryd.ntmps40
              go_wp2_with fail
              refine KN.mono ?_
              rintro e w1 ⟨rfl, rfl⟩
              go_wp2
              go_ret2
              exact ⟨by rw [HR.out, HT.out]; rfl, BB.out⟩
            · have e1 : r = true := by rw [HR1.out, hve, decide_eq_true hl0]; rfl
              have K := spec_text1 p a cap ls.length v w hp24 HNN.out hv60 hve hl0
              rw [HTY.out e1, e1]
              exact K
          · have hl0' : (0 : Int) < (ls.length : Int) := by omega
            obtain ⟨n, hn⟩ : ∃ n, ls.length = n + 1 := ⟨ls.length - 1, by omega⟩
            have hnn : n + 1 ≤ 1048576 := by omega
            have hld : decide ((0 : Int) < (n : Int) + 1) = true := decide_eq_true (by omega)
            have HR : Hid (r = false) := by rw [Hid, HR1.out, decide_eq_false hl0, Bool.and_false]
            have HT : Hid (t = []) := HTN.out HR.out
            rw [hn] at KN BB
            rw [hn]
            clear hl0 hl0' hn
            go_enter Tryd.func40, Tryd.ntmps40
            go_wp2_with fail
            refine KN.mono ?_
            rintro e w1 ⟨rfl, rfl⟩
            go_wp2
            go_ret2
            exact ⟨by rw [HR.out, HT.out]; rfl, BB.out⟩
        · by_cases h2 : k = 2
          · subst h2
            have HR1 : Hid (r = (!p.isEmpty && (v.isEmpty && (decide (ls.length = 1) && decide ((ls.getD 0 []).length = 32))))) := HR0
            clear HR0 h1
            by_cases hl1 : ls.length = 1
            · obtain ⟨b, off, rfl, c1⟩ := strs_first HSX.out hl1
              have HC0 : Hid (w.cell? ⟨b, off, none⟩ = some (.string ⟨(ls.getD 0 []).toArray⟩)) := by
                obtain ⟨b', off', he, h⟩ := strs_first HS.out hl1
                cases he; exact h
              have hx : (ls.getD 0 []).length ≤ 1048576 := by
                rw [List.getD_eq_getElem?_getD, List.getElem?_eq_getElem (by omega)]; exact HK1.out _ (List.getElem_mem _)
              have HTY2 : Hid (r = true → t = listB [pack (withFlag p false), ls.getD 0 []]) := fun h => HTY.out h
              obtain ⟨x, hxx⟩ : ∃ x, x = ls.getD 0 [] := ⟨_, rfl⟩
              rw [← hxx] at c1 HR1 hx HC0 HTY2
              have HR2 : Hid (r = (!p.isEmpty && (v.isEmpty && decide (x.length = 32)))) := by rw [Hid, HR1.out, decide_eq_true hl1]; rfl
              rw [hl1] at KN c1 BB
              rw [hl1]
              clear hxx hl1 HR1 HSX
              by_cases h32 : x.length = 32
              · have KH := l6Hash_at x true (w.alloc (.cells #[.int .i64 2, .string ⟨p.toArray⟩, .slice (some ⟨b, off, none⟩) 1 cap, .string ⟨v.toArray⟩] 48)) hx (by rw [decide_eq_true h32])
                rcases empty_cases v with hve | hve
                · rcases empty_cases p with hpe | hpe
                  · have HR : Hid (r = false) := by rw [Hid, HR2.out, hpe]; rfl
                    have HT : Hid (t = []) := HTN.out HR.out
                    clear h32
                    go_enter Tryd.func40, Tryd.ntmps40
                    go_wp2_with fail
                    refine KN.mono ?_
                    rintro e w1 ⟨rfl, rfl⟩
                    go_wp2_with fail
                    refine KH.mono ?_
                    rintro e w1 ⟨rfl, rfl⟩
                    go_wp2
                    go_ret2
                    exact ⟨by rw [HR.out, HT.out]; rfl, BB.out⟩
                  · have e1 : r = true := by rw [HR2.out, hpe, hve, decide_eq_true h32]; rfl
                    have K := spec_text2 p b off cap x v w hp24 HNN.out hv60 h32 hpe hve HC0.out
                    rw [HTY2.out e1, e1]
                    exact K
                · have HR : Hid (r = false) := by rw [Hid, HR2.out, hve]; simp
                  have HT : Hid (t = []) := HTN.out HR.out
                  clear h32
                  go_enter Tryd.func40, Tryd.ntmps40
                  go_wp2_with fail
                  refine KN.mono ?_
                  rintro e w1 ⟨rfl, rfl⟩
                  go_wp2_with fail
                  refine KH.mono ?_
                  rintro e w1 ⟨rfl, rfl⟩
                  go_wp2
                  go_ret2
                  exact ⟨by rw [HR.out, HT.out]; rfl, BB.out⟩
              · have KH := l6Hash_at x false (w.alloc (.cells #[.int .i64 2, .string ⟨p.toArray⟩, .slice (some ⟨b, off, none⟩) 1 cap, .string ⟨v.toArray⟩] 48)) hx (by rw [decide_eq_false h32])
                have HR : Hid (r = false) := by rw [Hid, HR2.out, decide_eq_false h32]; simp
                have HT : Hid (t = []) := HTN.out HR.out
                clear h32
                go_enter Tryd.func40, Tryd.ntmps40
                go_wp2_with fail
                refine KN.mono ?_
                rintro e w1 ⟨rfl, rfl⟩
                go_wp2_with fail
                refine KH.mono ?_
                rintro e w1 ⟨rfl, rfl⟩
                go_wp2
                go_ret2
                exact ⟨by rw [HR.out, HT.out]; rfl, BB.out⟩
            · have hl1' : ¬ (ls.length : Int) = 1 := by omega
              have hlb : ((ls.length : Int) == 1) = false := by rw [beq_eq_false_iff_ne]; omega
              have HR : Hid (r = false) := by rw [Hid, HR1.out, decide_eq_false hl1]; simp
              have HT : Hid (t = []) := HTN.out HR.out
              clear HSX
              go_enter Tryd.func40, Tryd.ntmps40
              go_wp2_with fail
              refine KN.mono ?_
              rintro e w1 ⟨rfl, rfl⟩
              go_wp2
              go_ret2
              exact ⟨by rw [HR.out, HT.out]; rfl, BB.out⟩
          · by_cases h3 : k = 3
            · subst h3
              have HR1 : Hid (r = (p.isEmpty && branchOk ls v)) := HR0
              clear HR0 h1 h2
              by_cases h16 : ls.length = 16
              · rcases empty_cases p with hpe | hpe
                · have e1 : r = branchOk ls v := by rw [HR1.out, hpe]; rfl
                  have e2 : t = if r = true then listB (ls ++ [v]) else [] := by
                    by_cases h : r = true
                    · rw [if_pos h]; exact HTY.out h
                    · rw [if_neg h]; exact HTN.out (by simpa using h)
                  obtain ⟨b, off, rfl⟩ : ∃ b off, a = some ⟨b, off, none⟩ := by
                    rcases HS.out with h | ⟨b, off, h, _⟩
                    · rw [h] at h16; simp at h16
                    · exact ⟨b, off, h⟩
                  have K := spec_text3 p b off cap ls v r t w hp24 HNN.out hpe h16 hv60 HK1.out HS.out e1 e2
                  rw [h16]
                  exact K
                · have HR : Hid (r = false) := by rw [Hid, HR1.out, hpe]; rfl
                  have HT : Hid (t = []) := HTN.out HR.out
                  rw [h16] at KN BB
                  rw [h16]
                  clear h16
                  go_enter Tryd.func40, Tryd.ntmps40
                  go_wp2_with fail
                  refine KN.mono ?_
                  rintro e w1 ⟨rfl, rfl⟩
                  go_wp2
                  go_ret2
                  exact ⟨by rw [HR.out, HT.out]; rfl, BB.out⟩
              · have h16' : ¬ (ls.length : Int) = 16 := by omega
                have h16b : ((ls.length : Int) == 16) = false := by rw [beq_eq_false_iff_ne]; omega
                have HR : Hid (r = false) := by rw [Hid, HR1.out, branchOk, decide_eq_false h16]; simp
                have HT : Hid (t = []) := HTN.out HR.out
                clear h16
                go_enter Tryd.func40, Tryd.ntmps40
                go_wp2_with fail
                refine KN.mono ?_
                rintro e w1 ⟨rfl, rfl⟩
                go_wp2
                go_ret2
                exact ⟨by rw [HR.out, HT.out]; rfl, BB.out⟩
            · have h1d : (k == 1) = false := by rw [beq_eq_false_iff_ne]; exact h1
              have HR : Hid (r = false) := by rw [Hid, HR0.out, kindOk, if_neg h1, if_neg h2, if_neg h3]
              have HT : Hid (t = []) := HTN.out HR.out
              clear HR0
              go_enter Tryd.func40, Tryd.ntmps40
              go_wp2_with fail
              refine KN.mono ?_
              rintro e w1 ⟨rfl, rfl⟩
              go_wp2
              go_ret2
              exact ⟨by rw [HR.out, HT.out]; rfl, BB.out⟩
      · have hv60' : ¬ (v.length : Int) ≤ 60 := by omega
        have HR : Hid (r = false) := by rw [Hid, HRR.out, headOk, decide_eq_false hv60]; simp
        have HT : Hid (t = []) := HTN.out HR.out
        clear HRR hn
        go_enter Tryd.func40, Tryd.ntmps40
        go_wp2_with fail
        refine KN.mono ?_
        rintro e w1 ⟨rfl, rfl⟩
        go_wp2
        go_ret2
        exact ⟨by rw [HR.out, HT.out]; rfl, BB.out⟩
  · have hp24' : ¬ (p.length : Int) ≤ 24 := by omega
    have hpd : decide ((24 : Int) < (p.length : Int)) = true := decide_eq_true (by omega)
    have HR : Hid (r = false) := by rw [Hid, HRR.out, headOk, decide_eq_false hp24]; rfl
    have HT : Hid (t = []) := HTN.out HR.out
    clear HRR KN
    go_enter Tryd.func40, Tryd.ntmps40
    go_wp2
    go_ret2
    exact ⟨by rw [HR.out, HT.out]; rfl, BB.out⟩
end Go.Proofs.YtjlkeoocddianaaDoor
