/-
  Contracts: the program's isBranch and isNode.
-/
import Derived.Test.YtjlkeoocddianaaDoorMathNode
import Derived.Test.YtjlkeoocddianaaDoorPre
import Derived.Test.YtjlkeoocddianaaDoorStrsX
namespace Go.Proofs.YtjlkeoocddianaaDoor
open Go.RowKit
set_option linter.unusedVariables false

theorem areNib_at (l : List UInt8) (w : World) (hl : l.length ≤ 1048576) :
    Calls Tryd.prog 80 #[.string ⟨l.toArray⟩] w fun e w' => e = .returned (.bool (isNibs l)) ∧ w' = w := by
  have h := impl_areNibbles ⟨l.toArray⟩ w (by simp [ByteArray.size]; omega)
  have e1 : (ByteArray.mk l.toArray).data.toList = l := by simp
  rw [e1] at h
  exact h

theorem empty_cases (v : List UInt8) : v.isEmpty = true ∨ v.isEmpty = false := by cases v <;> simp

set_option maxRecDepth 100000 in
set_option maxHeartbeats 1000000 in
theorem impl_isBranch (a : Option Addr) (cap : Nat) (ls : List (List UInt8)) (v : List UInt8) (w : World) (hl : ls.length ≤ 1048576) (hm : ∀ l ∈ ls, l.length ≤ 1048576) (hs : IsStrs w a ls) :
    Calls Tryd.prog 81 #[.slice a ls.length cap, .string ⟨v.toArray⟩] w fun e w' => e = .returned (.bool (branchOk ls v)) ∧ w' = w := by
  obtain ⟨r, hr⟩ : ∃ r, r = branchOk ls v := ⟨_, rfl⟩
  rw [← hr]
  by_cases h16 : ls.length = 16
  · have HR : Hid (r = (ls.all kidOk && decide (2 ≤ oneN v + kidsN ls))) := by rw [Hid, hr, branchOk, decide_eq_true h16]; rfl
    have h16' : (ls.length : Int) = 16 := by omega
    rcases hs with rfl | ⟨b, off, rfl, hc⟩
    · simp at h16
    · have hm' : ∀ j (h : j < ls.length), ls[j].length ≤ 1048576 := fun j h => hm _ (List.getElem_mem _)
      obtain ⟨n, hn⟩ : ∃ n, n = ls.length := ⟨_, rfl⟩
      have hn16 : n = 16 := by omega
      have HN : Hid (n = ls.length) := hn
      rw [← hn]
      clear hm hr h16' hl
      rcases empty_cases v with hv | hv
      all_goals
        have HV : Hid (v.isEmpty = _) := hv
        subst hn16
        clear hn h16
        go_enter Tryd.func81, Tryd.ntmps81
        go_wp2
        go_loop [5, 7, 17] (fun t _ i => ∃ j m : Nat, j ≤ 16 ∧ i = .int .i64 (j : Int) ∧ t = .int .i64 (m : Int) ∧ m ≤ 17 ∧ Hid (m = oneN v + kidsN (ls.take j)) ∧ Hid ((ls.take j).all kidOk = true)) (fun _ _ i => 16 - (intOf i).toNat)
        case atStart => exact ⟨0, oneN v, Nat.zero_le _, rfl, by rw [oneN, HV.out]; rfl, by have := oneN_le v; omega, by rw [Hid]; simp [kidsN], rfl⟩
        case round =>
          obtain ⟨j, m, hj, rfl, rfl, hm17, HM, HA⟩ := hrel
          by_cases hlt : j < 16
          · have hjl : j < ls.length := by have := HN.out; omega
            have c1 := hc j hjl
            have m1 := hm' j hjl
            have hj0 : (0 : Int) ≤ (j : Int) := by omega
            have hj1 : (j : Int) < 16 := by omega
            have HT : Hid (kidsN (ls.take (j + 1)) = kidsN (ls.take j) + oneN ls[j]) := kidsN_take ls j hjl
            have HA2 : Hid (kidOk ls[j] = true → (ls.take (j + 1)).all kidOk = true) := fun h => kidsAll_take ls j hjl HA.out h
            have HA3 : Hid (kidOk ls[j] = false → ls.all kidOk = false) := fun h => kidsAll_no ls j hjl h
            have HLE : Hid (kidsN (ls.take (j + 1)) ≤ 16) := by rw [Hid]; have h1 := kidsN_le (ls.take (j + 1)); rw [List.length_take] at h1; omega
            have HV1 : Hid (oneN v ≤ 1) := oneN_le v
            obtain ⟨x, hx⟩ : ∃ x, x = ls[j] := ⟨_, rfl⟩
            rw [← hx] at c1 m1 HT HA2 HA3
            clear hc hm' hx hjl
            rcases empty_cases x with hx | hx
            · have HX : Hid (x.isEmpty = true) := hx
              go_wp2
              go_round
              case rel => exact ⟨j + 1, m, by omega, by go_num, rfl, hm17, by have h1 := HT.out; have h2 := HM.out; have h3 : oneN x = 0 := (by rw [oneN, HX.out]; rfl); rw [Hid]; omega, HA2.out (by rw [kidOk, HX.out]; rfl)⟩
              case measure => simp [intOf]; omega
            · have HX : Hid (x.isEmpty = false) := hx
              by_cases h32 : x.length = 32
              · have h32' : (x.length : Int) = 32 := by omega
                have H32 : Hid (x.length = 32) := h32
                have HS : Hid (m + 1 = oneN v + kidsN (ls.take (j + 1))) := by rw [Hid, HT.out, show oneN x = 1 from by rw [oneN, HX.out]; rfl, HM.out]; omega
                have hm2 : m + 1 ≤ 17 := by have h1 := HS.out; have h2 := HLE.out; have h3 := HV1.out; omega
                clear h32
                go_wp2
                go_round
                case rel => exact ⟨j + 1, m + 1, by omega, by go_num, by go_num, hm2, HS.out, HA2.out (by rw [kidOk, decide_eq_true H32.out, Bool.or_true])⟩
                case measure => simp [intOf]; omega
              · have h32' : ¬ (x.length : Int) = 32 := by omega
                have HZ : Hid (r = false) := by rw [Hid, HR.out, HA3.out (by rw [kidOk, HX.out, decide_eq_false h32]; rfl)]; rfl
                clear h32
                go_wp2
                go_ret
                exact ⟨by rw [HZ.out]; rfl, rfl⟩
          · have hj16 : j = 16 := by omega
            subst hj16
            have HF : Hid (r = decide (2 ≤ m)) := by
              have e1 : ls.take 16 = ls := List.take_of_length_le (by have := HN.out; omega)
              have h1 := HM.out
              have h2 := HA.out
              rw [e1] at h1 h2
              rw [Hid, HR.out, h2, h1]; rfl
            clear hc hm' HM HA
            by_cases h2 : 2 ≤ m
            · have h2' : (2 : Int) ≤ (m : Int) := by omega
              have HZ : Hid (r = true) := by rw [Hid, HF.out]; exact decide_eq_true h2
              go_wp2
              go_ret
              exact ⟨by rw [HZ.out]; rfl, rfl⟩
            · have h2' : ¬ (2 : Int) ≤ (m : Int) := by omega
              have HZ : Hid (r = false) := by rw [Hid, HF.out]; exact decide_eq_false h2
              go_wp2
              go_ret
              exact ⟨by rw [HZ.out]; rfl, rfl⟩
  · have hf : r = false := by rw [hr, branchOk, decide_eq_false h16]; rfl
    subst hf
    have h16' : ¬ (ls.length : Int) = 16 := by omega
    clear hr hs hm
    go_enter Tryd.func81, Tryd.ntmps81
    go_wp2
    go_ret
    exact ⟨rfl, rfl⟩
set_option maxRecDepth 100000 in
set_option maxHeartbeats 1000000 in
theorem impl_isNode (k : Int) (p : List UInt8) (a : Option Addr) (cap : Nat) (ls : List (List UInt8)) (v : List UInt8) (w : World) (hp : p.length ≤ 1048576) (hv : v.length ≤ 1048576) (hl : ls.length ≤ 1048576) (hm : ∀ l ∈ ls, l.length ≤ 1048576) (hs : IsStrs w a ls) :
    Calls Tryd.prog 70 #[.agg #[.int .i64 k, .string ⟨p.toArray⟩, .slice a ls.length cap, .string ⟨v.toArray⟩]] w fun e w' => e = .returned (.bool (nodeOk k p ls v)) ∧ Below w.heap.size w w' := by
  have B0 : Below w.heap.size w (w.alloc (.cells #[.int .i64 k, .string ⟨p.toArray⟩, .slice a ls.length cap, .string ⟨v.toArray⟩] 48)) := (Below.refl _ _).alloc (Nat.le_refl _) _
  have BB : Hid (Below w.heap.size w (w.alloc (.cells #[.int .i64 k, .string ⟨p.toArray⟩, .slice a ls.length cap, .string ⟨v.toArray⟩] 48))) := B0
  have KN := areNib_at p (w.alloc (.cells #[.int .i64 k, .string ⟨p.toArray⟩, .slice a ls.length cap, .string ⟨v.toArray⟩] 48)) hp
  have KB := impl_isBranch a cap ls v (w.alloc (.cells #[.int .i64 k, .string ⟨p.toArray⟩, .slice a ls.length cap, .string ⟨v.toArray⟩] 48)) hl hm (strs_later hs B0)
  have HC : Hid (ls.length = 1 → ∃ b off, a = some ⟨b, off, none⟩ ∧ (w.alloc (.cells #[.int .i64 k, .string ⟨p.toArray⟩, .slice a ls.length cap, .string ⟨v.toArray⟩] 48)).cell? ⟨b, off, none⟩ = some (.string ⟨(ls.getD 0 []).toArray⟩)) := fun h1 => by
    rcases strs_later hs B0 with h | ⟨b, off, h, hc⟩
    · rw [h] at h1; simp at h1
    · refine ⟨b, off, h, ?_⟩
      have := hc 0 (by omega)
      rw [Nat.add_zero] at this
      rw [this, List.getD_eq_getElem?_getD, List.getElem?_eq_getElem (by omega)]; rfl
  have HK1 : Hid (∀ l ∈ ls, l.length ≤ 1048576) := hm
  obtain ⟨r, hr⟩ : ∃ r, r = nodeOk k p ls v := ⟨_, rfl⟩
  rw [← hr]
  have HRR : Hid (r = (headOk p v && kindOk k p ls v)) := by rw [Hid, hr]; rfl
  clear hr hs hm B0
  by_cases hp24 : p.length ≤ 24
  · have hp24' : (p.length : Int) ≤ 24 := by omega
    have hpd : decide ((24 : Int) < (p.length : Int)) = false := decide_eq_false (by omega)
    cases hn : isNibs p with
    | false =>
      rw [hn] at KN
      have HR : Hid (r = false) := by rw [Hid, HRR.out, headOk, hn]; simp
      clear HRR hn KB HC
      go_enter Tryd.func70, Tryd.ntmps70
      go_wp2_with fail
      refine KN.mono ?_
      rintro e w1 ⟨rfl, rfl⟩
      go_wp2
      go_ret
      exact ⟨by rw [HR.out]; rfl, BB.out⟩
    | true =>
      rw [hn] at KN
      by_cases hv60 : v.length ≤ 60
      · have hv60' : (v.length : Int) ≤ 60 := by omega
        have hvd : decide ((60 : Int) < (v.length : Int)) = false := decide_eq_false (by omega)
        have HR0 : Hid (r = kindOk k p ls v) := by rw [Hid, HRR.out, headOk, hn, decide_eq_true hp24, decide_eq_true hv60]; rfl
        clear HRR hn
        by_cases h1 : k = 1
        · subst h1
          have HR1 : Hid (r = (!v.isEmpty && decide (ls.length = 0))) := HR0
          clear HR0 KB HC
          rcases empty_cases v with hve | hve
          · have HR : Hid (r = false) := by rw [Hid, HR1.out, hve]; rfl
            go_enter Tryd.func70, Tryd.ntmps70
            go_wp2_with fail
            refine KN.mono ?_
            rintro e w1 ⟨rfl, rfl⟩
            go_wp2
            go_ret
            exact ⟨by rw [HR.out]; rfl, BB.out⟩
          · by_cases hl0 : ls.length = 0
            · have HR : Hid (r = true) := by rw [Hid, HR1.out, hve, decide_eq_true hl0]; rfl
              rw [hl0] at KN BB
              rw [hl0]
              clear hl0
              go_enter Tryd.func70, Tryd.ntmps70
              go_wp2_with fail
              refine KN.mono ?_
              rintro e w1 ⟨rfl, rfl⟩
              go_wp2
              go_ret
              exact ⟨by rw [HR.out]; rfl, BB.out⟩
            · have HR : Hid (r = false) := by rw [Hid, HR1.out, hve, decide_eq_false hl0]; rfl
              have hl0' : ((ls.length : Int) == 0) = false := by rw [beq_eq_false_iff_ne]; omega
              go_enter Tryd.func70, Tryd.ntmps70
              go_wp2_with fail
              refine KN.mono ?_
              rintro e w1 ⟨rfl, rfl⟩
              go_wp2
              go_ret
              exact ⟨by rw [HR.out]; rfl, BB.out⟩
        · have h1d : ¬ k = 1 := h1
          by_cases h2 : k = 2
          · subst h2
            have HR1 : Hid (r = (!p.isEmpty && (v.isEmpty && (decide (ls.length = 1) && decide ((ls.getD 0 []).length = 32))))) := HR0
            clear HR0 KB h1d h1
            rcases empty_cases p with hpe | hpe
            · have HR : Hid (r = false) := by rw [Hid, HR1.out, hpe]; rfl
              clear HC
              go_enter Tryd.func70, Tryd.ntmps70
              go_wp2_with fail
              refine KN.mono ?_
              rintro e w1 ⟨rfl, rfl⟩
              go_wp2
              go_ret
              exact ⟨by rw [HR.out]; rfl, BB.out⟩
            · rcases empty_cases v with hve | hve
              · by_cases hl1 : ls.length = 1
                · obtain ⟨b, off, rfl, c1⟩ := HC.out hl1
                  have hx : (ls.getD 0 []).length ≤ 1048576 := by
                    rw [List.getD_eq_getElem?_getD, List.getElem?_eq_getElem (by omega)]; exact HK1.out _ (List.getElem_mem _)
                  obtain ⟨x, hxx⟩ : ∃ x, x = ls.getD 0 [] := ⟨_, rfl⟩
                  rw [← hxx] at c1 HR1 hx
                  have hl1' : (ls.length : Int) = 1 := by omega
                  have HL1 : Hid (ls.length = 1) := hl1
                  rw [hl1] at KN c1 BB
                  rw [hl1]
                  clear HC hxx hl1 hl1'
                  by_cases h32 : x.length = 32
                  · have h32' : ((x.length : Int) == 32) = true := by rw [beq_iff_eq]; omega
                    have HR : Hid (r = true) := by rw [Hid, HR1.out, hpe, hve, decide_eq_true HL1.out, decide_eq_true h32]; rfl
                    clear h32
                    go_enter Tryd.func70, Tryd.ntmps70
                    go_wp2_with fail
                    refine KN.mono ?_
                    rintro e w1 ⟨rfl, rfl⟩
                    go_wp2
                    go_ret
                    exact ⟨by rw [HR.out]; rfl, BB.out⟩
                  · have h32' : ((x.length : Int) == 32) = false := by rw [beq_eq_false_iff_ne]; omega
                    have HR : Hid (r = false) := by rw [Hid, HR1.out, hpe, hve, decide_eq_true HL1.out, decide_eq_false h32]; rfl
                    clear h32
                    go_enter Tryd.func70, Tryd.ntmps70
                    go_wp2_with fail
                    refine KN.mono ?_
                    rintro e w1 ⟨rfl, rfl⟩
                    go_wp2
                    go_ret
                    exact ⟨by rw [HR.out]; rfl, BB.out⟩
                · have hl1' : ((ls.length : Int) == 1) = false := by rw [beq_eq_false_iff_ne]; omega
                  have HR : Hid (r = false) := by rw [Hid, HR1.out, hpe, hve, decide_eq_false hl1]; rfl
                  clear HC
                  go_enter Tryd.func70, Tryd.ntmps70
                  go_wp2_with fail
                  refine KN.mono ?_
                  rintro e w1 ⟨rfl, rfl⟩
                  go_wp2
                  go_ret
                  exact ⟨by rw [HR.out]; rfl, BB.out⟩
              · have HR : Hid (r = false) := by rw [Hid, HR1.out, hpe, hve]; rfl
                clear HC
                go_enter Tryd.func70, Tryd.ntmps70
                go_wp2_with fail
                refine KN.mono ?_
                rintro e w1 ⟨rfl, rfl⟩
                go_wp2
                go_ret
                exact ⟨by rw [HR.out]; rfl, BB.out⟩
          · by_cases h3 : k = 3
            · subst h3
              have HR1 : Hid (r = (p.isEmpty && branchOk ls v)) := HR0
              clear HR0 HC h1d h1 h2
              rcases empty_cases p with hpe | hpe
              · have HR2 : Hid (r = branchOk ls v) := by rw [Hid, HR1.out, hpe]; rfl
                rw [← HR2.out] at KB
                go_enter Tryd.func70, Tryd.ntmps70
                go_wp2_with fail
                refine KN.mono ?_
                rintro e w1 ⟨rfl, rfl⟩
                go_wp2_with fail
                refine KB.mono ?_
                rintro e w1 ⟨rfl, rfl⟩
                go_wp2
                go_ret
                exact ⟨rfl, BB.out⟩
              · have HR : Hid (r = false) := by rw [Hid, HR1.out, hpe]; rfl
                clear KB
                go_enter Tryd.func70, Tryd.ntmps70
                go_wp2_with fail
                refine KN.mono ?_
                rintro e w1 ⟨rfl, rfl⟩
                go_wp2
                go_ret
                exact ⟨by rw [HR.out]; rfl, BB.out⟩
            · have HR : Hid (r = false) := by rw [Hid, HR0.out, kindOk, if_neg h1, if_neg h2, if_neg h3]
              clear HC KB HR0
              go_enter Tryd.func70, Tryd.ntmps70
              go_wp2_with fail
              refine KN.mono ?_
              rintro e w1 ⟨rfl, rfl⟩
              go_wp2
              go_ret
              exact ⟨by rw [HR.out]; rfl, BB.out⟩
      · have hv60' : ¬ (v.length : Int) ≤ 60 := by omega
        have HR : Hid (r = false) := by rw [Hid, HRR.out, headOk, decide_eq_false hv60]; simp
        clear HRR hn KB HC
        go_enter Tryd.func70, Tryd.ntmps70
        go_wp2_with fail
        refine KN.mono ?_
        rintro e w1 ⟨rfl, rfl⟩
        go_wp2
        go_ret
        exact ⟨by rw [HR.out]; rfl, BB.out⟩
  · have hp24' : ¬ (p.length : Int) ≤ 24 := by omega
    have hpd : decide ((24 : Int) < (p.length : Int)) = true := decide_eq_true (by omega)
    have HR : Hid (r = false) := by rw [Hid, HRR.out, headOk, decide_eq_false hp24]; rfl
    clear HRR KB HC KN
    go_enter Tryd.func70, Tryd.ntmps70
    go_wp2
    go_ret
    exact ⟨by rw [HR.out]; rfl, BB.out⟩
end Go.Proofs.YtjlkeoocddianaaDoor
