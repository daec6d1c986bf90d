/-
  Contract: the model's search for a node by its hash (out of MathGet.tl and StGet.tl; for seats without them).
-/
import Derived.Test.YtlknhcnfpkjpbaaGreatDoorPairOk
import Derived.Test.YtlknhcnfpkjpbaaGreatDoorMath2
namespace Go.Proofs.YtlknhcnfpkjpbaaGreatDoor
open Go.RowKit
set_option linter.unusedVariables false

/-- The text of the first node of this hash. -/
def findL (ps : List PairL) (h : List UInt8) : Option (List UInt8) := (ps.find? (fun p => p.1 == h)).map (·.2)
theorem findL_hit (ps : List PairL) (h : List UInt8) (j : Nat) (hj : j < ps.length) (hk : keyAt ps j = h) (ho : ∀ q, q < j → keyAt ps q ≠ h) : findL ps h = some (valAt ps j) := by
  have : ps.find? (fun p => p.1 == h) = some ps[j] := by
    rw [List.find?_eq_some_iff_getElem]
    refine ⟨by rw [keyAt_lt ps j hj] at hk; simp [hk], j, hj, rfl, fun q hq => ?_⟩
    have := ho q hq
    rw [keyAt_lt ps q (by omega)] at this
    simp [this]
  rw [findL, this, valAt_lt ps j hj]
  rfl
theorem findL_none (ps : List PairL) (h : List UInt8) (ho : ∀ q, q < ps.length → keyAt ps q ≠ h) : findL ps h = none := by
  have : ps.find? (fun p => p.1 == h) = none := by
    rw [List.find?_eq_none]
    intro p hp
    obtain ⟨q, hq, rfl⟩ := List.getElem_of_mem hp
    have := ho q hq
    rw [keyAt_lt ps q hq] at this
    simp [this]
  rw [findL, this]
  rfl

set_option maxRecDepth 100000 in
set_option maxHeartbeats 400000 in
theorem spec_l6Find (a : Option Addr) (cap : Nat) (ps : List PairL) (h : List UInt8) (w : World) (hl : ps.length ≤ 1048576) (hs : IsPairs w a ps) :
    Calls Tryz.prog 79 #[.slice a ps.length cap, .string ⟨h.toArray⟩] w fun e w' => e = .returned (.tuple #[.string ⟨((findL ps h).getD []).toArray⟩, .bool (findL ps h).isSome]) ∧ Below w.heap.size w w' := by
  rcases hs with rfl | ⟨b, off, rfl, hc⟩
  · go_enter Tryz.func79, Tryz.ntmps79
    go_wp2
    refine wp_loop_rounds 1 ?_
    rw [rounds_succ]
    go_wp2
    go_ret2
    exact ⟨rfl, Below.refl _ _⟩
  · have hc' : ∀ j, j < ps.length → w.cell? ⟨b, off + j * 2, none⟩ = some (.string ⟨(keyAt ps j).toArray⟩) ∧ w.cell? ⟨b, off + j * 2 + 1, none⟩ = some (.string ⟨(valAt ps j).toArray⟩) := fun j h => by rw [keyAt_lt ps j h, valAt_lt ps j h]; exact hc j h
    obtain ⟨r, hr⟩ : ∃ r, r = findL ps h := ⟨_, rfl⟩
    have HHIT : Hid (∀ j, j < ps.length → keyAt ps j = h → (∀ q, q < j → keyAt ps q ≠ h) → r = some (valAt ps j)) := fun j hj hk ho => by rw [hr]; exact findL_hit ps h j hj hk ho
    have HNO : Hid ((∀ q, q < ps.length → keyAt ps q ≠ h) → r = none) := fun ho => by rw [hr]; exact findL_none ps h ho
    rw [← hr]
    clear hc hr
    go_enter Tryz.func79, Tryz.ntmps79
    go_wp2
    go_loopw [6] (fun i wr => ∃ j : Nat, j ≤ ps.length ∧ i = .int .i64 (j : Int) ∧ Hid (∀ q, q < j → keyAt ps q ≠ h) ∧ Below w.heap.size w wr) (fun i _ => ps.length - (intOf i).toNat)
    case atStart => exact ⟨0, Nat.zero_le _, rfl, fun k hk => by omega, Below.refl _ _⟩
    case round =>
      obtain ⟨j, hj, rfl, HA, hbel⟩ := hrel
      have hsz := hbel.size
      by_cases hlt : j < ps.length
      · obtain ⟨c1', c2'⟩ := hc' j hlt
        have c1 := (hbel.cell (p := ⟨b, off + j * 2, none⟩) (World.block_lt_of_cell? w _ c1')).trans c1'
        have c2 := (hbel.cell (p := ⟨b, off + j * 2 + 1, none⟩) (World.block_lt_of_cell? w _ c2')).trans c2'
        clear c1' c2'
        have hj0 : (0 : Int) ≤ (j : Int) := by omega
        have hj1 : (j : Int) < (ps.length : Int) := by omega
        have HB : Hid (keyAt ps j = h → r = some (valAt ps j)) := fun e => HHIT.out j hlt e HA.out
        have HN : Hid (keyAt ps j ≠ h → ∀ k, k < j + 1 → keyAt ps k ≠ h) := fun e k hk => by
          by_cases ek : k = j
          · rw [ek]; exact e
          · exact HA.out k (by omega)
        obtain ⟨x, hx⟩ : ∃ x, x = keyAt ps j := ⟨_, rfl⟩
        obtain ⟨y, hy⟩ : ∃ y, y = valAt ps j := ⟨_, rfl⟩
        rw [← hx] at c1 HB HN
        rw [← hy] at c2 HB
        clear hc' hx hy HA HHIT HNO
        by_cases he : x = h
        · subst he
          have HR : Hid (r = some y) := HB.out rfl
          clear HB HN
          go_wp2
          go_ret2
          obtain rfl := HR.out
          exact ⟨rfl, by first | exact hbel | exact below_dr hbel⟩
        · have heb : (x == h) = false := by rw [beq_eq_false_iff_ne]; exact he
          go_wp2
          go_roundw
          case rel => exact ⟨j + 1, by omega, by go_num, HN.out he, by first | exact hbel | exact below_dr hbel⟩
          case measure => simp [intOf]; omega
      · have hjl : j = ps.length := by omega
        subst hjl
        have HR : Hid (r = none) := HNO.out HA.out
        clear hc'
        go_wp2
        go_ret2
        obtain rfl := HR.out
        exact ⟨rfl, hbel⟩
end Go.Proofs.YtlknhcnfpkjpbaaGreatDoor
