/-
 Contracts: the laws' helpers on pairs: two lists that may be unlike, the value of a key; the draw of pairs with one to be set.
-/
import Derived.Test.YtplhiipgioecpaaGreatDoorDrawPs
import Derived.Test.YtplhiipgioecpaaGreatDoorPairs
import Derived.Laws.StructEq
namespace Go.Proofs.YtplhiipgioecpaaGreatDoor
open Go.RowKit
set_option linter.unusedVariables false
set_option maxRecDepth 100000 in
set_option maxHeartbeats 1000000 in
theorem lawValue_any (a : Option Addr) (cap : Nat) (ps : List PairL) (h : List UInt8) (w : World) (hl : ps.length ≤ 1048576) (hs : IsPairs w a ps) :
 Calls Tryz.prog 12 #[.slice a ps.length cap, .string ⟨h.toArray⟩] w fun e w' => e = .returned (.string ⟨((findL ps h).getD []).toArray⟩) ∧ Below w.heap.size w w' := by
 rcases hs with rfl | ⟨b, off, rfl, hc⟩
 · go_enter Tryz.func12, Tryz.ntmps12
   go_wp2
   refine wp_loop_rounds 1 ?_
   rw [rounds_succ]
   go_wp2
   go_ret
   exact ⟨rfl, Below.refl _ _⟩
 · have hc' : ∀ j, j < ps.length → w.cell? ⟨b, off + j * 2, none⟩ = some (.string ⟨(keyAt ps j).toArray⟩) ∧ w.cell? ⟨b, off + j * 2 + 1, none⟩ = some (.string ⟨(valAt ps j).toArray⟩) := fun j hj => by
    have := hc j hj; simp only [keyAt, valAt, List.getD_eq_getElem?_getD, List.getElem?_eq_getElem hj, Option.getD_some]; exact this
   obtain ⟨r, hr⟩ : ∃ r, r = findL ps h := ⟨_, rfl⟩
   have HHIT : Hid (∀ j, j < ps.length → keyAt ps j = h → (∀ q, q < j → keyAt ps q ≠ h) → r = some (valAt ps j)) := fun j hj hk ho => by rw [hr]; exact findL_hit ps h j hj hk ho
   have HNO : Hid ((∀ q, q < ps.length → keyAt ps q ≠ h) → r = none) := fun ho => by rw [hr]; exact findL_none ps h ho
   rw [← hr]
   clear hc hr
   go_enter Tryz.func12, Tryz.ntmps12
   go_wp2
   go_loopw [5] (fun i wr => ∃ j : Nat, j ≤ ps.length ∧ i = .int .i64 (j : Int) ∧ Hid (∀ q, q < j → keyAt ps q ≠ h) ∧ Below w.heap.size w wr) (fun i _ => ps.length - (intOf i).toNat)
   case atStart => exact ⟨0, Nat.zero_le _, rfl, fun k hk => by omega, Below.refl _ _⟩
   case round =>
    obtain ⟨j, hj, rfl, HA, hbel⟩ := hrel
    have hsz := hbel.size
    by_cases hlt : j < ps.length
    · obtain ⟨c1', c2'⟩ := hc' j hlt
      have c1 := (hbel.cell (p := ⟨b, off + j * 2, none⟩) (World.block_lt_of_cell? w _ c1')).trans c1'
      have c2 := (hbel.cell (p := ⟨b, off + j * 2 + 1, none⟩) (World.block_lt_of_cell? w _ c2')).trans c2'
      have hj0 : (0 : Int) ≤ (j : Int) := by omega
      have hj1 : (j : Int) < (ps.length : Int) := by omega
      have HIT := HHIT.out j hlt
      obtain ⟨x, hx⟩ : ∃ x, x = keyAt ps j := ⟨_, rfl⟩
      obtain ⟨y, hy⟩ : ∃ y, y = valAt ps j := ⟨_, rfl⟩
      rw [← hx] at c1 HIT
      rw [← hy] at c2 HIT
      have HX : Hid (x = keyAt ps j) := hx
      clear hc' c1' c2' hx hy HHIT
      by_cases he : x = h
      · have HR : Hid (r = some y) := HIT he HA.out
        subst he
        clear HIT
        go_wp2
        go_ret
        exact ⟨by rw [HR.out]; rfl, hbel⟩
      · have hb1 : (x == h) = false := by rw [beq_eq_false_iff_ne]; exact he
        have HNX : Hid (keyAt ps j ≠ h) := by rw [Hid, ← HX.out]; exact he
        clear HIT he
        go_wp2
        go_roundw
        case rel => exact ⟨j + 1, by omega, by go_num, fun q hq => by
         by_cases e : q = j
         · rw [e]; exact HNX.out
         · exact HA.out q (by omega), hbel⟩
        case measure => simp [intOf]; omega
    · have HR : Hid (r = none) := HNO.out fun q hq => HA.out q (by omega)
      clear hc'
      go_wp2
      go_ret
      exact ⟨by rw [HR.out]; rfl, hbel⟩
end Go.Proofs.YtplhiipgioecpaaGreatDoor
