/-
  The contract of the program's HexPrefix.
-/
import Derived.Test.YtapmakefpmholaaGreatDoorPre
namespace Go.Proofs.YtapmakefpmholaaGreatDoor
open Go.RowKit

theorem app_list (a s : ByteArray) : (a ++ s).data.toList = a.data.toList ++ s.data.toList := by simp

/-- packed, of a few bytes and the nibbles. -/
theorem packed_of (a s : ByteArray) (l : List UInt8) (n : Nat) (w : World) (hl : a.data.toList ++ s.data.toList = l) (hn : l.length = 2 * n) (hs : l.length ≤ 1048576) (hq : isNibs l = true) :
    Calls Tryz.prog 125 #[.string (a ++ s)] w fun e w' => e = .returned (.string ⟨(pack l).toArray⟩) ∧ Below w.heap.size w w' := by
  subst hl
  have hz : (a ++ s).size = (a.data.toList ++ s.data.toList).length := by simp
  have := impl_packed (a ++ s) n w (by omega) (by omega) (by rw [app_list]; exact hq)
  rw [app_list] at this
  exact this

theorem isNibs_append (a b : List UInt8) : isNibs (a ++ b) = (isNibs a && isNibs b) := by simp [isNibs]

set_option maxRecDepth 100000 in
set_option maxHeartbeats 400000 in
theorem impl_hexPrefix_odd (s : ByteArray) (leaf : Bool) (w : World) (hs : s.size ≤ 60000) (hodd : (s.size : Int) % 2 = 1) (hq : isNibs s.data.toList = true) :
    Calls Tryz.prog 107 #[.string s, .bool leaf] w fun e w' => e = .returned (.tuple #[.string ⟨(pack (withFlag s.data.toList leaf)).toArray⟩, .bool true]) ∧ Below w.heap.size w w' := by
  have HQ := impl_areNibbles s w (by omega)
  rw [hq] at HQ
  have HN : Hid (isNibs s.data.toList = true) := hq
  clear hq
  have c1 := lit_string [1] #[.int .u8 1] rfl 1 rfl (by decide)
  have c3 := lit_string [3] #[.int .u8 3] rfl 1 rfl (by decide)
  have HW := withFlag_odd s.data.toList leaf (by simp; omega)
  obtain ⟨all, hall⟩ : ∃ all, all = withFlag s.data.toList leaf := ⟨_, rfl⟩
  rw [← hall] at HW ⊢
  have HA : Hid ((if leaf then (⟨#[3]⟩ : ByteArray) else ⟨#[1]⟩).data.toList ++ s.data.toList = all) := by rw [Hid, HW]; cases leaf <;> rfl
  have HL : Hid (all.length = 2 * ((1 + s.size) / 2)) := by rw [Hid, HW]; simp; omega
  have HB : Hid (all.length ≤ 1048576) := by rw [Hid, HW]; simp; omega
  have HI : Hid (isNibs all = true) := by rw [Hid, HW]; cases leaf <;> simpa [isNibs] using HN.out
  clear HW hall HN
  cases leaf
  all_goals
    go_enter Tryz.func107, Tryz.ntmps107
    go_wp2_with (go_at_call 104; refine HQ.mono ?_; rintro e w' ⟨rfl, rfl⟩)
    refine (packed_of _ s all ((1 + s.size) / 2) _ (by simpa using HA.out) HL.out HB.out HI.out).mono ?_
    rintro e w1 ⟨rfl, hb1⟩
    go_wp2
    go_ret2
    exact ⟨rfl, ((Below.refl _ _).alloc (Nat.le_refl _) _).trans (hb1.mono (by simp))⟩

set_option maxRecDepth 100000 in
set_option maxHeartbeats 400000 in
theorem impl_hexPrefix_even (s : ByteArray) (leaf : Bool) (w : World) (hs : s.size ≤ 60000) (hodd : (s.size : Int) % 2 = 0) (hq : isNibs s.data.toList = true) :
    Calls Tryz.prog 107 #[.string s, .bool leaf] w fun e w' => e = .returned (.tuple #[.string ⟨(pack (withFlag s.data.toList leaf)).toArray⟩, .bool true]) ∧ Below w.heap.size w w' := by
  have HQ := impl_areNibbles s w (by omega)
  rw [hq] at HQ
  have HN : Hid (isNibs s.data.toList = true) := hq
  clear hq
  have c1 := lit_string [0, 0] #[.int .u8 0, .int .u8 0] rfl 2 rfl (by decide)
  have c3 := lit_string [2, 0] #[.int .u8 2, .int .u8 0] rfl 2 rfl (by decide)
  have HW := withFlag_even s.data.toList leaf (by simp; omega)
  obtain ⟨all, hall⟩ : ∃ all, all = withFlag s.data.toList leaf := ⟨_, rfl⟩
  rw [← hall] at HW ⊢
  have HA : Hid ((if leaf then (⟨#[2, 0]⟩ : ByteArray) else ⟨#[0, 0]⟩).data.toList ++ s.data.toList = all) := by rw [Hid, HW]; cases leaf <;> rfl
  have HL : Hid (all.length = 2 * ((2 + s.size) / 2)) := by rw [Hid, HW]; simp; omega
  have HB : Hid (all.length ≤ 1048576) := by rw [Hid, HW]; simp; omega
  have HI : Hid (isNibs all = true) := by rw [Hid, HW]; cases leaf <;> simpa [isNibs] using HN.out
  clear HW hall HN
  cases leaf
  all_goals
    go_enter Tryz.func107, Tryz.ntmps107
    go_wp2_with (go_at_call 104; refine HQ.mono ?_; rintro e w' ⟨rfl, rfl⟩)
    refine (packed_of _ s all ((2 + s.size) / 2) _ (by simpa using HA.out) HL.out HB.out HI.out).mono ?_
    rintro e w1 ⟨rfl, hb1⟩
    go_wp2
    go_ret2
    exact ⟨rfl, ((Below.refl _ _).alloc (Nat.le_refl _) _).trans (hb1.mono (by simp))⟩

set_option maxRecDepth 100000 in
set_option maxHeartbeats 400000 in
theorem impl_hexPrefix (s : ByteArray) (leaf : Bool) (w : World) (hs : s.size ≤ 1048576) :
    Calls Tryz.prog 107 #[.string s, .bool leaf] w fun e w' => e = .returned (.tuple #[.string ⟨(hexPre s.data.toList leaf).toArray⟩, .bool (hexOk s.data.toList)]) ∧ Below w.heap.size w w' := by
  by_cases hb : s.size ≤ 60000
  · by_cases hq : isNibs s.data.toList = true
    · have H1 : hexPre s.data.toList leaf = pack (withFlag s.data.toList leaf) := if_pos ⟨by simpa using hb, hq⟩
      have H2 : hexOk s.data.toList = true := by simp [hexOk, hb, hq]
      rw [H1, H2]
      by_cases h : (s.size : Int) % 2 = 1
      · exact impl_hexPrefix_odd s leaf w hb h hq
      · exact impl_hexPrefix_even s leaf w hb (by omega) hq
    · have H1 : hexPre s.data.toList leaf = [] := if_neg (fun h => hq h.2)
      have H2 : hexOk s.data.toList = false := by simp [hexOk, hq]
      rw [H1, H2]
      clear H1 H2
      have HQ := impl_areNibbles s w hs
      rw [Bool.eq_false_iff.2 hq] at HQ
      clear hq
      go_enter Tryz.func107, Tryz.ntmps107
      go_wp2_with (go_at_call 104; refine HQ.mono ?_; rintro e w' ⟨rfl, rfl⟩)
      go_ret2
      exact ⟨rfl, Below.refl _ _⟩
  · have H1 : hexPre s.data.toList leaf = [] := if_neg (fun h => hb (by simpa using h.1))
    have H2 : hexOk s.data.toList = false := by simp [hexOk, hb]
    rw [H1, H2]
    clear H1 H2
    go_enter Tryz.func107, Tryz.ntmps107
    go_wp2_with fail
    go_ret2
    exact ⟨rfl, Below.refl _ _⟩
end Go.Proofs.YtapmakefpmholaaGreatDoor
