/-
  Contracts: nibbles read back, the model's and the program's, of texts of at most 30000 bytes.
-/
import Derived.Test.YtjlkeoocddianaaDoorHexP
import Derived.Test.YtjlkeoocddianaaDoorMathRead
import Derived.Deep.QuietTactic
import Derived.BigQuiet
namespace Go.Proofs.YtjlkeoocddianaaDoor
open Go.RowKit
set_option linter.unusedVariables false

theorem fst_ix (b : UInt8) (r : List UInt8) (x : Int) (h : (b.toNat : Int) = x) (W : World) :
    (Instr.index 9 (.string ⟨(b :: r).toArray⟩) (.int .i64 0)).run Tryd.prog W = .ok (.int .u8 x) W := by
  rw [ix_at (P := Tryd.prog) Tryd.underlying9 (b :: r) 0 0 rfl (by simp) W]
  simp [h]

theorem spec_nibL (l : List UInt8) (w : World) (hl : l.length ≤ 1048576) :
    Calls Tryd.prog 53 #[.string ⟨l.toArray⟩] w fun e w' => e = .returned (.string ⟨(nibs l).toArray⟩) ∧ Below w.heap.size w w' := by
  have := spec_nibbles ⟨l.toArray⟩ w (by simpa [ByteArray.size] using hl)
  simpa using this

theorem impl_nibL (l : List UInt8) (w : World) (hl : l.length ≤ 1048576) :
    Calls Tryd.prog 79 #[.string ⟨l.toArray⟩] w fun e w' => e = .returned (.string ⟨(nibs l).toArray⟩) ∧ Below w.heap.size w w' := by
  have := impl_nibbles ⟨l.toArray⟩ w (by simpa [ByteArray.size] using hl)
  simpa using this

/-- The flag of a first byte below 64. -/
theorem flag_cases (b : UInt8) (h : ¬ 64 ≤ b.toNat) : ∃ g : Nat, g ≤ 15 ∧ (b % 16).toNat = g ∧
    ((b.toNat = g ∧ (b / 16).toNat = 0) ∨ (b.toNat = 16 + g ∧ (b / 16).toNat = 1) ∨ (b.toNat = 32 + g ∧ (b / 16).toNat = 2) ∨ (b.toNat = 48 + g ∧ (b / 16).toNat = 3)) := by
  have := b.toNat_lt
  exact ⟨b.toNat % 16, by omega, by simp, by simp; omega⟩

set_option maxRecDepth 100000 in
set_option maxHeartbeats 1000000 in
theorem spec_read_cons (b : UInt8) (r : List UInt8) (w : World) (hl : r.length < 30000) :
    Calls Tryd.prog 39 #[.string ⟨(b :: r).toArray⟩] w fun e w' => e = .returned (rdV (readL (b :: r))) ∧ Below w.heap.size w w' := by
  have hn := fun W => spec_nibL (b :: r) W (by simp; omega)
  have hix := fun x hx => fst_ix b r x hx
  obtain ⟨s, hs⟩ : ∃ s, s = ByteArray.mk (b :: r).toArray := ⟨_, rfl⟩
  have hsz : s.size ≤ 30000 := by rw [hs]; simp [ByteArray.size]; omega
  have hne : s.toList.isEmpty = false := by rw [hs, ByteArray.toList_mk]; rfl
  rw [← hs] at hn hix ⊢
  obtain ⟨out, hout⟩ : ∃ out, out = readL (b :: r) := ⟨_, rfl⟩
  rw [← hout]
  clear hs
  by_cases h64 : 64 ≤ b.toNat
  · have HR : Hid (out = none) := by rw [Hid, hout]; simp only [readL]; rw [if_pos h64]
    have hi := hix (b.toNat : Int) rfl
    have h64' : (64 : Int) ≤ (b.toNat : Int) := by omega
    clear hout hix
    go_enter Tryd.func39, Tryd.ntmps39
    go_wp2
    go_ret3
    exact ⟨by rw [HR.out]; rfl, Below.refl _ _⟩
  · obtain ⟨g, hg, hbg, hcs⟩ := flag_cases b h64
    obtain ⟨f8, hf8⟩ : ∃ f8, f8 = b / 16 := ⟨_, rfl⟩
    obtain ⟨g8, hg8⟩ : ∃ g8, g8 = b % 16 := ⟨_, rfl⟩
    obtain ⟨nr, hnr⟩ : ∃ nr, nr = nibs r := ⟨_, rfl⟩
    rw [nibs_cons, ← hf8, ← hg8, ← hnr] at hn
    have hnl : nr.length ≤ 60000 := by rw [hnr, nibs_length]; omega
    rw [← hf8] at hcs
    have hs1 := ext_from (f8 :: g8 :: nr) 1 (by simp)
    have hs2 := ext_from (f8 :: g8 :: nr) 2 (by simp)
    simp only [List.length_cons, List.drop_succ_cons, List.drop_zero] at hs1 hs2
    have HE : ∀ (lf : Bool), decide (2 ≤ b.toNat / 16) = lf → (b.toNat / 16 % 2 = 1 → out = some (g8 :: nr, lf)) ∧ (b.toNat / 16 % 2 ≠ 1 → b.toNat % 16 ≠ 0 → out = none) ∧ (b.toNat / 16 % 2 ≠ 1 → b.toNat % 16 = 0 → out = some (nr, lf)) := by
      intro lf hlf
      rw [hout]
      simp only [readL]
      rw [if_neg h64, hlf, ← hg8, ← hnr]
      refine ⟨fun h => by rw [if_pos h], fun h h' => by rw [if_neg h, if_pos h'], fun h h' => by rw [if_neg h, if_neg (by omega)]⟩
    clear hout hf8 hnr
    rcases hcs with ⟨hb, hf⟩ | ⟨hb, hf⟩ | ⟨hb, hf⟩ | ⟨hb, hf⟩
    · have hj := fst_ix f8 (g8 :: nr) 0 (by omega)
      have HF := HE false (by simp; omega)
      by_cases h0 : g = 0
      · have HZ : Hid (out = some (nr, false)) := HF.2.2 (by omega) (by omega)
        have hi := hix 0 (by omega)
        clear HF HE hb hbg hf hg8 h0 hg hix h64
        go_enter Tryd.func39, Tryd.ntmps39
        go_wp2_with fail
        refine (hn _).mono ?_
        rintro e w1 ⟨rfl, hb1⟩
        go_wp2
        go_quiet (fail)
        go_wp2
        go_ret3
        exact ⟨by rw [HZ.out]; rfl, below_drewN hb1 _⟩
      · have HZ : Hid (out = none) := HF.2.1 (by omega) (by omega)
        have hi := hix (0 + (g : Int)) (by omega)
        have h0' : 1 ≤ (g : Int) := by omega
        have hg' : (g : Int) ≤ 15 := by omega
        clear HF HE hb hbg hf hg8 hix h64
        go_enter Tryd.func39, Tryd.ntmps39
        go_wp2
        go_ret3
        exact ⟨by rw [HZ.out]; rfl, Below.refl _ _⟩
    · have hj := fst_ix f8 (g8 :: nr) 1 (by omega)
      have HF := HE false (by simp; omega)
      have HZ : Hid (out = some (g8 :: nr, false)) := HF.1 (by omega)
      have hi := hix (16 + (g : Int)) (by omega)
      have hg' : (g : Int) ≤ 15 := by omega
      clear HF HE hb hbg hf hg8 hix h64
      go_enter Tryd.func39, Tryd.ntmps39
      go_wp2_with fail
      refine (hn _).mono ?_
      rintro e w1 ⟨rfl, hb1⟩
      go_wp2
      go_quiet (fail)
      go_wp2
      go_ret3
      exact ⟨by rw [HZ.out]; rfl, below_drewN hb1 _⟩
    · have hj := fst_ix f8 (g8 :: nr) 2 (by omega)
      have HF := HE true (by simp; omega)
      by_cases h0 : g = 0
      · have HZ : Hid (out = some (nr, true)) := HF.2.2 (by omega) (by omega)
        have hi := hix 32 (by omega)
        clear HF HE hb hbg hf hg8 h0 hg hix h64
        go_enter Tryd.func39, Tryd.ntmps39
        go_wp2_with fail
        refine (hn _).mono ?_
        rintro e w1 ⟨rfl, hb1⟩
        go_wp2
        go_quiet (fail)
        go_wp2
        go_ret3
        exact ⟨by rw [HZ.out]; rfl, below_drewN hb1 _⟩
      · have HZ : Hid (out = none) := HF.2.1 (by omega) (by omega)
        have hi := hix (32 + (g : Int)) (by omega)
        have h0' : 1 ≤ (g : Int) := by omega
        have hg' : (g : Int) ≤ 15 := by omega
        clear HF HE hb hbg hf hg8 hix h64
        go_enter Tryd.func39, Tryd.ntmps39
        go_wp2
        go_ret3
        exact ⟨by rw [HZ.out]; rfl, Below.refl _ _⟩
    · have hj := fst_ix f8 (g8 :: nr) 3 (by omega)
      have HF := HE true (by simp; omega)
      have HZ : Hid (out = some (g8 :: nr, true)) := HF.1 (by omega)
      have hi := hix (48 + (g : Int)) (by omega)
      have hg' : (g : Int) ≤ 15 := by omega
      clear HF HE hb hbg hf hg8 hix h64
      go_enter Tryd.func39, Tryd.ntmps39
      go_wp2_with fail
      refine (hn _).mono ?_
      rintro e w1 ⟨rfl, hb1⟩
      go_wp2
      go_quiet (fail)
      go_wp2
      go_ret3
      exact ⟨by rw [HZ.out]; rfl, below_drewN hb1 _⟩

set_option maxRecDepth 100000 in
theorem spec_read_nil (w : World) :
    Calls Tryd.prog 39 #[.string ⟨#[]⟩] w fun e w' => e = .returned (rdV none) ∧ Below w.heap.size w w' := by
  go_enter Tryd.func39, Tryd.ntmps39
  go_wp2
  go_ret3
  exact ⟨rfl, Below.refl _ _⟩

theorem spec_read (l : List UInt8) (w : World) (hl : l.length ≤ 30000) :
    Calls Tryd.prog 39 #[.string ⟨l.toArray⟩] w fun e w' => e = .returned (rdV (readL l)) ∧ Below w.heap.size w w' := by
  match l, hl with
  | [], _ => exact spec_read_nil w
  | b :: r, hl => exact spec_read_cons b r w (by simp at hl; omega)
end Go.Proofs.YtjlkeoocddianaaDoor
