/-
  The contract of the program's ReadHexPrefix, of texts of at most 30000 bytes.
-/
import Derived.Test.YtjlkeoocddianaaDoorRead
namespace Go.Proofs.YtjlkeoocddianaaDoor
open Go.RowKit
set_option linter.unusedVariables false

set_option maxRecDepth 100000 in
set_option maxHeartbeats 1000000 in
theorem impl_read_cons (b : UInt8) (r : List UInt8) (w : World) (hl : r.length < 30000) :
    Calls Tryd.prog 69 #[.string ⟨(b :: r).toArray⟩] w fun e w' => e = .returned (rdV (readL (b :: r))) ∧ Below w.heap.size w w' := by
  have hn := fun W => impl_nibL (b :: r) W (by simp; omega)
  obtain ⟨s, hs⟩ : ∃ s, s = ByteArray.mk (b :: r).toArray := ⟨_, rfl⟩
  have hsz : s.size ≤ 30000 := by rw [hs]; simp [ByteArray.size]; omega
  have hne : s.toList.isEmpty = false := by rw [hs, ByteArray.toList_mk]; rfl
  rw [← hs] at hn ⊢
  obtain ⟨out, hout⟩ : ∃ out, out = readL (b :: r) := ⟨_, rfl⟩
  rw [← hout]
  clear hs
  obtain ⟨f8, hf8⟩ : ∃ f8, f8 = b / 16 := ⟨_, rfl⟩
  obtain ⟨g8, hg8⟩ : ∃ g8, g8 = b % 16 := ⟨_, rfl⟩
  obtain ⟨nr, hnr⟩ : ∃ nr, nr = nibs r := ⟨_, rfl⟩
  rw [nibs_cons, ← hf8, ← hg8, ← hnr] at hn
  have hnl : nr.length < 60000 := by rw [hnr, nibs_length]; omega
  have hs1 := ext_from (f8 :: g8 :: nr) 1 (by simp)
  have hs2 := ext_from (g8 :: nr) 1 (by simp)
  simp only [List.length_cons, List.drop_succ_cons, List.drop_zero] at hs1 hs2
  obtain ⟨t1, ht1⟩ : ∃ t1, t1 = ByteArray.mk (g8 :: nr).toArray := ⟨_, rfl⟩
  have hk := fun x hx => fst_ix g8 nr x hx
  have ht1s : t1.size ≤ 60000 := by rw [ht1]; simp [ByteArray.size]; omega
  have ht1e : t1.extract 1 t1.size = ⟨nr.toArray⟩ := by rw [ht1]; have : (ByteArray.mk (g8 :: nr).toArray).size = nr.length + 1 := by simp [ByteArray.size]
                                                        rw [this]; exact hs2
  have ht1n : 0 < t1.size := by rw [ht1]; simp [ByteArray.size]
  rw [← ht1] at hs1 hk
  clear hs2
  have hbt := b.toNat_lt
  by_cases h64 : 64 ≤ b.toNat
  · have HR : Hid (out = none) := by rw [Hid, hout]; simp only [readL]; rw [if_pos h64]
    have hj := fst_ix f8 (g8 :: nr) (b.toNat / 16 : Int) (by rw [hf8]; simp)
    have h64' : (4 : Int) ≤ (b.toNat : Int) / 16 := by omega
    have h64'' : (b.toNat : Int) / 16 ≤ 15 := by omega
    clear hout hf8 hg8 hnr ht1
    go_enter Tryd.func69, Tryd.ntmps69
    go_wp2_with fail
    refine (hn _).mono ?_
    rintro e w1 ⟨rfl, hb1⟩
    go_wp2
    go_quiet (fail)
    go_wp2
    go_ret3
    exact ⟨by rw [HR.out]; rfl, below_drewN hb1 _⟩
  · obtain ⟨g, hg, hbg, hcs⟩ := flag_cases b h64
    rw [← hf8] at hcs
    have HE : ∀ (lf : Bool), decide (2 ≤ b.toNat / 16) = lf → (b.toNat / 16 % 2 = 1 → out = some (g8 :: nr, lf)) ∧ (b.toNat / 16 % 2 ≠ 1 → b.toNat % 16 ≠ 0 → out = none) ∧ (b.toNat / 16 % 2 ≠ 1 → b.toNat % 16 = 0 → out = some (nr, lf)) := by
      intro lf hlf
      rw [hout]
      simp only [readL]
      rw [if_neg h64, hlf, ← hg8, ← hnr]
      refine ⟨fun h => by rw [if_pos h], fun h h' => by rw [if_neg h, if_pos h'], fun h h' => by rw [if_neg h, if_neg (by omega)]⟩
    have a01 : bits BinOp.and IntKind.u8 0 1 = 0 := by decide
    have a02 : bits BinOp.and IntKind.u8 0 2 = 0 := by decide
    have a11 : bits BinOp.and IntKind.u8 1 1 = 1 := by decide
    have a12 : bits BinOp.and IntKind.u8 1 2 = 0 := by decide
    have a21 : bits BinOp.and IntKind.u8 2 1 = 0 := by decide
    have a22 : bits BinOp.and IntKind.u8 2 2 = 2 := by decide
    have a31 : bits BinOp.and IntKind.u8 3 1 = 1 := by decide
    have a32 : bits BinOp.and IntKind.u8 3 2 = 2 := by decide
    have hg8n : g8.toNat = g := by rw [hg8]; exact hbg
    have hT : Value.string t1 = .string ⟨(g8 :: nr).toArray⟩ := by rw [ht1]
    have HT : Hid (Value.string t1 = .string ⟨(g8 :: nr).toArray⟩) := hT
    clear hout hf8 hnr hT ht1
    rcases hcs with ⟨hb, hf⟩ | ⟨hb, hf⟩ | ⟨hb, hf⟩ | ⟨hb, hf⟩
    · have hj := fst_ix f8 (g8 :: nr) 0 (by omega)
      have HF := HE false (by simp; omega)
      by_cases h0 : g = 0
      · have HZ : Hid (out = some (nr, false)) := HF.2.2 (by omega) (by omega)
        have hi := hk 0 (by omega)
        clear HF HE hb hbg hf hg8 h0 hg hk h64 hg8n
        go_enter Tryd.func69, Tryd.ntmps69
        go_wp2_with fail
        refine (hn _).mono ?_
        rintro e w1 ⟨rfl, hb1⟩
        go_wp2
        go_quiet (fail)
        go_wp2
        go_ret3
        exact ⟨by rw [HZ.out]; rfl, below_drewN hb1 _⟩
      · have HZ : Hid (out = none) := HF.2.1 (by omega) (by omega)
        have hi := hk (g : Int) (by omega)
        have h0' : 1 ≤ (g : Int) := by omega
        have hg' : (g : Int) ≤ 15 := by omega
        clear HF HE hb hbg hf hg8 hk h64 hg8n
        go_enter Tryd.func69, Tryd.ntmps69
        go_wp2_with fail
        refine (hn _).mono ?_
        rintro e w1 ⟨rfl, hb1⟩
        go_wp2
        go_quiet (fail)
        go_wp2
        go_ret3
        exact ⟨by rw [HZ.out]; rfl, below_drewN hb1 _⟩
    · have hj := fst_ix f8 (g8 :: nr) 1 (by omega)
      have HF := HE false (by simp; omega)
      have HZ : Hid (out = some (g8 :: nr, false)) := HF.1 (by omega)
      clear HF HE hb hbg hf hg8 hk h64 hg8n
      go_enter Tryd.func69, Tryd.ntmps69
      go_wp2_with fail
      refine (hn _).mono ?_
      rintro e w1 ⟨rfl, hb1⟩
      go_wp2
      go_quiet (fail)
      go_wp2
      go_ret3
      exact ⟨by rw [HZ.out, rdV, ← HT.out]; rfl, below_drewN hb1 _⟩
    · have hj := fst_ix f8 (g8 :: nr) 2 (by omega)
      have HF := HE true (by simp; omega)
      by_cases h0 : g = 0
      · have HZ : Hid (out = some (nr, true)) := HF.2.2 (by omega) (by omega)
        have hi := hk 0 (by omega)
        clear HF HE hb hbg hf hg8 h0 hg hk h64 hg8n
        go_enter Tryd.func69, Tryd.ntmps69
        go_wp2_with fail
        refine (hn _).mono ?_
        rintro e w1 ⟨rfl, hb1⟩
        go_wp2
        go_quiet (fail)
        go_wp2
        go_ret3
        exact ⟨by rw [HZ.out]; rfl, below_drewN hb1 _⟩
      · have HZ : Hid (out = none) := HF.2.1 (by omega) (by omega)
        have hi := hk (g : Int) (by omega)
        have h0' : 1 ≤ (g : Int) := by omega
        have hg' : (g : Int) ≤ 15 := by omega
        clear HF HE hb hbg hf hg8 hk h64 hg8n
        go_enter Tryd.func69, Tryd.ntmps69
        go_wp2_with fail
        refine (hn _).mono ?_
        rintro e w1 ⟨rfl, hb1⟩
        go_wp2
        go_quiet (fail)
        go_wp2
        go_ret3
        exact ⟨by rw [HZ.out]; rfl, below_drewN hb1 _⟩
    · have hj := fst_ix f8 (g8 :: nr) 3 (by omega)
      have HF := HE true (by simp; omega)
      have HZ : Hid (out = some (g8 :: nr, true)) := HF.1 (by omega)
      clear HF HE hb hbg hf hg8 hk h64 hg8n
      go_enter Tryd.func69, Tryd.ntmps69
      go_wp2_with fail
      refine (hn _).mono ?_
      rintro e w1 ⟨rfl, hb1⟩
      go_wp2
      go_quiet (fail)
      go_wp2
      go_ret3
      exact ⟨by rw [HZ.out, rdV, ← HT.out]; rfl, below_drewN hb1 _⟩

set_option maxRecDepth 100000 in
theorem impl_read_nil (w : World) :
    Calls Tryd.prog 69 #[.string ⟨#[]⟩] w fun e w' => e = .returned (rdV none) ∧ Below w.heap.size w w' := by
  go_enter Tryd.func69, Tryd.ntmps69
  go_wp2
  go_ret3
  exact ⟨rfl, Below.refl _ _⟩

theorem impl_read (l : List UInt8) (w : World) (hl : l.length ≤ 30000) :
    Calls Tryd.prog 69 #[.string ⟨l.toArray⟩] w fun e w' => e = .returned (rdV (readL l)) ∧ Below w.heap.size w w' := by
  match l, hl with
  | [], _ => exact impl_read_nil w
  | b :: r, hl => exact impl_read_cons b r w (by simp at hl; omega)
end Go.Proofs.YtjlkeoocddianaaDoor
