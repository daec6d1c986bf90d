/-
  Contract: the program's Digits.
-/
import Derived.Test.YtajckopldkmcnaaDoorIDig
namespace Go.Proofs.YtajckopldkmcnaaDoor
open Go.RowKit
set_option linter.unusedVariables false

set_option maxRecDepth 100000 in
set_option maxHeartbeats 1000000 in
theorem impl_digits (msg : List UInt8) (w : World) (hl : msg.length ≤ 1048576) (hT : Tab w) :
    Calls Tryd.prog 128 #[.string ⟨msg.toArray⟩] w fun e w' => ∃ g cap : Nat, e = .returned (.slice (some ⟨g, 0, none⟩) 19 cap) ∧ w'.ownsRow w.heap.size 2 1 (.slice (some ⟨g, 0, none⟩) 19 cap) 19 (icells (digitsL msg)) ∧ Below w.heap.size w w' := by
  obtain ⟨i0, hi0, hz0, hz1, hz2⟩ := info_parts info2i
  have HT : Hid (Tab w) := hT
  have H1 := impl_sum msg w hl hT
  have H2 := fun W hW => itag1 tDigits (sumL msg) W (by decide) (by rw [sumL_len]; omega) hW
  have HL : Hid (digitsL msg = digs (digestD msg) ++ dig3 (chk (digs (digestD msg)))) := rfl
  have hd4 := digestD_len msg
  have HE : Hid (digestD msg = tagL tDigits [sumL msg]) := rfl
  have HC : Hid (chk (digs (digestD msg)) ≤ 48) := chk48 msg
  obtain ⟨s, hs⟩ : ∃ s, s = sumL msg := ⟨_, rfl⟩
  obtain ⟨d, hd⟩ : ∃ d, d = digestD msg := ⟨_, rfl⟩
  rw [← hd] at HL hd4 HE HC
  rw [← hs] at H1 H2 HE
  rw [← HE.out] at H2
  obtain ⟨out, hout⟩ : ∃ out, out = digitsL msg := ⟨_, rfl⟩
  rw [← hout] at HL ⊢
  clear hs hd hout HE hT
  go_enter Tryd.func128, Tryd.ntmps128
  go_wp2_with fail
  refine H1.mono ?_
  rintro e w1 ⟨rfl, b1⟩
  go_wp2_with fail
  refine (H2 _ (HT.out.later b1)).mono ?_
  rintro e w2 ⟨rfl, b2⟩
  have B2 := b1.trans (b2.mono b1.size)
  have hs2 := B2.size
  clear b1 b2 H1 H2
  go_wp2_with (at_make; refine wpList_make_own _ rfl _ _ 139 rfl w2.heap.size 2 i0 (.int .i64 0) 1 Tryd.underlying139 hi0 hz0 hz1 _ _ _ 19 rfl rfl (by omega) (by rw [hz2]; omega) (by unfold maxLen; omega) (Nat.le_refl _) ?_; intro w3 hown0 hgrow0)
  have B3 := B2.grown hgrow0 hs2 (by simp)
  have O3 := hidOwn (hown0.mono hs2)
  clear hown0 hgrow0 B2
  go_loopw [4, 14] (fun v i wr => ∃ j n g cap : Nat, ∃ ds : List Nat, j ≤ 4 ∧ i = .int .i64 (j : Int) ∧ Hid (ds = ((d.take j).map dig4).flatten) ∧ Hid (n = 4 * j) ∧ n ≤ 16 ∧ v = .slice (some ⟨g, 0, none⟩) n cap ∧ wr.ownsRow w.heap.size 2 1 (.slice (some ⟨g, 0, none⟩) n cap) n (icells ds) ∧ Below w.heap.size w wr) (fun _ i _ => 4 - (intOf i).toNat)
  case atStart => exact ⟨0, 0, w2.heap.size, 19, [], by omega, rfl, rfl, rfl, by omega, rfl, O3.out, B3⟩
  case round =>
    obtain ⟨j, n, g, cap, ds, hj, rfl, HD, HNJ, hn16, rfl, hown, hbel⟩ := hrel
    have hsz := hbel.size
    have hbg := own_base hown
    have hgl := own_lt hown
    clear O3 B3
    by_cases hlt : j < 4
    · have hlt' : (j : Int) < 4 := by omega
      have hjd : j < d.length := by omega
      have hix := fun W => ix_at (P := Tryd.prog) Tryd.underlying9 d (j : Int) j rfl hjd W
      have HN : Hid (((d.take (j + 1)).map dig4).flatten = ds ++ dig4 d[j]) := by rw [Hid, digs4 d (by omega) j hlt, ← HD.out]
      obtain ⟨b, hb⟩ : ∃ b, b = d[j] := ⟨_, rfl⟩
      rw [← hb] at hix HN
      have hbt := b.toNat_lt
      have K := fun W => digitsOf_any b.toNat 4 W (by omega) (by omega)
      rw [lowD_four b] at K
      have HO := hidOwn hown
      have hn12 : n ≤ 12 := by have := HNJ.out; omega
      clear hb HD hown
      go_wp2_with fail
      refine (K _).mono ?_
      rintro e w4 ⟨rfl, o4, b4⟩
      have hown4 := HO.out.kept (row := none) ⟨b4.os, b4.tape, b4.output, b4.size, fun k hk _ => b4.block k hk⟩ (.inr (by simp [Value.ownBlock]))
      have B4 := hbel.trans (b4.mono hsz)
      have hs4 := B4.size
      have hg4 := own_lt hown4
      have hnews : ∀ k u, (icells (dig4 b))[k]? = some u → w4.cell? ((⟨wr.heap.size, 0, none⟩ : Addr).add k) = some u := fun k u hu => by
        have hk : k < 4 := by have := (List.getElem?_eq_some_iff.1 hu).1; rw [icells_length] at this; exact this
        rw [add_none, o4.cellAt k (by omega)]; exact hu
      have hone := icells_one (dig4 b)
      clear K HO o4 b4 hbel
      go_wp2_with (at_builtin; refine wpList_append_own _ rfl _ _ 139 rfl w.heap.size 2 i0 (.int .i64 0) 1 8 Tryd.underlying139 hi0 hz0 hz1 hz2 rfl (by decide) (.slice (some ⟨g, 0, none⟩) n cap) n _ rfl hown4 ⟨wr.heap.size, 0, none⟩ 4 4 (icells (dig4 b)) rfl rfl hnews hone (by unfold maxLen; omega) (by omega) (by omega) ?_; intro v5 w5 hown5 hgrow5 hnil5)
      rcases own_cases hown5 with ⟨_, h0, _⟩ | ⟨g5, cap5, rfl, _, _, _, _⟩
      · omega
      have B5 : Below w.heap.size w w5 := B4.grown hgrow5 hs4 (fun k hk => by simp [Value.ownBlock] at hk; omega)
      have HO5 : Hid (w5.ownsRow w.heap.size 2 1 (.slice (some ⟨g5, 0, none⟩) (n + 4) cap5) (n + 4) (icells (ds ++ dig4 b))) := by rw [Hid, icells_app]; exact hown5
      clear hown5 hgrow5 hnil5 hnews hone hown4 B4
      go_wp2
      go_roundw
      case rel => exact ⟨j + 1, n + 4, g5, cap5, ds ++ dig4 b, by omega, by go_num, HN.out.symm, by have := HNJ.out; rw [Hid]; omega, by omega, rfl, HO5.out, B5⟩
      case measure => simp [intOf]; omega
    · have hj4 : j = 4 := by omega
      subst hj4
      have hn : n = 16 := HNJ.out
      subst hn
      have HDD : Hid (ds = digs d) := HD.out
      have hdl : ds.length = 16 := by rw [HDD.out]; exact digs_len d (by omega)
      have hd3 : ∀ k (h : k < ds.length), ds[k] ≤ 3 := fun k h => by
        have := digs_lt d
        rw [← HDD.out] at this
        exact this _ (List.getElem_mem _)
      have hc : ∀ k (h : k < ds.length), wr.cell? ⟨g, k, none⟩ = some (.int .i64 (ds[k] : Int)) := fun k h => by rw [hown.cellAt k (by omega), icells_at ds k h]
      have HO := hidOwn hown
      have HB : Hid (Below w.heap.size w wr) := hbel
      clear HD hown hlt hj hbel
      go_wp2
      go_loop [6, 27] (fun t i => ∃ k c : Nat, k ≤ 16 ∧ i = .int .i64 (k : Int) ∧ t = .int .i64 (c : Int) ∧ Hid (c = chk (ds.take k)) ∧ c ≤ 3 * k) (fun _ i => 16 - (intOf i).toNat)
      case atStart => exact ⟨0, 0, by omega, rfl, rfl, rfl, by omega⟩
      case round =>
        obtain ⟨k, c, hk, rfl, rfl, HC1, hck⟩ := hrel
        by_cases hlt : k < 16
        · have hkl : k < ds.length := by omega
          have c1 := hc k hkl
          have d1 := hd3 k hkl
          have HS : Hid (chk (ds.take (k + 1)) = c + (3 - ds[k])) := by rw [Hid, chk_take ds k hkl, ← HC1.out]
          obtain ⟨x, hx⟩ : ∃ x, x = ds[k] := ⟨_, rfl⟩
          rw [← hx] at c1 d1 HS
          have hk0 : (0 : Int) ≤ (k : Int) := by omega
          have hk1 : (k : Int) < 16 := by omega
          clear hc hd3 hx HC1
          go_wp2
          go_round
          case rel => exact ⟨k + 1, c + (3 - x), by omega, by go_num, by go_num, HS.out.symm, by omega⟩
          case measure => simp [intOf]; omega
        · have hk16 : k = 16 := by omega
          subst hk16
          have HCC : Hid (c = chk ds) := by have := HC1.out; rw [List.take_of_length_le (by omega)] at this; exact this
          have hc48 : c ≤ 48 := by omega
          have K := fun W => digitsOf_any c 3 W (by omega) (by omega)
          rw [lowD_three c hc48] at K
          have HR : Hid (out = ds ++ dig3 c) := by rw [Hid, HL.out, ← HDD.out, ← HCC.out]
          clear hc hd3 HC1 hdl
          go_wp2_with fail
          refine (K _).mono ?_
          rintro e w4 ⟨rfl, o4, b4⟩
          have hown4 := HO.out.kept (row := none) ⟨b4.os, b4.tape, b4.output, b4.size, fun k hk _ => b4.block k hk⟩ (.inr (by simp [Value.ownBlock]))
          have B4 := HB.out.trans (b4.mono hsz)
          have hs4 := B4.size
          have hg4 := own_lt hown4
          have hnews : ∀ k u, (icells (dig3 c))[k]? = some u → w4.cell? ((⟨wr.heap.size, 0, none⟩ : Addr).add k) = some u := fun k u hu => by
            have hk : k < 3 := by have := (List.getElem?_eq_some_iff.1 hu).1; rw [icells_length] at this; exact this
            rw [add_none, o4.cellAt k (by omega)]; exact hu
          have hone := icells_one (dig3 c)
          clear K HO o4 b4 HB
          go_wp2_with (at_builtin; refine wpList_append_own _ rfl _ _ 139 rfl w.heap.size 2 i0 (.int .i64 0) 1 8 Tryd.underlying139 hi0 hz0 hz1 hz2 rfl (by decide) (.slice (some ⟨g, 0, none⟩) 16 cap) 16 _ rfl hown4 ⟨wr.heap.size, 0, none⟩ 3 3 (icells (dig3 c)) rfl rfl hnews hone (by unfold maxLen; omega) (by omega) (by omega) ?_; intro v5 w5 hown5 hgrow5 hnil5)
          rcases own_cases hown5 with ⟨_, h0, _⟩ | ⟨g5, cap5, rfl, _, _, _, _⟩
          · omega
          have B5 : Below w.heap.size w w5 := B4.grown hgrow5 hs4 (fun k hk => by simp [Value.ownBlock] at hk; omega)
          have HO5 : Hid (w5.ownsRow w.heap.size 2 1 (.slice (some ⟨g5, 0, none⟩) 19 cap5) 19 (icells out)) := by rw [Hid, HR.out, icells_app]; exact hown5
          clear hown5 hgrow5 hnil5 hnews hone hown4 B4
          go_wp2
          go_ret
          exact ⟨g5, cap5, rfl, HO5.out, B5⟩
end Go.Proofs.YtajckopldkmcnaaDoor
