/-
  Contracts: the program's search for a key among pairs and their copy.
-/
import Derived.Test.YtgcaofedhhkacaaSSetP
import Derived.Lib.Bytealg
namespace Go.Proofs.Ytgcaofedhhkacaa
open Go.RowKit
set_option linter.unusedVariables false

theorem cmp_neg : ∀ a b : List UInt8, (Lib.compareBytes a b < 0) = (Op.bytesLess a b = true)
  | [], [] => by simp [Lib.compareBytes, Op.bytesLess]
  | [], _ :: _ => by simp [Lib.compareBytes, Op.bytesLess]
  | _ :: _, [] => by simp [Lib.compareBytes, Op.bytesLess]
  | a :: ra, b :: rb => by
    have ih := cmp_neg ra rb
    simp only [Lib.compareBytes, Op.bytesLess]
    by_cases h1 : a < b
    · simp [h1]
    · by_cases h2 : b < a
      · have hne : (a == b) = false := by simp; intro e; rw [e] at h2; exact absurd h2 (UInt8.lt_irrefl b)
        simp [h1, h2, hne]
      · have he : a = b := UInt8.le_antisymm (UInt8.not_lt.1 h2) (UInt8.not_lt.1 h1)
        subst he
        simp [h1, ih]
theorem cmp_zero : ∀ a b : List UInt8, (Lib.compareBytes a b = 0) = (a = b)
  | [], [] => by simp [Lib.compareBytes]
  | [], _ :: _ => by simp [Lib.compareBytes]
  | _ :: _, [] => by simp [Lib.compareBytes]
  | a :: ra, b :: rb => by
    have ih := cmp_zero ra rb
    simp only [Lib.compareBytes]
    by_cases h1 : a < b
    · have hne : ¬ a = b := fun e => by rw [e] at h1; exact absurd h1 (UInt8.lt_irrefl b)
      simp [h1, hne]
    · by_cases h2 : b < a
      · have hne : ¬ a = b := fun e => by rw [e] at h2; exact absurd h2 (UInt8.lt_irrefl b)
        simp [h1, h2, hne]
      · have he : a = b := UInt8.le_antisymm (UInt8.not_lt.1 h2) (UInt8.not_lt.1 h1)
        subst he
        simp [h1, ih]

set_option maxHeartbeats 1000000 in
set_option maxRecDepth 100000 in
theorem compareString_any (a b : List UInt8) (w : World) :
    Calls Try.prog 78 #[.string ⟨a.toArray⟩, .string ⟨b.toArray⟩] w fun e w' => e = .returned (.int .i64 (Lib.compareBytes a b)) ∧ w' = w := by
  go_enter Try.func78, Try.ntmps78
  go_wp2
  rw [run_callFunc_extern Try.func94 (by kernel_rfl) (by kernel_rfl) (by kernel_rfl) (e := Extern.BytealgCompare.compare) (by kernel_rfl), Lib.run_compareString]
  simp only [Result.andThen]
  rw [Oper.upon_value]
  go_wp2
  go_ret
  exact ⟨rfl, rfl⟩

set_option maxHeartbeats 1000000 in
set_option maxRecDepth 100000 in
theorem compare_any (a b : List UInt8) (w : World) :
    Calls Try.prog 49 #[.string ⟨a.toArray⟩, .string ⟨b.toArray⟩] w fun e w' => e = .returned (.int .i64 (Lib.compareBytes a b)) ∧ w' = w := by
  have K := compareString_any a b w
  go_enter Try.func49, Try.ntmps49
  go_wp2_with fail
  refine K.mono ?_
  rintro e w1 ⟨rfl, rfl⟩
  go_wp2
  go_ret
  exact ⟨rfl, rfl⟩

set_option maxHeartbeats 1000000 in
set_option maxRecDepth 100000 in
theorem cmpKey_any (x y k : List UInt8) (w : World) :
    Calls Try.prog 48 #[.agg #[.string ⟨x.toArray⟩, .string ⟨y.toArray⟩], .string ⟨k.toArray⟩] w fun e w' => e = .returned (.int .i64 (Lib.compareBytes x k)) ∧ Below w.heap.size w w' := by
  have K := fun W => compare_any x k W
  go_enter Try.func48, Try.ntmps48
  go_wp2_with fail
  refine (K _).mono ?_
  rintro e w1 ⟨rfl, rfl⟩
  go_wp2
  go_ret
  exact ⟨rfl, (Below.refl _ _).alloc (Nat.le_refl _) _⟩

/-- Where a key's place is among rising keys. -/
def placeIs (ps : List PairL) (k : List UInt8) (at_ : Nat) : Prop := at_ ≤ ps.length ∧ (∀ t, t < at_ → Op.bytesLess (keyAt ps t) k = true) ∧ ∀ t, at_ ≤ t → t < ps.length → Op.bytesLess (keyAt ps t) k = false
/-- Keys rise. -/
def rising (ps : List PairL) : Prop := ∀ i j, i < j → j < ps.length → Op.bytesLess (keyAt ps i) (keyAt ps j) = true
theorem less_trans : ∀ a b c : List UInt8, Op.bytesLess a b = true → Op.bytesLess b c = true → Op.bytesLess a c = true
  | _, _, [], _, h => by simp [Op.bytesLess] at h
  | [], _, _ :: _, _, _ => by simp [Op.bytesLess]
  | a :: ra, [], _ :: _, h, _ => by simp [Op.bytesLess] at h
  | a :: ra, b :: rb, c :: rc, h1, h2 => by
    simp only [Op.bytesLess, Bool.or_eq_true, decide_eq_true_eq, Bool.and_eq_true, beq_iff_eq] at h1 h2 ⊢
    rcases h1 with h1 | ⟨rfl, h1⟩
    · rcases h2 with h2 | ⟨rfl, h2⟩
      · exact .inl (UInt8.lt_trans h1 h2)
      · exact .inl h1
    · rcases h2 with h2 | ⟨rfl, h2⟩
      · exact .inl h2
      · exact .inr ⟨rfl, less_trans ra rb rc h1 h2⟩
theorem rising_of (ps : List PairL) (h : pairsOkL ps = true) : rising ps := by
  have ho := (pairsOk_of ps h).2
  intro i j hij hj
  induction j with
  | zero => omega
  | succ j ih =>
    have hs : Op.bytesLess (keyAt ps j) (keyAt ps (j + 1)) = true := by
      have := ho (j + 1) hj
      simp only [okAt, Bool.and_eq_true, Bool.or_eq_true, decide_eq_true_eq] at this
      rcases this.2 with h0 | h0
      · omega
      · simpa using h0
    by_cases e : i = j
    · rw [e]; exact hs
    · exact less_trans _ _ _ (ih (by omega) (by omega)) hs

set_option maxHeartbeats 2000000 in
set_option maxRecDepth 100000 in
theorem search_any (b off cap : Nat) (ps : List PairL) (k : List UInt8) (w : World) (hl : ps.length ≤ 60) (hr : rising ps) (hs : IsPairs w (some ⟨b, off, none⟩) ps) :
    Calls Try.prog 47 #[.slice (some ⟨b, off, none⟩) ps.length cap, .string ⟨k.toArray⟩, .func (.func 48) #[] #[]] w fun e w' => ∃ p : Nat, placeIs ps k p ∧ e = .returned (.tuple #[.int .i64 (p : Int), .bool (decide (p < ps.length ∧ keyAt ps p = k))]) ∧ Below w.heap.size w w' := by
  rcases hs with rfl | ⟨b', off', he, hc⟩
  · go_enter Try.func47, Try.ntmps47
    go_wp2
    refine wp_loop_rounds 1 ?_
    rw [rounds_succ]
    go_wp2
    go_ret2
    exact ⟨0, ⟨Nat.le_refl _, fun t h => by omega, fun t _ h => by simp at h⟩, rfl, Below.refl _ _⟩
  · cases he
    have hc' : ∀ j, j < ps.length → w.cell? ⟨b, off + j * 2, none⟩ = some (.string ⟨(keyAt ps j).toArray⟩) ∧ w.cell? ⟨b, off + j * 2 + 1, none⟩ = some (.string ⟨(valAt ps j).toArray⟩) := fun j h => by rw [keyAt_lt ps j h, valAt_lt ps j h]; exact hc j h
    have HR : Hid (rising ps) := hr
    clear hc hr
    go_enter Try.func47, Try.ntmps47
    go_wp2
    go_loopw [9, 10, 11] (fun i j _ wr => ∃ lo hi : Nat, lo ≤ hi ∧ hi ≤ ps.length ∧ i = .int .i64 (lo : Int) ∧ j = .int .i64 (hi : Int) ∧ Hid ((∀ t, t < lo → Op.bytesLess (keyAt ps t) k = true) ∧ ∀ t, hi ≤ t → t < ps.length → Op.bytesLess (keyAt ps t) k = false) ∧ Below w.heap.size w wr) (fun i j _ _ => (intOf j).toNat - (intOf i).toNat)
    case atStart => exact ⟨0, ps.length, Nat.zero_le _, Nat.le_refl _, rfl, rfl, ⟨fun t h => by omega, fun t h1 h2 => by omega⟩, Below.refl _ _⟩
    case round =>
      obtain ⟨lo, hi, hlh, hhn, rfl, rfl, HI, hbel⟩ := hrel
      have hsz := hbel.size
      by_cases hlt : lo < hi
      · have hlt' : (lo : Int) < (hi : Int) := by omega
        have hm1 : lo ≤ (lo + hi) / 2 := by omega
        have hm2 : (lo + hi) / 2 < hi := by omega
        have hmn : (lo + hi) / 2 < ps.length := by omega
        obtain ⟨c1', c2'⟩ := hc' ((lo + hi) / 2) hmn
        have hbl := World.block_lt_of_cell? w _ c1'
        simp only at hbl
        have c1 := (hbel.cell (p := ⟨b, off + (lo + hi) / 2 * 2, none⟩) hbl).trans c1'
        have c2 := (hbel.cell (p := ⟨b, off + (lo + hi) / 2 * 2 + 1, none⟩) hbl).trans c2'
        have hi1 : ((lo : Int) + (hi : Int)) / 2 < (ps.length : Int) := by omega
        have hi0 : (0 : Int) ≤ ((lo : Int) + (hi : Int)) / 2 := by omega
        have HLO : Hid (∀ t, t < (lo + hi) / 2 → Op.bytesLess (keyAt ps t) (keyAt ps ((lo + hi) / 2)) = true) := fun t ht => HR.out t _ ht hmn
        have HUP : Hid (∀ t, (lo + hi) / 2 < t → t < ps.length → Op.bytesLess (keyAt ps ((lo + hi) / 2)) (keyAt ps t) = true) := fun t ht hn => HR.out _ t ht hn
        obtain ⟨x, hx⟩ : ∃ x, x = keyAt ps ((lo + hi) / 2) := ⟨_, rfl⟩
        obtain ⟨y, hy⟩ : ∃ y, y = valAt ps ((lo + hi) / 2) := ⟨_, rfl⟩
        have HX : Hid (x = keyAt ps ((lo + hi) / 2)) := hx
        rw [← hx] at c1 HLO HUP
        rw [← hy] at c2
        have K := fun W => cmpKey_any x y k W
        have hcn := cmp_neg x k
        obtain ⟨c, hcc⟩ : ∃ c, c = Lib.compareBytes x k := ⟨_, rfl⟩
        rw [← hcc] at K hcn
        have HCN : Hid ((c < 0) = (Op.bytesLess x k = true)) := hcn
        clear hc' c1' c2' hx hy hcc hcn
        go_wp2_with fail
        refine (K _).mono ?_
        rintro e w1 ⟨rfl, b1⟩
        have B1 := hbel.trans (b1.mono hsz)
        clear K b1
        by_cases hn : c < 0
        · have HB : Hid (Op.bytesLess x k = true) := HCN.out ▸ hn
          go_wp2
          go_roundw
          case rel => exact ⟨(lo + hi) / 2 + 1, hi, by omega, hhn, by first | rfl | go_num | (congr 1), rfl, ⟨fun t ht => by
              by_cases e : t = (lo + hi) / 2
              · rw [e, ← HX.out]; exact HB.out
              · exact less_trans _ _ _ (HLO.out t (by omega)) HB.out, HI.out.2⟩, B1⟩
          case measure => simp [intOf]; omega
        · have HB : Hid (Op.bytesLess x k = false) := by
            rw [Hid]; cases h : Op.bytesLess x k
            · rfl
            · exact absurd (HCN.out ▸ h) hn
          go_wp2
          go_roundw
          case rel => exact ⟨lo, (lo + hi) / 2, by omega, by omega, rfl, by first | rfl | go_num | (congr 1), ⟨HI.out.1, fun t h1 h2 => by
              by_cases e : t = (lo + hi) / 2
              · rw [e, ← HX.out]; exact HB.out
              · cases h : Op.bytesLess (keyAt ps t) k
                · rfl
                · exact absurd (less_trans _ _ _ (HUP.out t (by omega) h2) h) (by rw [HB.out]; simp)⟩, B1⟩
          case measure => simp [intOf]; omega
      · have hle : lo = hi := by omega
        subst hle
        have HPL : Hid (placeIs ps k lo) := ⟨hhn, HI.out.1, HI.out.2⟩
        by_cases hin : lo < ps.length
        · obtain ⟨c1', c2'⟩ := hc' lo hin
          have hbl := World.block_lt_of_cell? w _ c1'
          simp only at hbl
          have c1 := (hbel.cell (p := ⟨b, off + lo * 2, none⟩) hbl).trans c1'
          have c2 := (hbel.cell (p := ⟨b, off + lo * 2 + 1, none⟩) hbl).trans c2'
          have hi1 : (lo : Int) < (ps.length : Int) := by omega
          have hi0 : (0 : Int) ≤ (lo : Int) := by omega
          obtain ⟨x, hx⟩ : ∃ x, x = keyAt ps lo := ⟨_, rfl⟩
          obtain ⟨y, hy⟩ : ∃ y, y = valAt ps lo := ⟨_, rfl⟩
          have HX : Hid (x = keyAt ps lo) := hx
          rw [← hx] at c1
          rw [← hy] at c2
          have K := fun W => cmpKey_any x y k W
          have hcz := cmp_zero x k
          obtain ⟨c, hcc⟩ : ∃ c, c = Lib.compareBytes x k := ⟨_, rfl⟩
          rw [← hcc] at K hcz
          have HCZ : Hid ((c = 0) = (x = k)) := hcz
          clear hc' c1' c2' hx hy hcc hcz HI hlt
          go_wp2_with fail
          refine (K _).mono ?_
          rintro e w1 ⟨rfl, b1⟩
          have B1 := hbel.trans (b1.mono hsz)
          clear K b1
          by_cases hz : c = 0
          · have hxk : x = k := HCZ.out ▸ hz
            subst hz
            go_wp2
            go_ret2
            exact ⟨lo, HPL.out, by rw [decide_eq_true (⟨hin, by rw [← HX.out]; exact hxk⟩ : lo < ps.length ∧ keyAt ps lo = k)]; rfl, B1⟩
          · have hbz : (c == 0) = false := by simp [hz]
            have hxk : ¬ x = k := fun e => hz (HCZ.out.symm ▸ e)
            go_wp2
            go_ret2
            exact ⟨lo, HPL.out, by rw [decide_eq_false (fun h : lo < ps.length ∧ keyAt ps lo = k => hxk (by rw [HX.out]; exact h.2))]; rfl, B1⟩
        · have hi1 : ¬ (lo : Int) < (ps.length : Int) := by omega
          clear hc' HI hlt
          go_wp2
          go_ret2
          exact ⟨lo, HPL.out, by first | (simp [hin]; done) | (rw [decide_eq_false (fun h : lo < ps.length ∧ keyAt ps lo = k => hin h.1)]; rfl), hbel⟩

theorem isPairs_flat {w : World} {b off : Nat} {qs : List PairL} (h : IsPairs w (some ⟨b, off, none⟩) qs) : ∀ j u, (pcells qs)[j]? = some u → w.cell? ((⟨b, off, none⟩ : Addr).add j) = some u := by
  intro j u hu
  have hj : j < qs.length * 2 := by
    have := (List.getElem?_eq_some_iff.1 hu).1
    rwa [pcells_length] at this
  rcases h with rfl | ⟨b', off', he, hc⟩
  · simp at hj
  · cases he
    have ht := hc (j / 2) (by omega)
    have hp := pcells_at qs (j / 2) (by omega)
    rcases Nat.mod_two_eq_zero_or_one j with h0 | h0
    · have e : j = j / 2 * 2 := by omega
      rw [e] at hu ⊢
      rw [hp.1] at hu
      cases hu
      have ea : (⟨b, off, none⟩ : Addr).add (j / 2 * 2) = ⟨b, off + j / 2 * 2, none⟩ := by
        simp only [Addr.add]
        split
        · rename_i h9; rw [h9]; rfl
        · rfl
      rw [ea]; exact ht.1
    · have e : j = j / 2 * 2 + 1 := by omega
      rw [e] at hu ⊢
      rw [hp.2] at hu
      cases hu
      have ea : (⟨b, off, none⟩ : Addr).add (j / 2 * 2 + 1) = ⟨b, off + j / 2 * 2 + 1, none⟩ := by simp [Addr.add, Nat.add_assoc]
      rw [ea]; exact ht.2
theorem pcells_one (qs : List PairL) : ∀ u ∈ pcells qs, u.oneCell' = true := by
  induction qs with
  | nil => simp [pcells]
  | cons p ps ih => simp [pcells, Value.oneCell']; exact ih

set_option maxHeartbeats 1000000 in
set_option maxRecDepth 100000 in
theorem clone_any (b off cap : Nat) (qs : List PairL) (w : World) (hl : qs.length ≤ 1000) (hs : IsPairs w (some ⟨b, off, none⟩) qs) :
    Calls Try.prog 50 #[.slice (some ⟨b, off, none⟩) qs.length cap] w fun e w' => ∃ (a : Option Addr) (m c : Nat), e = .returned (.slice a m c) ∧ w'.ownsRow w.heap.size 68 2 (.slice a m c) qs.length (pcells qs) ∧ Below w.heap.size w w' := by
  obtain ⟨i0, hi0, hz0, hz1, hz2⟩ := info_parts infoPair
  have B0 : Below w.heap.size w (w.alloc (.cells #[] 68)) := (Below.refl _ _).alloc (Nat.le_refl _) _
  have HF : Hid (∀ j u, (pcells qs)[j]? = some u → (w.alloc (.cells #[] 68)).cell? ((⟨b, off, none⟩ : Addr).add j) = some u) := isPairs_flat (hs.later B0)
  have o0 := World.ownsRow_lit (e := 68) (size := 2) w #[] 0 (base := w.heap.size) (Nat.le_refl _) (Nat.zero_le _) rfl
  have HO0 := hidOwn o0
  have hnil : ∀ W, (binOp .eql 37 (.slice (some ⟨b, off, none⟩) qs.length cap) (.slice none 0 0)).run Try.prog W = .ok (.bool false) W := fun W => by first | rfl | (simp [binOp, Op.equal, run_underlying Try.underlying37])
  clear hs o0
  go_enter Try.func50, Try.ntmps50
  go_wp2_with (at_builtin; refine wpList_append_own _ rfl _ _ 37 rfl w.heap.size 68 i0 (.agg #[.string ⟨#[]⟩, .string ⟨#[]⟩]) 2 32 Try.underlying37 hi0 hz0 hz1 hz2 rfl (by decide) (.slice (some ⟨w.heap.size, 0, none⟩) 0 0) 0 _ rfl HO0.out ⟨b, off, none⟩ qs.length cap (pcells qs) rfl (pcells_length qs) HF.out (pcells_one qs) (by unfold maxLen; omega) (by omega) (by simp <;> omega) ?_; intro v3 w3 hown3 hgrow3 hnil3; obtain ⟨a3, m3, c3, rfl⟩ := own_slice2 hown3)
  have B3 : Below w.heap.size w w3 := B0.grown hgrow3 (by simp) (fun k hk => by simp [Value.ownBlock] at hk; omega)
  have HO3 : Hid (w3.ownsRow w.heap.size 68 2 (.slice a3 m3 c3) qs.length (pcells qs)) := by rw [Hid]; simpa using hown3
  clear hown3 hgrow3 hnil3
  go_wp2
  go_ret
  exact ⟨a3, m3, c3, rfl, HO3.out, B3⟩
end Go.Proofs.Ytgcaofedhhkacaa
