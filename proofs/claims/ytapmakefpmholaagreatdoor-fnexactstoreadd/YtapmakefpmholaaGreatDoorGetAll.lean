
/-
  Texts that are laid as one: MathGet, StGet.
-/
import Derived.Test.YtapmakefpmholaaGreatDoorStAll
import Derived.Test.YtapmakefpmholaaGreatDoorMath2
import Derived.Maps.Views
import Derived.Maps.OwnSet
namespace Go.Proofs.YtapmakefpmholaaGreatDoor
open Go.RowKit
set_option linter.unusedVariables false

/-- The text of the first node of this hash. -/
def findL (ps : List PairL) (h : List UInt8) : Option (List UInt8) := (ps.find? (fun p => p.1 == h)).map (·.2)
theorem findL_hit (ps : List PairL) (h : List UInt8) (j : Nat) (hj : j < ps.length) (hk : keyAt ps j = h) (ho : ∀ q, q < j → keyAt ps q ≠ h) : findL ps h = some (valAt ps j) := by
  have : ps.find? (fun p => p.1 == h) = some ps[j] := by
    rw [List.find?_eq_some_iff_getElem]
    refine ⟨by rw [keyAt_lt ps j hj] at hk; simp [hk], j, hj, rfl, fun q hq => ?_⟩
    have := ho q hq
    rw [keyAt_lt ps q (by omega)] at this
    simp [this]
  rw [findL, this, valAt_lt ps j hj]
  rfl
theorem findL_none (ps : List PairL) (h : List UInt8) (ho : ∀ q, q < ps.length → keyAt ps q ≠ h) : findL ps h = none := by
  have : ps.find? (fun p => p.1 == h) = none := by
    rw [List.find?_eq_none]
    intro p hp
    obtain ⟨q, hq, rfl⟩ := List.getElem_of_mem hp
    have := ho q hq
    rw [keyAt_lt ps q hq] at this
    simp [this]
  rw [findL, this]
  rfl

theorem stLess_irrefl : ∀ x : List UInt8, Op.bytesLess x x = false
  | [] => rfl
  | a :: x => by simp [Op.bytesLess, stLess_irrefl x]
theorem stLess_trans : ∀ a b c : List UInt8, Op.bytesLess a b = true → Op.bytesLess b c = true → Op.bytesLess a c = true
  | _, _, [], _, h => by simp [Op.bytesLess] at h
  | [], _, _ :: _, _, _ => by simp [Op.bytesLess]
  | a :: ra, [], _ :: _, h, _ => by simp [Op.bytesLess] at h
  | a :: ra, b :: rb, c :: rc, h1, h2 => by
    simp only [Op.bytesLess, Bool.or_eq_true, decide_eq_true_eq, Bool.and_eq_true, beq_iff_eq] at h1 h2 ⊢
    rcases h1 with h1 | ⟨rfl, h1⟩
    · rcases h2 with h2 | ⟨rfl, h2⟩
      · exact .inl (UInt8.lt_trans h1 h2)
      · exact .inl h1
    · rcases h2 with h2 | ⟨rfl, h2⟩
      · exact .inl h2
      · exact .inr ⟨rfl, stLess_trans ra rb rc h1 h2⟩

theorem storeOk_at (ps : List PairL) (h : storeOkL ps = true) (j : Nat) (hj : j < ps.length) : stOk ps j = true := by
  simp only [storeOkL, Bool.and_eq_true, List.all_eq_true, List.mem_range] at h
  exact h.2 j hj
theorem storeOk_rise (ps : List PairL) (h : storeOkL ps = true) (i : Nat) : ∀ m, i + 1 + m < ps.length → Op.bytesLess (keyAt ps i) (keyAt ps (i + 1 + m)) = true
  | 0, hm => by
    have := storeOk_at ps h (i + 1) (by omega)
    simp only [stOk, Bool.and_eq_true, Bool.or_eq_true, decide_eq_true_eq] at this
    rcases this.2 with h0 | h0
    · omega
    · simpa using h0
  | m + 1, hm => by
    have := storeOk_at ps h (i + 1 + (m + 1)) (by omega)
    simp only [stOk, Bool.and_eq_true, Bool.or_eq_true, decide_eq_true_eq] at this
    rcases this.2 with h0 | h0
    · omega
    · rw [show i + 1 + (m + 1) - 1 = i + 1 + m by omega] at h0
      exact stLess_trans _ _ _ (storeOk_rise ps h i m (by omega)) h0
theorem storeOk_apart (ps : List PairL) (h : storeOkL ps = true) (i j : Nat) (hi : i < ps.length) (hj : j < ps.length) (hne : i ≠ j) : keyAt ps i ≠ keyAt ps j := by
  intro e
  rcases Nat.lt_or_gt_of_ne hne with hl | hl
  · have := storeOk_rise ps h i (j - i - 1) (by omega)
    rw [show i + 1 + (j - i - 1) = j by omega, e, stLess_irrefl] at this
    cases this
  · have := storeOk_rise ps h j (i - j - 1) (by omega)
    rw [show j + 1 + (i - j - 1) = i by omega, e, stLess_irrefl] at this
    cases this
theorem storeOk_len (ps : List PairL) (h : storeOkL ps = true) (j : Nat) (hj : j < ps.length) : (keyAt ps j).length = 32 := by
  have := storeOk_at ps h j hj
  simp only [stOk, Bool.and_eq_true, beq_iff_eq] at this
  rw [← this.1.2]
  exact sumL_len _
theorem findL_short (ps : List PairL) (hs : storeOkL ps = true) (h : List UInt8) (hl : h.length ≠ 32) : findL ps h = none :=
  findL_none ps h fun q hq e => hl (by rw [← e]; exact storeOk_len ps hs q hq)

theorem keyLit_ne (a b : List UInt8) (ha : a.length = 32) (hb : b.length = 32) (hne : a ≠ b) : keyLit a ≠ keyLit b := by
  intro e
  have h1 := key_reads a ha
  have h2 := key_reads b hb
  rw [← e] at h2
  have h3 := arr32.law.inj h1 h2
  have h3 := List.toArray_inj (Value.agg.inj h3)
  refine hne ?_
  unfold bcells at h3
  refine (List.map_inj_right ?_).1 h3
  intro x y hxy
  simp at hxy
  exact UInt8.toNat_inj.1 (by omega)
theorem keyLit_key (a : List UInt8) : WideAt.IsKeyLit (keyLit a) := by simp [keyLit, WideAt.IsKeyLit]
theorem datL_map (ps : List PairL) : ∀ j, j ≤ ps.length → Maps.IsMap (datL (ps.take j))
  | 0, _ => by simp [datL, Maps.isMap_empty]
  | j + 1, hj => by
    rw [datL_take ps j (by omega)]
    obtain ⟨es, he⟩ := datL_map ps j (by omega)
    rw [he]
    exact ⟨_, rfl⟩
theorem datL_miss (ps : List PairL) (hs : storeOkL ps = true) (h : List UInt8) (hl : h.length = 32) (ho : ∀ q, q < ps.length → keyAt ps q ≠ h) : ∀ j, j ≤ ps.length → Maps.has (datL (ps.take j)) (keyLit h) = false
  | 0, _ => by simp [datL, Maps.has]
  | j + 1, hj => by
    rw [datL_take ps j (by omega), Maps.has_put_other (keyLit_ne _ _ hl (storeOk_len ps hs j (by omega)) (fun e => ho j (by omega) e.symm))]
    exact datL_miss ps hs h hl ho j (by omega)
theorem datL_hit (ps : List PairL) (hs : storeOkL ps = true) (i : Nat) (hi : i < ps.length) (z : DataW Unit) : ∀ m, i + 1 + m ≤ ps.length → Maps.has (datL (ps.take (i + 1 + m))) (keyLit (keyAt ps i)) = true ∧ (datL (ps.take (i + 1 + m))).atKey (keyLit (keyAt ps i)) z = .lit (.string (valAt ps i))
  | 0, _ => by
    rw [Nat.add_zero, datL_take ps i hi]
    have hm := datL_map ps i (by omega)
    exact ⟨Maps.has_put_same hm (keyLit_key _) _, Maps.atKey_put_same hm (keyLit_key _) _ _⟩
  | m + 1, hm => by
    have hne := keyLit_ne _ _ (storeOk_len ps hs i hi) (storeOk_len ps hs (i + 1 + m) (by omega)) (storeOk_apart ps hs i (i + 1 + m) hi (by omega) (by omega))
    rw [show i + 1 + (m + 1) = i + 1 + m + 1 by omega, datL_take ps (i + 1 + m) (by omega), Maps.has_put_other hne, Maps.atKey_put_other hne]
    exact datL_hit ps hs i hi z m (by omega)
/-- What the map of nodes holds at a hash. -/
theorem datL_at (ps : List PairL) (hs : storeOkL ps = true) (h : List UInt8) (hl : h.length = 32) : Maps.has (datL ps) (keyLit h) = (findL ps h).isSome ∧ (datL ps).atKey (keyLit h) (.lit (.string [])) = .lit (.string ((findL ps h).getD [])) := by
  by_cases hx : ∃ i, i < ps.length ∧ keyAt ps i = h
  · obtain ⟨i, hi, rfl⟩ := hx
    have := datL_hit ps hs i hi (.lit (.string [])) (ps.length - i - 1) (by omega)
    rw [show i + 1 + (ps.length - i - 1) = ps.length by omega, List.take_length] at this
    rw [findL_hit ps _ i hi rfl (fun q hq => storeOk_apart ps hs q i (by omega) hi (by omega))]
    exact this
  · have ho : ∀ q, q < ps.length → keyAt ps q ≠ h := fun q hq e => hx ⟨q, hq, e⟩
    have := datL_miss ps hs h hl ho ps.length (Nat.le_refl _)
    rw [List.take_length] at this
    rw [findL_none ps h ho, this, Maps.atKey_of_not_has this]
    exact ⟨rfl, rfl⟩
end Go.Proofs.YtapmakefpmholaaGreatDoor
namespace Go.Proofs.YtapmakefpmholaaGreatDoor
open Go.RowKit
set_option linter.unusedVariables false

theorem zeroHN (w : World) : (zeroValue 55).run Tryz.prog w = .ok (.agg #[.string ⟨#[]⟩, .int .i64 0, .string ⟨#[]⟩, .slice none 0 0, .string ⟨#[]⟩]) w := by kernel_rfl

theorem five_cells {w : World} {b : Nat} {u v x y z : Value} {t : TypeId} (h : w.heap[b]? = some (.cells #[u, v, x, y, z] t (0, 0))) :
    w.cell? ⟨b, 0, none⟩ = some u ∧ w.cell? ⟨b, 1, none⟩ = some v ∧ w.cell? ⟨b, 2, none⟩ = some x ∧ w.cell? ⟨b, 3, none⟩ = some y ∧ w.cell? ⟨b, 4, none⟩ = some z ∧ ∀ j, w.frozen? ⟨b, j, none⟩ = false := by
  refine ⟨?_, ?_, ?_, ?_, ?_, fun j => frozen_of_row w b j _ t h⟩ <;> simp only [World.cell?, h] <;> rfl
theorem five_set1 {w : World} {b j : Nat} {u v x y z q : Value} {t : TypeId} (h : w.heap[b]? = some (.cells #[u, v, x, y, z] t (0, 0))) : (w.setCell ⟨b, j, none⟩ q).heap[b]? = some (.cells (#[u, v, x, y, z].setIfInBounds j q) t (0, 0)) := by
  have hlt := lt_of_block h
  have h' : w.heap[b] = .cells #[u, v, x, y, z] t (0, 0) := by simpa [Array.getElem?_eq_getElem hlt] using h
  show (w.heap.modify b _)[b]? = _
  rw [Array.getElem?_eq_getElem (by simpa using hlt), Array.getElem_modify_self, h']
  rfl
theorem five_set {w : World} {b : Nat} {u0 u1 u2 u3 u4 : Value} {t : TypeId} (z0 z1 z2 z3 z4 : Value) (h : w.heap[b]? = some (.cells #[u0, u1, u2, u3, u4] t (0, 0))) :
    (((((w.setCell ⟨b, 0, none⟩ z0).setCell ⟨b, 1, none⟩ z1).setCell ⟨b, 2, none⟩ z2).setCell ⟨b, 3, none⟩ z3).setCell ⟨b, 4, none⟩ z4).heap[b]? = some (.cells #[z0, z1, z2, z3, z4] t (0, 0)) :=
  five_set1 (j := 4) (q := z4) (five_set1 (j := 3) (q := z3) (five_set1 (j := 2) (q := z2) (five_set1 (j := 1) (q := z1) (five_set1 (j := 0) (q := z0) h))))
theorem fiveS_below {B b : Nat} {w w' : World} (h : Below B w w') (hb : B ≤ b) (z0 z1 z2 z3 z4 : Value) : Below B w (((((w'.setCell ⟨b, 0, none⟩ z0).setCell ⟨b, 1, none⟩ z1).setCell ⟨b, 2, none⟩ z2).setCell ⟨b, 3, none⟩ z3).setCell ⟨b, 4, none⟩ z4) :=
  ((((h.setCell hb _).setCell hb _).setCell hb _).setCell hb _).setCell hb _

set_option maxRecDepth 100000 in
set_option maxHeartbeats 400000 in
theorem spec_l6Find (a : Option Addr) (cap : Nat) (ps : List PairL) (h : List UInt8) (w : World) (hl : ps.length ≤ 1048576) (hs : IsPairs w a ps) :
    Calls Tryz.prog 19 #[.slice a ps.length cap, .string ⟨h.toArray⟩] w fun e w' => e = .returned (.tuple #[.string ⟨((findL ps h).getD []).toArray⟩, .bool (findL ps h).isSome]) ∧ Below w.heap.size w w' := by
  rcases hs with rfl | ⟨b, off, rfl, hc⟩
  · go_enter Tryz.func19, Tryz.ntmps19
    go_wp2
    refine wp_loop_rounds 1 ?_
    rw [rounds_succ]
    go_wp2
    go_ret2
    exact ⟨rfl, Below.refl _ _⟩
  · have hc' : ∀ j, j < ps.length → w.cell? ⟨b, off + j * 2, none⟩ = some (.string ⟨(keyAt ps j).toArray⟩) ∧ w.cell? ⟨b, off + j * 2 + 1, none⟩ = some (.string ⟨(valAt ps j).toArray⟩) := fun j h => by rw [keyAt_lt ps j h, valAt_lt ps j h]; exact hc j h
    obtain ⟨r, hr⟩ : ∃ r, r = findL ps h := ⟨_, rfl⟩
    have HHIT : Hid (∀ j, j < ps.length → keyAt ps j = h → (∀ q, q < j → keyAt ps q ≠ h) → r = some (valAt ps j)) := fun j hj hk ho => by rw [hr]; exact findL_hit ps h j hj hk ho
    have HNO : Hid ((∀ q, q < ps.length → keyAt ps q ≠ h) → r = none) := fun ho => by rw [hr]; exact findL_none ps h ho
    rw [← hr]
    clear hc hr
    go_enter Tryz.func19, Tryz.ntmps19
    go_wp2
    go_loopw [6] (fun i wr => ∃ j : Nat, j ≤ ps.length ∧ i = .int .i64 (j : Int) ∧ Hid (∀ q, q < j → keyAt ps q ≠ h) ∧ Below w.heap.size w wr) (fun i _ => ps.length - (intOf i).toNat)
    case atStart => exact ⟨0, Nat.zero_le _, rfl, fun k hk => by omega, Below.refl _ _⟩
    case round =>
      obtain ⟨j, hj, rfl, HA, hbel⟩ := hrel
      have hsz := hbel.size
      by_cases hlt : j < ps.length
      · obtain ⟨c1', c2'⟩ := hc' j hlt
        have c1 := (hbel.cell (p := ⟨b, off + j * 2, none⟩) (World.block_lt_of_cell? w _ c1')).trans c1'
        have c2 := (hbel.cell (p := ⟨b, off + j * 2 + 1, none⟩) (World.block_lt_of_cell? w _ c2')).trans c2'
        clear c1' c2'
        have hj0 : (0 : Int) ≤ (j : Int) := by omega
        have hj1 : (j : Int) < (ps.length : Int) := by omega
        have HB : Hid (keyAt ps j = h → r = some (valAt ps j)) := fun e => HHIT.out j hlt e HA.out
        have HN : Hid (keyAt ps j ≠ h → ∀ k, k < j + 1 → keyAt ps k ≠ h) := fun e k hk => by
          by_cases ek : k = j
          · rw [ek]; exact e
          · exact HA.out k (by omega)
        obtain ⟨x, hx⟩ : ∃ x, x = keyAt ps j := ⟨_, rfl⟩
        obtain ⟨y, hy⟩ : ∃ y, y = valAt ps j := ⟨_, rfl⟩
        rw [← hx] at c1 HB HN
        rw [← hy] at c2 HB
        clear hc' hx hy HA HHIT HNO
        by_cases he : x = h
        · subst he
          have HR : Hid (r = some y) := HB.out rfl
          clear HB HN
          go_wp2
          go_ret2
          obtain rfl := HR.out
          exact ⟨rfl, by first | exact hbel | exact below_dr hbel⟩
        · have heb : (x == h) = false := by rw [beq_eq_false_iff_ne]; exact he
          go_wp2
          go_roundw
          case rel => exact ⟨j + 1, by omega, by go_num, HN.out he, by first | exact hbel | exact below_dr hbel⟩
          case measure => simp [intOf]; omega
      · have hjl : j = ps.length := by omega
        subst hjl
        have HR : Hid (r = none) := HNO.out HA.out
        clear hc'
        go_wp2
        go_ret2
        obtain rfl := HR.out
        exact ⟨rfl, hbel⟩

set_option maxRecDepth 100000 in
set_option maxHeartbeats 400000 in
theorem impl_at (mb n : Nat) (ps : List PairL) (h : List UInt8) (w : World) (hst : storeOkL ps = true) (hhl : h.length ≤ 1048576) (hown : w.ownsMap Tryz.prog 51 hnR mb n (datL ps)) :
    Calls Tryz.prog 40 #[.map (some mb), .string ⟨h.toArray⟩] w fun e w' => ∃ (k : Int) (p : ByteArray) (a : Option Addr) (m c : Nat) (y : ByteArray), e = .returned (.tuple #[.agg #[.string ⟨((findL ps h).getD []).toArray⟩, .int .i64 k, .string p, .slice a m c, .string y], .bool (findL ps h).isSome]) ∧ Below w.heap.size w w' := by
  by_cases h32 : h.length = 32
  · have K := impl_keyOfHash h (w.alloc (.cells #[.string ⟨#[]⟩, .int .i64 0, .string ⟨#[]⟩, .slice none 0 0, .string ⟨#[]⟩] 55)) h32
    have B0 : Hid (Below w.heap.size w (w.alloc (.cells #[.string ⟨#[]⟩, .int .i64 0, .string ⟨#[]⟩, .slice none 0 0, .string ⟨#[]⟩] 55))) := (Below.refl _ _).alloc (Nat.le_refl _) _
    have Q0 : Hid ((w.alloc (.cells #[.string ⟨#[]⟩, .int .i64 0, .string ⟨#[]⟩, .slice none 0 0, .string ⟨#[]⟩] 55)).heap[w.heap.size]? = some (.cells #[.string ⟨#[]⟩, .int .i64 0, .string ⟨#[]⟩, .slice none 0 0, .string ⟨#[]⟩] 55 (0, 0))) := heap_alloc_new w _
    have L0 : Hid (w.heap.size < (w.alloc (.cells #[.string ⟨#[]⟩, .int .i64 0, .string ⟨#[]⟩, .slice none 0 0, .string ⟨#[]⟩] 55)).heap.size) := by rw [Hid]; simp
    obtain ⟨h1, h2⟩ := datL_at ps hst h h32
    obtain ⟨f, hf⟩ : ∃ f, f = findL ps h := ⟨_, rfl⟩
    rw [← hf] at h1 h2 ⊢
    have H1 : Hid (Maps.has (datL ps) (keyLit h) = f.isSome) := h1
    have H2 : Hid ((datL ps).atKey (keyLit h) (.lit (.string [])) = .lit (.string (f.getD []))) := h2
    have HO : Hid (∀ W, Below w.heap.size w W → W.ownsMap Tryz.prog 51 hnR mb n (datL ps)) := fun W hW => hown.kept (grown_of_below hW none) (by simp)
    have HK : Hid (keyOf Tryz.prog 51 (.agg (bcells h).toArray) = some (keyLit h)) := key_reads h h32
    obtain ⟨cs, hcs⟩ : ∃ cs, cs = (bcells h).toArray := ⟨_, rfl⟩
    rw [← hcs] at K HK
    clear hf h1 h2 hown hst hcs
    go_enter Tryz.func40, Tryz.ntmps40
    go_wp2_with fail
    refine K.mono ?_
    rintro e w1 ⟨rfl, b1⟩
    have B1 : Hid (Below w.heap.size w w1) := B0.out.trans (b1.mono B0.out.size)
    have M1 : Hid (w1.ownsMap Tryz.prog 51 hnR mb n (datL ps)) := HO.out _ B1.out
    have Q1 : Hid (w1.heap[w.heap.size]? = some (.cells #[.string ⟨#[]⟩, .int .i64 0, .string ⟨#[]⟩, .slice none 0 0, .string ⟨#[]⟩] 55 (0, 0))) := (b1.block _ L0.out).trans Q0.out
    clear HO B0 Q0 b1 L0
    go_wp2_with (first
      | (at_lookup; refine wpList_lookup_own_ok _ rfl _ _ 47 rfl 51 55 keyedH Tryz.underlying47 hnR (zeroHN _) (.lit (.string [])) [] (hnR_is [] _ _ _ _ _ _) mb n (datL ps) rfl M1.out _ (keyLit h) rfl HK.out ?_; intro v qs hv; rw [H2.out] at hv; rw [H1.out]; obtain ⟨xk, xp, xa, xm, xc, xv, rfl⟩ := hnR_inv hv; clear hv
         have Q2 : Hid ((w1.alloc (.cells #[.string ⟨(f.getD []).toArray⟩, .int .i64 xk, .string xp, .slice xa xm xc, .string xv] 55)).heap[w.heap.size]? = some (.cells #[.string ⟨#[]⟩, .int .i64 0, .string ⟨#[]⟩, .slice none 0 0, .string ⟨#[]⟩] 55 (0, 0))) := (Below.heap_alloc _ _ _ (lt_of_block Q1.out)).trans Q1.out
         have R2 : Hid ((w1.alloc (.cells #[.string ⟨(f.getD []).toArray⟩, .int .i64 xk, .string xp, .slice xa xm xc, .string xv] 55)).heap[w1.heap.size]? = some (.cells #[.string ⟨(f.getD []).toArray⟩, .int .i64 xk, .string xp, .slice xa xm xc, .string xv] 55 (0, 0))) := heap_alloc_new w1 _
         have B2 : Hid (Below w.heap.size w (w1.alloc (.cells #[.string ⟨(f.getD []).toArray⟩, .int .i64 xk, .string xp, .slice xa xm xc, .string xv] 55))) := B1.out.alloc B1.out.size _
         obtain ⟨q0, q1, q2, q3, q4, qf⟩ := five_cells Q2.out
         have qf0 := qf 0
         have qf1 := qf 1
         have qf2 := qf 2
         have qf3 := qf 3
         have qf4 := qf 4
         clear qf)
      | go_in)
    exact bodyPost_ret (v := .tuple #[.agg #[.string ⟨(f.getD []).toArray⟩, .int .i64 xk, .string xp, .slice xa xm xc, .string xv], .bool f.isSome]) (results_csN rfl _ _ w.heap.size 55 _ _ rfl (five_set _ _ _ _ _ Q2.out) Tryz.underlying55 rfl (by kernel_rfl) (.bool f.isSome) rfl) rfl ⟨xk, xp, xa, xm, xc, xv, rfl, fiveS_below B2.out (Nat.le_refl _) _ _ _ _ _⟩
  · have hf := findL_short ps hst h h32
    rw [hf]
    have h32' : ¬ (h.length : Int) = 32 := by omega
    clear hf hown hst
    go_enter Tryz.func40, Tryz.ntmps40
    go_wp2
    exact bodyPost_ret (v := .tuple #[.agg #[.string ⟨#[]⟩, .int .i64 0, .string ⟨#[]⟩, .slice none 0 0, .string ⟨#[]⟩], .bool false]) (results_csN rfl _ _ w.heap.size 55 _ _ rfl (heap_alloc_new w _) Tryz.underlying55 rfl (by kernel_rfl) (.bool false) rfl) rfl ⟨_, _, _, _, _, _, rfl, (Below.refl _ _).alloc (Nat.le_refl _) _⟩

end Go.Proofs.YtapmakefpmholaaGreatDoor
