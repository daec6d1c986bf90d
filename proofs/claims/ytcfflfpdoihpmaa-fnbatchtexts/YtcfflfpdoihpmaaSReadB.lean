/-
  Contract: what is read as a batch, of the model (written by mksreadb.py).
-/
import Derived.Test.YtcfflfpdoihpmaaIReadB
import Derived.Deep.RegionLaw
namespace Go.Proofs.Ytcfflfpdoihpmaa
open Go.RowKit
set_option linter.unusedVariables false

theorem rowsOf_drop2 (ts : List (List UInt8)) (h : 2 ≤ ts.length) : rowsOf ts = (ts.getD 0 [], ts.getD 1 []) :: rowsOf (ts.drop 2) := by
  match ts, h with
  | k :: v :: r, _ => simp [rowsOf]
theorem readBatch_ts (s : List UInt8) (ts : List (List UInt8)) (h : textsL s = some ts) : readBatch s = if ts.length < 2 ∨ ts.length % 2 = 1 ∨ 26 < ts.length then none else batOf (numL (ts.getD 0 [])) (numL (ts.getD 1 [])) (opsR (rowsOf (ts.drop 2))) := by
  have hr : rowsL s = if ts.length = 0 ∨ ts.length % 2 = 1 then none else some (rowsOf ts) := by simp only [rowsL, h]
  by_cases h1 : ts.length = 0 ∨ ts.length % 2 = 1
  · rw [if_pos h1] at hr
    rw [if_pos (by omega)]
    simp only [readBatch, hr]
  · rw [if_neg h1, rowsOf_drop2 ts (by omega)] at hr
    simp only [readBatch, hr, readRows]
    by_cases h2 : 26 < ts.length
    · rw [if_pos (by omega)]
      exact batOf_long _ _ _ (by rw [opsR_length, rowsOf_length, List.length_drop]; omega)
    · rw [if_neg (by omega)]
theorem strs_at2 {w : World} {a : Option Addr} {ts : List (List UInt8)} (h : IsStrs w a ts) (q : Nat) (hj : q + 1 < ts.length) : ∃ b off, a = some ⟨b, off, none⟩ ∧ w.cell? ⟨b, off + q, none⟩ = some (.string ⟨(ts.getD q []).toArray⟩) ∧ w.cell? ⟨b, off + (q + 1), none⟩ = some (.string ⟨(ts.getD (q + 1) []).toArray⟩) := by
  rcases h with h | ⟨b, off, h, hc⟩
  · rw [h] at hj; simp at hj
  · refine ⟨b, off, h, ?_, ?_⟩
    · rw [hc q (by omega)]; simp [List.getD, List.getElem?_eq_getElem (show q < ts.length by omega)]
    · rw [hc (q + 1) hj]; simp [List.getD, List.getElem?_eq_getElem hj]
theorem rows2_at (ts : List (List UInt8)) (j : Nat) (h : j < (rowsOf (ts.drop 2)).length) : (rowsOf (ts.drop 2))[j] = (ts.getD (2 * j + 2) [], ts.getD (2 * j + 3) []) := by
  rw [rowsOf_at]
  simp only [List.getD, List.getElem?_drop]
  rw [show 2 + 2 * j = 2 * j + 2 by omega, show 2 + (2 * j + 1) = 2 * j + 3 by omega]

set_option maxRecDepth 100000 in
set_option maxHeartbeats 2000000 in
theorem spec_readBatch (s : List UInt8) (w : World) (hl : s.length ≤ 1048576) :
    Calls Try.prog 29 #[.string ⟨s.toArray⟩] w fun e w' => RBPost w (readBatch s) e w' := by
  obtain ⟨i0, hi0, hz0, hz1, hz2⟩ := info_parts infoO
  have B0 : Below w.heap.size w (w.alloc (.cells #[.int .i64 0, .int .i64 0, .slice none 0 0] 44)) := (Below.refl _ _).alloc (Nat.le_refl _) _
  have HQ : Hid ((w.alloc (.cells #[.int .i64 0, .int .i64 0, .slice none 0 0] 44)).heap[w.heap.size]? = some (.cells #[.int .i64 0, .int .i64 0, .slice none 0 0] 44 (0, 0))) := heap_alloc_new w _
  have BX : Hid (Below w.heap.size w (w.alloc (.cells #[.int .i64 0, .int .i64 0, .slice none 0 0] 44))) := B0
  have HL : Hid (w.heap.size < (w.alloc (.cells #[.int .i64 0, .int .i64 0, .slice none 0 0] 44)).heap.size) := by rw [Hid]; simp
  have K := spec_texts s (w.alloc (.cells #[.int .i64 0, .int .i64 0, .slice none 0 0] 44)) hl
  obtain ⟨o, ho⟩ : ∃ o, o = readBatch s := ⟨_, rfl⟩
  rw [← ho]
  cases ht : textsL s with
  | none =>
    rw [ht] at K
    have HZ : Hid (o = none) := by rw [Hid, ho]; simp only [readBatch, rowsL, ht]
    clear ht ho B0
    go_enter Try.func29, Try.ntmps29
    go_wp2_with fail
    refine K.mono ?_
    rintro e w1 ⟨rfl, b1⟩
    have B1 := BX.out.trans (b1.mono BX.out.size)
    have Q1 : Hid (w1.heap[w.heap.size]? = some (.cells #[.int .i64 0, .int .i64 0, .slice none 0 0] 44 (0, 0))) := (b1.block w.heap.size HL.out).trans HQ.out
    obtain ⟨q0, q1, q2, qf⟩ := bat_cells Q1.out
    have qf0 := qf 0
    have qf1 := qf 1
    have qf2 := qf 2
    clear qf b1 K
    go_wp2
    exact bodyPost_ret (v := .tuple #[.agg #[.int .i64 0, .int .i64 0, .slice none 0 0], .bool false]) (results_csB rfl _ _ w.heap.size 44 _ _ rfl (tri_setB (.int .i64 0) (.int .i64 0) (.slice none 0 0) Q1.out) Try.underlying44 rfl (by kernel_rfl) (.bool false) rfl) rfl (by rw [HZ.out]; exact ⟨none, 0, 0, rfl, World.ownsRow_nil _ _ _ _, triS_below B1 (Nat.le_refl _) _ _ _⟩)
  | some ts =>
    rw [ht] at K
    have hts := textsL_each s ts ht
    have hln : ts.length ≤ 1048576 := by omega
    have HR : Hid (o = if ts.length < 2 ∨ ts.length % 2 = 1 ∨ 26 < ts.length then none else batOf (numL (ts.getD 0 [])) (numL (ts.getD 1 [])) (opsR (rowsOf (ts.drop 2)))) := by rw [Hid, ho]; exact readBatch_ts s ts ht
    have HG : Hid (∀ i, (ts.getD i []).length ≤ 60000) := fun i => by
      rw [List.getD_eq_getElem?_getD]
      by_cases hi : i < ts.length
      · rw [List.getElem?_eq_getElem hi]; exact hts.2 _ (List.getElem_mem _)
      · rw [List.getElem?_eq_none (by omega)]; simp
    clear ho ht hts B0
    by_cases h0 : ts.length < 2
    · have HZ : Hid (o = none) := by rw [Hid, HR.out, if_pos (.inl h0)]
      have h0b : decide ((ts.length : Int) < 2) = true := decide_eq_true (by omega)
      have h0' : (ts.length : Int) < 2 := by omega
      clear HR h0
      go_enter Try.func29, Try.ntmps29
      go_wp2_with fail
      refine K.mono ?_
      rintro e w1 ⟨a1, c1, rfl, o1, b1, hc1⟩
      have B1 := BX.out.trans (b1.mono BX.out.size)
      have Q1 : Hid (w1.heap[w.heap.size]? = some (.cells #[.int .i64 0, .int .i64 0, .slice none 0 0] 44 (0, 0))) := (b1.block w.heap.size HL.out).trans HQ.out
      obtain ⟨q0, q1, q2, qf⟩ := bat_cells Q1.out
      have qf0 := qf 0
      have qf1 := qf 1
      have qf2 := qf 2
      clear qf b1 K o1
      go_wp2
      exact bodyPost_ret (v := .tuple #[.agg #[.int .i64 0, .int .i64 0, .slice none 0 0], .bool false]) (results_csB rfl _ _ w.heap.size 44 _ _ rfl (tri_setB (.int .i64 0) (.int .i64 0) (.slice none 0 0) Q1.out) Try.underlying44 rfl (by kernel_rfl) (.bool false) rfl) rfl (by rw [HZ.out]; exact ⟨none, 0, 0, rfl, World.ownsRow_nil _ _ _ _, triS_below B1 (Nat.le_refl _) _ _ _⟩)
    · have h0b : decide ((ts.length : Int) < 2) = false := decide_eq_false (by omega)
      have h0' : ¬ (ts.length : Int) < 2 := by omega
      by_cases h2 : ts.length % 2 = 1
      · have HZ : Hid (o = none) := by rw [Hid, HR.out, if_pos (.inr (.inl h2))]
        have h2b : ((ts.length : Int) % 2 == 1) = true := by rw [beq_iff_eq]; omega
        have h2e : (ts.length : Int) % 2 = 1 := by omega
        clear HR h2 h0
        go_enter Try.func29, Try.ntmps29
        go_wp2_with fail
        refine K.mono ?_
        rintro e w1 ⟨a1, c1, rfl, o1, b1, hc1⟩
        have B1 := BX.out.trans (b1.mono BX.out.size)
        have Q1 : Hid (w1.heap[w.heap.size]? = some (.cells #[.int .i64 0, .int .i64 0, .slice none 0 0] 44 (0, 0))) := (b1.block w.heap.size HL.out).trans HQ.out
        obtain ⟨q0, q1, q2, qf⟩ := bat_cells Q1.out
        have qf0 := qf 0
        have qf1 := qf 1
        have qf2 := qf 2
        clear qf b1 K o1
        go_wp2
        exact bodyPost_ret (v := .tuple #[.agg #[.int .i64 0, .int .i64 0, .slice none 0 0], .bool false]) (results_csB rfl _ _ w.heap.size 44 _ _ rfl (tri_setB (.int .i64 0) (.int .i64 0) (.slice none 0 0) Q1.out) Try.underlying44 rfl (by kernel_rfl) (.bool false) rfl) rfl (by rw [HZ.out]; exact ⟨none, 0, 0, rfl, World.ownsRow_nil _ _ _ _, triS_below B1 (Nat.le_refl _) _ _ _⟩)
      · have h2b : ((ts.length : Int) % 2 == 1) = false := by rw [beq_eq_false_iff_ne]; omega
        have h2e : ¬ (ts.length : Int) % 2 = 1 := by omega
        by_cases h26 : 26 < ts.length
        · have HZ : Hid (o = none) := by rw [Hid, HR.out, if_pos (.inr (.inr h26))]
          have h26b : decide ((26 : Int) < (ts.length : Int)) = true := decide_eq_true (by omega)
          have h26' : (26 : Int) < (ts.length : Int) := by omega
          clear HR h26 h2 h0
          go_enter Try.func29, Try.ntmps29
          go_wp2_with fail
          refine K.mono ?_
          rintro e w1 ⟨a1, c1, rfl, o1, b1, hc1⟩
          have B1 := BX.out.trans (b1.mono BX.out.size)
          have Q1 : Hid (w1.heap[w.heap.size]? = some (.cells #[.int .i64 0, .int .i64 0, .slice none 0 0] 44 (0, 0))) := (b1.block w.heap.size HL.out).trans HQ.out
          obtain ⟨q0, q1, q2, qf⟩ := bat_cells Q1.out
          have qf0 := qf 0
          have qf1 := qf 1
          have qf2 := qf 2
          clear qf b1 K o1
          go_wp2
          exact bodyPost_ret (v := .tuple #[.agg #[.int .i64 0, .int .i64 0, .slice none 0 0], .bool false]) (results_csB rfl _ _ w.heap.size 44 _ _ rfl (tri_setB (.int .i64 0) (.int .i64 0) (.slice none 0 0) Q1.out) Try.underlying44 rfl (by kernel_rfl) (.bool false) rfl) rfl (by rw [HZ.out]; exact ⟨none, 0, 0, rfl, World.ownsRow_nil _ _ _ _, triS_below B1 (Nat.le_refl _) _ _ _⟩)
        · have h26b : decide ((26 : Int) < (ts.length : Int)) = false := decide_eq_false (by omega)
          have h26' : ¬ (26 : Int) < (ts.length : Int) := by omega
          obtain ⟨k, hk⟩ : ∃ k, ts.length = 2 * k + 2 := ⟨(ts.length - 2) / 2, by omega⟩
          have hk12 : k ≤ 12 := by omega
          have hrl : (rowsOf (ts.drop 2)).length = k := by rw [rowsOf_length, List.length_drop]; omega
          have HRS : Hid (∀ j (h : j < k), ocells (opsR ((rowsOf (ts.drop 2)).take (j + 1))) = ocells (opsR ((rowsOf (ts.drop 2)).take j)) ++ [.string ⟨(ts.getD (2 * j + 2) []).toArray⟩, .string ⟨(ts.getD (2 * j + 2 + 1) []).toArray⟩, .bool (ts.getD (2 * j + 2 + 1) []).isEmpty]) := fun j h => by
            have hj : j < (rowsOf (ts.drop 2)).length := by omega
            rw [opsR_take _ j hj, ocells_app, rows2_at ts j hj]; rfl
          have HM : Hid (∀ p ∈ opsR (rowsOf (ts.drop 2)), p.1.length ≤ 1048576 ∧ p.2.1.length ≤ 1048576) := fun p hp => by
            simp only [opsR, List.mem_map] at hp
            obtain ⟨q, hq, rfl⟩ := hp
            obtain ⟨j, hj, rfl⟩ := List.getElem_of_mem hq
            rw [rows2_at ts j hj]
            exact ⟨Nat.le_trans (HG.out _) (by omega), Nat.le_trans (HG.out _) (by omega)⟩
          have HO : Hid (o = batOf (numL (ts.getD 0 [])) (numL (ts.getD 1 [])) (opsR (rowsOf (ts.drop 2)))) := by rw [Hid, HR.out, if_neg (by omega)]
          have HK : Hid (ts.length = 2 * k + 2) := hk
          have HRL : Hid ((rowsOf (ts.drop 2)).length = k) := hrl
          obtain ⟨rs, hrs⟩ : ∃ rs, rs = rowsOf (ts.drop 2) := ⟨_, rfl⟩
          rw [← hrs] at HRS HM HO HRL
          have K0 := fun W => spec_l1Int (ts.getD 0 []) W (Nat.le_trans (HG.out _) (by omega))
          have K1 := fun W => spec_l1Int (ts.getD 1 []) W (Nat.le_trans (HG.out _) (by omega))
          obtain ⟨x0, hx0⟩ : ∃ x, x = ts.getD 0 [] := ⟨_, rfl⟩
          obtain ⟨y0, hy0⟩ : ∃ x, x = ts.getD 1 [] := ⟨_, rfl⟩
          have HX0 : Hid (x0 = ts.getD 0 []) := hx0
          have HY0 : Hid (y0 = ts.getD 1 []) := hy0
          rw [← hx0] at HO K0
          rw [← hy0] at HO K1
          clear HR h26 h2 h0 hk hrl hrs hx0 hy0 HG
          go_enter Try.func29, Try.ntmps29
          go_wp2_with fail
          refine K.mono ?_
          rintro e w1 ⟨a1, c1, rfl, o1, b1, hc1⟩
          have B1 := BX.out.trans (b1.mono BX.out.size)
          have Q1 : Hid (w1.heap[w.heap.size]? = some (.cells #[.int .i64 0, .int .i64 0, .slice none 0 0] 44 (0, 0))) := (b1.block w.heap.size HL.out).trans HQ.out
          have L1 : Hid (w.heap.size < w1.heap.size) := Nat.lt_of_lt_of_le HL.out b1.size
          have I1 : Hid (IsStrs w1 a1 ts) := (strs_own o1).2.2
          obtain ⟨b, off, rfl, d0, d1⟩ := strs_at2 I1.out 0 (by have := HK.out; omega)
          rw [← HX0.out] at d0
          rw [← HY0.out] at d1
          have hp1 : (1 : Int) < (ts.length : Int) := by have := HK.out; omega
          have hp0 : (0 : Int) < (ts.length : Int) := by have := HK.out; omega
          simp only [Nat.add_zero, Nat.zero_add] at d0 d1
          have HD1 : Hid (w1.cell? ⟨b, off + 1, none⟩ = some (.string ⟨y0.toArray⟩)) := d1
          clear b1 K o1
          go_wp2_with fail
          refine (K0 _).mono ?_
          rintro e w2 ⟨⟨c, rfl, hcb, hcx⟩, b2⟩
          have B2 := B1.trans (b2.mono B1.size)
          have Q2 : Hid (w2.heap[w.heap.size]? = some (.cells #[.int .i64 0, .int .i64 0, .slice none 0 0] 44 (0, 0))) := (b2.block w.heap.size L1.out).trans Q1.out
          have L2 : Hid (w.heap.size < w2.heap.size) := Nat.lt_of_lt_of_le L1.out b2.size
          have I2 : Hid (IsStrs w2 (some ⟨b, off, none⟩) ts) := strs_later I1.out b2
          have e1 := (b2.cell (p := ⟨b, off + 1, none⟩) (World.block_lt_of_cell? w1 _ HD1.out)).trans HD1.out
          have HCX : Hid (∀ n, numL x0 = some n → c = n) := hcx
          clear b2 K0 d0 d1 HD1 B1 Q1 hcx
          go_wp2_with fail
          refine (K1 _).mono ?_
          rintro e w3 ⟨⟨n, rfl, hnb, hnx⟩, b3⟩
          have B3 := B2.trans (b3.mono B2.size)
          have Q3 : Hid (w3.heap[w.heap.size]? = some (.cells #[.int .i64 0, .int .i64 0, .slice none 0 0] 44 (0, 0))) := (b3.block w.heap.size L2.out).trans Q2.out
          have L3 : Hid (w.heap.size < w3.heap.size) := Nat.lt_of_lt_of_le L2.out b3.size
          have I3 : Hid (IsStrs w3 (some ⟨b, off, none⟩) ts) := strs_later I2.out b3
          have HNX : Hid (∀ m, numL y0 = some m → n = m) := hnx
          have X3 : Hid ((w3.alloc (.cells #[.int .i64 (c : Int), .int .i64 (n : Int), .slice none 0 0] 44)).heap[w3.heap.size]? = some (.cells #[.int .i64 (c : Int), .int .i64 (n : Int), .slice none 0 0] 44 (0, 0))) := heap_alloc_new w3 _
          have Y3 : Hid (Below w3.heap.size w3 (w3.alloc (.cells #[.int .i64 (c : Int), .int .i64 (n : Int), .slice none 0 0] 44))) := (Below.refl _ _).alloc (Nat.le_refl _) _
          obtain ⟨okx, hokx⟩ : ∃ b, b = (numL x0).isSome := ⟨_, rfl⟩
          obtain ⟨oky, hoky⟩ : ∃ b, b = (numL y0).isSome := ⟨_, rfl⟩
          rw [← hokx, ← hoky]
          have HOX : Hid (okx = (numL x0).isSome) := hokx
          have HOY : Hid (oky = (numL y0).isSome) := hoky
          clear b3 K1 e1 B2 Q2 hnx hokx hoky
          go_wp2
          go_loopw [11] (fun i wr => ∃ j q c2 : Nat, ∃ a2 : Option Addr, j ≤ k ∧ Hid (q = 2 * j + 2) ∧ i = .int .i64 (q : Int) ∧ Hid (wr.heap[w3.heap.size]? = some (.cells #[.int .i64 (c : Int), .int .i64 (n : Int), .slice a2 j c2] 44 (0, 0))) ∧ wr.ownsRow (w3.heap.size + 1) 83 3 (.slice a2 j c2) j (ocells (opsR (rs.take j))) ∧ Below w3.heap.size w3 wr) (fun i _ => ts.length - (intOf i).toNat)
          case atStart => exact ⟨0, 2, 0, none, Nat.zero_le _, rfl, rfl, X3, World.ownsRow_nil _ _ _ _, Y3.out⟩
          case round =>
            obtain ⟨j, q, c2, a2, hj, HQJ, rfl, HX, hown, hbel⟩ := hrel
            have hsz := hbel.size
            have hbs : w3.heap.size < wr.heap.size := lt_of_block HX.out
            by_cases hlt : j < k
            · have hqn : q + 1 < ts.length := by have := HK.out; have := HQJ.out; omega
              obtain ⟨b', off', hb', d0, d1⟩ := strs_at2 (strs_later I3.out hbel) q hqn
              cases hb'
              have hj0 : (0 : Int) ≤ (q : Int) := by omega
              have hj1 : (q : Int) < (ts.length : Int) := by omega
              have hj2 : (q : Int) + 1 < (ts.length : Int) := by omega
              have hj3 : (0 : Int) ≤ (q : Int) + 1 := by omega
              have hj4 : ((q : Int) + 1).toNat = q + 1 := by omega
              have hqw : IntKind.i64.wrap ((q : Int) + 1) = (q : Int) + 1 := i64_wrap_small _ (by omega) (by omega)
              have hlow : ∀ k, (Value.slice a2 j c2).ownBlock = some k → w3.heap.size + 1 ≤ k := fun k hk => (hown.lt k hk).1
              have HT := HRS.out j hlt
              rw [← HQJ.out] at HT
              obtain ⟨x, hx⟩ : ∃ x, x = ts.getD q [] := ⟨_, rfl⟩
              obtain ⟨y, hy⟩ : ∃ y, y = ts.getD (q + 1) [] := ⟨_, rfl⟩
              rw [← hx] at d0 HT
              rw [← hy] at d1 HT
              have HT2 : Hid (ocells (opsR (rs.take (j + 1))) = ocells (opsR (rs.take j)) ++ [.string ⟨x.toArray⟩, .string ⟨y.toArray⟩, .bool y.isEmpty]) := HT
              obtain ⟨p0, p1, p2, pf⟩ := bat_cells HX.out
              have p2a : (wr.alloc (.cells #[.string ⟨x.toArray⟩, .string ⟨y.toArray⟩, .bool y.isEmpty] 83)).cell? ⟨w3.heap.size, 2, none⟩ = some (.slice a2 j c2) := (World.cell?_alloc_lt wr _ ⟨w3.heap.size, 2, none⟩ hbs).trans p2
              have HX2 : Hid ((wr.alloc (.cells #[.string ⟨x.toArray⟩, .string ⟨y.toArray⟩, .bool y.isEmpty] 83)).heap[w3.heap.size]? = some (.cells #[.int .i64 (c : Int), .int .i64 (n : Int), .slice a2 j c2] 44 (0, 0))) := by
                rw [Hid, Below.heap_alloc _ _ _ hbs]; exact HX.out
              have W2 : Hid (Below w3.heap.size w3 (wr.alloc (.cells #[.string ⟨x.toArray⟩, .string ⟨y.toArray⟩, .bool y.isEmpty] 83))) := hbel.alloc hsz _
              have Oa : Hid ((wr.alloc (.cells #[.string ⟨x.toArray⟩, .string ⟨y.toArray⟩, .bool y.isEmpty] 83)).drew.ownsRow (w3.heap.size + 1) 83 3 (.slice a2 j c2) j (ocells (opsR (rs.take j)))) := hown.alloc _
              have Na : Hid (∀ q u, [Value.string ⟨x.toArray⟩, .string ⟨y.toArray⟩, .bool y.isEmpty][q]? = some u → (wr.alloc (.cells #[.string ⟨x.toArray⟩, .string ⟨y.toArray⟩, .bool y.isEmpty] 83)).drew.cell? ((⟨wr.heap.size, 0, none⟩ : Addr).add q) = some u) := World.news_of_block (cs := #[.string ⟨x.toArray⟩, .string ⟨y.toArray⟩, .bool y.isEmpty]) (t := 83) (fr := (0, 0)) (heap_alloc_new wr _)
              have Za : Hid (w3.heap.size + 1 ≤ (wr.alloc (.cells #[.string ⟨x.toArray⟩, .string ⟨y.toArray⟩, .bool y.isEmpty] 83)).heap.size) := by rw [Hid]; simp; omega
              have HLO : Hid (∀ k, (Value.slice a2 j c2).ownBlock = some k → w3.heap.size + 1 ≤ k) := hlow
              have Zs : Hid (w3.heap.size < (wr.alloc (.cells #[.string ⟨x.toArray⟩, .string ⟨y.toArray⟩, .bool y.isEmpty] 83)).heap.size) := by rw [Hid]; simp; omega
              clear hx hy hown hbel p0 p1 pf HX HT hlow
              go_wp2_with fail
              go_region_law (
                refine step_append_lies _ rfl (.tmp 60) (.tmp 77) 42 rfl (w3.heap.size + 1) 83 i0 (.agg #[.string ⟨#[]⟩, .string ⟨#[]⟩, .bool false]) 3 40 Try.underlying42 hi0 hz0 hz1 hz2 rfl (by decide) (.slice a2 j c2) j (ocells (opsR (rs.take j))) (by simp [Act.eval]) Oa.out ⟨wr.heap.size, 0, none⟩ 1 1 [.string ⟨x.toArray⟩, .string ⟨y.toArray⟩, .bool y.isEmpty] (by simp [Act.eval]) rfl Na.out (by simp [Value.oneCell']) (by decide) (by unfold maxLen; omega) (by omega) Za.out _ rfl ?_
                intro g2 cap2 w4 hown4 hgrow hat hlt4
                have HG4 : Hid (w4.heap[w3.heap.size]? = some (.cells #[.int .i64 (c : Int), .int .i64 (n : Int), .slice a2 j c2] 44 (0, 0))) := (hgrow.block w3.heap.size Zs.out (fun e => by have := HLO.out _ e.symm; omega)).trans HX2.out
                obtain ⟨z0, z1, z2, zf⟩ := bat_cells HG4.out
                have zf2 := zf 2
                have B4 : Hid (Below w3.heap.size w3 w4) := (fun h : Below w3.heap.size w3 (wr.alloc (.cells #[.string ⟨x.toArray⟩, .string ⟨y.toArray⟩, .bool y.isEmpty] 83)) => (⟨h.os, h.tape, h.output, h.size, h.block⟩ : Below w3.heap.size w3 (wr.alloc (.cells #[.string ⟨x.toArray⟩, .string ⟨y.toArray⟩, .bool y.isEmpty] 83)).drew)) W2.out |>.grown hgrow (Nat.le_of_lt Zs.out) (fun k hk => by have := HLO.out k hk; omega)
                have HO4 : Hid (w4.ownsRow (w3.heap.size + 1) 83 3 (.slice (some ⟨g2, 0, none⟩) (j + 1) cap2) (j + 1) (ocells (opsR (rs.take (j + 1))))) := (by rw [Hid, HT2.out]; exact hown4)
                clear hgrow hown4 zf z0 z1 hat hlt4)
              all_goals
                go_wp2
                go_roundw
                case rel => exact ⟨j + 1, q + 2, cap2, some ⟨g2, 0, none⟩, by omega, by rw [Hid]; have := HQJ.out; omega, by go_num, bat_set (j := 2) HG4.out, ownsRow_setCell_other HO4.out (fun e => Nat.not_succ_le_self _ (HO4.out.lt _ e).1) _, B4.out.setCell (Nat.le_refl _) _⟩
                case measure => simp [intOf]; omega
            · have hjl : j = k := by omega
              subst hjl
              have hqe : q = ts.length := by have := HK.out; have := HQJ.out; omega
              subst hqe
              rw [List.take_of_length_le (by have := HRL.out; omega)] at hown
              have HW := hidOwn hown
              have HB : Hid (Below w3.heap.size w3 wr) := hbel
              have HI : Hid (IsOps wr a2 (opsR rs)) := (isOps_own hown).2.2
              have KB := fun W h => spec_batchOk c n a2 c2 (opsR rs) W (by rw [opsR_length]; have := HRL.out; omega) HM.out h
              rw [opsR_length, HRL.out] at KB
              obtain ⟨p0, p1, p2, pf⟩ := bat_cells HX.out
              have B4 : Hid (Below w.heap.size w wr) := B3.trans (hbel.mono B3.size)
              have Q4 : Hid (wr.heap[w.heap.size]? = some (.cells #[.int .i64 0, .int .i64 0, .slice none 0 0] 44 (0, 0))) := (hbel.block w.heap.size L3.out).trans Q3.out
              have L4 : Hid (w.heap.size < wr.heap.size) := Nat.lt_of_lt_of_le L3.out hsz
              have HWL : Hid (w3.heap.size < wr.heap.size) := hbs
              clear hown pf hbel B3 Q3 X3 Y3 hlt HRS I1 I2 I3
              cases okx with
              | false =>
                have HZ : Hid (o = none) := by
                  rw [Hid, HO.out]
                  have h := HOX.out
                  cases hx : numL x0 with
                  | none => exact batOf_no1 _ _
                  | some v => rw [hx] at h; simp at h
                obtain ⟨q0, q1, q2, qf⟩ := bat_cells Q4.out
                have qf0 := qf 0
                have qf1 := qf 1
                have qf2 := qf 2
                clear qf p0 p1 p2 KB HOX HOY
                go_wp2
                exact bodyPost_ret (v := .tuple #[.agg #[.int .i64 0, .int .i64 0, .slice none 0 0], .bool false]) (results_csB rfl _ _ w.heap.size 44 _ _ rfl (tri_setB (.int .i64 0) (.int .i64 0) (.slice none 0 0) Q4.out) Try.underlying44 rfl (by kernel_rfl) (.bool false) rfl) rfl (by rw [HZ.out]; exact ⟨none, 0, 0, rfl, World.ownsRow_nil _ _ _ _, triS_below B4.out (Nat.le_refl _) _ _ _⟩)
              | true =>
                cases oky with
                | false =>
                  have HZ : Hid (o = none) := by
                    rw [Hid, HO.out]
                    have h := HOY.out
                    cases hx : numL y0 with
                    | none => exact batOf_no2 _ _
                    | some v => rw [hx] at h; simp at h
                  obtain ⟨q0, q1, q2, qf⟩ := bat_cells Q4.out
                  have qf0 := qf 0
                  have qf1 := qf 1
                  have qf2 := qf 2
                  clear qf p0 p1 p2 KB HOX HOY
                  go_wp2
                  exact bodyPost_ret (v := .tuple #[.agg #[.int .i64 0, .int .i64 0, .slice none 0 0], .bool false]) (results_csB rfl _ _ w.heap.size 44 _ _ rfl (tri_setB (.int .i64 0) (.int .i64 0) (.slice none 0 0) Q4.out) Try.underlying44 rfl (by kernel_rfl) (.bool false) rfl) rfl (by rw [HZ.out]; exact ⟨none, 0, 0, rfl, World.ownsRow_nil _ _ _ _, triS_below B4.out (Nat.le_refl _) _ _ _⟩)
                | true =>
                  have HOO : Hid (o = if batchOk c n (opsR rs) = true then some (c, n, opsR rs) else none) := by
                    rw [Hid, HO.out]
                    obtain ⟨c', hc'⟩ := Option.isSome_iff_exists.1 HOX.out.symm
                    obtain ⟨n', hn'⟩ := Option.isSome_iff_exists.1 HOY.out.symm
                    rw [HCX.out c' hc', HNX.out n' hn', hc', hn']; rfl
                  cases hok : batchOk c n (opsR rs) with
                  | false =>
                    rw [hok] at KB
                    have HZ : Hid (o = none) := by rw [Hid, HOO.out, hok]; rfl
                    clear HOO hok HM HO HOX HOY HCX HNX
                    go_wp2_with fail
                    refine (KB _ HI.out).mono ?_
                    rintro e w4 ⟨rfl, b4⟩
                    have B5 : Hid (Below w.heap.size w w4) := B4.out.trans (b4.mono B4.out.size)
                    have Q5 : Hid (w4.heap[w.heap.size]? = some (.cells #[.int .i64 0, .int .i64 0, .slice none 0 0] 44 (0, 0))) := (b4.block w.heap.size L4.out).trans Q4.out
                    obtain ⟨q0, q1, q2, qf⟩ := bat_cells Q5.out
                    have qf0 := qf 0
                    have qf1 := qf 1
                    have qf2 := qf 2
                    clear qf b4 KB p0 p1 p2
                    go_wp2
                    exact bodyPost_ret (v := .tuple #[.agg #[.int .i64 0, .int .i64 0, .slice none 0 0], .bool false]) (results_csB rfl _ _ w.heap.size 44 _ _ rfl (tri_setB (.int .i64 0) (.int .i64 0) (.slice none 0 0) Q5.out) Try.underlying44 rfl (by kernel_rfl) (.bool false) rfl) rfl (by rw [HZ.out]; exact ⟨none, 0, 0, rfl, World.ownsRow_nil _ _ _ _, triS_below B5.out (Nat.le_refl _) _ _ _⟩)
                  | true =>
                    rw [hok] at KB
                    have HZ : Hid (o = some (c, n, opsR rs)) := by rw [Hid, HOO.out, hok]; rfl
                    clear HOO hok HM HO HOX HOY HCX HNX
                    go_wp2_with fail
                    refine (KB _ HI.out).mono ?_
                    rintro e w4 ⟨rfl, b4⟩
                    have B5 : Hid (Below w.heap.size w w4) := B4.out.trans (b4.mono B4.out.size)
                    have Q5 : Hid (w4.heap[w.heap.size]? = some (.cells #[.int .i64 0, .int .i64 0, .slice none 0 0] 44 (0, 0))) := (b4.block w.heap.size L4.out).trans Q4.out
                    have X5 : Hid (w4.heap[w3.heap.size]? = some (.cells #[.int .i64 (c : Int), .int .i64 (n : Int), .slice a2 j c2] 44 (0, 0))) := (b4.block w3.heap.size HWL.out).trans HX.out
                    have W5 : Hid (w4.ownsRow (w3.heap.size + 1) 83 3 (.slice a2 j c2) j (ocells (opsR rs))) := kept3 HW.out b4
                    obtain ⟨q0, q1, q2, qf⟩ := bat_cells Q5.out
                    have qf0 := qf 0
                    have qf1 := qf 1
                    have qf2 := qf 2
                    clear qf b4 KB p0 p1 p2
                    obtain ⟨p0, p1, p2, pf⟩ := bat_cells X5.out
                    clear pf
                    go_wp2
                    have hne : (Value.slice a2 j c2).ownBlock ≠ some w.heap.size := fun e => by have := (W5.out.lt _ e).1; have := L3.out; omega
                    exact bodyPost_ret (v := .tuple #[.agg #[.int .i64 (c : Int), .int .i64 (n : Int), .slice a2 j c2], .bool true]) (results_csB rfl _ _ w.heap.size 44 _ _ rfl (tri_setB (.int .i64 (c : Int)) (.int .i64 (n : Int)) (.slice a2 j c2) Q5.out) Try.underlying44 rfl (by kernel_rfl) (.bool true) rfl) rfl (by rw [HZ.out]; exact ⟨a2, j, c2, rfl, by have h := tri_own (b := w.heap.size) (W5.out.mono (show w.heap.size ≤ w3.heap.size + 1 by have := L3.out; omega)) hne (.int .i64 (c : Int)) (.int .i64 (n : Int)) (.slice a2 j c2); simpa [opsR_length, HRL.out] using h, triS_below B5.out (Nat.le_refl _) _ _ _⟩)
end Go.Proofs.Ytcfflfpdoihpmaa
