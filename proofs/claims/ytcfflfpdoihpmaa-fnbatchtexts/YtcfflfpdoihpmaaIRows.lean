/-
  Contract: rows of a text, of the program (written by mkirows.py).
-/
import Derived.Test.YtcfflfpdoihpmaaINum
import Derived.Test.YtcfflfpdoihpmaaTextsL
import Derived.Test.YtcfflfpdoihpmaaBatTxt
import Derived.Deep.RegionHeld3
import Derived.Deep.AppendLies
namespace Go.Proofs.Ytcfflfpdoihpmaa
open Go.RowKit
set_option linter.unusedVariables false

/-- What rowsOfText answers. -/
def RowsPost (w : World) (o : Option (List PairL)) (e : Ending) (w' : World) : Prop := match o with
  | none => e = .returned (.tuple #[.slice none 0 0, .bool false]) ∧ Below w.heap.size w w'
  | some rs => ∃ g c : Nat, e = .returned (.tuple #[.slice (some ⟨g, 0, none⟩) rs.length c, .bool true]) ∧ w'.ownsRow w.heap.size 90 2 (.slice (some ⟨g, 0, none⟩) rs.length c) rs.length (pcells rs) ∧ Below w.heap.size w w'

theorem strs_two_at {w : World} {a : Option Addr} {ts : List (List UInt8)} (h : IsStrs w a ts) (j : Nat) (hj : 2 * j + 1 < ts.length) : ∃ b off, a = some ⟨b, off, none⟩ ∧ w.cell? ⟨b, off + 2 * j, none⟩ = some (.string ⟨(ts.getD (2 * j) []).toArray⟩) ∧ w.cell? ⟨b, off + (2 * j + 1), none⟩ = some (.string ⟨(ts.getD (2 * j + 1) []).toArray⟩) := by
  rcases h with h | ⟨b, off, h, hc⟩
  · rw [h] at hj; simp at hj
  · refine ⟨b, off, h, ?_, ?_⟩
    · rw [hc (2 * j) (by omega)]; simp [List.getD, List.getElem?_eq_getElem (show 2 * j < ts.length by omega)]
    · rw [hc (2 * j + 1) hj]; simp [List.getD, List.getElem?_eq_getElem hj]

set_option maxRecDepth 100000 in
set_option maxHeartbeats 1000000 in
theorem impl_rows (s : List UInt8) (w : World) (hl : s.length ≤ 1048576) :
    Calls Try.prog 71 #[.string ⟨s.toArray⟩] w fun e w' => RowsPost w (rowsL s) e w' := by
  obtain ⟨i0, hi0, hz0, hz1, hz2⟩ := info_parts infoPr
  have K := impl_texts s w hl
  cases ht : textsL s with
  | none =>
    have e1 : rowsL s = none := by simp only [rowsL, ht]
    rw [e1]
    rw [ht] at K
    clear ht e1
    go_enter Try.func71, Try.ntmps71
    go_wp2_with fail
    refine K.mono ?_
    rintro e w1 ⟨rfl, b1⟩
    go_wp2
    go_ret2
    exact ⟨rfl, b1⟩
  | some ts =>
    rw [ht] at K
    have hts := textsL_each s ts ht
    have hln : ts.length ≤ 1048576 := by omega
    have HR : Hid (rowsL s = if ts.length = 0 ∨ ts.length % 2 = 1 then none else some (rowsOf ts)) := by rw [Hid]; simp only [rowsL, ht]
    obtain ⟨o, ho⟩ : ∃ o, o = rowsL s := ⟨_, rfl⟩
    rw [← ho] at HR ⊢
    clear ho ht hts
    by_cases h0 : ts.length = 0
    · have HZ : Hid (o = none) := by rw [Hid, HR.out, if_pos (.inl h0)]
      have h0b : ((ts.length : Int) == 0) = true := by rw [beq_iff_eq]; omega
      clear HR h0
      go_enter Try.func71, Try.ntmps71
      go_wp2_with fail
      refine K.mono ?_
      rintro e w1 ⟨a1, c1, rfl, o1, b1, hc1⟩
      clear o1 K
      go_wp2
      go_ret2
      rw [HZ.out]
      exact ⟨rfl, b1⟩
    · have h0b : ((ts.length : Int) == 0) = false := by rw [beq_eq_false_iff_ne]; omega
      by_cases h2 : ts.length % 2 = 1
      · have HZ : Hid (o = none) := by rw [Hid, HR.out, if_pos (.inr h2)]
        have h2b : ((ts.length : Int) % 2 != 0) = true := by rw [bne_iff_ne]; omega
        have h2t : ((ts.length : Int).tmod 2 != 0) = true := by rw [Int.tmod_eq_emod_of_nonneg (by omega)]; exact h2b
        have h2e : ((ts.length : Int) % 2 == 0) = false := by rw [beq_eq_false_iff_ne]; omega
        clear HR h2 h0
        go_enter Try.func71, Try.ntmps71
        go_wp2_with fail
        refine K.mono ?_
        rintro e w1 ⟨a1, c1, rfl, o1, b1, hc1⟩
        clear o1 K
        go_wp2
        go_ret2
        rw [HZ.out]
        exact ⟨rfl, b1⟩
      · have HZ : Hid (o = some (rowsOf ts)) := by rw [Hid, HR.out, if_neg (by omega)]
        have h2b : ((ts.length : Int) % 2 != 0) = false := by rw [bne_eq_false_iff_eq]; omega
        have h2t : ((ts.length : Int).tmod 2 != 0) = false := by rw [Int.tmod_eq_emod_of_nonneg (by omega)]; exact h2b
        have h2e : ((ts.length : Int) % 2 == 0) = true := by rw [beq_iff_eq]; omega
        obtain ⟨n, hn⟩ : ∃ n, ts.length = 2 * n := ⟨ts.length / 2, by omega⟩
        have hnl : (rowsOf ts).length = n := by rw [rowsOf_length]; omega
        have HAT : Hid (∀ j (h : j < n), pcells ((rowsOf ts).take (j + 1)) = pcells ((rowsOf ts).take j) ++ [.string ⟨(ts.getD (2 * j) []).toArray⟩, .string ⟨(ts.getD (2 * j + 1) []).toArray⟩]) := fun j h => by
          have hj : j < (rowsOf ts).length := by omega
          rw [take_snocP _ j hj, pcells_app, rowsOf_at ts j hj]; rfl
        have HNN : Hid (ts.length = 2 * n) := hn
        have HNL : Hid ((rowsOf ts).length = n) := hnl
        obtain ⟨rs, hrs⟩ : ∃ rs, rs = rowsOf ts := ⟨_, rfl⟩
        rw [← hrs] at HZ HAT HNL
        have hn1 : 1 ≤ n := by omega
        have hnb : n ≤ 1048576 := by omega
        clear HR h2 h0 hn hnl hrs
        go_enter Try.func71, Try.ntmps71
        go_wp2_with fail
        refine K.mono ?_
        rintro e w1 ⟨a1, c1, rfl, o1, b1, hc1⟩
        have I1 : Hid (IsStrs w1 a1 ts) := (strs_own o1).2.2
        have hs1 := b1.size
        clear o1 K
        go_wp2
        go_loopw [6, 7] (fun v i wr => ∃ j q c2 : Nat, ∃ a2 : Option Addr, j ≤ n ∧ Hid (q = 2 * j) ∧ i = .int .i64 (q : Int) ∧ v = .slice a2 j c2 ∧ wr.ownsRow w1.heap.size 90 2 (.slice a2 j c2) j (pcells (rs.take j)) ∧ Below w1.heap.size w1 wr) (fun _ i _ => ts.length - (intOf i).toNat)
        case atStart => exact ⟨0, 0, 0, none, Nat.zero_le _, rfl, rfl, rfl, World.ownsRow_nil _ _ _ _, Below.refl _ _⟩
        case round =>
          obtain ⟨j, q, c2, a2, hj, HQ, rfl, rfl, hown, hbel⟩ := hrel
          have hqt : Hid (ts.length = 2 * n) := HNN
          have hsz := hbel.size
          have hwb : Below w.heap.size w wr := b1.trans (hbel.mono hs1)
          by_cases hlt : j < n
          · obtain ⟨b, off, ha, d1, d2⟩ := strs_two_at (strs_later I1.out hbel) j (by have := HNN.out; omega)
            subst ha
            have hb1 : Hid (b < w1.heap.size) := by
              obtain ⟨b', off', h, d1', _⟩ := strs_two_at I1.out j (by have := HNN.out; omega)
              cases h; exact World.block_lt_of_cell? w1 _ d1'
            have hqn : q + 1 < ts.length := by have := HNN.out; have := HQ.out; omega
            have hj0 : (0 : Int) ≤ (q : Int) := by omega
            have hj1 : (q : Int) < (ts.length : Int) := by omega
            have hj2 : (q : Int) + 1 < (ts.length : Int) := by omega
            have hj3 : (0 : Int) ≤ (q : Int) + 1 := by omega
            have hj4 : ((q : Int) + 1).toNat = q + 1 := by omega
            have hqw : IntKind.i64.wrap ((q : Int) + 1) = (q : Int) + 1 := i64_wrap_small _ (by omega) (by omega)
            have hlow : ∀ k, (Value.slice a2 j c2).ownBlock = some k → w1.heap.size ≤ k := fun k hk => (hown.lt k hk).1
            have HT := HAT.out j hlt
            rw [← HQ.out] at d1 d2 HT
            obtain ⟨x, hx⟩ : ∃ x, x = ts.getD q [] := ⟨_, rfl⟩
            obtain ⟨y, hy⟩ : ∃ y, y = ts.getD (q + 1) [] := ⟨_, rfl⟩
            rw [← hx] at d1 HT
            rw [← hy] at d2 HT
            have HT2 : Hid (pcells (rs.take (j + 1)) = pcells (rs.take j) ++ [.string ⟨x.toArray⟩, .string ⟨y.toArray⟩]) := HT
            have hbb := World.block_lt_of_cell? wr _ d1
            simp only at hbb
            have Srd : Hid (wr.drew.cell? ⟨b, off + q, none⟩ = some (.string ⟨x.toArray⟩) ∧ wr.drew.cell? ⟨b, off + (q + 1), none⟩ = some (.string ⟨y.toArray⟩)) := ⟨d1, d2⟩
            have Sa : Hid ((wr.alloc (.cells #[.string ⟨x.toArray⟩, .string ⟨y.toArray⟩] 90)).drew.cell? ⟨b, off + q, none⟩ = some (.string ⟨x.toArray⟩) ∧ (wr.alloc (.cells #[.string ⟨x.toArray⟩, .string ⟨y.toArray⟩] 90)).drew.cell? ⟨b, off + (q + 1), none⟩ = some (.string ⟨y.toArray⟩)) := ⟨(World.cell?_alloc_lt wr _ ⟨b, off + q, none⟩ hbb).trans d1, (World.cell?_alloc_lt wr _ ⟨b, off + (q + 1), none⟩ hbb).trans d2⟩
            have Oa : Hid ((wr.alloc (.cells #[.string ⟨x.toArray⟩, .string ⟨y.toArray⟩] 90)).drew.ownsRow w1.heap.size 90 2 (.slice a2 j c2) j (pcells (rs.take j))) := hown.alloc _
            have Na : Hid (∀ q u, [Value.string ⟨x.toArray⟩, Value.string ⟨y.toArray⟩][q]? = some u → (wr.alloc (.cells #[.string ⟨x.toArray⟩, .string ⟨y.toArray⟩] 90)).drew.cell? ((⟨wr.heap.size, 0, none⟩ : Addr).add q) = some u) := World.news_of_block (cs := #[.string ⟨x.toArray⟩, .string ⟨y.toArray⟩]) (t := 90) (fr := (0, 0)) (heap_alloc_new wr _)
            have Ba : Hid (Below w1.heap.size w1 (wr.alloc (.cells #[.string ⟨x.toArray⟩, .string ⟨y.toArray⟩] 90)).drew) := (fun h => ⟨h.os, h.tape, h.output, h.size, h.block⟩ : Below w1.heap.size w1 (wr.alloc (.cells #[.string ⟨x.toArray⟩, .string ⟨y.toArray⟩] 90)) → Below w1.heap.size w1 (wr.alloc (.cells #[.string ⟨x.toArray⟩, .string ⟨y.toArray⟩] 90)).drew) (hbel.alloc hsz _)
            have Za : Hid (w1.heap.size ≤ (wr.alloc (.cells #[.string ⟨x.toArray⟩, .string ⟨y.toArray⟩] 90)).heap.size) := by rw [Hid]; simp; omega
            have HLO : Hid (∀ k, (Value.slice a2 j c2).ownBlock = some k → w1.heap.size ≤ k) := hlow
            have HKB : Hid ((Value.slice a2 j c2).ownBlock ≠ some b) := fun e => by have := hlow _ e; have := hb1.out; omega
            have hba : Hid (b < (wr.alloc (.cells #[.string ⟨x.toArray⟩, .string ⟨y.toArray⟩] 90)).heap.size) := by rw [Hid]; simp; omega
            clear hx hy hown hbel hwb hlow HT hqn
            go_wp2_with fail
            go_region_held3 (fun w' => w'.cell? ⟨b, off + q, none⟩ = some (.string ⟨x.toArray⟩) ∧ w'.cell? ⟨b, off + (q + 1), none⟩ = some (.string ⟨y.toArray⟩))
              (first | with_reducible exact S4.out | with_reducible exact Sa.out | with_reducible exact Srd.out)
              ((refine step_append_lies _ rfl (.tmp 32) (.tmp 43) 56 rfl w1.heap.size 90 i0 (.agg #[.string ⟨#[]⟩, .string ⟨#[]⟩]) 2 32 Try.underlying56 hi0 hz0 hz1 hz2 rfl (by decide) (.slice a2 j c2) j (pcells (rs.take j)) (by simp [Act.eval]) Oa.out ⟨wr.heap.size, 0, none⟩ 1 1 [.string ⟨x.toArray⟩, .string ⟨y.toArray⟩] (by simp [Act.eval]) rfl Na.out (by simp [Value.oneCell']) (by decide) (by unfold maxLen; omega) (by omega) Za.out _ rfl ?_
                intro g2 c4 w4 hown4 hgrow4 hat4 hlt4
                have HO4 : Hid (w4.ownsRow w1.heap.size 90 2 (.slice (some ⟨g2, 0, none⟩) (j + 1) c4) (j + 1) (pcells (rs.take (j + 1)))) := by rw [Hid, HT2.out]; exact hown4
                have B4 : Hid (Below w1.heap.size w1 w4) := Ba.out.grown hgrow4 Za.out HLO.out
                have S4 : Hid (w4.cell? ⟨b, off + q, none⟩ = some (.string ⟨x.toArray⟩) ∧ w4.cell? ⟨b, off + (q + 1), none⟩ = some (.string ⟨y.toArray⟩)) := ⟨(hgrow4.cell_far ⟨b, off + q, none⟩ hba.out HKB.out.symm).trans Sa.out.1, (hgrow4.cell_far ⟨b, off + (q + 1), none⟩ hba.out HKB.out.symm).trans Sa.out.2⟩
                clear hown4 hgrow4 hat4 hlt4))
            all_goals
              clear Sa Oa Na Ba Srd
              go_wp2
              go_roundw
              case rel => exact ⟨j + 1, q + 2, c4, some ⟨g2, 0, none⟩, by omega, by rw [Hid]; have := HQ.out; omega, by go_num, rfl, HO4.out, B4.out⟩
              case measure => simp [intOf]; omega
          · have hjl : j = n := by omega
            subst hjl
            have hqe : q = ts.length := by have := HNN.out; have := HQ.out; omega
            subst hqe
            rw [List.take_of_length_le (by have := HNL.out; omega)] at hown
            have HW := hidOwn hown
            clear hown
            go_wp2
            go_ret2
            rw [HZ.out]
            rcases own_cases2 HW.out with ⟨h1, h2, _⟩ | ⟨g, cap, h1, _⟩
            · omega
            · cases h1
              have hw2 := HW.out.mono hs1
              have hnl := HNL.out
              subst hnl
              exact ⟨g, c2, rfl, hw2, hwb⟩
end Go.Proofs.Ytcfflfpdoihpmaa
