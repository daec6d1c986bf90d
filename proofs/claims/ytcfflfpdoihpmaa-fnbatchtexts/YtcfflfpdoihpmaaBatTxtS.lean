/-
  Contract: a batch's text, of the model (written by mkbtxt2.py).
-/
import Derived.Test.YtcfflfpdoihpmaaBatTxt
namespace Go.Proofs.Ytcfflfpdoihpmaa
open Go.RowKit
set_option linter.unusedVariables false

set_option maxRecDepth 100000 in
set_option maxHeartbeats 1000000 in
theorem spec_batchText (c n : Int) (a : Option Addr) (cap : Nat) (ps : List OpL) (w : World) (hl : ps.length ≤ 1048576) (hm : ∀ p ∈ ps, p.1.length ≤ 1048576 ∧ p.2.1.length ≤ 1048576) (hs : IsOps w a ps) :
    Calls Try.prog 27 #[.agg #[.int .i64 c, .int .i64 n, .slice a ps.length cap]] w fun e w' => e = .returned (.string ⟨(batchB c n ps).toArray⟩) ∧ Below w.heap.size w w' := by
  obtain ⟨i0, hi0, hz0, hz1, hz2⟩ := info_parts info9i
  have B0 : Below w.heap.size w (w.alloc (.cells #[.int .i64 c, .int .i64 n, .slice a ps.length cap] 44)) := (Below.refl _ _).alloc (Nat.le_refl _) _
  have HQ : Hid ((w.alloc (.cells #[.int .i64 c, .int .i64 n, .slice a ps.length cap] 44)).heap[w.heap.size]? = some (.cells #[.int .i64 c, .int .i64 n, .slice a ps.length cap] 44 (0, 0))) := heap_alloc_new w _
  have HL : Hid (w.heap.size < (w.alloc (.cells #[.int .i64 c, .int .i64 n, .slice a ps.length cap] 44)).heap.size) := by rw [Hid]; simp
  have BX : Hid (Below w.heap.size w (w.alloc (.cells #[.int .i64 c, .int .i64 n, .slice a ps.length cap] 44))) := B0
  have K := spec_batchOk c n a cap ps (w.alloc (.cells #[.int .i64 c, .int .i64 n, .slice a ps.length cap] 44)) hl hm (hs.later B0)
  have HS : Hid (∀ W, Below w.heap.size w W → IsOps W a ps) := fun W hW => hs.later hW
  obtain ⟨out, hout⟩ : ∃ out, out = batchB c n ps := ⟨_, rfl⟩
  rw [← hout]
  clear hs hm B0
  cases hb : batchOk c n ps with
  | false =>
    rw [hb] at K
    have HO : Hid (out = []) := by rw [Hid, hout, batchB, if_neg (by rw [hb]; simp)]
    clear hb hout
    go_enter Try.func27, Try.ntmps27
    go_wp2_with fail
    refine K.mono ?_
    rintro e w1 ⟨rfl, b1⟩
    have B1 := BX.out.trans (b1.mono BX.out.size)
    clear b1 K
    go_wp2
    go_ret
    rw [HO.out]
    exact ⟨rfl, B1⟩
  | true =>
    rw [hb] at K
    obtain ⟨hn1, hn2, h1, h12, _⟩ := batchOk_of c n ps hb
    have hfl := batchTs_flat c n ps hb
    have HO : Hid (out = listB (batchTs c n ps)) := by rw [Hid, hout, batchB, if_pos hb]
    have HTK : Hid (∀ j (h : j < ps.length), batchTs c n (ps.take (j + 1)) = batchTs c n (ps.take j) ++ [ps[j].1, ps[j].2.1]) := fun j h => batchTs_take c n ps j h
    obtain ⟨hc1, hc2⟩ := numOk_nat c hn1
    obtain ⟨hm1, hm2⟩ := numOk_nat n hn2
    have KC := fun W => spec_l1Num c.toNat W hc2
    have KN := fun W => spec_l1Num n.toNat W hm2
    have hT0 : batchTs c n [] = [numB 8 c.toNat, numB 8 n.toNat] := rfl
    rw [← hc1] at KC
    rw [← hm1] at KN
    obtain ⟨x0, hx0⟩ : ∃ x, x = numB 8 c.toNat := ⟨_, rfl⟩
    obtain ⟨y0, hy0⟩ : ∃ y, y = numB 8 n.toNat := ⟨_, rfl⟩
    rw [← hx0] at KC hT0
    rw [← hy0] at KN hT0
    have HT0 : Hid (batchTs c n [] = [x0, y0]) := hT0
    have HKL : Hid (∀ (W : World) b0 g c2, W.ownsRow b0 9 1 (.slice (some ⟨g, 0, none⟩) (2 * ps.length + 2) c2) (2 * ps.length + 2) (scells (batchTs c n ps)) → Calls Try.prog 50 #[.slice (some ⟨g, 0, none⟩) (2 * ps.length + 2) c2] W fun e w' => e = .returned (.string ⟨out.toArray⟩) ∧ Below W.heap.size W w') := fun W b0 g c2 ho => by
      have e1 : (batchTs c n ps).length = 2 * ps.length + 2 := by simp [batchTs, opTs_length]
      have := spec_l1List g c2 (batchTs c n ps) b0 W (by omega) (by omega) (by rw [e1]; exact ho)
      rw [e1, ← HO.out] at this
      exact this
    obtain ⟨ts, hts⟩ : ∃ ts : Nat → List (List UInt8), ts = fun j => batchTs c n (ps.take j) := ⟨_, rfl⟩
    have HTS0 : Hid (ts 0 = [x0, y0]) := by rw [Hid, hts]; exact HT0.out
    have HTS1 : Hid (∀ j (h : j < ps.length), ts (j + 1) = ts j ++ [ps[j].1, ps[j].2.1]) := fun j h => by rw [hts]; exact HTK.out j h
    have HTSL : Hid (ts ps.length = batchTs c n ps) := by rw [Hid, hts]; simp
    clear hb hout hn1 hn2 hfl hc1 hm1 hc2 hm2 HO hx0 hy0 HTK HT0 hT0 hts
    go_enter Try.func27, Try.ntmps27
    go_wp2_with fail
    refine K.mono ?_
    rintro e w1 ⟨rfl, b1⟩
    have Qw1 : Hid (w1.heap[w.heap.size]? = some (.cells #[.int .i64 c, .int .i64 n, .slice a ps.length cap] 44 (0, 0))) := (b1.block w.heap.size HL.out).trans HQ.out
    have Lw1 : Hid (w.heap.size < w1.heap.size) := Nat.lt_of_lt_of_le HL.out b1.size
    have Bw1 : Hid (Below w.heap.size w w1) := BX.out.trans (b1.mono BX.out.size)
    have Sw1 : Hid (w1.cell? ⟨w.heap.size, 0, none⟩ = some (.int .i64 c) ∧ w1.cell? ⟨w.heap.size, 1, none⟩ = some (.int .i64 n)) := ⟨(bat_cells Qw1.out).1, (bat_cells Qw1.out).2.1⟩
    have Sd1 : Hid (w1.drew.cell? ⟨w.heap.size, 0, none⟩ = some (.int .i64 c) ∧ w1.drew.cell? ⟨w.heap.size, 1, none⟩ = some (.int .i64 n)) := Sw1.out
    clear b1 K HQ HL BX
    go_wp2_with fail
    go_region_held3 (fun w' => w'.cell? ⟨w.heap.size, 0, none⟩ = some (.int .i64 c) ∧ w'.cell? ⟨w.heap.size, 1, none⟩ = some (.int .i64 n))
      (first | with_reducible exact Sa3.out | with_reducible exact Sw3.out | with_reducible exact Sw2.out | with_reducible exact Sw4.out | with_reducible exact Sw1.out | with_reducible exact Sd1.out)
      (first
        | (go_at_call 67
           with_reducible refine (KN w1.drew).mono ?_
           rintro e w4 ⟨rfl, bw4'⟩
           have bw4 : Below w1.heap.size w1 w4 := ⟨bw4'.os, bw4'.tape, bw4'.output, bw4'.size, bw4'.block⟩
           have Bw4 : Hid (Below w.heap.size w w4) := Bw1.out.trans (bw4.mono Bw1.out.size)
           have Lw4 : Hid (w.heap.size < w4.heap.size) := Nat.lt_of_lt_of_le Lw1.out bw4.size
           have Qw4 : Hid (w4.heap[w.heap.size]? = some (.cells #[.int .i64 c, .int .i64 n, .slice a ps.length cap] 44 (0, 0))) := (bw4.block w.heap.size Lw1.out).trans Qw1.out
           have Sw4 : Hid (w4.cell? ⟨w.heap.size, 0, none⟩ = some (.int .i64 c) ∧ w4.cell? ⟨w.heap.size, 1, none⟩ = some (.int .i64 n)) := ⟨(bat_cells Qw4.out).1, (bat_cells Qw4.out).2.1⟩
           clear bw4' bw4)
        | (go_at_call 67
           with_reducible refine (KC w4).mono ?_
           rintro e w3 ⟨rfl, bw3'⟩
           have bw3 : Below w4.heap.size w4 w3 := ⟨bw3'.os, bw3'.tape, bw3'.output, bw3'.size, bw3'.block⟩
           have Bw3 : Hid (Below w.heap.size w w3) := Bw4.out.trans (bw3.mono Bw4.out.size)
           have Lw3 : Hid (w.heap.size < w3.heap.size) := Nat.lt_of_lt_of_le Lw4.out bw3.size
           have Qw3 : Hid (w3.heap[w.heap.size]? = some (.cells #[.int .i64 c, .int .i64 n, .slice a ps.length cap] 44 (0, 0))) := (bw3.block w.heap.size Lw4.out).trans Qw4.out
           have Sw3 : Hid (w3.cell? ⟨w.heap.size, 0, none⟩ = some (.int .i64 c) ∧ w3.cell? ⟨w.heap.size, 1, none⟩ = some (.int .i64 n)) := ⟨(bat_cells Qw3.out).1, (bat_cells Qw3.out).2.1⟩
           clear bw3' bw3
           have Sa3 : Hid ((w3.alloc (.cells #[.string ⟨x0.toArray⟩, .string ⟨y0.toArray⟩] 9)).cell? ⟨w.heap.size, 0, none⟩ = some (.int .i64 c) ∧ (w3.alloc (.cells #[.string ⟨x0.toArray⟩, .string ⟨y0.toArray⟩] 9)).cell? ⟨w.heap.size, 1, none⟩ = some (.int .i64 n)) := ⟨(World.cell?_alloc_lt w3 _ ⟨w.heap.size, 0, none⟩ Lw3.out).trans Sw3.out.1, (World.cell?_alloc_lt w3 _ ⟨w.heap.size, 1, none⟩ Lw3.out).trans Sw3.out.2⟩)
        | (go_at_call 67
           with_reducible refine (KC w1.drew).mono ?_
           rintro e w2 ⟨rfl, bw2'⟩
           have bw2 : Below w1.heap.size w1 w2 := ⟨bw2'.os, bw2'.tape, bw2'.output, bw2'.size, bw2'.block⟩
           have Bw2 : Hid (Below w.heap.size w w2) := Bw1.out.trans (bw2.mono Bw1.out.size)
           have Lw2 : Hid (w.heap.size < w2.heap.size) := Nat.lt_of_lt_of_le Lw1.out bw2.size
           have Qw2 : Hid (w2.heap[w.heap.size]? = some (.cells #[.int .i64 c, .int .i64 n, .slice a ps.length cap] 44 (0, 0))) := (bw2.block w.heap.size Lw1.out).trans Qw1.out
           have Sw2 : Hid (w2.cell? ⟨w.heap.size, 0, none⟩ = some (.int .i64 c) ∧ w2.cell? ⟨w.heap.size, 1, none⟩ = some (.int .i64 n)) := ⟨(bat_cells Qw2.out).1, (bat_cells Qw2.out).2.1⟩
           clear bw2' bw2)
        | (go_at_call 67
           with_reducible refine (KN w2).mono ?_
           rintro e w3 ⟨rfl, bw3'⟩
           have bw3 : Below w2.heap.size w2 w3 := ⟨bw3'.os, bw3'.tape, bw3'.output, bw3'.size, bw3'.block⟩
           have Bw3 : Hid (Below w.heap.size w w3) := Bw2.out.trans (bw3.mono Bw2.out.size)
           have Lw3 : Hid (w.heap.size < w3.heap.size) := Nat.lt_of_lt_of_le Lw2.out bw3.size
           have Qw3 : Hid (w3.heap[w.heap.size]? = some (.cells #[.int .i64 c, .int .i64 n, .slice a ps.length cap] 44 (0, 0))) := (bw3.block w.heap.size Lw2.out).trans Qw2.out
           have Sw3 : Hid (w3.cell? ⟨w.heap.size, 0, none⟩ = some (.int .i64 c) ∧ w3.cell? ⟨w.heap.size, 1, none⟩ = some (.int .i64 n)) := ⟨(bat_cells Qw3.out).1, (bat_cells Qw3.out).2.1⟩
           clear bw3' bw3
           have Sa3 : Hid ((w3.alloc (.cells #[.string ⟨x0.toArray⟩, .string ⟨y0.toArray⟩] 9)).cell? ⟨w.heap.size, 0, none⟩ = some (.int .i64 c) ∧ (w3.alloc (.cells #[.string ⟨x0.toArray⟩, .string ⟨y0.toArray⟩] 9)).cell? ⟨w.heap.size, 1, none⟩ = some (.int .i64 n)) := ⟨(World.cell?_alloc_lt w3 _ ⟨w.heap.size, 0, none⟩ Lw3.out).trans Sw3.out.1, (World.cell?_alloc_lt w3 _ ⟨w.heap.size, 1, none⟩ Lw3.out).trans Sw3.out.2⟩))
    all_goals
      have HB0 : Hid (Below w3.heap.size w3 (w3.alloc (.cells #[.string ⟨x0.toArray⟩, .string ⟨y0.toArray⟩] 9))) := (Below.refl _ _).alloc (Nat.le_refl _) _
      have O3 : Hid ((w3.alloc (.cells #[.string ⟨x0.toArray⟩, .string ⟨y0.toArray⟩] 9)).ownsRow w3.heap.size 9 1 (.slice (some ⟨w3.heap.size, 0, none⟩) 2 2) 2 (scells (ts 0))) := by
        rw [HTS0.out]
        exact World.ownsRow_lit (e := 9) (size := 1) w3 #[.string ⟨x0.toArray⟩, .string ⟨y0.toArray⟩] 2 (base := w3.heap.size) (Nat.le_refl _) (by unfold maxLen; omega) rfl
      clear KC KN
      go_wp2
      go_loopw [3, 4] (fun v i wr => ∃ j c2 g : Nat, j ≤ ps.length ∧ i = .int .i64 (j : Int) ∧ v = .slice (some ⟨g, 0, none⟩) (2 * j + 2) c2 ∧ wr.ownsRow w3.heap.size 9 1 (.slice (some ⟨g, 0, none⟩) (2 * j + 2) c2) (2 * j + 2) (scells (ts j)) ∧ Below w3.heap.size w3 wr) (fun _ i _ => ps.length - (intOf i).toNat)
      case atStart => exact ⟨0, 2, w3.heap.size, Nat.zero_le _, rfl, rfl, O3.out, HB0.out⟩
      case round =>
        obtain ⟨j, c2, g, hj, rfl, rfl, hown, hbel⟩ := hrel
        have hsz := hbel.size
        have hwb : Below w.heap.size w wr := Bw3.out.trans (hbel.mono Bw3.out.size)
        have hws := hwb.size
        have Qr := (hbel.block w.heap.size Lw3.out).trans Qw3.out
        have hLr : w.heap.size < wr.heap.size := Nat.lt_of_lt_of_le Lw3.out hsz
        obtain ⟨bc0, bc1, bc2, bcf⟩ := bat_cells Qr
        clear bcf bc0 bc1 Qr
        by_cases hlt : j < ps.length
        · obtain ⟨b, off, ha, d1, d2⟩ : ∃ b off, a = some ⟨b, off, none⟩ ∧ wr.cell? ⟨b, off + j * 3, none⟩ = some (.string ⟨ps[j].1.toArray⟩) ∧ wr.cell? ⟨b, off + j * 3 + 1, none⟩ = some (.string ⟨ps[j].2.1.toArray⟩) := by
            rcases HS.out wr hwb with h | ⟨b, off, h, hc⟩
            · rw [h] at hlt; simp at hlt
            · exact ⟨b, off, h, (hc j hlt).1, (hc j hlt).2.1⟩
          subst ha
          have hj0 : (0 : Int) ≤ (j : Int) := by omega
          have hj1 : (j : Int) < (ps.length : Int) := by omega
          have hlow : ∀ k, (Value.slice (some ⟨g, 0, none⟩) (2 * j + 2) c2).ownBlock = some k → w3.heap.size ≤ k := fun k hk => (hown.lt k hk).1
          have HT : Hid (scells (ts (j + 1)) = scells (ts j) ++ [.string ⟨ps[j].1.toArray⟩, .string ⟨ps[j].2.1.toArray⟩]) := by
            rw [Hid, HTS1.out j hlt]; simp [scells]
          obtain ⟨x, hx⟩ : ∃ x, x = ps[j].1 := ⟨_, rfl⟩
          obtain ⟨y, hy⟩ : ∃ y, y = ps[j].2.1 := ⟨_, rfl⟩
          rw [← hx] at d1 HT
          rw [← hy] at d2 HT
          have Sr : Hid (wr.cell? ⟨w.heap.size, 2, none⟩ = some (.slice (some ⟨b, off, none⟩) ps.length cap) ∧ wr.cell? ⟨b, off + j * 3, none⟩ = some (.string ⟨x.toArray⟩) ∧ wr.cell? ⟨b, off + j * 3 + 1, none⟩ = some (.string ⟨y.toArray⟩)) := ⟨bc2, d1, d2⟩
          have Srd : Hid (wr.drew.cell? ⟨w.heap.size, 2, none⟩ = some (.slice (some ⟨b, off, none⟩) ps.length cap) ∧ wr.drew.cell? ⟨b, off + j * 3, none⟩ = some (.string ⟨x.toArray⟩) ∧ wr.drew.cell? ⟨b, off + j * 3 + 1, none⟩ = some (.string ⟨y.toArray⟩)) := ⟨bc2, d1, d2⟩
          have hbb := World.block_lt_of_cell? wr _ d1
          simp only at hbb
          have Sa : Hid ((wr.alloc (.cells #[.string ⟨x.toArray⟩, .string ⟨y.toArray⟩] 9)).drew.cell? ⟨w.heap.size, 2, none⟩ = some (.slice (some ⟨b, off, none⟩) ps.length cap) ∧ (wr.alloc (.cells #[.string ⟨x.toArray⟩, .string ⟨y.toArray⟩] 9)).drew.cell? ⟨b, off + j * 3, none⟩ = some (.string ⟨x.toArray⟩) ∧ (wr.alloc (.cells #[.string ⟨x.toArray⟩, .string ⟨y.toArray⟩] 9)).drew.cell? ⟨b, off + j * 3 + 1, none⟩ = some (.string ⟨y.toArray⟩)) := ⟨(World.cell?_alloc_lt wr _ ⟨w.heap.size, 2, none⟩ hLr).trans bc2, (World.cell?_alloc_lt wr _ ⟨b, off + j * 3, none⟩ hbb).trans d1, (World.cell?_alloc_lt wr _ ⟨b, off + j * 3 + 1, none⟩ hbb).trans d2⟩
          have Oa : Hid ((wr.alloc (.cells #[.string ⟨x.toArray⟩, .string ⟨y.toArray⟩] 9)).drew.ownsRow w3.heap.size 9 1 (.slice (some ⟨g, 0, none⟩) (2 * j + 2) c2) (2 * j + 2) (scells (ts j))) := hown.alloc _
          have Na : Hid (∀ q u, [Value.string ⟨x.toArray⟩, Value.string ⟨y.toArray⟩][q]? = some u → (wr.alloc (.cells #[.string ⟨x.toArray⟩, .string ⟨y.toArray⟩] 9)).drew.cell? ((⟨wr.heap.size, 0, none⟩ : Addr).add q) = some u) := World.news_of_block (cs := #[.string ⟨x.toArray⟩, .string ⟨y.toArray⟩]) (t := 9) (fr := (0, 0)) (heap_alloc_new wr _)
          have Ba : Hid (Below w3.heap.size w3 (wr.alloc (.cells #[.string ⟨x.toArray⟩, .string ⟨y.toArray⟩] 9)).drew) := (fun h => ⟨h.os, h.tape, h.output, h.size, h.block⟩ : Below w3.heap.size w3 (wr.alloc (.cells #[.string ⟨x.toArray⟩, .string ⟨y.toArray⟩] 9)) → Below w3.heap.size w3 (wr.alloc (.cells #[.string ⟨x.toArray⟩, .string ⟨y.toArray⟩] 9)).drew) (hbel.alloc hsz _)
          have Za : Hid (w3.heap.size ≤ (wr.alloc (.cells #[.string ⟨x.toArray⟩, .string ⟨y.toArray⟩] 9)).heap.size) := by rw [Hid]; simp; omega
          have HLO : Hid (∀ k, (Value.slice (some ⟨g, 0, none⟩) (2 * j + 2) c2).ownBlock = some k → w3.heap.size ≤ k) := hlow
          have HKI : Hid ((Value.slice (some ⟨g, 0, none⟩) (2 * j + 2) c2).ownBlock ≠ some w.heap.size) := fun e => by have := hlow _ e; have := Lw3.out; omega
          have hb3 : Hid (b < w3.heap.size ∧ w.heap.size < (wr.alloc (.cells #[.string ⟨x.toArray⟩, .string ⟨y.toArray⟩] 9)).heap.size ∧ b < (wr.alloc (.cells #[.string ⟨x.toArray⟩, .string ⟨y.toArray⟩] 9)).heap.size) := by
            rw [Hid]; refine ⟨?_, by simp; omega, by simp; omega⟩
            rcases HS.out w3 Bw3.out with h | ⟨b', off', h, hc⟩
            · rw [h] at hlt; simp at hlt
            · cases h; exact World.block_lt_of_cell? w3 _ (hc j hlt).1
          have HKB : Hid ((Value.slice (some ⟨g, 0, none⟩) (2 * j + 2) c2).ownBlock ≠ some b) := fun e => by have := hlow _ e; have := hb3.out.1; omega
          clear hx hy hown hbel hwb hlow
          go_wp2_with fail
          go_region_held3 (fun w' => w'.cell? ⟨w.heap.size, 2, none⟩ = some (.slice (some ⟨b, off, none⟩) ps.length cap) ∧ w'.cell? ⟨b, off + j * 3, none⟩ = some (.string ⟨x.toArray⟩) ∧ w'.cell? ⟨b, off + j * 3 + 1, none⟩ = some (.string ⟨y.toArray⟩))
            (first | with_reducible exact S4.out | with_reducible exact Sa.out | with_reducible exact Sr.out | with_reducible exact Srd.out)
            ((refine step_append_lies _ rfl (.tmp 22) (.tmp 35) 24 rfl w3.heap.size 9 i0 (.string ⟨#[]⟩) 1 16 Try.underlying24 hi0 hz0 hz1 hz2 rfl (by decide) (.slice (some ⟨g, 0, none⟩) (2 * j + 2) c2) (2 * j + 2) (scells (ts j)) (by simp [Act.eval]) Oa.out ⟨wr.heap.size, 0, none⟩ 2 2 [.string ⟨x.toArray⟩, .string ⟨y.toArray⟩] (by simp [Act.eval]) rfl Na.out (by simp [Value.oneCell']) (by decide) (by unfold maxLen; omega) (by omega) Za.out _ rfl ?_
              intro g2 c4 w4 hown4 hgrow4 hat4 hlt4
              have HO4 : Hid (w4.ownsRow w3.heap.size 9 1 (.slice (some ⟨g2, 0, none⟩) (2 * j + 2 + 2) c4) (2 * j + 2 + 2) (scells (ts (j + 1)))) := by rw [Hid, HT.out]; exact hown4
              have B4 : Hid (Below w3.heap.size w3 w4) := Ba.out.grown hgrow4 Za.out HLO.out
              have S4 : Hid (w4.cell? ⟨w.heap.size, 2, none⟩ = some (.slice (some ⟨b, off, none⟩) ps.length cap) ∧ w4.cell? ⟨b, off + j * 3, none⟩ = some (.string ⟨x.toArray⟩) ∧ w4.cell? ⟨b, off + j * 3 + 1, none⟩ = some (.string ⟨y.toArray⟩)) := ⟨(hgrow4.cell_far ⟨w.heap.size, 2, none⟩ hb3.out.2.1 HKI.out.symm).trans Sa.out.1, (hgrow4.cell_far ⟨b, off + j * 3, none⟩ hb3.out.2.2 HKB.out.symm).trans Sa.out.2.1, (hgrow4.cell_far ⟨b, off + j * 3 + 1, none⟩ hb3.out.2.2 HKB.out.symm).trans Sa.out.2.2⟩
              clear hown4 hgrow4 hat4 hlt4))
          all_goals
            have HO5 : Hid (w4.ownsRow w3.heap.size 9 1 (.slice (some ⟨g2, 0, none⟩) (2 * (j + 1) + 2) c4) (2 * (j + 1) + 2) (scells (ts (j + 1)))) := HO4.out
            clear Sa Oa Na Ba Sr
            go_wp2
            go_roundw
            case rel => exact ⟨j + 1, c4, g2, by omega, by go_num, rfl, HO5.out, B4.out⟩
            case measure => simp [intOf]; omega
        · have hjl : j = ps.length := by omega
          subst hjl
          rw [HTSL.out] at hown
          have HI := hidOwn hown
          clear hown
          go_wp2_with fail
          refine (HKL.out _ _ _ _ HI.out).mono ?_
          rintro e w5 ⟨rfl, b5⟩
          have B5 := hwb.trans (b5.mono hws)
          clear b5
          go_wp2
          go_ret
          exact ⟨rfl, B5⟩
end Go.Proofs.Ytcfflfpdoihpmaa
