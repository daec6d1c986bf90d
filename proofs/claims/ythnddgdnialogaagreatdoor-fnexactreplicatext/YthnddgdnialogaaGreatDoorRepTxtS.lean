/-
 Contract: a replica's text, of the model (written by mkreptxs.py).
-/
import Derived.Test.YthnddgdnialogaaGreatDoorRepTxt
namespace Go.Proofs.YthnddgdnialogaaGreatDoor
open Go.RowKit
set_option linter.unusedVariables false
theorem scells_pairs (ps : List PairL) (p : PairL) : scells (pairTs (ps ++ [p])) = scells (pairTs ps) ++ [.string ⟨p.1.toArray⟩, .string ⟨p.2.toArray⟩] := by rw [pairTs_snoc]; simp [scells]
set_option maxRecDepth 100000 in
set_option maxHeartbeats 8000000 in
theorem spec_replicaText (ix : Int) (root : List UInt8) (a : Option Addr) (cap : Nat) (ps : List PairL) (c : Option Addr) (cap2 : Nat) (ss : List SessL) (w : World) (hl : ps.length ≤ 1048576) (hm : ∀ p ∈ ps, p.1.length ≤ 1048576 ∧ p.2.length ≤ 1048576) (hs : IsPairs w a ps) (hl2 : ss.length ≤ 1048576) (hs2 : IsSess w c ss) :
 Calls Tryz.prog 18 #[.agg #[.int .i64 ix, .string ⟨root.toArray⟩, .slice a ps.length cap, .slice c ss.length cap2]] w fun e w' => e = .returned (.string ⟨(repText ix root ps ss).toArray⟩) ∧ Below w.heap.size w w' := by
 obtain ⟨i0, hi0, hz0, hz1, hz2⟩ := info_parts info9i
 have B0 : Below w.heap.size w (w.alloc (.cells #[.int .i64 ix, .string ⟨root.toArray⟩, .slice a ps.length cap, .slice c ss.length cap2] 31)) := (Below.refl _ _).alloc (Nat.le_refl _) _
 have HH0 : Hid ((w.alloc (.cells #[.int .i64 ix, .string ⟨root.toArray⟩, .slice a ps.length cap, .slice c ss.length cap2] 31)).heap[w.heap.size]? = some (.cells #[.int .i64 ix, .string ⟨root.toArray⟩, .slice a ps.length cap, .slice c ss.length cap2] 31 (0, 0))) := heap_alloc_new w _
 obtain ⟨p0, p1, p2, p3, _⟩ := rp_cells HH0.out
 have K := spec_replicaOk ix root a cap ps c cap2 ss _ hl hm (hs.later B0) hl2 (hs2.later B0)
 have HS : Hid (∀ W, Below w.heap.size w W → IsSess W c ss) := fun W hW => hs2.later hW
 have HK2 : Hid (∀ W, Below w.heap.size w W → Calls Tryz.prog 27 #[.slice a ps.length cap, .string ⟨root.toArray⟩] W fun e w' => PAPost W (pairsAtR ps root) e w') := fun W hW => spec_pairsAt a cap ps root W hl hm (hs.later hW)
 have HIS : Hid (∀ l, repR ix root ps ss = some l → ((0 ≤ ix ∧ ix ≤ 1000000000000) ∧ sessOk ss = true) ∧ pairsAtR ps root = some l) := fun l h => ⟨(rep_is h).1, (rep_is h).2.1⟩
 unfold repText
 obtain ⟨rp, hrp⟩ : ∃ rp, rp = repR ix root ps ss := ⟨_, rfl⟩
 rw [← hrp] at K HIS ⊢
 clear hrp hs hs2 hm
 cases rp with
 | none =>
   clear HIS HS HK2
   go_enter Tryz.func18, Tryz.ntmps18
   go_wp2_with fail
   refine K.mono ?_
   rintro e w1 ⟨rfl, b1⟩
   have B1 := B0.trans (b1.mono B0.size)
   go_wp2
   go_ret
   exact ⟨rfl, B1⟩
 | some l =>
   obtain ⟨⟨⟨hi0', hi1'⟩, hso⟩, hpa⟩ := HIS.out l rfl
   obtain ⟨h6, hnum⟩ := sess_num hso
   have hfit := pairsAt_fit hpa
   have h60 := hfit.1
   have hflat := repRows_flat ix ss l h6 hfit.1 (pairsAt_small hpa)
   rw [hpa] at HK2
   unfold PAPost at HK2
   simp only [Option.getD_some, Option.isSome_some] at HK2
   have HNU : Hid (∀ j (hj : j < ss.length), (ss[j].1 = (ss[j].1.toNat : Int) ∧ ss[j].1.toNat ≤ 1000000000000) ∧ (ss[j].2 = (ss[j].2.toNat : Int) ∧ ss[j].2.toNat ≤ 1000000000000)) := hnum
   obtain ⟨rr, hrr⟩ : ∃ rr : List SessL → List PairL, rr = fun s => (numB 8 ix.toNat, numB 8 ss.length) :: sessRows s := ⟨_, rfl⟩
   obtain ⟨ts, hts⟩ : ∃ ts : Nat → List (List UInt8), ts = fun j => pairTs (rr (ss.take j)) := ⟨_, rfl⟩
   obtain ⟨us, hus⟩ : ∃ us : Nat → List (List UInt8), us = fun j => pairTs (rr ss ++ l.take j) := ⟨_, rfl⟩
   have HT0 : Hid (scells (ts 0) = [.string ⟨(numB 8 ix.toNat).toArray⟩, .string ⟨(numB 8 ss.length).toArray⟩]) := by rw [Hid, hts, hrr]; rfl
   have HTS : Hid (∀ j (hj : j < ss.length), scells (ts (j + 1)) = scells (ts j) ++ [.string ⟨(numB 8 ss[j].1.toNat).toArray⟩, .string ⟨(numB 8 ss[j].2.toNat).toArray⟩]) := fun j hj => by
    rw [hts, hrr]; simp only; rw [sessRows_take ss j hj, ← List.cons_append, scells_pairs]
   have HTL : Hid (ts ss.length = us 0) := by rw [Hid, hts, hus]; simp
   have HUS : Hid (∀ j (hj : j < l.length), scells (us (j + 1)) = scells (us j) ++ [.string ⟨l[j].1.toArray⟩, .string ⟨l[j].2.toArray⟩]) := fun j hj => by
    rw [hus]; simp only; rw [take_snocP l j hj, ← List.append_assoc, scells_pairs]
   have HUL : Hid (us l.length = pairTs (repRows ix ss l)) := by rw [Hid, hus, repRows, hrr]; simp
   have HKL : Hid (∀ (W : World) b0 g c2, W.ownsRow b0 9 1 (.slice (some ⟨g, 0, none⟩) (2 * ss.length + 2 + 2 * l.length) c2) (2 * ss.length + 2 + 2 * l.length) (scells (us l.length)) → Calls Tryz.prog 43 #[.slice (some ⟨g, 0, none⟩) (2 * ss.length + 2 + 2 * l.length) c2] W fun e w' => e = .returned (.string ⟨(repTxO ix ss (some l)).toArray⟩) ∧ Below W.heap.size W w') := fun W b0 g c2 ho => by
    have e1 : (pairTs (repRows ix ss l)).length = 2 * ss.length + 2 + 2 * l.length := by rw [pairTs_length, repRows_length]; omega
    rw [HUL.out] at ho
    have := spec_l1List g c2 (pairTs (repRows ix ss l)) b0 W (by omega) (by omega) (by rw [e1]; exact ho)
    rw [e1] at this
    exact this
   obtain ⟨ixn, hixn⟩ : ∃ n, n = ix.toNat := ⟨_, rfl⟩
   have hix : ix = (ixn : Int) := by omega
   have KC := fun W => spec_l1Num ixn W (by omega)
   have KN := fun W => spec_l1Num ss.length W (by omega)
   rw [← hix] at KC
   rw [← hixn] at HT0
   obtain ⟨x0, hx0⟩ : ∃ x, x = numB 8 ixn := ⟨_, rfl⟩
   obtain ⟨y0, hy0⟩ : ∃ y, y = numB 8 ss.length := ⟨_, rfl⟩
   rw [← hx0] at KC HT0
   rw [← hy0] at KN HT0
   obtain ⟨tx, htx⟩ : ∃ tx, tx = repTxO ix ss (some l) := ⟨_, rfl⟩
   rw [← htx] at HKL ⊢
   clear hflat hfit HIS hpa hso hnum hi0' hi1' hrr hts hus hx0 hy0 htx hix hixn HUL
   go_enter Tryz.func18, Tryz.ntmps18
   go_wp2_with fail
   refine K.mono ?_
   rintro e wa ⟨rfl, ba⟩
   have Bwa := B0.trans (ba.mono B0.size)
   have Qwa : Hid (wa.heap[w.heap.size]? = some (.cells #[.int .i64 ix, .string ⟨root.toArray⟩, .slice a ps.length cap, .slice c ss.length cap2] 31 (0, 0))) := (ba.block w.heap.size (by simp)).trans HH0.out
   have K2 := HK2.out wa Bwa
   clear p0 p1 p2 p3 K ba HH0 B0 HK2
   obtain ⟨p0, p1, p2, p3, _⟩ := rp_cells Qwa.out
   go_wp2_with fail
   refine K2.mono ?_
   rintro e w1 ⟨a1, m1, c1, rfl, o1, b1⟩
   obtain ⟨rfl, _, _⟩ := isPairs_own o1
   have Bw1 : Hid (Below w.heap.size w w1) := Bwa.trans (b1.mono Bwa.size)
   have Qw1 : Hid (w1.heap[w.heap.size]? = some (.cells #[.int .i64 ix, .string ⟨root.toArray⟩, .slice a ps.length cap, .slice c ss.length cap2] 31 (0, 0))) := (b1.block w.heap.size (lt_of_block Qwa.out)).trans Qwa.out
   have Pw1 := hidOwn (o1.mono Bwa.size)
   have Sw1 : Hid (w1.cell? ⟨w.heap.size, 0, none⟩ = some (.int .i64 ix) ∧ w1.cell? ⟨w.heap.size, 3, none⟩ = some (.slice c ss.length cap2)) := ⟨(rp_cells Qw1.out).1, (rp_cells Qw1.out).2.2.2.1⟩
   have Sd1 : Hid (w1.drew.cell? ⟨w.heap.size, 0, none⟩ = some (.int .i64 ix) ∧ w1.drew.cell? ⟨w.heap.size, 3, none⟩ = some (.slice c ss.length cap2)) := Sw1.out
   clear p0 p1 p2 p3 K2 b1 o1 Qwa Bwa
   go_wp2_with fail
   go_region_held3 (fun w' => w'.cell? ⟨w.heap.size, 0, none⟩ = some (.int .i64 ix) ∧ w'.cell? ⟨w.heap.size, 3, none⟩ = some (.slice c ss.length cap2))
    (first | with_reducible exact Sa3.out | with_reducible exact Sw3.out | with_reducible exact Sw2.out | with_reducible exact Sw4.out | with_reducible exact Sw1.out | with_reducible exact Sd1.out)
    (first
     | (go_at_call 42
        with_reducible refine (KN w1.drew).mono ?_
        rintro e w4 ⟨rfl, bw4'⟩
        have bw4 : Below w1.heap.size w1 w4 := ⟨bw4'.os, bw4'.tape, bw4'.output, bw4'.size, bw4'.block⟩
        have Bw4 : Hid (Below w.heap.size w w4) := Bw1.out.trans (bw4.mono Bw1.out.size)
        have Qw4 : Hid (w4.heap[w.heap.size]? = some (.cells #[.int .i64 ix, .string ⟨root.toArray⟩, .slice a ps.length cap, .slice c ss.length cap2] 31 (0, 0))) := (bw4.block w.heap.size (lt_of_block Qw1.out)).trans Qw1.out
        have Sw4 : Hid (w4.cell? ⟨w.heap.size, 0, none⟩ = some (.int .i64 ix) ∧ w4.cell? ⟨w.heap.size, 3, none⟩ = some (.slice c ss.length cap2)) := ⟨(rp_cells Qw4.out).1, (rp_cells Qw4.out).2.2.2.1⟩
        have Pw4 := hidOwn (kept2 Pw1.out bw4)
        clear bw4' bw4)
     | (go_at_call 42
        with_reducible refine (KC w4).mono ?_
        rintro e w3 ⟨rfl, bw3'⟩
        have bw3 : Below w4.heap.size w4 w3 := ⟨bw3'.os, bw3'.tape, bw3'.output, bw3'.size, bw3'.block⟩
        have Bw3 : Hid (Below w.heap.size w w3) := Bw4.out.trans (bw3.mono Bw4.out.size)
        have Qw3 : Hid (w3.heap[w.heap.size]? = some (.cells #[.int .i64 ix, .string ⟨root.toArray⟩, .slice a ps.length cap, .slice c ss.length cap2] 31 (0, 0))) := (bw3.block w.heap.size (lt_of_block Qw4.out)).trans Qw4.out
        have Sw3 : Hid (w3.cell? ⟨w.heap.size, 0, none⟩ = some (.int .i64 ix) ∧ w3.cell? ⟨w.heap.size, 3, none⟩ = some (.slice c ss.length cap2)) := ⟨(rp_cells Qw3.out).1, (rp_cells Qw3.out).2.2.2.1⟩
        have Pw3 := hidOwn (kept2 Pw4.out bw3)
        clear bw3' bw3
        have Sa3 : Hid ((w3.alloc (.cells #[.string ⟨x0.toArray⟩, .string ⟨y0.toArray⟩] 9)).cell? ⟨w.heap.size, 0, none⟩ = some (.int .i64 ix) ∧ (w3.alloc (.cells #[.string ⟨x0.toArray⟩, .string ⟨y0.toArray⟩] 9)).cell? ⟨w.heap.size, 3, none⟩ = some (.slice c ss.length cap2)) := ⟨(World.cell?_alloc_lt w3 _ ⟨w.heap.size, 0, none⟩ (lt_of_block Qw3.out)).trans Sw3.out.1, (World.cell?_alloc_lt w3 _ ⟨w.heap.size, 3, none⟩ (lt_of_block Qw3.out)).trans Sw3.out.2⟩)
     | (go_at_call 42
        with_reducible refine (KC w1.drew).mono ?_
        rintro e w2 ⟨rfl, bw2'⟩
        have bw2 : Below w1.heap.size w1 w2 := ⟨bw2'.os, bw2'.tape, bw2'.output, bw2'.size, bw2'.block⟩
        have Bw2 : Hid (Below w.heap.size w w2) := Bw1.out.trans (bw2.mono Bw1.out.size)
        have Qw2 : Hid (w2.heap[w.heap.size]? = some (.cells #[.int .i64 ix, .string ⟨root.toArray⟩, .slice a ps.length cap, .slice c ss.length cap2] 31 (0, 0))) := (bw2.block w.heap.size (lt_of_block Qw1.out)).trans Qw1.out
        have Sw2 : Hid (w2.cell? ⟨w.heap.size, 0, none⟩ = some (.int .i64 ix) ∧ w2.cell? ⟨w.heap.size, 3, none⟩ = some (.slice c ss.length cap2)) := ⟨(rp_cells Qw2.out).1, (rp_cells Qw2.out).2.2.2.1⟩
        have Pw2 := hidOwn (kept2 Pw1.out bw2)
        clear bw2' bw2)
     | (go_at_call 42
        with_reducible refine (KN w2).mono ?_
        rintro e w3 ⟨rfl, bw3'⟩
        have bw3 : Below w2.heap.size w2 w3 := ⟨bw3'.os, bw3'.tape, bw3'.output, bw3'.size, bw3'.block⟩
        have Bw3 : Hid (Below w.heap.size w w3) := Bw2.out.trans (bw3.mono Bw2.out.size)
        have Qw3 : Hid (w3.heap[w.heap.size]? = some (.cells #[.int .i64 ix, .string ⟨root.toArray⟩, .slice a ps.length cap, .slice c ss.length cap2] 31 (0, 0))) := (bw3.block w.heap.size (lt_of_block Qw2.out)).trans Qw2.out
        have Sw3 : Hid (w3.cell? ⟨w.heap.size, 0, none⟩ = some (.int .i64 ix) ∧ w3.cell? ⟨w.heap.size, 3, none⟩ = some (.slice c ss.length cap2)) := ⟨(rp_cells Qw3.out).1, (rp_cells Qw3.out).2.2.2.1⟩
        have Pw3 := hidOwn (kept2 Pw2.out bw3)
        clear bw3' bw3
        have Sa3 : Hid ((w3.alloc (.cells #[.string ⟨x0.toArray⟩, .string ⟨y0.toArray⟩] 9)).cell? ⟨w.heap.size, 0, none⟩ = some (.int .i64 ix) ∧ (w3.alloc (.cells #[.string ⟨x0.toArray⟩, .string ⟨y0.toArray⟩] 9)).cell? ⟨w.heap.size, 3, none⟩ = some (.slice c ss.length cap2)) := ⟨(World.cell?_alloc_lt w3 _ ⟨w.heap.size, 0, none⟩ (lt_of_block Qw3.out)).trans Sw3.out.1, (World.cell?_alloc_lt w3 _ ⟨w.heap.size, 3, none⟩ (lt_of_block Qw3.out)).trans Sw3.out.2⟩))
   all_goals
    have HB0 : Hid (Below w3.heap.size w3 (w3.alloc (.cells #[.string ⟨x0.toArray⟩, .string ⟨y0.toArray⟩] 9))) := (Below.refl _ _).alloc (Nat.le_refl _) _
    have O3 : Hid ((w3.alloc (.cells #[.string ⟨x0.toArray⟩, .string ⟨y0.toArray⟩] 9)).ownsRow w3.heap.size 9 1 (.slice (some ⟨w3.heap.size, 0, none⟩) 2 2) 2 (scells (ts 0))) := by
     rw [HT0.out]
     exact World.ownsRow_lit (e := 9) (size := 1) w3 #[.string ⟨x0.toArray⟩, .string ⟨y0.toArray⟩] 2 (base := w3.heap.size) (Nat.le_refl _) (by unfold maxLen; omega) rfl
    clear KC KN
    go_wp2
    go_loopw [5, 6] (fun v i wr => ∃ j c2 g : Nat, j ≤ ss.length ∧ i = .int .i64 (j : Int) ∧ v = .slice (some ⟨g, 0, none⟩) (2 * j + 2) c2 ∧ wr.ownsRow w3.heap.size 9 1 (.slice (some ⟨g, 0, none⟩) (2 * j + 2) c2) (2 * j + 2) (scells (ts j)) ∧ Below w3.heap.size w3 wr) (fun _ i _ => ss.length - (intOf i).toNat)
    case atStart => exact ⟨0, 2, w3.heap.size, Nat.zero_le _, rfl, rfl, O3.out, HB0.out⟩
    case round =>
     obtain ⟨j, c2, g, hj, rfl, rfl, hown, hbel⟩ := hrel
     have hsz := hbel.size
     have hwb : Below w.heap.size w wr := Bw3.out.trans (hbel.mono Bw3.out.size)
     have Qr := (hbel.block w.heap.size (lt_of_block Qw3.out)).trans Qw3.out
     have hLr : w.heap.size < wr.heap.size := lt_of_block Qr
     obtain ⟨q0, q1, q2, q3, _⟩ := rp_cells Qr
     clear q0 q1 q2
     by_cases hlt : j < ss.length
     · obtain ⟨b, off, ha, d1, d2⟩ : ∃ b off, c = some ⟨b, off, none⟩ ∧ wr.cell? ⟨b, off + j * 2, none⟩ = some (.int .i64 ss[j].1) ∧ wr.cell? ⟨b, off + j * 2 + 1, none⟩ = some (.int .i64 ss[j].2) := by
        rcases HS.out wr hwb with h | ⟨b, off, h, hc⟩
        · rw [h] at hlt; simp at hlt
        · exact ⟨b, off, h, hc j hlt⟩
       subst ha
       have hj0 : (0 : Int) ≤ (j : Int) := by omega
       have hj1 : (j : Int) < (ss.length : Int) := by omega
       obtain ⟨⟨hx1, hx2⟩, hy1, hy2⟩ := HNU.out j hlt
       have HT : Hid (scells (ts (j + 1)) = scells (ts j) ++ [.string ⟨(numB 8 ss[j].1.toNat).toArray⟩, .string ⟨(numB 8 ss[j].2.toNat).toArray⟩]) := HTS.out j hlt
       have KX := fun W => spec_l1Num ss[j].1.toNat W hx2
       have KY := fun W => spec_l1Num ss[j].2.toNat W hy2
       rw [← hx1] at KX
       rw [← hy1] at KY
       obtain ⟨x, hx⟩ : ∃ x, x = ss[j].1 := ⟨_, rfl⟩
       obtain ⟨y, hy⟩ : ∃ y, y = ss[j].2 := ⟨_, rfl⟩
       rw [← hx] at d1 KX HT
       rw [← hy] at d2 KY HT
       obtain ⟨sx, hsx⟩ : ∃ s, s = numB 8 x.toNat := ⟨_, rfl⟩
       obtain ⟨sy, hsy⟩ : ∃ s, s = numB 8 y.toNat := ⟨_, rfl⟩
       rw [← hsx] at KX HT
       rw [← hsy] at KY HT
       have hbb := World.block_lt_of_cell? wr _ d1
       simp only at hbb
       have HSR : Hid (∀ W, Below wr.heap.size wr W → W.cell? ⟨w.heap.size, 3, none⟩ = some (.slice (some ⟨b, off, none⟩) ss.length cap2) ∧ W.cell? ⟨b, off + j * 2, none⟩ = some (.int .i64 x) ∧ W.cell? ⟨b, off + j * 2 + 1, none⟩ = some (.int .i64 y)) := fun W hW => ⟨(hW.cell (p := ⟨w.heap.size, 3, none⟩) hLr).trans q3, (hW.cell (p := ⟨b, off + j * 2, none⟩) hbb).trans d1, (hW.cell (p := ⟨b, off + j * 2 + 1, none⟩) hbb).trans d2⟩
       have HOR : Hid (∀ W, Below wr.heap.size wr W → W.ownsRow w3.heap.size 9 1 (.slice (some ⟨g, 0, none⟩) (2 * j + 2) c2) (2 * j + 2) (scells (ts j))) := fun W hW => kept1 hown hW
       have HBR : Hid (∀ W, Below wr.heap.size wr W → Below w3.heap.size w3 W) := fun W hW => hbel.trans (hW.mono hsz)
       have HLO : Hid (∀ k, (Value.slice (some ⟨g, 0, none⟩) (2 * j + 2) c2).ownBlock = some k → w3.heap.size ≤ k) := fun k hk => (hown.lt k hk).1
       have hb3 : Hid (b < w3.heap.size ∧ w.heap.size < w3.heap.size) := by
        refine ⟨?_, lt_of_block Qw3.out⟩
        rcases HS.out w3 Bw3.out with h | ⟨b', off', h, hc⟩
        · rw [h] at hlt; simp at hlt
        · cases h; exact World.block_lt_of_cell? w3 _ (hc j hlt).1
       have HKI : Hid ((Value.slice (some ⟨g, 0, none⟩) (2 * j + 2) c2).ownBlock ≠ some w.heap.size) := fun e => by have := HLO.out _ e; have := hb3.out.2; omega
       have HKB : Hid ((Value.slice (some ⟨g, 0, none⟩) (2 * j + 2) c2).ownBlock ≠ some b) := fun e => by have := HLO.out _ e; have := hb3.out.1; omega
       have HLL : Hid (w.heap.size < wr.heap.size ∧ b < wr.heap.size) := ⟨hLr, hbb⟩
       have Swr : Hid (wr.cell? ⟨w.heap.size, 3, none⟩ = some (.slice (some ⟨b, off, none⟩) ss.length cap2) ∧ wr.cell? ⟨b, off + j * 2, none⟩ = some (.int .i64 x) ∧ wr.cell? ⟨b, off + j * 2 + 1, none⟩ = some (.int .i64 y)) := HSR.out wr (Below.refl _ _)
       have Srd : Hid (wr.drew.cell? ⟨w.heap.size, 3, none⟩ = some (.slice (some ⟨b, off, none⟩) ss.length cap2) ∧ wr.drew.cell? ⟨b, off + j * 2, none⟩ = some (.int .i64 x) ∧ wr.drew.cell? ⟨b, off + j * 2 + 1, none⟩ = some (.int .i64 y)) := Swr.out
       clear hx hy hsx hsy hx1 hx2 hy1 hy2 hown hbel hwb d1 d2 HNU HTS HUS HKL HTL hbb hLr
       go_wp2_with fail
       go_region_held3 (fun w' => w'.cell? ⟨w.heap.size, 3, none⟩ = some (.slice (some ⟨b, off, none⟩) ss.length cap2) ∧ w'.cell? ⟨b, off + j * 2, none⟩ = some (.int .i64 x) ∧ w'.cell? ⟨b, off + j * 2 + 1, none⟩ = some (.int .i64 y))
        (first | with_reducible exact S4.out | with_reducible exact Sa.out | with_reducible exact Swf.out | with_reducible exact Swd.out | with_reducible exact Swe.out | with_reducible exact Swr.out | with_reducible exact Srd.out)
        (first
         | (go_at_call 42
            with_reducible refine (KY wr.drew).mono ?_
            rintro e wd ⟨rfl, bwd'⟩
            have bwd : Below wr.heap.size wr wd := ⟨bwd'.os, bwd'.tape, bwd'.output, bwd'.size, bwd'.block⟩
            have Rwd : Hid (Below wr.heap.size wr wd) := bwd
            have Swd : Hid (wd.cell? ⟨w.heap.size, 3, none⟩ = some (.slice (some ⟨b, off, none⟩) ss.length cap2) ∧ wd.cell? ⟨b, off + j * 2, none⟩ = some (.int .i64 x) ∧ wd.cell? ⟨b, off + j * 2 + 1, none⟩ = some (.int .i64 y)) := HSR.out wd Rwd.out
            clear bwd' bwd)
         | (go_at_call 42
            with_reducible refine (KX wd).mono ?_
            rintro e wf ⟨rfl, bwf'⟩
            have bwf : Below wd.heap.size wd wf := ⟨bwf'.os, bwf'.tape, bwf'.output, bwf'.size, bwf'.block⟩
            have Rwf : Hid (Below wr.heap.size wr wf) := Rwd.out.trans (bwf.mono Rwd.out.size)
            have Swf : Hid (wf.cell? ⟨w.heap.size, 3, none⟩ = some (.slice (some ⟨b, off, none⟩) ss.length cap2) ∧ wf.cell? ⟨b, off + j * 2, none⟩ = some (.int .i64 x) ∧ wf.cell? ⟨b, off + j * 2 + 1, none⟩ = some (.int .i64 y)) := HSR.out wf Rwf.out
            clear bwf' bwf
            have Sa : Hid ((wf.alloc (.cells #[.string ⟨sx.toArray⟩, .string ⟨sy.toArray⟩] 9)).cell? ⟨w.heap.size, 3, none⟩ = some (.slice (some ⟨b, off, none⟩) ss.length cap2) ∧ (wf.alloc (.cells #[.string ⟨sx.toArray⟩, .string ⟨sy.toArray⟩] 9)).cell? ⟨b, off + j * 2, none⟩ = some (.int .i64 x) ∧ (wf.alloc (.cells #[.string ⟨sx.toArray⟩, .string ⟨sy.toArray⟩] 9)).cell? ⟨b, off + j * 2 + 1, none⟩ = some (.int .i64 y)) := HSR.out _ (Rwf.out.alloc Rwf.out.size _)
            have Oa : Hid ((wf.alloc (.cells #[.string ⟨sx.toArray⟩, .string ⟨sy.toArray⟩] 9)).ownsRow w3.heap.size 9 1 (.slice (some ⟨g, 0, none⟩) (2 * j + 2) c2) (2 * j + 2) (scells (ts j))) := (HOR.out wf Rwf.out).alloc _
            have Na : Hid (∀ q u, [Value.string ⟨sx.toArray⟩, Value.string ⟨sy.toArray⟩][q]? = some u → (wf.alloc (.cells #[.string ⟨sx.toArray⟩, .string ⟨sy.toArray⟩] 9)).cell? ((⟨wf.heap.size, 0, none⟩ : Addr).add q) = some u) := World.news_of_block (cs := #[.string ⟨sx.toArray⟩, .string ⟨sy.toArray⟩]) (t := 9) (fr := (0, 0)) (heap_alloc_new wf _)
            have Ba : Hid (Below w3.heap.size w3 (wf.alloc (.cells #[.string ⟨sx.toArray⟩, .string ⟨sy.toArray⟩] 9))) := (HBR.out wf Rwf.out).alloc (HBR.out wf Rwf.out).size _
            have Ra : Hid (Below wr.heap.size wr (wf.alloc (.cells #[.string ⟨sx.toArray⟩, .string ⟨sy.toArray⟩] 9))) := Rwf.out.alloc Rwf.out.size _
            have Za : Hid (w3.heap.size ≤ (wf.alloc (.cells #[.string ⟨sx.toArray⟩, .string ⟨sy.toArray⟩] 9)).heap.size) := Ba.out.size)
         | (go_at_call 42
            with_reducible refine (KX wr.drew).mono ?_
            rintro e we ⟨rfl, bwe'⟩
            have bwe : Below wr.heap.size wr we := ⟨bwe'.os, bwe'.tape, bwe'.output, bwe'.size, bwe'.block⟩
            have Rwe : Hid (Below wr.heap.size wr we) := bwe
            have Swe : Hid (we.cell? ⟨w.heap.size, 3, none⟩ = some (.slice (some ⟨b, off, none⟩) ss.length cap2) ∧ we.cell? ⟨b, off + j * 2, none⟩ = some (.int .i64 x) ∧ we.cell? ⟨b, off + j * 2 + 1, none⟩ = some (.int .i64 y)) := HSR.out we Rwe.out
            clear bwe' bwe)
         | (go_at_call 42
            with_reducible refine (KY we).mono ?_
            rintro e wf ⟨rfl, bwf'⟩
            have bwf : Below we.heap.size we wf := ⟨bwf'.os, bwf'.tape, bwf'.output, bwf'.size, bwf'.block⟩
            have Rwf : Hid (Below wr.heap.size wr wf) := Rwe.out.trans (bwf.mono Rwe.out.size)
            have Swf : Hid (wf.cell? ⟨w.heap.size, 3, none⟩ = some (.slice (some ⟨b, off, none⟩) ss.length cap2) ∧ wf.cell? ⟨b, off + j * 2, none⟩ = some (.int .i64 x) ∧ wf.cell? ⟨b, off + j * 2 + 1, none⟩ = some (.int .i64 y)) := HSR.out wf Rwf.out
            clear bwf' bwf
            have Sa : Hid ((wf.alloc (.cells #[.string ⟨sx.toArray⟩, .string ⟨sy.toArray⟩] 9)).cell? ⟨w.heap.size, 3, none⟩ = some (.slice (some ⟨b, off, none⟩) ss.length cap2) ∧ (wf.alloc (.cells #[.string ⟨sx.toArray⟩, .string ⟨sy.toArray⟩] 9)).cell? ⟨b, off + j * 2, none⟩ = some (.int .i64 x) ∧ (wf.alloc (.cells #[.string ⟨sx.toArray⟩, .string ⟨sy.toArray⟩] 9)).cell? ⟨b, off + j * 2 + 1, none⟩ = some (.int .i64 y)) := HSR.out _ (Rwf.out.alloc Rwf.out.size _)
            have Oa : Hid ((wf.alloc (.cells #[.string ⟨sx.toArray⟩, .string ⟨sy.toArray⟩] 9)).ownsRow w3.heap.size 9 1 (.slice (some ⟨g, 0, none⟩) (2 * j + 2) c2) (2 * j + 2) (scells (ts j))) := (HOR.out wf Rwf.out).alloc _
            have Na : Hid (∀ q u, [Value.string ⟨sx.toArray⟩, Value.string ⟨sy.toArray⟩][q]? = some u → (wf.alloc (.cells #[.string ⟨sx.toArray⟩, .string ⟨sy.toArray⟩] 9)).cell? ((⟨wf.heap.size, 0, none⟩ : Addr).add q) = some u) := World.news_of_block (cs := #[.string ⟨sx.toArray⟩, .string ⟨sy.toArray⟩]) (t := 9) (fr := (0, 0)) (heap_alloc_new wf _)
            have Ba : Hid (Below w3.heap.size w3 (wf.alloc (.cells #[.string ⟨sx.toArray⟩, .string ⟨sy.toArray⟩] 9))) := (HBR.out wf Rwf.out).alloc (HBR.out wf Rwf.out).size _
            have Ra : Hid (Below wr.heap.size wr (wf.alloc (.cells #[.string ⟨sx.toArray⟩, .string ⟨sy.toArray⟩] 9))) := Rwf.out.alloc Rwf.out.size _
            have Za : Hid (w3.heap.size ≤ (wf.alloc (.cells #[.string ⟨sx.toArray⟩, .string ⟨sy.toArray⟩] 9)).heap.size) := Ba.out.size)
         | (refine step_append_lies _ rfl (.tmp 34) (.tmp 49) 65 rfl w3.heap.size 9 i0 (.string ⟨#[]⟩) 1 16 Tryz.underlying65 hi0 hz0 hz1 hz2 rfl (by decide) (.slice (some ⟨g, 0, none⟩) (2 * j + 2) c2) (2 * j + 2) (scells (ts j)) (by simp [Act.eval]) Oa.out ⟨wf.heap.size, 0, none⟩ 2 2 [.string ⟨sx.toArray⟩, .string ⟨sy.toArray⟩] (by simp [Act.eval]) rfl Na.out (by simp [Value.oneCell']) (by decide) (by unfold maxLen; omega) (by omega) Za.out _ rfl ?_
            intro g2 c4 wg hown4 hgrow4 hat4 hlt4
            have HO4 : Hid (wg.ownsRow w3.heap.size 9 1 (.slice (some ⟨g2, 0, none⟩) (2 * j + 2 + 2) c4) (2 * j + 2 + 2) (scells (ts (j + 1)))) := by rw [Hid, HT.out]; exact hown4
            have B4 : Hid (Below w3.heap.size w3 wg) := Ba.out.grown hgrow4 Za.out HLO.out
            have S4 : Hid (wg.cell? ⟨w.heap.size, 3, none⟩ = some (.slice (some ⟨b, off, none⟩) ss.length cap2) ∧ wg.cell? ⟨b, off + j * 2, none⟩ = some (.int .i64 x) ∧ wg.cell? ⟨b, off + j * 2 + 1, none⟩ = some (.int .i64 y)) := ⟨(hgrow4.cell_far ⟨w.heap.size, 3, none⟩ (Nat.lt_of_lt_of_le HLL.out.1 Ra.out.size) HKI.out.symm).trans Sa.out.1, (hgrow4.cell_far ⟨b, off + j * 2, none⟩ (Nat.lt_of_lt_of_le HLL.out.2 Ra.out.size) HKB.out.symm).trans Sa.out.2.1, (hgrow4.cell_far ⟨b, off + j * 2 + 1, none⟩ (Nat.lt_of_lt_of_le HLL.out.2 Ra.out.size) HKB.out.symm).trans Sa.out.2.2⟩
            clear hown4 hgrow4 hat4 hlt4))
       all_goals
        have HO5 : Hid (wg.ownsRow w3.heap.size 9 1 (.slice (some ⟨g2, 0, none⟩) (2 * (j + 1) + 2) c4) (2 * (j + 1) + 2) (scells (ts (j + 1)))) := HO4.out
        clear Sa Oa Na Ba Ra Za KX KY
        go_wp2
        go_roundw
        case rel => exact ⟨j + 1, c4, g2, by omega, by go_num, rfl, HO5.out, B4.out⟩
        case measure => simp [intOf]; omega
     · have hjl : j = ss.length := by omega
       subst hjl
       rw [HTL.out] at hown
       have HO0 : Hid (wr.ownsRow w3.heap.size 9 1 (.slice (some ⟨g, 0, none⟩) (2 * ss.length + 2 + 2 * 0) c2) (2 * ss.length + 2 + 2 * 0) (scells (us 0))) := hown
       have HBE : Hid (Below w3.heap.size w3 wr) := hbel
       clear hown hbel HTL HTS HNU Qr hsz
       go_wp2
       go_loopw [5, 7] (fun v i wr => ∃ j c3 g2 : Nat, j ≤ l.length ∧ i = .int .i64 (j : Int) ∧ v = .slice (some ⟨g2, 0, none⟩) (2 * ss.length + 2 + 2 * j) c3 ∧ wr.ownsRow w3.heap.size 9 1 (.slice (some ⟨g2, 0, none⟩) (2 * ss.length + 2 + 2 * j) c3) (2 * ss.length + 2 + 2 * j) (scells (us j)) ∧ Below w3.heap.size w3 wr) (fun _ i _ => l.length - (intOf i).toNat)
       case atStart => exact ⟨0, c2, g, Nat.zero_le _, rfl, rfl, HO0.out, HBE.out⟩
       case round =>
        obtain ⟨j, c3, g2, hj2, rfl, rfl, hown, hbel⟩ := hrel
        have hsz := hbel.size
        have hwt : Below w.heap.size w wr := Bw3.out.trans (hbel.mono Bw3.out.size)
        by_cases hlt2 : j < l.length
        · obtain ⟨b1, rfl, d1, d2, hb1⟩ : ∃ b1, a1 = some ⟨b1, 0, none⟩ ∧ wr.cell? ⟨b1, j * 2, none⟩ = some (.string ⟨l[j].1.toArray⟩) ∧ wr.cell? ⟨b1, j * 2 + 1, none⟩ = some (.string ⟨l[j].2.toArray⟩) ∧ b1 < w3.heap.size := by
           rcases own_cases2 Pw3.out with ⟨_, hn, _⟩ | ⟨b1, c9, hv, _, hb1, hc, _⟩
           · omega
           · cases hv
             have hq := pcells_at l j hlt2
             exact ⟨b1, rfl, (hbel.cell (p := ⟨b1, j * 2, none⟩) hb1).trans ((hc _ (by omega)).trans hq.1), (hbel.cell (p := ⟨b1, j * 2 + 1, none⟩) hb1).trans ((hc _ (by omega)).trans hq.2), hb1⟩
          have hj0 : (0 : Int) ≤ (j : Int) := by omega
          have hj1 : (j : Int) < (l.length : Int) := by omega
          have HT : Hid (scells (us (j + 1)) = scells (us j) ++ [.string ⟨l[j].1.toArray⟩, .string ⟨l[j].2.toArray⟩]) := HUS.out j hlt2
          obtain ⟨x, hx⟩ : ∃ x, x = l[j].1 := ⟨_, rfl⟩
          obtain ⟨y, hy⟩ : ∃ y, y = l[j].2 := ⟨_, rfl⟩
          rw [← hx] at d1 HT
          rw [← hy] at d2 HT
          have hbb := World.block_lt_of_cell? wr _ d1
          simp only at hbb
          have Sr : Hid (wr.cell? ⟨b1, j * 2, none⟩ = some (.string ⟨x.toArray⟩) ∧ wr.cell? ⟨b1, j * 2 + 1, none⟩ = some (.string ⟨y.toArray⟩)) := ⟨d1, d2⟩
          have Srd : Hid (wr.drew.cell? ⟨b1, j * 2, none⟩ = some (.string ⟨x.toArray⟩) ∧ wr.drew.cell? ⟨b1, j * 2 + 1, none⟩ = some (.string ⟨y.toArray⟩)) := ⟨d1, d2⟩
          have Sa : Hid ((wr.alloc (.cells #[.string ⟨x.toArray⟩, .string ⟨y.toArray⟩] 9)).drew.cell? ⟨b1, j * 2, none⟩ = some (.string ⟨x.toArray⟩) ∧ (wr.alloc (.cells #[.string ⟨x.toArray⟩, .string ⟨y.toArray⟩] 9)).drew.cell? ⟨b1, j * 2 + 1, none⟩ = some (.string ⟨y.toArray⟩)) := ⟨(World.cell?_alloc_lt wr _ ⟨b1, j * 2, none⟩ hbb).trans d1, (World.cell?_alloc_lt wr _ ⟨b1, j * 2 + 1, none⟩ hbb).trans d2⟩
          have Oa : Hid ((wr.alloc (.cells #[.string ⟨x.toArray⟩, .string ⟨y.toArray⟩] 9)).drew.ownsRow w3.heap.size 9 1 (.slice (some ⟨g2, 0, none⟩) (2 * ss.length + 2 + 2 * j) c3) (2 * ss.length + 2 + 2 * j) (scells (us j))) := hown.alloc _
          have Na : Hid (∀ q u, [Value.string ⟨x.toArray⟩, Value.string ⟨y.toArray⟩][q]? = some u → (wr.alloc (.cells #[.string ⟨x.toArray⟩, .string ⟨y.toArray⟩] 9)).drew.cell? ((⟨wr.heap.size, 0, none⟩ : Addr).add q) = some u) := World.news_of_block (cs := #[.string ⟨x.toArray⟩, .string ⟨y.toArray⟩]) (t := 9) (fr := (0, 0)) (heap_alloc_new wr _)
          have Ba : Hid (Below w3.heap.size w3 (wr.alloc (.cells #[.string ⟨x.toArray⟩, .string ⟨y.toArray⟩] 9)).drew) := (fun h => ⟨h.os, h.tape, h.output, h.size, h.block⟩ : Below w3.heap.size w3 (wr.alloc (.cells #[.string ⟨x.toArray⟩, .string ⟨y.toArray⟩] 9)) → Below w3.heap.size w3 (wr.alloc (.cells #[.string ⟨x.toArray⟩, .string ⟨y.toArray⟩] 9)).drew) (hbel.alloc hsz _)
          have Za : Hid (w3.heap.size ≤ (wr.alloc (.cells #[.string ⟨x.toArray⟩, .string ⟨y.toArray⟩] 9)).heap.size) := by rw [Hid]; simp; omega
          have HLO : Hid (∀ k, (Value.slice (some ⟨g2, 0, none⟩) (2 * ss.length + 2 + 2 * j) c3).ownBlock = some k → w3.heap.size ≤ k) := fun k hk => (hown.lt k hk).1
          have HKB : Hid ((Value.slice (some ⟨g2, 0, none⟩) (2 * ss.length + 2 + 2 * j) c3).ownBlock ≠ some b1) := fun e => by have := HLO.out _ e; omega
          have hb3 : Hid (b1 < (wr.alloc (.cells #[.string ⟨x.toArray⟩, .string ⟨y.toArray⟩] 9)).heap.size) := by rw [Hid]; simp; omega
          clear hx hy hown hbel hwt d1 d2 HUS HKL HO0 HBE
          go_wp2_with fail
          go_region_held3 (fun w' => w'.cell? ⟨b1, j * 2, none⟩ = some (.string ⟨x.toArray⟩) ∧ w'.cell? ⟨b1, j * 2 + 1, none⟩ = some (.string ⟨y.toArray⟩))
           (first | with_reducible exact S4.out | with_reducible exact Sa.out | with_reducible exact Sr.out | with_reducible exact Srd.out)
           ((refine step_append_lies _ rfl (.tmp 57) (.tmp 68) 65 rfl w3.heap.size 9 i0 (.string ⟨#[]⟩) 1 16 Tryz.underlying65 hi0 hz0 hz1 hz2 rfl (by decide) (.slice (some ⟨g2, 0, none⟩) (2 * ss.length + 2 + 2 * j) c3) (2 * ss.length + 2 + 2 * j) (scells (us j)) (by simp [Act.eval]) Oa.out ⟨wr.heap.size, 0, none⟩ 2 2 [.string ⟨x.toArray⟩, .string ⟨y.toArray⟩] (by simp [Act.eval]) rfl Na.out (by simp [Value.oneCell']) (by decide) (by unfold maxLen; omega) (by omega) Za.out _ rfl ?_
             intro g3 c4 wg hown4 hgrow4 hat4 hlt4
             have HO4 : Hid (wg.ownsRow w3.heap.size 9 1 (.slice (some ⟨g3, 0, none⟩) (2 * ss.length + 2 + 2 * j + 2) c4) (2 * ss.length + 2 + 2 * j + 2) (scells (us (j + 1)))) := by rw [Hid, HT.out]; exact hown4
             have B4 : Hid (Below w3.heap.size w3 wg) := Ba.out.grown hgrow4 Za.out HLO.out
             have S4 : Hid (wg.cell? ⟨b1, j * 2, none⟩ = some (.string ⟨x.toArray⟩) ∧ wg.cell? ⟨b1, j * 2 + 1, none⟩ = some (.string ⟨y.toArray⟩)) := ⟨(hgrow4.cell_far ⟨b1, j * 2, none⟩ hb3.out HKB.out.symm).trans Sa.out.1, (hgrow4.cell_far ⟨b1, j * 2 + 1, none⟩ hb3.out HKB.out.symm).trans Sa.out.2⟩
             clear hown4 hgrow4 hat4 hlt4))
          all_goals
           have HO5 : Hid (wg.ownsRow w3.heap.size 9 1 (.slice (some ⟨g3, 0, none⟩) (2 * ss.length + 2 + 2 * (j + 1)) c4) (2 * ss.length + 2 + 2 * (j + 1)) (scells (us (j + 1)))) := HO4.out
           clear Sa Oa Na Ba Sr
           go_wp2
           go_roundw
           case rel => exact ⟨j + 1, c4, g3, by omega, by go_num, rfl, HO5.out, B4.out⟩
           case measure => simp [intOf]; omega
        · have hjl : j = l.length := by omega
          subst hjl
          have HI := hidOwn hown
          clear hown
          go_wp2_with fail
          refine (HKL.out _ _ _ _ HI.out).mono ?_
          rintro e w5 ⟨rfl, b5⟩
          have B5 := hwt.trans (b5.mono hwt.size)
          clear b5
          go_wp2
          go_ret
          exact ⟨rfl, B5⟩
end Go.Proofs.YthnddgdnialogaaGreatDoor
