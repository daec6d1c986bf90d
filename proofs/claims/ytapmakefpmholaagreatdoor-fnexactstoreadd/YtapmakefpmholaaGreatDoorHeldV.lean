/-
  Contract: the nodes of a store in a map, of the program (written by mkheld.py).
-/
import Derived.Test.YtapmakefpmholaaGreatDoorMathWay
import Derived.Test.YtapmakefpmholaaGreatDoorStAll
import Derived.Test.YtapmakefpmholaaGreatDoorIReadN
import Derived.Test.YtapmakefpmholaaGreatDoorISum
import Derived.Test.YtapmakefpmholaaGreatDoorMath2
import Derived.Deep.RegionHeld3
namespace Go.Proofs.YtapmakefpmholaaGreatDoor
open Go.RowKit
set_option linter.unusedVariables false

/-- What heldNodes answers. -/
def HeldPostV (w : World) (ok : Bool) (ps : List PairL) (e : Ending) (w' : World) : Prop := match ok with
  | false => e = .returned (.tuple #[.map none, .bool false]) ∧ Below w.heap.size w w'
  | true => ∃ mb : Nat, e = .returned (.tuple #[.map (some mb), .bool true]) ∧ HeldM w' mb ps ps.length ∧ w.heap.size ≤ mb ∧ Below w.heap.size w w'

set_option maxRecDepth 100000 in
set_option maxHeartbeats 2000000 in
theorem impl_heldNodesV (a : Option Addr) (cap : Nat) (ps : List PairL) (w : World) (hT : Tab w) (hl : ps.length ≤ 1048576) (hm : ∀ p ∈ ps, p.1.length ≤ 1048576 ∧ p.2.length ≤ 1048576) (hs : IsPairs w a ps) :
    Calls Tryz.prog 22 #[.slice a ps.length cap] w fun e w' => HeldPostV w (storeOkL ps) ps e w' := by
  have HT : Hid (Tab w) := hT
  clear hT
  by_cases h400 : ps.length ≤ 400
  · have h400' : (ps.length : Int) ≤ 400 := by omega
    have hm2 : ∀ j, j < ps.length → (keyAt ps j).length ≤ 1048576 ∧ (valAt ps j).length ≤ 1048576 := fun j h => by rw [keyAt_lt ps j h, valAt_lt ps j h]; exact hm _ (List.getElem_mem _)
    have HS : Hid (∀ W, Below w.heap.size w W → ∀ j, j < ps.length → ∃ b off, a = some ⟨b, off, none⟩ ∧ W.cell? ⟨b, off + j * 2, none⟩ = some (.string ⟨(keyAt ps j).toArray⟩) ∧ W.cell? ⟨b, off + j * 2 + 1, none⟩ = some (.string ⟨(valAt ps j).toArray⟩) ∧ (0 < j → W.cell? ⟨b, off + (j - 1) * 2, none⟩ = some (.string ⟨(keyAt ps (j - 1)).toArray⟩))) := fun W hW j h => by
      rcases hs.later hW with h' | ⟨b, off, h', hc⟩
      · rw [h'] at h; simp at h
      · refine ⟨b, off, h', ?_, ?_, fun h0 => ?_⟩
        · rw [keyAt_lt ps j h]; exact (hc j h).1
        · rw [valAt_lt ps j h]; exact (hc j h).2
        · rw [keyAt_lt ps (j - 1) (by omega)]; exact (hc (j - 1) (by omega)).1
    obtain ⟨r, hr⟩ : ∃ r, r = storeOkL ps := ⟨_, rfl⟩
    have HBAD : Hid (∀ j, j < ps.length → stOk ps j = false → r = false) := fun j h hb => by rw [hr]; exact storeOk_bad ps j h hb
    have HALL : Hid ((∀ j, j < ps.length → stOk ps j = true) → r = true) := fun h => by rw [hr]; exact storeOk_all ps h400 h
    have M0 : Hid (HeldM (w.alloc (.map #[] 0)) w.heap.size ps 0) := heldM_made w ps
    have B0 : Hid (Below w.heap.size w (w.alloc (.map #[] 0))) := (Below.refl _ _).alloc (Nat.le_refl _) _
    rw [← hr]
    have hmm := @run_makeMap Tryz.prog
    clear hm hs hr
    go_enter Tryz.func22, Tryz.ntmps22
    go_wp2
    clear hmm
    go_loopw [5, 6, 7, 8, 15] (fun _ _ _ _ i wr => ∃ j : Nat, j ≤ ps.length ∧ i = .int .i64 (j : Int) ∧ Hid (∀ q, q < j → stOk ps q = true) ∧ HeldM wr w.heap.size ps j ∧ Below w.heap.size w wr) (fun _ _ _ _ i _ => ps.length - (intOf i).toNat)
    case atStart => exact ⟨0, Nat.zero_le _, rfl, fun q hq => by omega, M0.out, B0.out⟩
    case round =>
      obtain ⟨j, hj, rfl, HA, hom, hbel⟩ := hrel
      have hsz := hbel.size
      by_cases hlt : j < ps.length
      · obtain ⟨b, off, ha, c1, c2, c3⟩ := HS.out wr hbel j hlt
        subst ha
        have m1 := hm2 j hlt
        have hj0 : (0 : Int) ≤ (j : Int) := by omega
        have hj1 : (j : Int) < (ps.length : Int) := by omega
        have HB : Hid (stOk ps j = false → r = false) := HBAD.out j hlt
        have HN : Hid (stOk ps j = true → ∀ q, q < j + 1 → stOk ps q = true) := fun h q hq => by
          by_cases e : q = j
          · rw [e]; exact h
          · exact HA.out q (by omega)
        have HO2 : Hid (stOk ps j = ((readNode (valAt ps j)).isSome && (sumL (valAt ps j) == keyAt ps j) && (decide (j = 0) || Op.bytesLess (keyAt ps (j - 1)) (keyAt ps j)))) := rfl
        have HWL : Hid (w.heap.size < wr.heap.size) := hom.lt
        obtain ⟨x, hx⟩ : ∃ x, x = keyAt ps j := ⟨_, rfl⟩
        obtain ⟨y, hy⟩ : ∃ y, y = valAt ps j := ⟨_, rfl⟩
        rw [← hx] at c1 m1 HO2
        rw [← hy] at c2 m1 HO2
        have hyl : y.length ≤ 1048576 := m1.2
        have HKR : Hid (∀ W, Calls Tryz.prog 31 #[.string ⟨y.toArray⟩] W fun e w' => ReadPost W (readNode y) e w') := fun W => impl_readNode y W hyl
        have Bs : Hid (Below w.heap.size w (wr.alloc (.cells #[.string ⟨x.toArray⟩, .string ⟨y.toArray⟩] 43))) := hbel.alloc hsz _
        have Xs : Hid ((wr.alloc (.cells #[.string ⟨x.toArray⟩, .string ⟨y.toArray⟩] 43)).heap[wr.heap.size]? = some (.cells #[.string ⟨x.toArray⟩, .string ⟨y.toArray⟩] 43 (0, 0))) := heap_alloc_new wr _
        have Ms : Hid (HeldM (wr.alloc (.cells #[.string ⟨x.toArray⟩, .string ⟨y.toArray⟩] 43)) w.heap.size ps j) := hom.alloc _
        have HXK : Hid (x = keyAt ps j) := hx
        have HYV : Hid (y = valAt ps j) := hy
        have HLT : Hid (j < ps.length) := hlt
        clear hx hy HA HBAD HALL hm2 HS hom M0 B0
        by_cases hz : j = 0
        · subst hz
          simp only [Nat.zero_mul, Nat.add_zero] at c1 c2
          have hzb : decide ((0 : Int) < ((0 : Nat) : Int)) = false := decide_eq_false (by omega)
          have HPRE : Hid ((decide ((0 : Nat) = 0) || Op.bytesLess (keyAt ps (0 - 1)) x) = true) := by rw [Hid]; simp
          clear c3
          go_wp2
          go_quiet (fail)
          obtain ⟨ww, hww⟩ : ∃ ww, ww = (wr.alloc (.cells #[.string ⟨x.toArray⟩, .string ⟨y.toArray⟩] 43)).drewN nq := ⟨_, rfl⟩
          have B1 : Hid (Below w.heap.size w ww) := by rw [Hid, hww]; exact below_dr Bs.out
          have X1 : Hid (ww.heap[wr.heap.size]? = some (.cells #[.string ⟨x.toArray⟩, .string ⟨y.toArray⟩] 43 (0, 0))) := by rw [Hid, hww]; exact Xs.out
          have HOM : Hid (HeldM ww w.heap.size ps 0) := by rw [Hid, hww]; exact Ms.out
          have HW1 : Hid ((wr.alloc (.cells #[.string ⟨x.toArray⟩, .string ⟨y.toArray⟩] 43)).drewN nq = ww) := hww.symm
          obtain ⟨s0, s1, sf⟩ := two_cellsS X1.out
          rw [HW1.out]
          clear sf hww HW1 c1 c2 Bs Xs Ms
          go_wp2_with fail
          clear s0 s1
          refine (HKR.out _).mono ?_
          rintro e w2 ⟨a4, m4, c4, rfl, o4, b2⟩
          have B2 : Hid (Below w.heap.size w w2) := B1.out.trans (b2.mono B1.out.size)
          have X2 : Hid (w2.heap[wr.heap.size]? = some (.cells #[.string ⟨x.toArray⟩, .string ⟨y.toArray⟩] 43 (0, 0))) := (b2.block wr.heap.size (lt_of_block X1.out)).trans X1.out
          have HWL2 : Hid (w.heap.size < w2.heap.size) := Nat.lt_of_lt_of_le (Nat.lt_trans HWL.out (lt_of_block X1.out)) b2.size
          have M2 : Hid (HeldM w2 w.heap.size ps 0) := HOM.out.kept (grown_of_below b2 none) trivial
          have O2 : Hid (w2.ownsRow (w.heap.size + 1) 9 1 (.slice a4 m4 c4) (nodeAt y).ls.length (scells (nodeAt y).ls)) := o4.mono (Nat.lt_trans HWL.out (lt_of_block X1.out))
          obtain ⟨nd, hnd⟩ : ∃ nd, nd = (readNode y).getD zeroN := ⟨_, rfl⟩
          rw [← hnd]
          obtain ⟨k, p, ls, v⟩ := nd
          simp only
          have HND : Hid (nodeAt y = ⟨k, p, ls, v⟩) := hnd.symm
          have P2 : Hid (Below w2.heap.size w2 (w2.alloc (.cells #[.int .i64 k, .string ⟨p.toArray⟩, .slice a4 m4 c4, .string ⟨v.toArray⟩] 53))) := (Below.refl _ _).alloc (Nat.le_refl _) _
          have O2a : Hid ((w2.alloc (.cells #[.int .i64 k, .string ⟨p.toArray⟩, .slice a4 m4 c4, .string ⟨v.toArray⟩] 53)).ownsRow (w.heap.size + 1) 9 1 (.slice a4 m4 c4) (nodeAt y).ls.length (scells (nodeAt y).ls)) := kept1 O2.out P2.out
          have B2a : Hid (Below w.heap.size w (w2.alloc (.cells #[.int .i64 k, .string ⟨p.toArray⟩, .slice a4 m4 c4, .string ⟨v.toArray⟩] 53))) := B2.out.trans (P2.out.mono B2.out.size)
          have X2a : Hid ((w2.alloc (.cells #[.int .i64 k, .string ⟨p.toArray⟩, .slice a4 m4 c4, .string ⟨v.toArray⟩] 53)).heap[wr.heap.size]? = some (.cells #[.string ⟨x.toArray⟩, .string ⟨y.toArray⟩] 43 (0, 0))) := (P2.out.block wr.heap.size (lt_of_block X2.out)).trans X2.out
          have Y2a : Hid ((w2.alloc (.cells #[.int .i64 k, .string ⟨p.toArray⟩, .slice a4 m4 c4, .string ⟨v.toArray⟩] 53)).heap[w2.heap.size]? = some (.cells #[.int .i64 k, .string ⟨p.toArray⟩, .slice a4 m4 c4, .string ⟨v.toArray⟩] 53 (0, 0))) := heap_alloc_new w2 _
          have M2a : Hid (HeldM (w2.alloc (.cells #[.int .i64 k, .string ⟨p.toArray⟩, .slice a4 m4 c4, .string ⟨v.toArray⟩] 53)) w.heap.size ps 0) := M2.out.alloc _
          obtain ⟨ok, hok⟩ : ∃ ok, ok = (readNode y).isSome := ⟨_, rfl⟩
          rw [← hok]
          have HOK : Hid (ok = (readNode y).isSome) := hok
          clear o4 b2 hnd hok O2 X2 M2 B2 P2
          obtain ⟨s0, s1, sf⟩ := two_cellsS X2a.out
          obtain ⟨n0, n1, n2, n3, nf⟩ := quad_cells Y2a.out
          clear sf nf
          cases ok with
          | false =>
            have HR : Hid (r = false) := HB.out (by rw [HO2.out, ← HOK.out]; simp)
            have B2n : Hid (∀ q, Below w.heap.size w ((w2.alloc (.cells #[.int .i64 k, .string ⟨p.toArray⟩, .slice a4 m4 c4, .string ⟨v.toArray⟩] 53)).drewN q)) := fun q => below_dr B2a.out
            clear HB HN HO2
            go_wp2
            go_quiet (fail)
            go_wp2
            go_ret2
            rw [HR.out]
            exact ⟨rfl, B2n.out _⟩
          | true =>
            have S1 : Hid ((w2.alloc (.cells #[.int .i64 k, .string ⟨p.toArray⟩, .slice a4 m4 c4, .string ⟨v.toArray⟩] 53)).drew.cell? ⟨wr.heap.size, 0, none⟩ = some (.string ⟨x.toArray⟩) ∧ (w2.alloc (.cells #[.int .i64 k, .string ⟨p.toArray⟩, .slice a4 m4 c4, .string ⟨v.toArray⟩] 53)).drew.cell? ⟨wr.heap.size, 1, none⟩ = some (.string ⟨y.toArray⟩)) := ⟨s0, s1⟩
            have S1L : Hid (wr.heap.size < (w2.alloc (.cells #[.int .i64 k, .string ⟨p.toArray⟩, .slice a4 m4 c4, .string ⟨v.toArray⟩] 53)).heap.size ∧ w2.heap.size < (w2.alloc (.cells #[.int .i64 k, .string ⟨p.toArray⟩, .slice a4 m4 c4, .string ⟨v.toArray⟩] 53)).heap.size) := ⟨lt_of_block X2a.out, lt_of_block Y2a.out⟩
            have TT : Hid (Tab (w2.alloc (.cells #[.int .i64 k, .string ⟨p.toArray⟩, .slice a4 m4 c4, .string ⟨v.toArray⟩] 53)).drew) := (fun h => (⟨h.1, h.2⟩ : Tab (w2.alloc (.cells #[.int .i64 k, .string ⟨p.toArray⟩, .slice a4 m4 c4, .string ⟨v.toArray⟩] 53)).drew)) (HT.out.later B2a.out)
            have KS := impl_sum y (w2.alloc (.cells #[.int .i64 k, .string ⟨p.toArray⟩, .slice a4 m4 c4, .string ⟨v.toArray⟩] 53)).drew hyl TT.out
            obtain ⟨su, hsu⟩ : ∃ su, su = sumL y := ⟨_, rfl⟩
            have HSU : Hid (su = sumL y) := hsu
            rw [← hsu] at KS
            clear hsu TT
            by_cases he : x = su
            · have heb : (x == su) = true := by rw [beq_iff_eq]; exact he
              have HTR : Hid (stOk ps 0 = true) := by rw [Hid, HO2.out, ← HOK.out, ← HSU.out, ← he, HPRE.out]; simp
              have HXL : Hid (x.length = 32) := by rw [Hid, he, HSU.out]; exact sumL_len y
              have hxx : (⟨x.toArray⟩ : ByteArray) = ⟨su.toArray⟩ := by rw [he]
              clear s0 s1 n0 n1 n2 n3
              subst he
              go_wp2_with fail
              go_region_held3 (fun w' => w'.cell? ⟨wr.heap.size, 0, none⟩ = some (.string ⟨x.toArray⟩) ∧ w'.cell? ⟨wr.heap.size, 1, none⟩ = some (.string ⟨y.toArray⟩))
                (first | with_reducible exact S3.out | with_reducible exact S1.out)
                ((go_at_call 32
                  with_reducible refine KS.mono ?_
                  rintro e w3 ⟨rfl, b3'⟩
                  have b3 : Below (w2.alloc (.cells #[.int .i64 k, .string ⟨p.toArray⟩, .slice a4 m4 c4, .string ⟨v.toArray⟩] 53)).heap.size (w2.alloc (.cells #[.int .i64 k, .string ⟨p.toArray⟩, .slice a4 m4 c4, .string ⟨v.toArray⟩] 53)) w3 := ⟨b3'.os, b3'.tape, b3'.output, b3'.size, b3'.block⟩
                  have X3 : Hid (w3.heap[wr.heap.size]? = some (.cells #[.string ⟨x.toArray⟩, .string ⟨y.toArray⟩] 43 (0, 0))) := (b3.block wr.heap.size S1L.out.1).trans X2a.out
                  have Y3 : Hid (w3.heap[w2.heap.size]? = some (.cells #[.int .i64 k, .string ⟨p.toArray⟩, .slice a4 m4 c4, .string ⟨v.toArray⟩] 53 (0, 0))) := (b3.block w2.heap.size S1L.out.2).trans Y2a.out
                  have S3 : Hid (w3.cell? ⟨wr.heap.size, 0, none⟩ = some (.string ⟨x.toArray⟩) ∧ w3.cell? ⟨wr.heap.size, 1, none⟩ = some (.string ⟨y.toArray⟩)) := ⟨(two_cellsS X3.out).1, (two_cellsS X3.out).2.1⟩
                  have B3 : Hid (Below w.heap.size w w3) := B2a.out.trans (b3.mono B2a.out.size)
                  have M3 : Hid (HeldM w3 w.heap.size ps 0) := M2a.out.kept (grown_of_below b3 none) trivial
                  have O3 : Hid (w3.ownsRow (w.heap.size + 1) 9 1 (.slice a4 m4 c4) (nodeAt y).ls.length (scells (nodeAt y).ls)) := kept1 O2a.out b3
                  clear b3' b3))
              all_goals
                have KK := impl_keyOfHash x w3.drew HXL.out
                have Sd : Hid (w3.drew.cell? ⟨wr.heap.size, 0, none⟩ = some (.string ⟨x.toArray⟩) ∧ w3.drew.cell? ⟨wr.heap.size, 1, none⟩ = some (.string ⟨y.toArray⟩) ∧ w3.drew.cell? ⟨w2.heap.size, 0, none⟩ = some (.int .i64 k) ∧ w3.drew.cell? ⟨w2.heap.size, 1, none⟩ = some (.string ⟨p.toArray⟩) ∧ w3.drew.cell? ⟨w2.heap.size, 2, none⟩ = some (.slice a4 m4 c4) ∧ w3.drew.cell? ⟨w2.heap.size, 3, none⟩ = some (.string ⟨v.toArray⟩)) := ⟨(two_cellsS X3.out).1, (two_cellsS X3.out).2.1, (quad_cells Y3.out).1, (quad_cells Y3.out).2.1, (quad_cells Y3.out).2.2.1, (quad_cells Y3.out).2.2.2.1⟩
                clear S1 S3 KS X2a Y2a M2a B2a
                go_wp2_with fail
                go_region_held3 (fun w' => w'.cell? ⟨wr.heap.size, 0, none⟩ = some (.string ⟨x.toArray⟩) ∧ w'.cell? ⟨wr.heap.size, 1, none⟩ = some (.string ⟨y.toArray⟩) ∧ w'.cell? ⟨w2.heap.size, 0, none⟩ = some (.int .i64 k) ∧ w'.cell? ⟨w2.heap.size, 1, none⟩ = some (.string ⟨p.toArray⟩) ∧ w'.cell? ⟨w2.heap.size, 2, none⟩ = some (.slice a4 m4 c4) ∧ w'.cell? ⟨w2.heap.size, 3, none⟩ = some (.string ⟨v.toArray⟩))
                  (first | with_reducible exact S5.out | with_reducible exact S4.out | with_reducible exact Sd.out)
                  ((go_at_call 33
                    with_reducible refine KK.mono ?_
                    rintro e w4 ⟨rfl, b4'⟩
                    have b4 : Below w3.heap.size w3 w4 := ⟨b4'.os, b4'.tape, b4'.output, b4'.size, b4'.block⟩
                    have X4 : Hid (w4.heap[wr.heap.size]? = some (.cells #[.string ⟨x.toArray⟩, .string ⟨y.toArray⟩] 43 (0, 0))) := (b4.block wr.heap.size (lt_of_block X3.out)).trans X3.out
                    have Y4 : Hid (w4.heap[w2.heap.size]? = some (.cells #[.int .i64 k, .string ⟨p.toArray⟩, .slice a4 m4 c4, .string ⟨v.toArray⟩] 53 (0, 0))) := (b4.block w2.heap.size (lt_of_block Y3.out)).trans Y3.out
                    have S4 : Hid (w4.cell? ⟨wr.heap.size, 0, none⟩ = some (.string ⟨x.toArray⟩) ∧ w4.cell? ⟨wr.heap.size, 1, none⟩ = some (.string ⟨y.toArray⟩) ∧ w4.cell? ⟨w2.heap.size, 0, none⟩ = some (.int .i64 k) ∧ w4.cell? ⟨w2.heap.size, 1, none⟩ = some (.string ⟨p.toArray⟩) ∧ w4.cell? ⟨w2.heap.size, 2, none⟩ = some (.slice a4 m4 c4) ∧ w4.cell? ⟨w2.heap.size, 3, none⟩ = some (.string ⟨v.toArray⟩)) := ⟨(two_cellsS X4.out).1, (two_cellsS X4.out).2.1, (quad_cells Y4.out).1, (quad_cells Y4.out).2.1, (quad_cells Y4.out).2.2.1, (quad_cells Y4.out).2.2.2.1⟩
                    have B4 : Hid (Below w.heap.size w w4) := B3.out.trans (b4.mono B3.out.size)
                    have M4 := M3.out.kept (grown_of_below b4 none) trivial
                    obtain ⟨w5, hrun5, hm5, hg5⟩ := M4.update HLT.out (by unfold maxLen; omega) HXK.out HYV.out HXL.out HND.out (kept1 O3.out b4)
                    have B5 : Hid (Below w.heap.size w w5) := B4.out.grown hg5 B4.out.size (fun q hq => by simp at hq; omega)
                    have M5 : Hid (HeldM w5 w.heap.size ps (0 + 1)) := hm5
                    have X5 := (hg5.block wr.heap.size (lt_of_block X4.out) (by simp; have := HWL.out; omega)).trans X4.out
                    have Y5 := (hg5.block w2.heap.size (lt_of_block Y4.out) (by simp; have := HWL2.out; omega)).trans Y4.out
                    have S5 : Hid (w5.cell? ⟨wr.heap.size, 0, none⟩ = some (.string ⟨x.toArray⟩) ∧ w5.cell? ⟨wr.heap.size, 1, none⟩ = some (.string ⟨y.toArray⟩) ∧ w5.cell? ⟨w2.heap.size, 0, none⟩ = some (.int .i64 k) ∧ w5.cell? ⟨w2.heap.size, 1, none⟩ = some (.string ⟨p.toArray⟩) ∧ w5.cell? ⟨w2.heap.size, 2, none⟩ = some (.slice a4 m4 c4) ∧ w5.cell? ⟨w2.heap.size, 3, none⟩ = some (.string ⟨v.toArray⟩)) := ⟨(two_cellsS X5).1, (two_cellsS X5).2.1, (quad_cells Y5).1, (quad_cells Y5).2.1, (quad_cells Y5).2.2.1, (quad_cells Y5).2.2.2.1⟩
                    clear b4' b4 hm5 hg5 M4 X5 Y5))
                all_goals
                  go_wp2
                  go_roundw
                  case rel => exact ⟨0 + 1, by omega, by go_num, HN.out HTR.out, M5.out, B5.out⟩
                  case measure => simp [intOf]; omega
            · have heb : (x == su) = false := by rw [beq_eq_false_iff_ne]; exact he
              have HR : Hid (r = false) := HB.out (by rw [HO2.out, ← HSU.out]; have h : (su == x) = false := (by rw [beq_eq_false_iff_ne]; exact fun e => he e.symm); rw [h]; simp)
              clear s0 s1 n0 n1 n2 n3 HB HN HO2
              go_wp2_with fail
              go_region_held3 (fun w' => w'.cell? ⟨wr.heap.size, 0, none⟩ = some (.string ⟨x.toArray⟩) ∧ w'.cell? ⟨wr.heap.size, 1, none⟩ = some (.string ⟨y.toArray⟩))
                (first | with_reducible exact S3.out | with_reducible exact S1.out)
                ((go_at_call 32
                  with_reducible refine KS.mono ?_
                  rintro e w3 ⟨rfl, b3'⟩
                  have b3 : Below (w2.alloc (.cells #[.int .i64 k, .string ⟨p.toArray⟩, .slice a4 m4 c4, .string ⟨v.toArray⟩] 53)).heap.size (w2.alloc (.cells #[.int .i64 k, .string ⟨p.toArray⟩, .slice a4 m4 c4, .string ⟨v.toArray⟩] 53)) w3 := ⟨b3'.os, b3'.tape, b3'.output, b3'.size, b3'.block⟩
                  have X3 : Hid (w3.heap[wr.heap.size]? = some (.cells #[.string ⟨x.toArray⟩, .string ⟨y.toArray⟩] 43 (0, 0))) := (b3.block wr.heap.size S1L.out.1).trans X2a.out
                  have S3 : Hid (w3.cell? ⟨wr.heap.size, 0, none⟩ = some (.string ⟨x.toArray⟩) ∧ w3.cell? ⟨wr.heap.size, 1, none⟩ = some (.string ⟨y.toArray⟩)) := ⟨(two_cellsS X3.out).1, (two_cellsS X3.out).2.1⟩
                  have B3 : Hid (Below w.heap.size w w3) := B2a.out.trans (b3.mono B2a.out.size)
                  clear b3' b3))
              all_goals
                go_wp2
                go_ret2
                rw [HR.out]
                exact ⟨rfl, B3.out⟩
        · obtain ⟨i1, hi1⟩ : ∃ i1, i1 = j - 1 := ⟨_, rfl⟩
          have d1 := c3 (by omega)
          rw [← hi1] at d1 HO2
          have hz' : (0 : Int) < (j : Int) := by omega
          have hz'' : 0 < j := by omega
          have hzb : decide ((0 : Int) < (j : Int)) = true := by simp; omega
          have hzi : IntKind.i64.wrap ((j : Int) - 1) = (i1 : Int) := by rw [i64_wrap_small _ (by omega) (by omega)]; omega
          have hzt : ((i1 : Int)).toNat = i1 := by omega
          have hi2 : (j : Int) - 1 = (i1 : Int) := by omega
          have hi0 : (0 : Int) ≤ (i1 : Int) := by omega
          have hi3 : (i1 : Int) < (ps.length : Int) := by omega
          obtain ⟨z, hz2⟩ : ∃ z, z = keyAt ps i1 := ⟨_, rfl⟩
          rw [← hz2] at d1 HO2
          have d1a : (wr.alloc (.cells #[.string ⟨x.toArray⟩, .string ⟨y.toArray⟩] 43)).cell? ⟨b, off + i1 * 2, none⟩ = some (.string ⟨z.toArray⟩) := by rw [World.cell?_alloc_lt _ _ _ (World.block_lt_of_cell? wr _ d1)]; exact d1
          clear c3 hi1 hz2
          cases q4 : Op.bytesLess z x with
          | false =>
            have q4' : Op.bytesLess (⟨z.toArray⟩ : ByteArray).toList (⟨x.toArray⟩ : ByteArray).toList = false := by rw [ba_toList, ba_toList]; exact q4
            have HR : Hid (r = false) := HB.out (by rw [HO2.out, q4]; simp [hz])
            have Bn : Hid (∀ q, Below w.heap.size w ((wr.alloc (.cells #[.string ⟨x.toArray⟩, .string ⟨y.toArray⟩] 43)).drewN q)) := fun q => below_dr Bs.out
            clear HO2
            go_wp2
            go_quiet (fail)
            go_wp2
            go_ret2
            rw [HR.out]
            exact ⟨rfl, Bn.out _⟩
          | true =>
            have q4' : Op.bytesLess (⟨z.toArray⟩ : ByteArray).toList (⟨x.toArray⟩ : ByteArray).toList = true := by rw [ba_toList, ba_toList]; exact q4
            have HQ4 : Hid (Op.bytesLess z x = true) := q4
            go_wp2
            go_quiet (fail)
            obtain ⟨ww, hww⟩ : ∃ ww, ww = (wr.alloc (.cells #[.string ⟨x.toArray⟩, .string ⟨y.toArray⟩] 43)).drewN nq := ⟨_, rfl⟩
            have B1 : Hid (Below w.heap.size w ww) := by rw [Hid, hww]; exact below_dr Bs.out
            have X1 : Hid (ww.heap[wr.heap.size]? = some (.cells #[.string ⟨x.toArray⟩, .string ⟨y.toArray⟩] 43 (0, 0))) := by rw [Hid, hww]; exact Xs.out
            have HOM : Hid (HeldM ww w.heap.size ps j) := by rw [Hid, hww]; exact Ms.out
            have HW1 : Hid ((wr.alloc (.cells #[.string ⟨x.toArray⟩, .string ⟨y.toArray⟩] 43)).drewN nq = ww) := hww.symm
            obtain ⟨s0, s1, sf⟩ := two_cellsS X1.out
            rw [HW1.out]
            clear sf hww HW1 c1 c2 d1 d1a Bs Xs Ms
            have HPRE : Hid ((decide (j = 0) || Op.bytesLess z x) = true) := by rw [Hid, HQ4.out]; simp
            clear q4 q4'
            go_wp2_with fail
            clear s0 s1
            refine (HKR.out _).mono ?_
            rintro e w2 ⟨a4, m4, c4, rfl, o4, b2⟩
            have B2 : Hid (Below w.heap.size w w2) := B1.out.trans (b2.mono B1.out.size)
            have X2 : Hid (w2.heap[wr.heap.size]? = some (.cells #[.string ⟨x.toArray⟩, .string ⟨y.toArray⟩] 43 (0, 0))) := (b2.block wr.heap.size (lt_of_block X1.out)).trans X1.out
            have HWL2 : Hid (w.heap.size < w2.heap.size) := Nat.lt_of_lt_of_le (Nat.lt_trans HWL.out (lt_of_block X1.out)) b2.size
            have M2 : Hid (HeldM w2 w.heap.size ps j) := HOM.out.kept (grown_of_below b2 none) trivial
            have O2 : Hid (w2.ownsRow (w.heap.size + 1) 9 1 (.slice a4 m4 c4) (nodeAt y).ls.length (scells (nodeAt y).ls)) := o4.mono (Nat.lt_trans HWL.out (lt_of_block X1.out))
            obtain ⟨nd, hnd⟩ : ∃ nd, nd = (readNode y).getD zeroN := ⟨_, rfl⟩
            rw [← hnd]
            obtain ⟨k, p, ls, v⟩ := nd
            simp only
            have HND : Hid (nodeAt y = ⟨k, p, ls, v⟩) := hnd.symm
            have P2 : Hid (Below w2.heap.size w2 (w2.alloc (.cells #[.int .i64 k, .string ⟨p.toArray⟩, .slice a4 m4 c4, .string ⟨v.toArray⟩] 53))) := (Below.refl _ _).alloc (Nat.le_refl _) _
            have O2a : Hid ((w2.alloc (.cells #[.int .i64 k, .string ⟨p.toArray⟩, .slice a4 m4 c4, .string ⟨v.toArray⟩] 53)).ownsRow (w.heap.size + 1) 9 1 (.slice a4 m4 c4) (nodeAt y).ls.length (scells (nodeAt y).ls)) := kept1 O2.out P2.out
            have B2a : Hid (Below w.heap.size w (w2.alloc (.cells #[.int .i64 k, .string ⟨p.toArray⟩, .slice a4 m4 c4, .string ⟨v.toArray⟩] 53))) := B2.out.trans (P2.out.mono B2.out.size)
            have X2a : Hid ((w2.alloc (.cells #[.int .i64 k, .string ⟨p.toArray⟩, .slice a4 m4 c4, .string ⟨v.toArray⟩] 53)).heap[wr.heap.size]? = some (.cells #[.string ⟨x.toArray⟩, .string ⟨y.toArray⟩] 43 (0, 0))) := (P2.out.block wr.heap.size (lt_of_block X2.out)).trans X2.out
            have Y2a : Hid ((w2.alloc (.cells #[.int .i64 k, .string ⟨p.toArray⟩, .slice a4 m4 c4, .string ⟨v.toArray⟩] 53)).heap[w2.heap.size]? = some (.cells #[.int .i64 k, .string ⟨p.toArray⟩, .slice a4 m4 c4, .string ⟨v.toArray⟩] 53 (0, 0))) := heap_alloc_new w2 _
            have M2a : Hid (HeldM (w2.alloc (.cells #[.int .i64 k, .string ⟨p.toArray⟩, .slice a4 m4 c4, .string ⟨v.toArray⟩] 53)) w.heap.size ps j) := M2.out.alloc _
            obtain ⟨ok, hok⟩ : ∃ ok, ok = (readNode y).isSome := ⟨_, rfl⟩
            rw [← hok]
            have HOK : Hid (ok = (readNode y).isSome) := hok
            clear o4 b2 hnd hok O2 X2 M2 B2 P2
            obtain ⟨s0, s1, sf⟩ := two_cellsS X2a.out
            obtain ⟨n0, n1, n2, n3, nf⟩ := quad_cells Y2a.out
            clear sf nf
            cases ok with
            | false =>
              have HR : Hid (r = false) := HB.out (by rw [HO2.out, ← HOK.out]; simp)
              have B2n : Hid (∀ q, Below w.heap.size w ((w2.alloc (.cells #[.int .i64 k, .string ⟨p.toArray⟩, .slice a4 m4 c4, .string ⟨v.toArray⟩] 53)).drewN q)) := fun q => below_dr B2a.out
              clear HB HN HO2
              go_wp2
              go_quiet (fail)
              go_wp2
              go_ret2
              rw [HR.out]
              exact ⟨rfl, B2n.out _⟩
            | true =>
              have S1 : Hid ((w2.alloc (.cells #[.int .i64 k, .string ⟨p.toArray⟩, .slice a4 m4 c4, .string ⟨v.toArray⟩] 53)).drew.cell? ⟨wr.heap.size, 0, none⟩ = some (.string ⟨x.toArray⟩) ∧ (w2.alloc (.cells #[.int .i64 k, .string ⟨p.toArray⟩, .slice a4 m4 c4, .string ⟨v.toArray⟩] 53)).drew.cell? ⟨wr.heap.size, 1, none⟩ = some (.string ⟨y.toArray⟩)) := ⟨s0, s1⟩
              have S1L : Hid (wr.heap.size < (w2.alloc (.cells #[.int .i64 k, .string ⟨p.toArray⟩, .slice a4 m4 c4, .string ⟨v.toArray⟩] 53)).heap.size ∧ w2.heap.size < (w2.alloc (.cells #[.int .i64 k, .string ⟨p.toArray⟩, .slice a4 m4 c4, .string ⟨v.toArray⟩] 53)).heap.size) := ⟨lt_of_block X2a.out, lt_of_block Y2a.out⟩
              have TT : Hid (Tab (w2.alloc (.cells #[.int .i64 k, .string ⟨p.toArray⟩, .slice a4 m4 c4, .string ⟨v.toArray⟩] 53)).drew) := (fun h => (⟨h.1, h.2⟩ : Tab (w2.alloc (.cells #[.int .i64 k, .string ⟨p.toArray⟩, .slice a4 m4 c4, .string ⟨v.toArray⟩] 53)).drew)) (HT.out.later B2a.out)
              have KS := impl_sum y (w2.alloc (.cells #[.int .i64 k, .string ⟨p.toArray⟩, .slice a4 m4 c4, .string ⟨v.toArray⟩] 53)).drew hyl TT.out
              obtain ⟨su, hsu⟩ : ∃ su, su = sumL y := ⟨_, rfl⟩
              have HSU : Hid (su = sumL y) := hsu
              rw [← hsu] at KS
              clear hsu TT
              by_cases he : x = su
              · have heb : (x == su) = true := by rw [beq_iff_eq]; exact he
                have HTR : Hid (stOk ps j = true) := by rw [Hid, HO2.out, ← HOK.out, ← HSU.out, ← he, HPRE.out]; simp
                have HXL : Hid (x.length = 32) := by rw [Hid, he, HSU.out]; exact sumL_len y
                have hxx : (⟨x.toArray⟩ : ByteArray) = ⟨su.toArray⟩ := by rw [he]
                clear s0 s1 n0 n1 n2 n3
                subst he
                go_wp2_with fail
                go_region_held3 (fun w' => w'.cell? ⟨wr.heap.size, 0, none⟩ = some (.string ⟨x.toArray⟩) ∧ w'.cell? ⟨wr.heap.size, 1, none⟩ = some (.string ⟨y.toArray⟩))
                  (first | with_reducible exact S3.out | with_reducible exact S1.out)
                  ((go_at_call 32
                    with_reducible refine KS.mono ?_
                    rintro e w3 ⟨rfl, b3'⟩
                    have b3 : Below (w2.alloc (.cells #[.int .i64 k, .string ⟨p.toArray⟩, .slice a4 m4 c4, .string ⟨v.toArray⟩] 53)).heap.size (w2.alloc (.cells #[.int .i64 k, .string ⟨p.toArray⟩, .slice a4 m4 c4, .string ⟨v.toArray⟩] 53)) w3 := ⟨b3'.os, b3'.tape, b3'.output, b3'.size, b3'.block⟩
                    have X3 : Hid (w3.heap[wr.heap.size]? = some (.cells #[.string ⟨x.toArray⟩, .string ⟨y.toArray⟩] 43 (0, 0))) := (b3.block wr.heap.size S1L.out.1).trans X2a.out
                    have Y3 : Hid (w3.heap[w2.heap.size]? = some (.cells #[.int .i64 k, .string ⟨p.toArray⟩, .slice a4 m4 c4, .string ⟨v.toArray⟩] 53 (0, 0))) := (b3.block w2.heap.size S1L.out.2).trans Y2a.out
                    have S3 : Hid (w3.cell? ⟨wr.heap.size, 0, none⟩ = some (.string ⟨x.toArray⟩) ∧ w3.cell? ⟨wr.heap.size, 1, none⟩ = some (.string ⟨y.toArray⟩)) := ⟨(two_cellsS X3.out).1, (two_cellsS X3.out).2.1⟩
                    have B3 : Hid (Below w.heap.size w w3) := B2a.out.trans (b3.mono B2a.out.size)
                    have M3 : Hid (HeldM w3 w.heap.size ps j) := M2a.out.kept (grown_of_below b3 none) trivial
                    have O3 : Hid (w3.ownsRow (w.heap.size + 1) 9 1 (.slice a4 m4 c4) (nodeAt y).ls.length (scells (nodeAt y).ls)) := kept1 O2a.out b3
                    clear b3' b3))
                all_goals
                  have KK := impl_keyOfHash x w3.drew HXL.out
                  have Sd : Hid (w3.drew.cell? ⟨wr.heap.size, 0, none⟩ = some (.string ⟨x.toArray⟩) ∧ w3.drew.cell? ⟨wr.heap.size, 1, none⟩ = some (.string ⟨y.toArray⟩) ∧ w3.drew.cell? ⟨w2.heap.size, 0, none⟩ = some (.int .i64 k) ∧ w3.drew.cell? ⟨w2.heap.size, 1, none⟩ = some (.string ⟨p.toArray⟩) ∧ w3.drew.cell? ⟨w2.heap.size, 2, none⟩ = some (.slice a4 m4 c4) ∧ w3.drew.cell? ⟨w2.heap.size, 3, none⟩ = some (.string ⟨v.toArray⟩)) := ⟨(two_cellsS X3.out).1, (two_cellsS X3.out).2.1, (quad_cells Y3.out).1, (quad_cells Y3.out).2.1, (quad_cells Y3.out).2.2.1, (quad_cells Y3.out).2.2.2.1⟩
                  clear S1 S3 KS X2a Y2a M2a B2a
                  go_wp2_with fail
                  go_region_held3 (fun w' => w'.cell? ⟨wr.heap.size, 0, none⟩ = some (.string ⟨x.toArray⟩) ∧ w'.cell? ⟨wr.heap.size, 1, none⟩ = some (.string ⟨y.toArray⟩) ∧ w'.cell? ⟨w2.heap.size, 0, none⟩ = some (.int .i64 k) ∧ w'.cell? ⟨w2.heap.size, 1, none⟩ = some (.string ⟨p.toArray⟩) ∧ w'.cell? ⟨w2.heap.size, 2, none⟩ = some (.slice a4 m4 c4) ∧ w'.cell? ⟨w2.heap.size, 3, none⟩ = some (.string ⟨v.toArray⟩))
                    (first | with_reducible exact S5.out | with_reducible exact S4.out | with_reducible exact Sd.out)
                    ((go_at_call 33
                      with_reducible refine KK.mono ?_
                      rintro e w4 ⟨rfl, b4'⟩
                      have b4 : Below w3.heap.size w3 w4 := ⟨b4'.os, b4'.tape, b4'.output, b4'.size, b4'.block⟩
                      have X4 : Hid (w4.heap[wr.heap.size]? = some (.cells #[.string ⟨x.toArray⟩, .string ⟨y.toArray⟩] 43 (0, 0))) := (b4.block wr.heap.size (lt_of_block X3.out)).trans X3.out
                      have Y4 : Hid (w4.heap[w2.heap.size]? = some (.cells #[.int .i64 k, .string ⟨p.toArray⟩, .slice a4 m4 c4, .string ⟨v.toArray⟩] 53 (0, 0))) := (b4.block w2.heap.size (lt_of_block Y3.out)).trans Y3.out
                      have S4 : Hid (w4.cell? ⟨wr.heap.size, 0, none⟩ = some (.string ⟨x.toArray⟩) ∧ w4.cell? ⟨wr.heap.size, 1, none⟩ = some (.string ⟨y.toArray⟩) ∧ w4.cell? ⟨w2.heap.size, 0, none⟩ = some (.int .i64 k) ∧ w4.cell? ⟨w2.heap.size, 1, none⟩ = some (.string ⟨p.toArray⟩) ∧ w4.cell? ⟨w2.heap.size, 2, none⟩ = some (.slice a4 m4 c4) ∧ w4.cell? ⟨w2.heap.size, 3, none⟩ = some (.string ⟨v.toArray⟩)) := ⟨(two_cellsS X4.out).1, (two_cellsS X4.out).2.1, (quad_cells Y4.out).1, (quad_cells Y4.out).2.1, (quad_cells Y4.out).2.2.1, (quad_cells Y4.out).2.2.2.1⟩
                      have B4 : Hid (Below w.heap.size w w4) := B3.out.trans (b4.mono B3.out.size)
                      have M4 := M3.out.kept (grown_of_below b4 none) trivial
                      obtain ⟨w5, hrun5, hm5, hg5⟩ := M4.update HLT.out (by unfold maxLen; omega) HXK.out HYV.out HXL.out HND.out (kept1 O3.out b4)
                      have B5 : Hid (Below w.heap.size w w5) := B4.out.grown hg5 B4.out.size (fun q hq => by simp at hq; omega)
                      have M5 : Hid (HeldM w5 w.heap.size ps (j + 1)) := hm5
                      have X5 := (hg5.block wr.heap.size (lt_of_block X4.out) (by simp; have := HWL.out; omega)).trans X4.out
                      have Y5 := (hg5.block w2.heap.size (lt_of_block Y4.out) (by simp; have := HWL2.out; omega)).trans Y4.out
                      have S5 : Hid (w5.cell? ⟨wr.heap.size, 0, none⟩ = some (.string ⟨x.toArray⟩) ∧ w5.cell? ⟨wr.heap.size, 1, none⟩ = some (.string ⟨y.toArray⟩) ∧ w5.cell? ⟨w2.heap.size, 0, none⟩ = some (.int .i64 k) ∧ w5.cell? ⟨w2.heap.size, 1, none⟩ = some (.string ⟨p.toArray⟩) ∧ w5.cell? ⟨w2.heap.size, 2, none⟩ = some (.slice a4 m4 c4) ∧ w5.cell? ⟨w2.heap.size, 3, none⟩ = some (.string ⟨v.toArray⟩)) := ⟨(two_cellsS X5).1, (two_cellsS X5).2.1, (quad_cells Y5).1, (quad_cells Y5).2.1, (quad_cells Y5).2.2.1, (quad_cells Y5).2.2.2.1⟩
                      clear b4' b4 hm5 hg5 M4 X5 Y5))
                  all_goals
                    go_wp2
                    go_roundw
                    case rel => exact ⟨j + 1, by omega, by go_num, HN.out HTR.out, M5.out, B5.out⟩
                    case measure => simp [intOf]; omega
              · have heb : (x == su) = false := by rw [beq_eq_false_iff_ne]; exact he
                have HR : Hid (r = false) := HB.out (by rw [HO2.out, ← HSU.out]; have h : (su == x) = false := (by rw [beq_eq_false_iff_ne]; exact fun e => he e.symm); rw [h]; simp)
                clear s0 s1 n0 n1 n2 n3 HB HN HO2
                go_wp2_with fail
                go_region_held3 (fun w' => w'.cell? ⟨wr.heap.size, 0, none⟩ = some (.string ⟨x.toArray⟩) ∧ w'.cell? ⟨wr.heap.size, 1, none⟩ = some (.string ⟨y.toArray⟩))
                  (first | with_reducible exact S3.out | with_reducible exact S1.out)
                  ((go_at_call 32
                    with_reducible refine KS.mono ?_
                    rintro e w3 ⟨rfl, b3'⟩
                    have b3 : Below (w2.alloc (.cells #[.int .i64 k, .string ⟨p.toArray⟩, .slice a4 m4 c4, .string ⟨v.toArray⟩] 53)).heap.size (w2.alloc (.cells #[.int .i64 k, .string ⟨p.toArray⟩, .slice a4 m4 c4, .string ⟨v.toArray⟩] 53)) w3 := ⟨b3'.os, b3'.tape, b3'.output, b3'.size, b3'.block⟩
                    have X3 : Hid (w3.heap[wr.heap.size]? = some (.cells #[.string ⟨x.toArray⟩, .string ⟨y.toArray⟩] 43 (0, 0))) := (b3.block wr.heap.size S1L.out.1).trans X2a.out
                    have S3 : Hid (w3.cell? ⟨wr.heap.size, 0, none⟩ = some (.string ⟨x.toArray⟩) ∧ w3.cell? ⟨wr.heap.size, 1, none⟩ = some (.string ⟨y.toArray⟩)) := ⟨(two_cellsS X3.out).1, (two_cellsS X3.out).2.1⟩
                    have B3 : Hid (Below w.heap.size w w3) := B2a.out.trans (b3.mono B2a.out.size)
                    clear b3' b3))
                all_goals
                  go_wp2
                  go_ret2
                  rw [HR.out]
                  exact ⟨rfl, B3.out⟩
      · have hjl : j = ps.length := by omega
        subst hjl
        have HR : Hid (r = true) := HALL.out (fun q h => HA.out q h)
        have HOM : Hid (HeldM wr w.heap.size ps ps.length) := hom
        clear hom HS hm2
        go_wp2
        go_ret2
        rw [HR.out]
        exact ⟨w.heap.size, rfl, HOM.out, Nat.le_refl _, hbel⟩
  · have h400' : ¬ (ps.length : Int) ≤ 400 := by omega
    have HB : Hid (storeOkL ps = false) := storeOk_big ps h400
    obtain ⟨r, hr⟩ : ∃ r, r = storeOkL ps := ⟨_, rfl⟩
    rw [← hr] at HB ⊢
    clear hs hm hr
    go_enter Tryz.func22, Tryz.ntmps22
    go_wp2
    go_ret2
    rw [HB.out]
    exact ⟨rfl, Below.refl _ _⟩
end Go.Proofs.YtapmakefpmholaaGreatDoor
