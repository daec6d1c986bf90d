/-
  At every signer, node, index and root VoteFor answers as its model, and its answer owns its memory. No condition; the round words are laid as the program's text lays them.
-/
import Derived.Test.YtajckopldkmcnaaDoorVoteAll
import Derived.Test.YtajckopldkmcnaaDoorVoteM
import Derived.Test.YtajckopldkmcnaaDoorStrsAll
import Derived.Test.YtajckopldkmcnaaDoorSeatAll
import Derived.Test.YtajckopldkmcnaaDoorTie
import Derived.Test.YtajckopldkmcnaaDoorCards
import Derived.ProofKit
import Derived.LaidMore
import Derived.OpenShut
import Derived.ShutString
import Derived.ChangeOld
import Derived.Below
import Derived.Stop.Joined
import Derived.Lib.LaidTab
import Derived.SevenTiedAt
import Derived.SliceStrings
import Derived.Lib.SmallJoins
namespace Go.Proofs.YtajckopldkmcnaaDoor.fnExactVoteFor
open Go.ChangeShapes Go.WideShapes Go.ChangeAt Go.RowKit
open Go.ChangeMaps (open_string shut_string)
set_option linter.unusedVariables false

theorem own : ownKnob Tryd.prog.godebug = none := by kernel_rfl
theorem laidOut0 : laidOutB Tryd.prog = true := by kernel_rfl
theorem gTab : Tryd.prog.globalNamed "loop.example/g00226/impl.roundWords" = some 0 := by kernel_rfl
theorem tTab : (Tryd.prog.globals[0]?).map (·.type) = some 191 := by kernel_rfl

/-- The door's own heap meets the condition. -/
theorem door_met (os : Os) (args : Array Value) : laidMetH Tryd.prog Rows.fnExactVoteForRow.laid ((World.doorLaid Tryd.prog 400 os).forCall (fun _ _ => 0) ⟨#[], args, []⟩).memory :=
  laidMetH_of_parts3 (fuel := 8) (laidMet_of_run' 8 (by kernel_rfl) (by kernel_rfl)) (by kernel_rfl) (by kernel_rfl)

/-- What the condition gives the walks: the round words' cells. -/
theorem tab_of {W : World} (h : laidMetH Tryd.prog Rows.fnExactVoteForRow.laid W) : Tab W := by
  rw [MakeChecks.laidMetH_plain _ _ _ (by kernel_rfl)] at h
  have hT : Lib.TabIs Tryd.prog W "loop.example/g00226/impl.roundWords" .u32 (kL.map fun x => num x) := Lib.tabIs_of_head (rest := []) gTab tTab Tryd.underlying191 Tryd.underlying142 (by kernel_rfl) (by kernel_rfl) h
  have hc : ∀ i, i < 64 → W.cell? ⟨0, i, none⟩ = some (.int .u32 (num (kL.getD i 0))) := fun i hi => by
    have hl : i < kL.length := hi
    have := hT.cell gTab i (by rw [List.length_map]; exact hl)
    rw [this]
    simp [List.getD, hl]
  exact ⟨block_lt_of_cell (hc 0 (by omega)), hc⟩

theorem two_alloc {w : World} {o1 o2 : Obj} {k : Nat} (h : k < w.heap.size) : ((w.alloc o1).alloc o2).heap[k]? = w.heap[k]? := by
  rw [Below.heap_alloc _ _ _ (by simp; omega), Below.heap_alloc _ _ _ h]
theorem two_first {w : World} {o1 o2 : Obj} : ((w.alloc o1).alloc o2).heap[w.heap.size]? = some o1 := by
  rw [Below.heap_alloc _ _ _ (by simp)]; exact heap_alloc_new w o1
theorem two_second {w : World} {o1 o2 : Obj} : ((w.alloc o1).alloc o2).heap[w.heap.size + 1]? = some o2 := new_at _ (by simp) _
theorem two_below {w : World} {o1 o2 : Obj} : Below w.heap.size w ((w.alloc o1).alloc o2) := ((Below.refl _ _).alloc (Nat.le_refl _) _).alloc (by simp) _
theorem two_size {w : World} {o1 o2 : Obj} : ((w.alloc o1).alloc o2).heap.size = w.heap.size + 2 := by simp
theorem own_two {w : World} {b e n : Nat} {v : Value} {xs : List Value} {o1 o2 : Obj} (h : w.ownsRow b e 1 v n xs) : ((w.alloc o1).alloc o2).ownsRow b e 1 v n xs := (h.alloc _).alloc _

set_option maxRecDepth 100000 in
set_option maxHeartbeats 4000000 in
theorem walk (s : List UInt8) (n : Int) (hs : s.length ≤ 9223372036854775807) (nd cx : Int) (a1 : ByteArray) (w1 : a1.size ≤ maxLen) (w : World) (hT : Tab w) :
    Calls Tryd.prog 4 #[.agg #[.string ⟨s.toArray⟩, .int .i64 n], .int .i64 nd, .int .i64 cx, .string a1] w fun e w' => e = .returned (.bool true) ∧ Below w.heap.size w w' := by
  unfold maxLen at w1
  have HT : Hid (Tab w) := hT
  clear hT
  have Bb : Below w.heap.size w (w.alloc (.cells #[.string ⟨s.toArray⟩, .int .i64 n] 26)) := (Below.refl _ _).alloc (Nat.le_refl _) _
  have hblk := heap_alloc_new w (.cells #[.string ⟨s.toArray⟩, .int .i64 n] 26)
  have KZ := szSigner_any s n (w.alloc (.cells #[.string ⟨s.toArray⟩, .int .i64 n] 26)) hs
  by_cases hb : a1.size ≤ 1048576
  · have e1 : a1 = ⟨a1.data.toList.toArray⟩ := ba_eq a1
    have hm : a1.data.toList.length ≤ 1048576 := by rw [Array.length_toList]; exact hb
    obtain ⟨msg, hmsg⟩ : ∃ s, s = a1.data.toList := ⟨_, rfl⟩
    rw [← hmsg] at e1 hm
    clear hmsg
    subst e1
    have hm' : (msg.length : Int) ≤ 1048576 := by omega
    go_enter Tryd.func4, Tryd.ntmps4
    go_wp2_with fail
    refine KZ.mono ?_
    rintro e wz ⟨he, bz⟩
    have Bz := Bb.trans (bz.mono (by simp))
    have kz := (bz.block w.heap.size (by simp)).trans hblk
    have nz : w.heap.size < wz.heap.size := by have := bz.size; simp at this; omega
    clear KZ bz hblk Bb
    rcases he with rfl | ⟨hbs, kk, rfl⟩
    · go_wp2
      go_ret
      exact ⟨rfl, Bz⟩
    · obtain ⟨us, ix, vn, ok, os, ps, lo, lp, hr⟩ := voutcome s msg n nd cx
      have HSN : Hid (∀ W, Calls Tryd.prog 12 #[.agg #[.string ⟨s.toArray⟩, .int .i64 n], .int .i64 nd, .int .i64 cx, .string ⟨msg.toArray⟩] W fun e w' => ∃ a1 m1 c1 a2 m2 c2, e = .returned (.tuple #[.agg #[.string ⟨s.toArray⟩, .int .i64 us], .agg #[.int .i64 vn, .int .i64 ix, .slice a1 m1 c1, .slice a2 m2 c2], .bool ok]) ∧ w'.ownsRow W.heap.size 9 1 (.slice a1 m1 c1) os.length (scells os) ∧ w'.ownsRow W.heap.size 9 1 (.slice a2 m2 c2) ps.length (scells ps) ∧ Below W.heap.size W w') := fun W => svote_any s msg n nd cx us ix vn ok os ps W hbs hm hr
      have HIN : Hid (∀ W, Tab W → Calls Tryd.prog 14 #[.agg #[.string ⟨s.toArray⟩, .int .i64 n], .int .i64 nd, .int .i64 cx, .string ⟨msg.toArray⟩] W fun e w' => ∃ a1 m1 c1 a2 m2 c2, e = .returned (.tuple #[.agg #[.string ⟨s.toArray⟩, .int .i64 us], .agg #[.int .i64 vn, .int .i64 ix, .slice a1 m1 c1, .slice a2 m2 c2], .bool ok]) ∧ (∀ k, (Value.slice a1 m1 c1).ownBlock = some k → (Value.slice a2 m2 c2).ownBlock ≠ some k) ∧ w'.ownsRow W.heap.size 9 1 (.slice a1 m1 c1) os.length (scells os) ∧ w'.ownsRow W.heap.size 9 1 (.slice a2 m2 c2) ps.length (scells ps) ∧ Below W.heap.size W w') := fun W hW => ivote_any s msg n nd cx us ix vn ok os ps W hbs hm hr hW
      obtain ⟨f0, f1, _⟩ := duo_row kz
      clear hr
      go_wp2_with fail
      refine (toSigner_any s n _).mono ?_
      rintro e w2 ⟨rfl, b2⟩
      have B2 := Bz.trans (b2.mono Bz.size)
      have s2 := b2.size
      clear f0 f1
      go_wp2_with fail
      refine (HSN.out w2).mono ?_
      rintro e w3 ⟨x1, xm1, xc1, x2, xm2, xc2, rfl, o1, o2, b3⟩
      have B3 := B2.trans (b3.mono B2.size)
      have s3 := b3.size
      have k3 := (b3.block w.heap.size (by omega)).trans ((b2.block w.heap.size (by omega)).trans kz)
      have n3 : w.heap.size < w3.heap.size := by omega
      have K3 : ((w3.alloc (.cells #[.string ⟨s.toArray⟩, .int .i64 us] 28)).alloc (.cells #[.int .i64 vn, .int .i64 ix, .slice x1 xm1 xc1, .slice x2 xm2 xc2] 33)).heap[w.heap.size]? = _ := (two_alloc n3).trans k3
      obtain ⟨f0, f1, _⟩ := duo_row K3
      have O1 := hidOwn o1
      have O2 := hidOwn o2
      have xhi1 : ∀ k, (Value.slice x1 xm1 xc1).ownBlock = some k → k < w3.heap.size := fun k hk => (o1.lt k hk).2
      have xhi2 : ∀ k, (Value.slice x2 xm2 xc2).ownBlock = some k → k < w3.heap.size := fun k hk => (o2.lt k hk).2
      clear o1 o2 b3 b2 HSN kz k3
      go_wp2_with fail
      refine (toSigner_any s n _).mono ?_
      rintro e w4 ⟨rfl, b4⟩
      have C4 : Below w3.heap.size w3 w4 := two_below.trans (b4.mono (by rw [two_size]; omega))
      have s4 : w3.heap.size + 2 ≤ w4.heap.size := by have := b4.size; rw [two_size] at this; exact this
      have B4 := B3.trans (C4.mono B3.size)
      have k4 := (b4.block w.heap.size (by rw [two_size]; omega)).trans K3
      have p6 := (b4.block w3.heap.size (by rw [two_size]; omega)).trans two_first
      have p7 := (b4.block (w3.heap.size + 1) (by rw [two_size]; omega)).trans two_second
      have HP4 : Hid (w4.heap[w.heap.size]? = some (.cells #[.string ⟨s.toArray⟩, .int .i64 n] 26 (0, 0)) ∧ w4.heap[w3.heap.size]? = some (.cells #[.string ⟨s.toArray⟩, .int .i64 us] 28 (0, 0)) ∧ w4.heap[w3.heap.size + 1]? = some (.cells #[.int .i64 vn, .int .i64 ix, .slice x1 xm1 xc1, .slice x2 xm2 xc2] 33 (0, 0))) := ⟨k4, p6, p7⟩
      have P1 := hidOwn (keptO O1.out C4)
      have P2 := hidOwn (keptO O2.out C4)
      clear b4 C4 k4 p6 p7 K3 f0 f1 O1 O2
      go_wp2_with fail
      refine (HIN.out w4 (HT.out.later B4)).mono ?_
      rintro e w5 ⟨y1, ym1, yc1, y2, ym2, yc2, rfl, hne, o1, o2, b5⟩
      have B5 := B4.trans (b5.mono B4.size)
      have s5 := b5.size
      have low1 := own_low o1
      have low2 := own_low o2
      have hi1 : ∀ k, (Value.slice y1 ym1 yc1).ownBlock = some k → k < w5.heap.size := fun k hk => (o1.lt k hk).2
      have hi2 : ∀ k, (Value.slice y2 ym2 yc2).ownBlock = some k → k < w5.heap.size := fun k hk => (o2.lt k hk).2
      have HNE : Hid (∀ k, (Value.slice y1 ym1 yc1).ownBlock = some k → (Value.slice y2 ym2 yc2).ownBlock ≠ some k) := hne
      have p5 := HP4.out
      have K6 : ((w5.alloc (.cells #[.string ⟨s.toArray⟩, .int .i64 us] 28)).alloc (.cells #[.int .i64 vn, .int .i64 ix, .slice y1 ym1 yc1, .slice y2 ym2 yc2] 33)).heap[w3.heap.size]? = _ := (two_alloc (by omega)).trans ((b5.block _ (by omega)).trans p5.2.1)
      have HP5 : Hid (((w5.alloc (.cells #[.string ⟨s.toArray⟩, .int .i64 us] 28)).alloc (.cells #[.int .i64 vn, .int .i64 ix, .slice y1 ym1 yc1, .slice y2 ym2 yc2] 33)).heap[w.heap.size]? = some (.cells #[.string ⟨s.toArray⟩, .int .i64 n] 26 (0, 0)) ∧ ((w5.alloc (.cells #[.string ⟨s.toArray⟩, .int .i64 us] 28)).alloc (.cells #[.int .i64 vn, .int .i64 ix, .slice y1 ym1 yc1, .slice y2 ym2 yc2] 33)).heap[w3.heap.size]? = some (.cells #[.string ⟨s.toArray⟩, .int .i64 us] 28 (0, 0)) ∧ ((w5.alloc (.cells #[.string ⟨s.toArray⟩, .int .i64 us] 28)).alloc (.cells #[.int .i64 vn, .int .i64 ix, .slice y1 ym1 yc1, .slice y2 ym2 yc2] 33)).heap[w3.heap.size + 1]? = some (.cells #[.int .i64 vn, .int .i64 ix, .slice x1 xm1 xc1, .slice x2 xm2 xc2] 33 (0, 0))) := ⟨(two_alloc (by omega)).trans ((b5.block _ (by omega)).trans p5.1), K6, (two_alloc (by omega)).trans ((b5.block _ (by omega)).trans p5.2.2)⟩
      have Q1 := hidOwn (keptO P1.out b5)
      have Q2 := hidOwn (keptO P2.out b5)
      have R1 := hidOwn o1
      have R2 := hidOwn o2
      obtain ⟨f0, f1, _⟩ := duo_row K6
      clear p5 K6 HP4 P1 P2 o1 o2 b5 hne
      go_wp2_with fail
      refine (eqSigner_same s us _).mono ?_
      rintro e w6 ⟨rfl, b6⟩
      have s6 : w5.heap.size + 2 ≤ w6.heap.size := by have := b6.size; rw [two_size] at this; exact this
      have C6 : Below w5.heap.size w5 w6 := two_below.trans (b6.mono (by rw [two_size]; omega))
      have B6 := B5.trans (C6.mono B5.size)
      have p10 := (b6.block (w5.heap.size + 1) (by rw [two_size]; omega)).trans two_second
      have HP6 : Hid (w6.heap[w.heap.size]? = some (.cells #[.string ⟨s.toArray⟩, .int .i64 n] 26 (0, 0)) ∧ w6.heap[w3.heap.size]? = some (.cells #[.string ⟨s.toArray⟩, .int .i64 us] 28 (0, 0)) ∧ w6.heap[w3.heap.size + 1]? = some (.cells #[.int .i64 vn, .int .i64 ix, .slice x1 xm1 xc1, .slice x2 xm2 xc2] 33 (0, 0)) ∧ w6.heap[w5.heap.size + 1]? = some (.cells #[.int .i64 vn, .int .i64 ix, .slice y1 ym1 yc1, .slice y2 ym2 yc2] 33 (0, 0))) := ⟨(b6.block _ (by rw [two_size]; omega)).trans HP5.out.1, (b6.block _ (by rw [two_size]; omega)).trans HP5.out.2.1, (b6.block _ (by rw [two_size]; omega)).trans HP5.out.2.2, p10⟩
      have T1 := hidOwn (keptO Q1.out C6)
      have T2 := hidOwn (keptO Q2.out C6)
      have U1 := hidOwn (keptO R1.out C6)
      have U2 := hidOwn (keptO R2.out C6)
      obtain ⟨g0, g1, g2, g3, _⟩ := vq_cells HP6.out.2.2.1
      obtain ⟨j0, j1, j2, j3, _⟩ := vq_cells p10
      clear b6 C6 p10 HP5 Q1 Q2 R1 R2 f0 f1
      go_wp2_with fail
      refine (eqVote_same vn ix y1 y2 x1 x2 ym1 ym2 xm1 xm2 yc1 yc2 xc1 xc2 os ps _ _ _ _ w6 (by omega) (by omega) U1.out U2.out T1.out T2.out).mono ?_
      rintro e w7 ⟨rfl, b7⟩
      have s7 := b7.size
      have B7 := B6.trans (b7.mono B6.size)
      have HP7 : Hid (w7.heap[w.heap.size]? = some (.cells #[.string ⟨s.toArray⟩, .int .i64 n] 26 (0, 0)) ∧ w7.heap[w3.heap.size]? = some (.cells #[.string ⟨s.toArray⟩, .int .i64 us] 28 (0, 0)) ∧ w7.heap[w3.heap.size + 1]? = some (.cells #[.int .i64 vn, .int .i64 ix, .slice x1 xm1 xc1, .slice x2 xm2 xc2] 33 (0, 0)) ∧ w7.heap[w5.heap.size + 1]? = some (.cells #[.int .i64 vn, .int .i64 ix, .slice y1 ym1 yc1, .slice y2 ym2 yc2] 33 (0, 0))) := ⟨(b7.block _ (by omega)).trans HP6.out.1, (b7.block _ (by omega)).trans HP6.out.2.1, (b7.block _ (by omega)).trans HP6.out.2.2.1, (b7.block _ (by omega)).trans HP6.out.2.2.2⟩
      have T17 := hidOwn (keptO T1.out b7)
      have T27 := hidOwn (keptO T2.out b7)
      have U17 := hidOwn (keptO U1.out b7)
      have U27 := hidOwn (keptO U2.out b7)
      obtain ⟨h0, h1, h2, h3, _⟩ := vq_cells HP7.out.2.2.2
      have up1 : ∀ k, (Value.slice y1 ym1 yc1).ownBlock = some k → w4.heap.size ≤ k ∧ k < w5.heap.size := fun k hk => ⟨low1 k hk, hi1 k hk⟩
      have up2 : ∀ k, (Value.slice y2 ym2 yc2).ownBlock = some k → w4.heap.size ≤ k ∧ k < w5.heap.size := fun k hk => ⟨low2 k hk, hi2 k hk⟩
      have xp1 : ∀ k, (Value.slice x1 xm1 xc1).ownBlock = some k → k < w3.heap.size := xhi1
      have xp2 : ∀ k, (Value.slice x2 xm2 xc2).ownBlock = some k → k < w3.heap.size := xhi2
      clear b7 HP6 T1 T2 U1 U2 g0 g1 g2 g3 j0 j1 j2 j3
      go_wp2_with fail
      refine (markVote_any vn ix y1 y2 ym1 ym2 yc1 yc2 os ps _ _ w7 (by omega) (by omega) U17.out U27.out HNE.out).mono ?_
      rintro e w8 ⟨rfl, m1, m2, hkb, s8, ho8, ht8, hp8⟩
      have kb : ∀ k, k < w7.heap.size → (k < w4.heap.size ∨ w5.heap.size ≤ k) → w8.heap[k]? = w7.heap[k]? := fun k hk hor => hkb k hk (fun h => by have := up1 k h; omega) (fun h => by have := up2 k h; omega)
      have B8 : Below w.heap.size w w8 := B7.trans ⟨ho8, ht8, hp8, s8, fun k hk => kb k (by omega) (by omega)⟩
      have HP8 : Hid (w8.heap[w.heap.size]? = some (.cells #[.string ⟨s.toArray⟩, .int .i64 n] 26 (0, 0)) ∧ w8.heap[w3.heap.size]? = some (.cells #[.string ⟨s.toArray⟩, .int .i64 us] 28 (0, 0)) ∧ w8.heap[w3.heap.size + 1]? = some (.cells #[.int .i64 vn, .int .i64 ix, .slice x1 xm1 xc1, .slice x2 xm2 xc2] 33 (0, 0)) ∧ w8.heap[w5.heap.size + 1]? = some (.cells #[.int .i64 vn, .int .i64 ix, .slice y1 ym1 yc1, .slice y2 ym2 yc2] 33 (0, 0))) := ⟨(kb _ (by omega) (by omega)).trans HP7.out.1, (kb _ (by omega) (by omega)).trans HP7.out.2.1, (kb _ (by omega) (by omega)).trans HP7.out.2.2.1, (kb _ (by omega) (by omega)).trans HP7.out.2.2.2⟩
      have keep8 : ∀ {b n : Nat} {v : Value} {xs : List Value}, w7.ownsRow b 9 1 v n xs → (∀ k, v.ownBlock = some k → k < w3.heap.size) → w8.ownsRow b 9 1 v n xs := fun {b n v xs} h hv => ⟨h.1, by
        rcases h.2 with h' | ⟨g, cap, cur, rfl, hb, hg, rest⟩
        · exact .inl h'
        · have hgl := hv g (by simp [Value.ownBlock])
          exact .inr ⟨g, cap, cur, rfl, hb, (kb g (by omega) (by omega)).trans hg, rest⟩⟩
      have T18 := hidOwn (keep8 T17.out xp1)
      have T28 := hidOwn (keep8 T27.out xp2)
      have M1 := hidOwn m1
      have M2 := hidOwn m2
      obtain ⟨l0, l1, l2, l3, _⟩ := vq_cells HP8.out.2.2.2
      clear m1 m2 hkb kb keep8 HP7 T17 T27 U17 U27 h0 h1 h2 h3 ho8 ht8 hp8
      go_wp2_with fail
      refine (heldVote_any vn ix y1 y2 ym1 ym2 yc1 yc2 os.length ps.length _ _ w8 (by omega) (by omega) M1.out M2.out).mono ?_
      rintro e w9 ⟨rfl, b9⟩
      have s9 := b9.size
      have B9 := B8.trans (b9.mono B8.size)
      have p9 := (b9.block w.heap.size (by omega)).trans HP8.out.1
      have hk2 : ¬ (1 : Int) + (os.length : Int) + (ps.length : Int) < 0 := by omega
      obtain ⟨f0, f1, _⟩ := duo_row p9
      clear l0 l1 l2 l3
      go_wp2_with fail
      refine (toSigner_any s n _).mono ?_
      rintro e w10 ⟨rfl, b10⟩
      have s10 := b10.size
      have B10 := B9.trans (b10.mono B9.size)
      clear f0 f1 p9
      go_wp2_with fail
      refine (HIN.out w10 (HT.out.later B10)).mono ?_
      rintro e w11 ⟨z1, zm1, zc1, z2, zm2, zc2, rfl, _, o1, o2, b11⟩
      have s11 := b11.size
      have B11 := B10.trans (b11.mono B10.size)
      have D11 : Below w8.heap.size w8 w11 := (b9.trans (b10.mono s9)).trans (b11.mono (by omega))
      have T111 := hidOwn (keptO T18.out D11)
      have T211 := hidOwn (keptO T28.out D11)
      have M111 := hidOwn (keptO M1.out D11)
      have M211 := hidOwn (keptO M2.out D11)
      have V1 := hidOwn o1
      have V2 := hidOwn o2
      have K14 : ((w11.alloc (.cells #[.string ⟨s.toArray⟩, .int .i64 us] 28)).alloc (.cells #[.int .i64 vn, .int .i64 ix, .slice z1 zm1 zc1, .slice z2 zm2 zc2] 33)).heap[w3.heap.size]? = _ := (two_alloc (by omega)).trans ((D11.block _ (by omega)).trans HP8.out.2.1)
      have HQ : Hid (((w11.alloc (.cells #[.string ⟨s.toArray⟩, .int .i64 us] 28)).alloc (.cells #[.int .i64 vn, .int .i64 ix, .slice z1 zm1 zc1, .slice z2 zm2 zc2] 33)).heap[w3.heap.size + 1]? = some (.cells #[.int .i64 vn, .int .i64 ix, .slice x1 xm1 xc1, .slice x2 xm2 xc2] 33 (0, 0)) ∧ ((w11.alloc (.cells #[.string ⟨s.toArray⟩, .int .i64 us] 28)).alloc (.cells #[.int .i64 vn, .int .i64 ix, .slice z1 zm1 zc1, .slice z2 zm2 zc2] 33)).heap[w5.heap.size + 1]? = some (.cells #[.int .i64 vn, .int .i64 ix, .slice y1 ym1 yc1, .slice y2 ym2 yc2] 33 (0, 0))) := ⟨(two_alloc (by omega)).trans ((D11.block _ (by omega)).trans HP8.out.2.2.1), (two_alloc (by omega)).trans ((D11.block _ (by omega)).trans HP8.out.2.2.2)⟩
      obtain ⟨f0, f1, _⟩ := duo_row K14
      clear o1 o2 b11 b10 b9 D11 T18 T28 M1 M2 HP8 K14 HIN
      go_wp2_with fail
      refine (eqSigner_same s us _).mono ?_
      rintro e w12 ⟨rfl, b12⟩
      have s12 : w11.heap.size + 2 ≤ w12.heap.size := by have := b12.size; rw [two_size] at this; exact this
      have C12 : Below w11.heap.size w11 w12 := two_below.trans (b12.mono (by rw [two_size]; omega))
      have B12 := B11.trans (C12.mono B11.size)
      have p15 := (b12.block (w11.heap.size + 1) (by rw [two_size]; omega)).trans two_second
      have p7 := (b12.block (w3.heap.size + 1) (by rw [two_size]; omega)).trans HQ.out.1
      have HR : Hid (w12.heap[w5.heap.size + 1]? = some (.cells #[.int .i64 vn, .int .i64 ix, .slice y1 ym1 yc1, .slice y2 ym2 yc2] 33 (0, 0))) := (b12.block (w5.heap.size + 1) (by rw [two_size]; omega)).trans HQ.out.2
      have T112 := hidOwn (keptO T111.out C12)
      have T212 := hidOwn (keptO T211.out C12)
      have M112 := hidOwn (keptO M111.out C12)
      have M212 := hidOwn (keptO M211.out C12)
      have V12 := hidOwn (keptO V1.out C12)
      have V22 := hidOwn (keptO V2.out C12)
      obtain ⟨g0, g1, g2, g3, _⟩ := vq_cells p7
      obtain ⟨j0, j1, j2, j3, _⟩ := vq_cells p15
      clear b12 C12 p15 p7 HQ T111 T211 M111 M211 V1 V2 f0 f1
      go_wp2_with fail
      refine (eqVote_same vn ix z1 z2 x1 x2 zm1 zm2 xm1 xm2 zc1 zc2 xc1 xc2 os ps _ _ _ _ w12 (by omega) (by omega) V12.out V22.out T112.out T212.out).mono ?_
      rintro e w13 ⟨rfl, b13⟩
      have B13 := B12.trans (b13.mono B12.size)
      have p13 := (b13.block (w5.heap.size + 1) (by omega)).trans HR.out
      obtain ⟨l0, l1, l2, l3, _⟩ := vq_cells p13
      have M113 := hidOwn (keptO M112.out b13)
      have M213 := hidOwn (keptO M212.out b13)
      clear b13 p13 M112 M212 T112 T212 V12 V22 g0 g1 g2 g3 j0 j1 j2 j3
      go_wp2_with fail
      refine (heldVote_any vn ix y1 y2 ym1 ym2 yc1 yc2 os.length ps.length _ _ w13 (by omega) (by omega) M113.out M213.out).mono ?_
      rintro e w14 ⟨rfl, b14⟩
      have B14 := B13.trans (b14.mono B13.size)
      go_wp2
      go_ret
      exact ⟨rfl, B14⟩
  · have hb' : ¬ (a1.size : Int) ≤ 1048576 := by omega
    clear KZ
    go_enter Tryd.func4, Tryd.ntmps4
    go_wp2
    go_ret
    exact ⟨rfl, Bb⟩

set_option maxRecDepth 100000 in
theorem lifted (os : Os) (started : os.Started) (H : Type) (enc : TypeId × Value → H) :
    ReturnsInHanded {} Tryd.checked os 4 .any (fun w args => (Rows.fnExactVoteForSpec.pre enc Tryd.prog Tryd.f4 [] false w args ∧ laidMetH Tryd.prog Rows.fnExactVoteForRow.laid w) ∧ sizedMet enc Tryd.prog Tryd.f4 (OpenSpec.ofChange Rows.fnExactVoteForSpec) false w args)
      (Rows.fnExactVoteForSpec.post enc Tryd.prog Tryd.f4 false true false false) := by
  refine returnsInHanded_of_change_and (C := Tryd.checked) (X := fun w _ => laidMetH Tryd.prog Rows.fnExactVoteForRow.laid w) (fun _ _ _ hh h => h.of_heap hh) own started (by kernel_rfl) Tryd.func4
    (ChangeSpec.witness_shaped (enc := enc) (C := Tryd.checked) (os := os) (X := fun w _ => laidMetH Tryd.prog Rows.fnExactVoteForRow.laid w) false (World.doorLaid Tryd.prog 400 os) #[.agg #[.string ByteArray.empty, .int .i64 0], .int .i64 0, .int .i64 0, .string ByteArray.empty] 8 rfl (World.shaped_of_RefB (by kernel_rfl) (by kernel_rfl)) (by kernel_rfl) (by kernel_rfl) (by kernel_rfl) (door_met os _)) ?_
  intro W base args ds gs before hval0 hW _ _ hL _
  have hval : ∀ (j : Nat) t v, Tryd.f4.params[j]? = some t → args[j]? = some v → Value.okWide Tryd.prog W .any base t v := hval0
  have hW' := hW
  obtain ⟨p, q, hA0, hV0, rfl, hfz, hnd⟩ := hW
  have hA : DataW.TrodAll enc Tryd.prog W 0 (fun _ => true) true Tryd.f4.params.toList args.toList ds p := hA0
  have hV : DataW.TrodVars enc Tryd.prog W (fun _ => true) ["loop.example/g00226/impl.roundWords"] gs q := hV0
  rw [Tryd.params4] at hA hval
  obtain ⟨v0, vs0, d0, ds0, p0, q0, hargs0, rfl, rfl, h0, r0⟩ := trodAll_cons hA
  obtain ⟨v1, vs1, d1, ds1, p1, q1, hargs1, rfl, rfl, h1, r1⟩ := trodAll_cons r0
  obtain ⟨v2, vs2, d2, ds2, p2, q2, hargs2, rfl, rfl, h2, r2⟩ := trodAll_cons r1
  obtain ⟨v3, vs3, d3, ds3, p3, q3, hargs3, rfl, rfl, h3, r3⟩ := trodAll_cons r2
  obtain ⟨rfl, rfl, rfl⟩ := trodAll_nil r3
  obtain rfl : args = #[v0, v1, v2, v3] := by cases args; simp_all
  have k0 := h0
  have lt0 : ∀ x ∈ p0, x.block < W.heap.size := by obtain ⟨m, hm⟩ := k0; exact DataW.trod_lt m _ _ _ hm
  obtain ⟨s, n, rfl, hl⟩ : ∃ (s : List UInt8) (n : Int), v0 = .agg #[.string ⟨s.toArray⟩, .int .i64 n] ∧ s.length ≤ 9223372036854775807 := by
    obtain ⟨u0, u1, y0, y1, m, rfl, _, _, t0, t1⟩ := Go.Joins.open_agg2 Tryd.underlying26 (by kernel_rfl) (by kernel_rfl) (hval 0 26 v0 rfl rfl) h0
    obtain ⟨a, ha, _, hw⟩ := DataW.trod_string Tryd.underlying9 t0
    obtain ⟨n, hn, _, _⟩ := DataW.trod_int Tryd.underlying2 t1
    simp at ha hn
    exact ⟨a.data.toList, n, by rw [ha, hn, ← ba_eq], by rw [Array.length_toList]; exact hw⟩
  obtain ⟨n1, rfl, rfl, rfl, w1⟩ := open_int Tryd.underlying2 (hval 1 2 v1 rfl rfl) h1
  obtain ⟨n2, rfl, rfl, rfl, w2⟩ := open_int Tryd.underlying2 (hval 2 2 v2 rfl rfl) h2
  obtain ⟨a3, rfl, rfl, rfl, w3⟩ := open_string Tryd.underlying9 (hval 3 9 v3 rfl rfl) h3
  obtain ⟨g, t, cs, fuel, d, p', rfl, hg, ht, hvar, hd, rfl⟩ := trodVars_one hV
  obtain rfl := Option.some.inj (gTab.symm.trans hg)
  obtain rfl := Option.some.inj (tTab.symm.trans ht)
  have hT := tab_of hL
  have hltv : ∀ x ∈ p', x.block < W.heap.size := fun x hx => hW'.lt x (List.mem_append_right _ (List.mem_append_right _ hx))
  clear hA0 hV0 hval0 hA hV
  refine (walk s n hl n1 n2 a3 w3 W hT).mono fun e W' ⟨he, hB⟩ => ?_
  subst he
  obtain ⟨fuel', hd'⟩ := Below.trod laidOut0 (by kernel_rfl) (of_decide_eq_true (by kernel_rfl)) (v := .agg cs) (⟨fuel, by simpa [Value.cells] using hd⟩ : DataW.Trod enc Tryd.prog W 0 (fun _ => true) true 191 (.agg cs) d p') hB hltv
  have hv' := trodVars_mk1 (enc := enc) (spare := fun b => decide (b < W.heap.size)) hg ht (var?_below hB hg hT.1 hvar) (by simpa [Value.cells] using hd')
  exact ⟨_, rfl, _, _, _, [], _, _, hW', trodAll_mk1 (shut_bool Tryd.underlying4 _), (trodAll_cons_mk (Below.trod laidOut0 (by kernel_rfl) (of_decide_eq_true (by kernel_rfl)) k0 hB lt0) (trodAll_cons_mk (shut_int Tryd.underlying2 w1) (trodAll_cons_mk (shut_int Tryd.underlying2 w2) (trodAll_cons_mk (shut_string Tryd.underlying9 w3) trodAll_mk0)))), hv', hB.frame _, fun h => by cases h⟩

theorem named0 : Tryd.prog.funcNamed "loop.example/g00226/laws.FnExactVoteFor" = some 4 := by kernel_rfl
theorem closed0 : joinedFacts Tryd.prog 4 Tryd.f4 Rows.fnExactVoteForSpec Rows.fnExactVoteForRow = true := by
  unfold joinedFacts
  rw [seat_may, seat_lifts, seat_make]
  kernel_rfl
theorem inst0 : Tryd.f4.isInstance Tryd.prog Rows.fnExactVoteForRow.origin Rows.fnExactVoteForRow.targs := of_decide_eq_true (by kernel_rfl)
theorem wrap0 : Tryd.f4.isWrapper Tryd.prog Rows.fnExactVoteForRow.wrapper Rows.fnExactVoteForRow.mainSum := by unfold Func.isWrapper; first | (rw [if_pos (by decide +kernel)]; kernel_rfl) | (rw [if_neg (by decide +kernel)]; exact ⟨rfl, rfl⟩)

theorem over : Rows.fnExactVoteForRow.holds Tryd.pinned (OpenSpec.ofChange Rows.fnExactVoteForSpec) :=
  OpenClaim.holds_of_wide 4 Tryd.f4 rfl rfl rfl rfl rfl rfl rfl ⟨rfl, rfl, rfl, rfl, rfl⟩ rfl rfl rfl rfl rfl named0 Tryd.func4 closed0 inst0 wrap0
    (fun os started H enc _ => lifted os started H enc)

theorem text0 : Rows.fnExactVoteForRow.wfByText (OpenSpec.ofChange Rows.fnExactVoteForSpec) = true := by kernel_rfl
theorem looks0 : false = Tryd.prog.looks [] := by kernel_rfl
theorem goes0 : false = Rows.fnExactVoteForRow.goesBy Tryd.prog := by kernel_rfl
theorem wants0 : ([26, 2, 2, 9].all fun u => !Tryd.prog.wantsStandIn u) = true := by kernel_rfl

theorem card : Claim7.holds Tryd.pinned (.plain (OpenSpec.ofChange Rows.fnExactVoteForSpec)) Rows.fnExactVoteForCard :=
  Claim7.holds_tied_plain_at .later [] [.data] true (true, Rows.fnExactVoteForCard.stood.harness.2) false
    over (fun _ h => by cases h) text0 (fun _ h => by cases h) fnExactVoteFor_row_tie rfl ⟨rfl, rfl⟩ seat_main rfl
    (fun f fn hf hfn => by
      obtain rfl : f = 4 := Option.some.inj (named0.symm.trans hf) |>.symm
      obtain rfl : fn = Tryd.f4 := (Option.some.inj (Tryd.func4.symm.trans hfn)).symm
      exact ⟨looks0, fun j t ht => by
        rw [Tryd.params4] at ht
        have hm : t ∈ [26, 2, 2, 9] := by simpa using Array.mem_of_getElem? ht
        exact (show Tryd.prog.wantsStandIn t = false by simpa using List.all_eq_true.1 wants0 t hm)⟩)
    goes0

end Go.Proofs.YtajckopldkmcnaaDoor.fnExactVoteFor
namespace Go.Proofs.YtajckopldkmcnaaDoor
theorem fnExactVoteFor_holds : Rows.FnExactVoteForCardSaid := fnExactVoteFor.card
end Go.Proofs.YtajckopldkmcnaaDoor
