/-
 At every replica ReplicaText answers as its model; it writes into no argument. No condition; the round words are laid as the program's text lays them.
-/
import Derived.Test.YthnddgdnialogaaGreatDoorRepTxts
import Derived.Test.YthnddgdnialogaaGreatDoorSeatAll
import Derived.Test.YthnddgdnialogaaGreatDoorTie
import Derived.Test.YthnddgdnialogaaGreatDoorCards
import Derived.ProofKit
import Derived.LaidMore
import Derived.OpenShut
import Derived.ShutString
import Derived.ChangeOld
import Derived.Below
import Derived.Stop.Joined
import Derived.Lib.LaidTab
import Derived.SevenTiedAt
import Derived.SliceStrings
namespace Go.Proofs.YthnddgdnialogaaGreatDoor.fnExactReplicaText
open Go.ChangeShapes Go.WideShapes Go.ChangeAt Go.RowKit
open Go.ChangeMaps (open_string shut_string)
set_option linter.unusedVariables false
theorem own : ownKnob Tryz.prog.godebug = none := by kernel_rfl
theorem laidOut0 : laidOutB Tryz.prog = true := by kernel_rfl
theorem gTab : Tryz.prog.globalNamed "loop.example/g00226/impl.roundWords" = some 0 := by kernel_rfl
theorem tTab : (Tryz.prog.globals[0]?).map (·.type) = some 184 := by kernel_rfl
theorem door_met (os : Os) (args : Array Value) : laidMetH Tryz.prog Rows.fnExactReplicaTextRow.laid ((World.doorLaid Tryz.prog 400 os).forCall (fun _ _ => 0) ⟨#[], args, []⟩).memory :=
 laidMetH_of_parts3 (fuel := 8) (laidMet_of_run' 8 (by kernel_rfl) (by kernel_rfl)) (by kernel_rfl) (by kernel_rfl)
theorem tab_of {W : World} (h : laidMetH Tryz.prog Rows.fnExactReplicaTextRow.laid W) : Tab W := by
 rw [MakeChecks.laidMetH_plain _ _ _ (by kernel_rfl)] at h
 have hT : Lib.TabIs Tryz.prog W "loop.example/g00226/impl.roundWords" .u32 (kL.map fun x => num x) := Lib.tabIs_of_head (rest := []) gTab tTab Tryz.underlying184 Tryz.underlying136 (by kernel_rfl) (by kernel_rfl) h
 have hc : ∀ i, i < 64 → W.cell? ⟨0, i, none⟩ = some (.int .u32 (num (kL.getD i 0))) := fun i hi => by
  have hl : i < kL.length := hi
  have := hT.cell gTab i (by rw [List.length_map]; exact hl)
  rw [this]
  simp [List.getD, hl]
 exact ⟨block_lt_of_cell (hc 0 (by omega)), hc⟩
theorem sizes_le (ps : List PairL) (L : Nat) (hL : L ≤ 1048576) (h : ps.length + sizeP ps ≤ L) : ∀ p ∈ ps, p.1.length ≤ 1048576 ∧ p.2.length ≤ 1048576 := by
 intro p hp
 obtain ⟨j, hj, rfl⟩ := List.getElem_of_mem hp
 have := sizeP_le ps j hj
 exact ⟨by omega, by omega⟩
set_option maxRecDepth 100000 in
set_option maxHeartbeats 8000000 in
theorem walk (ix : Int) (r : List UInt8) (a : Option Addr) (cap : Nat) (ps : List PairL) (c : Option Addr) (cap2 : Nat) (ss : List SessL) (w : World) (hr : r.length ≤ 9223372036854775807) (hl : ps.length ≤ 9223372036854775807) (hm : ∀ p ∈ ps, p.1.length ≤ 9223372036854775807 ∧ p.2.length ≤ 9223372036854775807) (hs : IsPairs w a ps) (hl2 : ss.length ≤ 9223372036854775807) (hs2 : IsSess w c ss) (hT : Tab w) :
 Calls Tryz.prog 5 #[.agg #[.int .i64 ix, .string ⟨r.toArray⟩, .slice a ps.length cap, .slice c ss.length cap2]] w fun e w' => e = .returned (.bool true) ∧ Below w.heap.size w w' := by
 have HT : Hid (Tab w) := hT
 have HS : Hid (∀ W, Below w.heap.size w W → IsPairs W a ps) := fun W hW => hs.later hW
 have HS2 : Hid (∀ W, Below w.heap.size w W → IsSess W c ss) := fun W hW => hs2.later hW
 have Bz : Below w.heap.size w w := Below.refl _ _
 have Xp : Below w.heap.size w (w.alloc (.cells #[.int .i64 ix, .string ⟨r.toArray⟩, .slice a ps.length cap, .slice c ss.length cap2] 25)) := (Below.refl _ _).alloc (Nat.le_refl _) _
 have Bp := Bz.trans (Xp.mono Bz.size)
 have HaRp : Hid ((w.alloc (.cells #[.int .i64 ix, .string ⟨r.toArray⟩, .slice a ps.length cap, .slice c ss.length cap2] 25)).heap[w.heap.size]? = some (.cells #[.int .i64 ix, .string ⟨r.toArray⟩, .slice a ps.length cap, .slice c ss.length cap2] 25 (0, 0))) := heap_alloc_new w _
 have KZ := szReplica_any 1048576 (Nat.le_refl _) ix r a cap ps c cap2 ss (w.alloc (.cells #[.int .i64 ix, .string ⟨r.toArray⟩, .slice a ps.length cap, .slice c ss.length cap2] 25)) hr hl hm (HS.out _ Bp) hl2
 obtain ⟨aR0, aR1, aR2, aR3, _⟩ := rp_cells HaRp.out
 clear hs hs2 hm hT Xp Bz
 go_enter Tryz.func5, Tryz.ntmps5
 go_wp2_with fail
 refine KZ.mono ?_
 rintro e w1 ⟨he, b1⟩
 have B1 := Bp.trans (b1.mono Bp.size)
 have HaR1 : Hid (w1.heap[w.heap.size]? = some (.cells #[.int .i64 ix, .string ⟨r.toArray⟩, .slice a ps.length cap, .slice c ss.length cap2] 25 (0, 0))) := (b1.block (w.heap.size) (lt_of_block HaRp.out)).trans HaRp.out
 rcases he with rfl | ⟨hrl, hsz, hln2, n1, hn1, rfl⟩
 · go_wp2
   go_ret
   exact ⟨rfl, B1⟩
 have hn10 : (0 : Int) ≤ (n1 : Int) := by omega
 have hln : ps.length ≤ 1048576 := by omega
 have hmm := sizes_le ps 1048576 (Nat.le_refl _) hsz
 have HK1' := fun g h W (h1 : IsPairs W (some ⟨g, 0, none⟩) ps) (h2 : IsSess W (some ⟨h, 0, none⟩) ss) => spec_replicaText ix r (some ⟨g, 0, none⟩) ps.length ps (some ⟨h, 0, none⟩) ss.length ss W hln hmm h1 hln2 h2
 have HK2' := fun g h W (hT : Tab W) (h1 : IsPairs W (some ⟨g, 0, none⟩) ps) (h2 : IsSess W (some ⟨h, 0, none⟩) ss) => impl_replicaText ix r (some ⟨g, 0, none⟩) ps.length ps (some ⟨h, 0, none⟩) ss.length ss W hT hrl hln hmm h1 hln2 h2
 obtain ⟨res, hres⟩ : ∃ res, res = repText ix r ps ss := ⟨_, rfl⟩
 rw [← hres] at HK1' HK2'
 have HK1 : Hid (∀ g h W, IsPairs W (some ⟨g, 0, none⟩) ps → IsSess W (some ⟨h, 0, none⟩) ss → Calls Tryz.prog 18 #[.agg #[.int .i64 ix, .string ⟨r.toArray⟩, .slice (some ⟨g, 0, none⟩) ps.length ps.length, .slice (some ⟨h, 0, none⟩) ss.length ss.length]] W fun e w' => e = .returned (.string ⟨res.toArray⟩) ∧ Below W.heap.size W w') := HK1'
 have HK2 : Hid (∀ g h W, Tab W → IsPairs W (some ⟨g, 0, none⟩) ps → IsSess W (some ⟨h, 0, none⟩) ss → Calls Tryz.prog 19 #[.agg #[.int .i64 ix, .string ⟨r.toArray⟩, .slice (some ⟨g, 0, none⟩) ps.length ps.length, .slice (some ⟨h, 0, none⟩) ss.length ss.length]] W fun e w' => e = .returned (.string ⟨res.toArray⟩) ∧ Below W.heap.size W w') := HK2'
 clear HK1' HK2' hres
 have HTO : Hid (∀ W, Below w.heap.size w W → Calls Tryz.prog 9 #[.agg #[.int .i64 ix, .string ⟨r.toArray⟩, .slice a ps.length cap, .slice c ss.length cap2]] W fun e w' => ∃ g g2 : Nat, e = .returned (.agg #[.int .i64 ix, .string ⟨r.toArray⟩, .slice (some ⟨g, 0, none⟩) ps.length ps.length, .slice (some ⟨g2, 0, none⟩) ss.length ss.length]) ∧ g < g2 ∧ w'.ownsRow W.heap.size 57 2 (Value.slice (some ⟨g, 0, none⟩) ps.length ps.length) ps.length (pcells ps) ∧ w'.ownsRow W.heap.size 67 2 (Value.slice (some ⟨g2, 0, none⟩) ss.length ss.length) ss.length (secells ss) ∧ Below W.heap.size W w') := fun W hW => toReplica_any ix r a cap ps c cap2 ss W hln (HS.out W hW) hln2 (HS2.out W hW)
 clear hmm hsz hn1 KZ HS HS2 hr hl hl2 b1 aR0 aR1 aR2 aR3 HaRp
 obtain ⟨aR0, aR1, aR2, aR3, _⟩ := rp_cells HaR1.out
 go_wp2_with fail
 refine (HTO.out w1 B1).mono ?_
 rintro e w2 ⟨g1, h1, rfl, lg1, og1, oh1, bg1⟩
 have Bw2 := B1.trans (bg1.mono B1.size)
 have HaRw2 : Hid (w2.heap[w.heap.size]? = some (.cells #[.int .i64 ix, .string ⟨r.toArray⟩, .slice a ps.length cap, .slice c ss.length cap2] 25 (0, 0))) := (bg1.block (w.heap.size) (lt_of_block HaR1.out)).trans HaR1.out
 have Rp1w2 : Hid (w2.ownsRow w1.heap.size 57 2 (Value.slice (some ⟨g1, 0, none⟩) ps.length ps.length) ps.length (pcells ps)) := og1
 have Rp2w2 : Hid (w2.ownsRow w1.heap.size 67 2 (Value.slice (some ⟨h1, 0, none⟩) ss.length ss.length) ss.length (secells ss)) := oh1
 have Lp : Hid (w1.heap.size ≤ g1 ∧ g1 < h1 ∧ h1 < w2.heap.size) := ⟨(og1.lt g1 (by simp [Value.ownBlock])).1, lg1, (oh1.lt h1 (by simp [Value.ownBlock])).2⟩
 clear og1 oh1 bg1 lg1
 clear aR0 aR1 aR2 aR3
 go_wp2_with fail
 refine (HK1.out g1 h1 w2 (isPairs_own Rp1w2.out).2.2 (isSess_own Rp2w2.out).2.2).mono ?_
 rintro e w3 ⟨rfl, b3⟩
 have B3 := Bw2.trans (b3.mono Bw2.size)
 have HaR3 : Hid (w3.heap[w.heap.size]? = some (.cells #[.int .i64 ix, .string ⟨r.toArray⟩, .slice a ps.length cap, .slice c ss.length cap2] 25 (0, 0))) := (b3.block (w.heap.size) (lt_of_block HaRw2.out)).trans HaRw2.out
 have Rp13 := hidOwn (kept2 Rp1w2.out b3)
 have Rp23 := hidOwn (kept2 Rp2w2.out b3)
 clear b3
 obtain ⟨aR0, aR1, aR2, aR3, _⟩ := rp_cells HaR3.out
 go_wp2_with fail
 refine (HTO.out w3 B3).mono ?_
 rintro e w4 ⟨gx, hx, rfl, lgx, ogx, ohx, bgx⟩
 have Bw4 := B3.trans (bgx.mono B3.size)
 have HaRw4 : Hid (w4.heap[w.heap.size]? = some (.cells #[.int .i64 ix, .string ⟨r.toArray⟩, .slice a ps.length cap, .slice c ss.length cap2] 25 (0, 0))) := (bgx.block (w.heap.size) (lt_of_block HaR3.out)).trans HaR3.out
 have Rx1w4 : Hid (w4.ownsRow w3.heap.size 57 2 (Value.slice (some ⟨gx, 0, none⟩) ps.length ps.length) ps.length (pcells ps)) := ogx
 have Rx2w4 : Hid (w4.ownsRow w3.heap.size 67 2 (Value.slice (some ⟨hx, 0, none⟩) ss.length ss.length) ss.length (secells ss)) := ohx
 have Lx : Hid (w3.heap.size ≤ gx ∧ gx < hx ∧ hx < w4.heap.size) := ⟨(ogx.lt gx (by simp [Value.ownBlock])).1, lgx, (ohx.lt hx (by simp [Value.ownBlock])).2⟩
 clear ogx ohx bgx lgx
 clear aR0 aR1 aR2 aR3
 have Xw4a : Below w4.heap.size w4 (w4.alloc (.cells #[.int .i64 ix, .string ⟨r.toArray⟩, .slice (some ⟨gx, 0, none⟩) ps.length ps.length, .slice (some ⟨hx, 0, none⟩) ss.length ss.length] 31)) := (Below.refl _ _).alloc (Nat.le_refl _) _
 have Bw4a := Bw4.trans (Xw4a.mono Bw4.size)
 have HaRw4a : Hid ((w4.alloc (.cells #[.int .i64 ix, .string ⟨r.toArray⟩, .slice (some ⟨gx, 0, none⟩) ps.length ps.length, .slice (some ⟨hx, 0, none⟩) ss.length ss.length] 31)).heap[w.heap.size]? = some (.cells #[.int .i64 ix, .string ⟨r.toArray⟩, .slice a ps.length cap, .slice c ss.length cap2] 25 (0, 0))) := (Xw4a.block (w.heap.size) (lt_of_block HaRw4.out)).trans HaRw4.out
 have Rx1w4a := hidOwn (kept2 Rx1w4.out Xw4a)
 have Rx2w4a := hidOwn (kept2 Rx2w4.out Xw4a)
 have Hxw4a : Hid ((w4.alloc (.cells #[.int .i64 ix, .string ⟨r.toArray⟩, .slice (some ⟨gx, 0, none⟩) ps.length ps.length, .slice (some ⟨hx, 0, none⟩) ss.length ss.length] 31)).heap[w4.heap.size]? = some (.cells #[.int .i64 ix, .string ⟨r.toArray⟩, .slice (some ⟨gx, 0, none⟩) ps.length ps.length, .slice (some ⟨hx, 0, none⟩) ss.length ss.length] 31 (0, 0))) := heap_alloc_new w4 _
 obtain ⟨x0, x1, x2, x3, _⟩ := rp_cells Hxw4a.out
 go_wp2_with fail
 refine (HK2.out gx hx (w4.alloc (.cells #[.int .i64 ix, .string ⟨r.toArray⟩, .slice (some ⟨gx, 0, none⟩) ps.length ps.length, .slice (some ⟨hx, 0, none⟩) ss.length ss.length] 31)) (HT.out.later Bw4a) (isPairs_own Rx1w4a.out).2.2 (isSess_own Rx2w4a.out).2.2).mono ?_
 rintro e w5 ⟨rfl, b5⟩
 have B5 := Bw4a.trans (b5.mono Bw4a.size)
 have HaR5 : Hid (w5.heap[w.heap.size]? = some (.cells #[.int .i64 ix, .string ⟨r.toArray⟩, .slice a ps.length cap, .slice c ss.length cap2] 25 (0, 0))) := (b5.block (w.heap.size) (lt_of_block HaRw4a.out)).trans HaRw4a.out
 have Hx5 : Hid (w5.heap[w4.heap.size]? = some (.cells #[.int .i64 ix, .string ⟨r.toArray⟩, .slice (some ⟨gx, 0, none⟩) ps.length ps.length, .slice (some ⟨hx, 0, none⟩) ss.length ss.length] 31 (0, 0))) := (b5.block (w4.heap.size) (lt_of_block Hxw4a.out)).trans Hxw4a.out
 have Rx15 := hidOwn (kept2 Rx1w4a.out b5)
 have Rx25 := hidOwn (kept2 Rx2w4a.out b5)
 clear x0 x1 x2 x3
 clear b5
 have SB : Hid (∀ W, Below w5.heap.size w5 W → W.cell? ⟨w.heap.size, 0, none⟩ = some (.int .i64 ix) ∧ W.cell? ⟨w.heap.size, 1, none⟩ = some (.string ⟨r.toArray⟩) ∧ W.cell? ⟨w.heap.size, 2, none⟩ = some (.slice a ps.length cap) ∧ W.cell? ⟨w.heap.size, 3, none⟩ = some (.slice c ss.length cap2) ∧ W.cell? ⟨w4.heap.size, 0, none⟩ = some (.int .i64 ix) ∧ W.cell? ⟨w4.heap.size, 1, none⟩ = some (.string ⟨r.toArray⟩) ∧ W.cell? ⟨w4.heap.size, 2, none⟩ = some ((Value.slice (some ⟨gx, 0, none⟩) ps.length ps.length)) ∧ W.cell? ⟨w4.heap.size, 3, none⟩ = some ((Value.slice (some ⟨hx, 0, none⟩) ss.length ss.length))) := fun W hW => by
  obtain ⟨u0, u1, u2, u3, _⟩ := rp_cells ((hW.block _ (lt_of_block HaR5.out)).trans HaR5.out)
  obtain ⟨v0, v1, v2, v3, _⟩ := rp_cells ((hW.block _ (lt_of_block Hx5.out)).trans Hx5.out)
  exact ⟨u0, u1, u2, u3, v0, v1, v2, v3⟩
 have BD : Below w5.heap.size w5 w5.drew := ⟨rfl, rfl, rfl, Nat.le_refl _, fun _ _ => rfl⟩
 have WD : Below w.heap.size w w5.drew := B5.trans (BD.mono B5.size)
 go_wp2
 go_region_held3 (fun w' => w'.cell? ⟨w.heap.size, 0, none⟩ = some (.int .i64 ix) ∧ w'.cell? ⟨w.heap.size, 1, none⟩ = some (.string ⟨r.toArray⟩) ∧ w'.cell? ⟨w.heap.size, 2, none⟩ = some (.slice a ps.length cap) ∧ w'.cell? ⟨w.heap.size, 3, none⟩ = some (.slice c ss.length cap2) ∧ w'.cell? ⟨w4.heap.size, 0, none⟩ = some (.int .i64 ix) ∧ w'.cell? ⟨w4.heap.size, 1, none⟩ = some (.string ⟨r.toArray⟩) ∧ w'.cell? ⟨w4.heap.size, 2, none⟩ = some ((Value.slice (some ⟨gx, 0, none⟩) ps.length ps.length)) ∧ w'.cell? ⟨w4.heap.size, 3, none⟩ = some ((Value.slice (some ⟨hx, 0, none⟩) ss.length ss.length))) (first | with_reducible exact SB.out _ BC2 | with_reducible exact SB.out _ BC1 | with_reducible exact SB.out _ BD | go_keep)
  (first
   | (go_at_call 9
      with_reducible refine (HTO.out w5.drew WD).mono ?_
      rintro e w6i ⟨gz, hz, rfl, lz, oz1, oz2, b7⟩
      have BC1 : Below w5.heap.size w5 w6i := BD.trans (b7.mono BD.size)
      have J1 : Hid (IsPairs w6i (some ⟨gz, 0, none⟩) ps ∧ IsPairs w6i (some ⟨gx, 0, none⟩) ps ∧ IsSess w6i (some ⟨hz, 0, none⟩) ss ∧ IsSess w6i (some ⟨hx, 0, none⟩) ss) := ⟨(isPairs_own oz1).2.2, (isPairs_own (kept2 Rx15.out BC1)).2.2, (isSess_own oz2).2.2, (isSess_own (kept2 Rx25.out BC1)).2.2⟩
      clear oz1 oz2 b7 lz)
   | (go_at_call 11
      with_reducible refine (eqReplica_same ix r ps ss (some ⟨gx, 0, none⟩) (some ⟨gz, 0, none⟩) (some ⟨hx, 0, none⟩) (some ⟨hz, 0, none⟩) ps.length ps.length ss.length ss.length w6i (by omega) J1.out.2.1 J1.out.1 (by omega) J1.out.2.2.2 J1.out.2.2.1).mono ?_
      rintro e w6j ⟨rfl, b8⟩
      have BC2 : Below w5.heap.size w5 w6j := BC1.trans (b8.mono BC1.size)
      clear b8))
 have B6 := B5.trans (BC2.mono B5.size)
 have HaR6 : Hid (w6j.heap[w.heap.size]? = some (.cells #[.int .i64 ix, .string ⟨r.toArray⟩, .slice a ps.length cap, .slice c ss.length cap2] 25 (0, 0))) := (BC2.block (w.heap.size) (lt_of_block HaR5.out)).trans HaR5.out
 have Hx6 : Hid (w6j.heap[w4.heap.size]? = some (.cells #[.int .i64 ix, .string ⟨r.toArray⟩, .slice (some ⟨gx, 0, none⟩) ps.length ps.length, .slice (some ⟨hx, 0, none⟩) ss.length ss.length] 31 (0, 0))) := (BC2.block (w4.heap.size) (lt_of_block Hx5.out)).trans Hx5.out
 have Rx16 := hidOwn (kept2 Rx15.out BC2)
 have Rx26 := hidOwn (kept2 Rx25.out BC2)
 clear SB BD WD BC1 BC2 J1
 all_goals go_wp2
 all_goals go_ret
 all_goals exact ⟨rfl, B6⟩
set_option maxRecDepth 100000 in
theorem lifted (os : Os) (started : os.Started) (H : Type) (enc : TypeId × Value → H) :
 ReturnsInHanded {} Tryz.checked os 5 .any (fun w args => (Rows.fnExactReplicaTextSpec.pre enc Tryz.prog Tryz.f5 [] false w args ∧ laidMetH Tryz.prog Rows.fnExactReplicaTextRow.laid w) ∧ sizedMet enc Tryz.prog Tryz.f5 (OpenSpec.ofChange Rows.fnExactReplicaTextSpec) false w args)
  (Rows.fnExactReplicaTextSpec.post enc Tryz.prog Tryz.f5 false true false false) := by
 refine returnsInHanded_of_change_and (C := Tryz.checked) (X := fun w _ => laidMetH Tryz.prog Rows.fnExactReplicaTextRow.laid w) (fun _ _ _ hh h => h.of_heap hh) own started (by kernel_rfl) Tryz.func5
  (ChangeSpec.witness_shaped (enc := enc) (C := Tryz.checked) (os := os) (X := fun w _ => laidMetH Tryz.prog Rows.fnExactReplicaTextRow.laid w) false (World.doorLaid Tryz.prog 400 os) #[.agg #[.int .i64 0, .string ByteArray.empty, .slice none 0 0, .slice none 0 0]] 8 rfl (World.shaped_of_RefB (by kernel_rfl) (by kernel_rfl)) (by kernel_rfl) (by kernel_rfl) (by kernel_rfl) (door_met os _)) ?_
 intro W base args ds gs before hval0 hW _ _ hL _
 have hval : ∀ (j : Nat) t v, Tryz.f5.params[j]? = some t → args[j]? = some v → Value.okWide Tryz.prog W .any base t v := hval0
 have hW' := hW
 obtain ⟨p, q, hA0, hV0, rfl, hfz, hnd⟩ := hW
 have hA : DataW.TrodAll enc Tryz.prog W 0 (fun _ => true) true Tryz.f5.params.toList args.toList ds p := hA0
 have hV : DataW.TrodVars enc Tryz.prog W (fun _ => true) ["loop.example/g00226/impl.roundWords"] gs q := hV0
 rw [Tryz.params5] at hA hval
 obtain ⟨v0, vs0, d0, ds0, p0, q0, hargs, rfl, rfl, h0, r0⟩ := trodAll_cons hA
 obtain ⟨rfl, rfl, rfl⟩ := trodAll_nil r0
 obtain rfl : args = #[v0] := by cases args; simp_all
 have k0 := h0
 have lt0 : ∀ x ∈ p0, x.block < W.heap.size := by obtain ⟨m, hm⟩ := k0; exact DataW.trod_lt m _ _ _ hm
 obtain ⟨ix, rr, a0, cap0, ps, c0, cap1, ss, hv0, hrl, hm, hs, hbig, hs2, hbig2⟩ := replica_of (hval 0 25 v0 rfl rfl) h0
 subst hv0
 obtain ⟨g, t, cs, fuel, d, p', rfl, hg, ht, hvar, hd, rfl⟩ := trodVars_one hV
 obtain rfl := Option.some.inj (gTab.symm.trans hg)
 obtain rfl := Option.some.inj (tTab.symm.trans ht)
 have hT := tab_of hL
 have hltv : ∀ x ∈ p', x.block < W.heap.size := fun x hx => hW'.lt x (List.mem_append_right _ (List.mem_append_right _ hx))
 clear hA0 hV0 hval0 hA hV
 refine (walk ix rr a0 cap0 ps c0 cap1 ss W hrl hbig hm hs hbig2 hs2 hT).mono fun e W' ⟨he, hB⟩ => ?_
 subst he
 obtain ⟨fuel', hd'⟩ := Below.trod laidOut0 (by kernel_rfl) (of_decide_eq_true (by kernel_rfl)) (v := .agg cs) (⟨fuel, by simpa [Value.cells] using hd⟩ : DataW.Trod enc Tryz.prog W 0 (fun _ => true) true 184 (.agg cs) d p') hB hltv
 have hv' := trodVars_mk1 (enc := enc) (spare := fun b => decide (b < W.heap.size)) hg ht (var?_below hB hg hT.1 hvar) (by simpa [Value.cells] using hd')
 exact ⟨_, rfl, _, _, _, [], _, _, hW', trodAll_mk1 (shut_bool Tryz.underlying4 _), (trodAll_cons_mk (Below.trod laidOut0 (by kernel_rfl) (of_decide_eq_true (by kernel_rfl)) k0 hB lt0) trodAll_mk0), hv', hB.frame _, fun h => by cases h⟩
theorem named0 : Tryz.prog.funcNamed "loop.example/g00226/laws.FnExactReplicaText" = some 5 := by kernel_rfl
theorem closed0 : joinedFacts Tryz.prog 5 Tryz.f5 Rows.fnExactReplicaTextSpec Rows.fnExactReplicaTextRow = true := by
 unfold joinedFacts
 rw [seat_may, seat_lifts, seat_make]
 kernel_rfl
theorem inst0 : Tryz.f5.isInstance Tryz.prog Rows.fnExactReplicaTextRow.origin Rows.fnExactReplicaTextRow.targs := of_decide_eq_true (by kernel_rfl)
theorem wrap0 : Tryz.f5.isWrapper Tryz.prog Rows.fnExactReplicaTextRow.wrapper Rows.fnExactReplicaTextRow.mainSum := by unfold Func.isWrapper; first | (rw [if_pos (by decide +kernel)]; kernel_rfl) | (rw [if_neg (by decide +kernel)]; exact ⟨rfl, rfl⟩)
theorem over : Rows.fnExactReplicaTextRow.holds Tryz.pinned (OpenSpec.ofChange Rows.fnExactReplicaTextSpec) :=
 OpenClaim.holds_of_wide 5 Tryz.f5 rfl rfl rfl rfl rfl rfl rfl ⟨rfl, rfl, rfl, rfl, rfl⟩ rfl rfl rfl rfl rfl named0 Tryz.func5 closed0 inst0 wrap0
  (fun os started H enc _ => lifted os started H enc)
theorem text0 : Rows.fnExactReplicaTextRow.wfByText (OpenSpec.ofChange Rows.fnExactReplicaTextSpec) = true := by kernel_rfl
theorem looks0 : false = Tryz.prog.looks [] := by kernel_rfl
theorem goes0 : false = Rows.fnExactReplicaTextRow.goesBy Tryz.prog := by kernel_rfl
theorem wants0 : ([25].all fun u => !Tryz.prog.wantsStandIn u) = true := by kernel_rfl
theorem card : Claim7.holds Tryz.pinned (.plain (OpenSpec.ofChange Rows.fnExactReplicaTextSpec)) Rows.fnExactReplicaTextCard :=
 Claim7.holds_tied_plain_at .later [] [.data] true (true, Rows.fnExactReplicaTextCard.stood.harness.2) false
  over (fun _ h => by cases h) text0 (fun _ h => by cases h) fnExactReplicaText_row_tie rfl ⟨rfl, rfl⟩ seat_main rfl
  (fun f fn hf hfn => by
   obtain rfl : f = 5 := Option.some.inj (named0.symm.trans hf) |>.symm
   obtain rfl : fn = Tryz.f5 := (Option.some.inj (Tryz.func5.symm.trans hfn)).symm
   exact ⟨looks0, fun j t ht => by
    rw [Tryz.params5] at ht
    have hm : t ∈ [25] := by simpa using Array.mem_of_getElem? ht
    exact (show Tryz.prog.wantsStandIn t = false by simpa using List.all_eq_true.1 wants0 t hm)⟩)
  goes0
end Go.Proofs.YthnddgdnialogaaGreatDoor.fnExactReplicaText
namespace Go.Proofs.YthnddgdnialogaaGreatDoor
theorem fnExactReplicaText_holds : Rows.FnExactReplicaTextCardSaid := fnExactReplicaText.card
end Go.Proofs.YthnddgdnialogaaGreatDoor
