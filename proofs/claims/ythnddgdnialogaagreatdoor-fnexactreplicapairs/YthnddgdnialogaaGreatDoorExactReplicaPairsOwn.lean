/-
 At every replica ReplicaPairs answers as its model; it writes into no argument, and its answer owns its memory. No condition; the round words are laid as the program's text lays them.
-/
import Derived.Test.YthnddgdnialogaaGreatDoorRepOk
import Derived.Test.YthnddgdnialogaaGreatDoorPairs
import Derived.Test.YthnddgdnialogaaGreatDoorSeatAll
import Derived.Test.YthnddgdnialogaaGreatDoorTie
import Derived.Test.YthnddgdnialogaaGreatDoorCards
import Derived.ProofKit
import Derived.LaidMore
import Derived.OpenShut
import Derived.ShutString
import Derived.ChangeOld
import Derived.Below
import Derived.Stop.Joined
import Derived.Lib.LaidTab
import Derived.SevenTiedAt
import Derived.SliceStrings
namespace Go.Proofs.YthnddgdnialogaaGreatDoor.fnExactReplicaPairs
open Go.ChangeShapes Go.WideShapes Go.ChangeAt Go.RowKit
open Go.ChangeMaps (open_string shut_string)
set_option linter.unusedVariables false
theorem own : ownKnob Tryz.prog.godebug = none := by kernel_rfl
theorem laidOut0 : laidOutB Tryz.prog = true := by kernel_rfl
theorem gTab : Tryz.prog.globalNamed "loop.example/g00226/impl.roundWords" = some 0 := by kernel_rfl
theorem tTab : (Tryz.prog.globals[0]?).map (·.type) = some 184 := by kernel_rfl
theorem door_met (os : Os) (args : Array Value) : laidMetH Tryz.prog Rows.fnExactReplicaPairsRow.laid ((World.doorLaid Tryz.prog 400 os).forCall (fun _ _ => 0) ⟨#[], args, []⟩).memory :=
 laidMetH_of_parts3 (fuel := 8) (laidMet_of_run' 8 (by kernel_rfl) (by kernel_rfl)) (by kernel_rfl) (by kernel_rfl)
theorem tab_of {W : World} (h : laidMetH Tryz.prog Rows.fnExactReplicaPairsRow.laid W) : Tab W := by
 rw [MakeChecks.laidMetH_plain _ _ _ (by kernel_rfl)] at h
 have hT : Lib.TabIs Tryz.prog W "loop.example/g00226/impl.roundWords" .u32 (kL.map fun x => num x) := Lib.tabIs_of_head (rest := []) gTab tTab Tryz.underlying184 Tryz.underlying136 (by kernel_rfl) (by kernel_rfl) h
 have hc : ∀ i, i < 64 → W.cell? ⟨0, i, none⟩ = some (.int .u32 (num (kL.getD i 0))) := fun i hi => by
  have hl : i < kL.length := hi
  have := hT.cell gTab i (by rw [List.length_map]; exact hl)
  rw [this]
  simp [List.getD, hl]
 exact ⟨block_lt_of_cell (hc 0 (by omega)), hc⟩
theorem sizes_le (ps : List PairL) (L : Nat) (hL : L ≤ 1048576) (h : ps.length + sizeP ps ≤ L) : ∀ p ∈ ps, p.1.length ≤ 1048576 ∧ p.2.length ≤ 1048576 := by
 intro p hp
 obtain ⟨j, hj, rfl⟩ := List.getElem_of_mem hp
 have := sizeP_le ps j hj
 exact ⟨by omega, by omega⟩
theorem rep_len (ix : Int) (r : List UInt8) (ps : List PairL) (ss : List SessL) : ((repR ix r ps ss).getD []).length ≤ 60 := by
 cases h : repR ix r ps ss with
 | none => simp
 | some l => exact (pairsAt_fit (rep_is h).2.1).1
set_option maxRecDepth 100000 in
set_option maxHeartbeats 8000000 in
theorem walk (ix : Int) (r : List UInt8) (a : Option Addr) (cap : Nat) (ps : List PairL) (c : Option Addr) (cap2 : Nat) (ss : List SessL) (w : World) (hr : r.length ≤ 9223372036854775807) (hl : ps.length ≤ 9223372036854775807) (hm : ∀ p ∈ ps, p.1.length ≤ 9223372036854775807 ∧ p.2.length ≤ 9223372036854775807) (hs : IsPairs w a ps) (hl2 : ss.length ≤ 9223372036854775807) (hs2 : IsSess w c ss) (hT : Tab w) :
 Calls Tryz.prog 4 #[.agg #[.int .i64 ix, .string ⟨r.toArray⟩, .slice a ps.length cap, .slice c ss.length cap2]] w fun e w' => e = .returned (.bool true) ∧ Below w.heap.size w w' := by
 have HT : Hid (Tab w) := hT
 have HS : Hid (∀ W, Below w.heap.size w W → IsPairs W a ps) := fun W hW => hs.later hW
 have HS2 : Hid (∀ W, Below w.heap.size w W → IsSess W c ss) := fun W hW => hs2.later hW
 have Bz : Below w.heap.size w w := Below.refl _ _
 have Xp : Below w.heap.size w (w.alloc (.cells #[.int .i64 ix, .string ⟨r.toArray⟩, .slice a ps.length cap, .slice c ss.length cap2] 25)) := (Below.refl _ _).alloc (Nat.le_refl _) _
 have Bp := Bz.trans (Xp.mono Bz.size)
 have HaRp : Hid ((w.alloc (.cells #[.int .i64 ix, .string ⟨r.toArray⟩, .slice a ps.length cap, .slice c ss.length cap2] 25)).heap[w.heap.size]? = some (.cells #[.int .i64 ix, .string ⟨r.toArray⟩, .slice a ps.length cap, .slice c ss.length cap2] 25 (0, 0))) := heap_alloc_new w _
 have KZ := szReplica_any 1048576 (Nat.le_refl _) ix r a cap ps c cap2 ss (w.alloc (.cells #[.int .i64 ix, .string ⟨r.toArray⟩, .slice a ps.length cap, .slice c ss.length cap2] 25)) hr hl hm (HS.out _ Bp) hl2
 obtain ⟨aR0, aR1, aR2, aR3, _⟩ := rp_cells HaRp.out
 clear hs hs2 hm hT Xp Bz
 go_enter Tryz.func4, Tryz.ntmps4
 go_wp2_with fail
 refine KZ.mono ?_
 rintro e w1 ⟨he, b1⟩
 have B1 := Bp.trans (b1.mono Bp.size)
 have HaR1 : Hid (w1.heap[w.heap.size]? = some (.cells #[.int .i64 ix, .string ⟨r.toArray⟩, .slice a ps.length cap, .slice c ss.length cap2] 25 (0, 0))) := (b1.block (w.heap.size) (lt_of_block HaRp.out)).trans HaRp.out
 rcases he with rfl | ⟨hrl, hsz, hln2, n1, hn1, rfl⟩
 · go_wp2
   go_ret
   exact ⟨rfl, B1⟩
 have hn10 : (0 : Int) ≤ (n1 : Int) := by omega
 have hln : ps.length ≤ 1048576 := by omega
 have hmm := sizes_le ps 1048576 (Nat.le_refl _) hsz
 have HK1' := fun g h W (h1 : IsPairs W (some ⟨g, 0, none⟩) ps) (h2 : IsSess W (some ⟨h, 0, none⟩) ss) => spec_replicaPairs ix r (some ⟨g, 0, none⟩) ps.length ps (some ⟨h, 0, none⟩) ss.length ss W hln hmm h1 hln2 h2
 have HK2' := fun g h W (hT : Tab W) (h1 : IsPairs W (some ⟨g, 0, none⟩) ps) (h2 : IsSess W (some ⟨h, 0, none⟩) ss) => impl_replicaPairs ix r (some ⟨g, 0, none⟩) ps.length ps (some ⟨h, 0, none⟩) ss.length ss W hT hrl hln hmm h1 hln2 h2
 have hrl9 := rep_len ix r ps ss
 unfold PAPost at HK1' HK2'
 obtain ⟨ok, hok⟩ : ∃ ok, ok = (repR ix r ps ss).isSome := ⟨_, rfl⟩
 obtain ⟨rs, hrs⟩ : ∃ rs, rs = (repR ix r ps ss).getD [] := ⟨_, rfl⟩
 rw [← hok, ← hrs] at HK1' HK2'
 rw [← hrs] at hrl9
 have HK1 : Hid (∀ g h W, IsPairs W (some ⟨g, 0, none⟩) ps → IsSess W (some ⟨h, 0, none⟩) ss → Calls Tryz.prog 12 #[.agg #[.int .i64 ix, .string ⟨r.toArray⟩, .slice (some ⟨g, 0, none⟩) ps.length ps.length, .slice (some ⟨h, 0, none⟩) ss.length ss.length]] W fun e w' => ∃ (a : Option Addr) (m c : Nat), e = .returned (.tuple #[.slice a m c, .bool ok]) ∧ w'.ownsRow W.heap.size 60 2 (.slice a m c) rs.length (pcells rs) ∧ Below W.heap.size W w') := HK1'
 have HK2 : Hid (∀ g h W, Tab W → IsPairs W (some ⟨g, 0, none⟩) ps → IsSess W (some ⟨h, 0, none⟩) ss → Calls Tryz.prog 13 #[.agg #[.int .i64 ix, .string ⟨r.toArray⟩, .slice (some ⟨g, 0, none⟩) ps.length ps.length, .slice (some ⟨h, 0, none⟩) ss.length ss.length]] W fun e w' => ∃ (a : Option Addr) (m c : Nat), e = .returned (.tuple #[.slice a m c, .bool ok]) ∧ w'.ownsRow W.heap.size 60 2 (.slice a m c) rs.length (pcells rs) ∧ Below W.heap.size W w') := HK2'
 clear HK1' HK2' hok hrs
 have HTO : Hid (∀ W, Below w.heap.size w W → Calls Tryz.prog 9 #[.agg #[.int .i64 ix, .string ⟨r.toArray⟩, .slice a ps.length cap, .slice c ss.length cap2]] W fun e w' => ∃ g g2 : Nat, e = .returned (.agg #[.int .i64 ix, .string ⟨r.toArray⟩, .slice (some ⟨g, 0, none⟩) ps.length ps.length, .slice (some ⟨g2, 0, none⟩) ss.length ss.length]) ∧ g < g2 ∧ w'.ownsRow W.heap.size 57 2 (Value.slice (some ⟨g, 0, none⟩) ps.length ps.length) ps.length (pcells ps) ∧ w'.ownsRow W.heap.size 67 2 (Value.slice (some ⟨g2, 0, none⟩) ss.length ss.length) ss.length (secells ss) ∧ Below W.heap.size W w') := fun W hW => toReplica_any ix r a cap ps c cap2 ss W hln (HS.out W hW) hln2 (HS2.out W hW)
 clear hmm hsz hn1 KZ HS HS2 hr hl hl2 b1 aR0 aR1 aR2 aR3 HaRp
 obtain ⟨aR0, aR1, aR2, aR3, _⟩ := rp_cells HaR1.out
 go_wp2_with fail
 refine (HTO.out w1 B1).mono ?_
 rintro e w2 ⟨g1, h1, rfl, lg1, og1, oh1, bg1⟩
 have Bw2 := B1.trans (bg1.mono B1.size)
 have HaRw2 : Hid (w2.heap[w.heap.size]? = some (.cells #[.int .i64 ix, .string ⟨r.toArray⟩, .slice a ps.length cap, .slice c ss.length cap2] 25 (0, 0))) := (bg1.block (w.heap.size) (lt_of_block HaR1.out)).trans HaR1.out
 have Rp1w2 : Hid (w2.ownsRow w1.heap.size 57 2 (Value.slice (some ⟨g1, 0, none⟩) ps.length ps.length) ps.length (pcells ps)) := og1
 have Rp2w2 : Hid (w2.ownsRow w1.heap.size 67 2 (Value.slice (some ⟨h1, 0, none⟩) ss.length ss.length) ss.length (secells ss)) := oh1
 have Lp : Hid (w1.heap.size ≤ g1 ∧ g1 < h1 ∧ h1 < w2.heap.size) := ⟨(og1.lt g1 (by simp [Value.ownBlock])).1, lg1, (oh1.lt h1 (by simp [Value.ownBlock])).2⟩
 clear og1 oh1 bg1 lg1
 clear aR0 aR1 aR2 aR3
 go_wp2_with fail
 refine (HK1.out g1 h1 w2 (isPairs_own Rp1w2.out).2.2 (isSess_own Rp2w2.out).2.2).mono ?_
 rintro e w3 ⟨aw, maw, cw, rfl, oaw, baw⟩
 obtain ⟨rfl, _, _⟩ := isPairs_own oaw
 have Bw3 := Bw2.trans (baw.mono Bw2.size)
 have HaRw3 : Hid (w3.heap[w.heap.size]? = some (.cells #[.int .i64 ix, .string ⟨r.toArray⟩, .slice a ps.length cap, .slice c ss.length cap2] 25 (0, 0))) := (baw.block (w.heap.size) (lt_of_block HaRw2.out)).trans HaRw2.out
 have Rp1w3 := hidOwn (kept2 Rp1w2.out baw)
 have Rp2w3 := hidOwn (kept2 Rp2w2.out baw)
 have Rww3 : Hid (w3.ownsRow w2.heap.size 60 2 (Value.slice aw rs.length cw) rs.length (pcells rs)) := oaw
 have Lw : Hid (∀ q, (Value.slice aw rs.length cw).ownBlock = some q → w2.heap.size ≤ q ∧ q < w3.heap.size) := fun q hq => oaw.lt q hq
 clear oaw baw
 have S0 : Hid (w.heap.size < w3.heap.size) := lt_of_block HaRw3.out
 obtain ⟨aR0, aR1, aR2, aR3, _⟩ := rp_cells HaRw3.out
 go_wp2_with fail
 refine (HTO.out w3 Bw3).mono ?_
 rintro e w4 ⟨gx, hx, rfl, lgx, ogx, ohx, bgx⟩
 have Bw4 := Bw3.trans (bgx.mono Bw3.size)
 have HaRw4 : Hid (w4.heap[w.heap.size]? = some (.cells #[.int .i64 ix, .string ⟨r.toArray⟩, .slice a ps.length cap, .slice c ss.length cap2] 25 (0, 0))) := (bgx.block (w.heap.size) (lt_of_block HaRw3.out)).trans HaRw3.out
 have Rww4 := hidOwn (kept2 Rww3.out bgx)
 have Rx1w4 : Hid (w4.ownsRow w3.heap.size 57 2 (Value.slice (some ⟨gx, 0, none⟩) ps.length ps.length) ps.length (pcells ps)) := ogx
 have Rx2w4 : Hid (w4.ownsRow w3.heap.size 67 2 (Value.slice (some ⟨hx, 0, none⟩) ss.length ss.length) ss.length (secells ss)) := ohx
 have Lx : Hid (w3.heap.size ≤ gx ∧ gx < hx ∧ hx < w4.heap.size) := ⟨(ogx.lt gx (by simp [Value.ownBlock])).1, lgx, (ohx.lt hx (by simp [Value.ownBlock])).2⟩
 clear ogx ohx bgx lgx
 clear aR0 aR1 aR2 aR3
 have Xw4a : Below w4.heap.size w4 (w4.alloc (.cells #[.int .i64 ix, .string ⟨r.toArray⟩, .slice (some ⟨gx, 0, none⟩) ps.length ps.length, .slice (some ⟨hx, 0, none⟩) ss.length ss.length] 31)) := (Below.refl _ _).alloc (Nat.le_refl _) _
 have Bw4a := Bw4.trans (Xw4a.mono Bw4.size)
 have HaRw4a : Hid ((w4.alloc (.cells #[.int .i64 ix, .string ⟨r.toArray⟩, .slice (some ⟨gx, 0, none⟩) ps.length ps.length, .slice (some ⟨hx, 0, none⟩) ss.length ss.length] 31)).heap[w.heap.size]? = some (.cells #[.int .i64 ix, .string ⟨r.toArray⟩, .slice a ps.length cap, .slice c ss.length cap2] 25 (0, 0))) := (Xw4a.block (w.heap.size) (lt_of_block HaRw4.out)).trans HaRw4.out
 have Rww4a := hidOwn (kept2 Rww4.out Xw4a)
 have Rx1w4a := hidOwn (kept2 Rx1w4.out Xw4a)
 have Rx2w4a := hidOwn (kept2 Rx2w4.out Xw4a)
 have Hxw4a : Hid ((w4.alloc (.cells #[.int .i64 ix, .string ⟨r.toArray⟩, .slice (some ⟨gx, 0, none⟩) ps.length ps.length, .slice (some ⟨hx, 0, none⟩) ss.length ss.length] 31)).heap[w4.heap.size]? = some (.cells #[.int .i64 ix, .string ⟨r.toArray⟩, .slice (some ⟨gx, 0, none⟩) ps.length ps.length, .slice (some ⟨hx, 0, none⟩) ss.length ss.length] 31 (0, 0))) := heap_alloc_new w4 _
 obtain ⟨x0, x1, x2, x3, _⟩ := rp_cells Hxw4a.out
 go_wp2_with fail
 refine (HK2.out gx hx (w4.alloc (.cells #[.int .i64 ix, .string ⟨r.toArray⟩, .slice (some ⟨gx, 0, none⟩) ps.length ps.length, .slice (some ⟨hx, 0, none⟩) ss.length ss.length] 31)) (HT.out.later Bw4a) (isPairs_own Rx1w4a.out).2.2 (isSess_own Rx2w4a.out).2.2).mono ?_
 rintro e w5 ⟨ag, mag, cg, rfl, oag, bag⟩
 obtain ⟨rfl, _, _⟩ := isPairs_own oag
 have Bw5 := Bw4a.trans (bag.mono Bw4a.size)
 have HaRw5 : Hid (w5.heap[w.heap.size]? = some (.cells #[.int .i64 ix, .string ⟨r.toArray⟩, .slice a ps.length cap, .slice c ss.length cap2] 25 (0, 0))) := (bag.block (w.heap.size) (lt_of_block HaRw4a.out)).trans HaRw4a.out
 have Hxw5 : Hid (w5.heap[w4.heap.size]? = some (.cells #[.int .i64 ix, .string ⟨r.toArray⟩, .slice (some ⟨gx, 0, none⟩) ps.length ps.length, .slice (some ⟨hx, 0, none⟩) ss.length ss.length] 31 (0, 0))) := (bag.block (w4.heap.size) (lt_of_block Hxw4a.out)).trans Hxw4a.out
 have Rww5 := hidOwn (kept2 Rww4a.out bag)
 have Rx1w5 := hidOwn (kept2 Rx1w4a.out bag)
 have Rx2w5 := hidOwn (kept2 Rx2w4a.out bag)
 have Rgw5 : Hid (w5.ownsRow (w4.alloc (.cells #[.int .i64 ix, .string ⟨r.toArray⟩, .slice (some ⟨gx, 0, none⟩) ps.length ps.length, .slice (some ⟨hx, 0, none⟩) ss.length ss.length] 31)).heap.size 60 2 (Value.slice ag rs.length cg) rs.length (pcells rs)) := oag
 have Lg : Hid (∀ q, (Value.slice ag rs.length cg).ownBlock = some q → (w4.alloc (.cells #[.int .i64 ix, .string ⟨r.toArray⟩, .slice (some ⟨gx, 0, none⟩) ps.length ps.length, .slice (some ⟨hx, 0, none⟩) ss.length ss.length] 31)).heap.size ≤ q ∧ q < w5.heap.size) := fun q hq => oag.lt q hq
 clear oag bag
 clear x0 x1 x2 x3
 have S4 : Hid ((w4.alloc (.cells #[.int .i64 ix, .string ⟨r.toArray⟩, .slice (some ⟨gx, 0, none⟩) ps.length ps.length, .slice (some ⟨hx, 0, none⟩) ss.length ss.length] 31)).heap.size = w4.heap.size + 1) := by rw [Hid]; simp
 go_wp2_with fail
 refine (eqPairS_same rs ag aw _ _ _ (by omega) (isPairs_own Rgw5.out).2.2 (isPairs_own Rww5.out).2.2).mono ?_
 rintro e w6 ⟨rfl, b9⟩
 have Bw6 := Bw5.trans (b9.mono Bw5.size)
 have HaRw6 : Hid (w6.heap[w.heap.size]? = some (.cells #[.int .i64 ix, .string ⟨r.toArray⟩, .slice a ps.length cap, .slice c ss.length cap2] 25 (0, 0))) := (b9.block (w.heap.size) (lt_of_block HaRw5.out)).trans HaRw5.out
 have Hxw6 : Hid (w6.heap[w4.heap.size]? = some (.cells #[.int .i64 ix, .string ⟨r.toArray⟩, .slice (some ⟨gx, 0, none⟩) ps.length ps.length, .slice (some ⟨hx, 0, none⟩) ss.length ss.length] 31 (0, 0))) := (b9.block (w4.heap.size) (lt_of_block Hxw5.out)).trans Hxw5.out
 have Rww6 := hidOwn (kept2 Rww5.out b9)
 have Rx1w6 := hidOwn (kept2 Rx1w5.out b9)
 have Rx2w6 := hidOwn (kept2 Rx2w5.out b9)
 have Rgw6 := hidOwn (kept2 Rgw5.out b9)
 clear b9
 have SB : Hid (∀ W, Below w6.heap.size w6 W → W.cell? ⟨w.heap.size, 0, none⟩ = some (.int .i64 ix) ∧ W.cell? ⟨w.heap.size, 1, none⟩ = some (.string ⟨r.toArray⟩) ∧ W.cell? ⟨w.heap.size, 2, none⟩ = some (.slice a ps.length cap) ∧ W.cell? ⟨w.heap.size, 3, none⟩ = some (.slice c ss.length cap2) ∧ W.cell? ⟨w4.heap.size, 0, none⟩ = some (.int .i64 ix) ∧ W.cell? ⟨w4.heap.size, 1, none⟩ = some (.string ⟨r.toArray⟩) ∧ W.cell? ⟨w4.heap.size, 2, none⟩ = some ((Value.slice (some ⟨gx, 0, none⟩) ps.length ps.length)) ∧ W.cell? ⟨w4.heap.size, 3, none⟩ = some ((Value.slice (some ⟨hx, 0, none⟩) ss.length ss.length))) := fun W hW => by
  obtain ⟨u0, u1, u2, u3, _⟩ := rp_cells ((hW.block _ (lt_of_block HaRw6.out)).trans HaRw6.out)
  obtain ⟨v0, v1, v2, v3, _⟩ := rp_cells ((hW.block _ (lt_of_block Hxw6.out)).trans Hxw6.out)
  exact ⟨u0, u1, u2, u3, v0, v1, v2, v3⟩
 have BD : Below w6.heap.size w6 w6.drew := ⟨rfl, rfl, rfl, Nat.le_refl _, fun _ _ => rfl⟩
 have WD : Below w.heap.size w w6.drew := Bw6.trans (BD.mono Bw6.size)
 go_wp2
 go_region_held3 (fun w' => w'.cell? ⟨w.heap.size, 0, none⟩ = some (.int .i64 ix) ∧ w'.cell? ⟨w.heap.size, 1, none⟩ = some (.string ⟨r.toArray⟩) ∧ w'.cell? ⟨w.heap.size, 2, none⟩ = some (.slice a ps.length cap) ∧ w'.cell? ⟨w.heap.size, 3, none⟩ = some (.slice c ss.length cap2) ∧ w'.cell? ⟨w4.heap.size, 0, none⟩ = some (.int .i64 ix) ∧ w'.cell? ⟨w4.heap.size, 1, none⟩ = some (.string ⟨r.toArray⟩) ∧ w'.cell? ⟨w4.heap.size, 2, none⟩ = some ((Value.slice (some ⟨gx, 0, none⟩) ps.length ps.length)) ∧ w'.cell? ⟨w4.heap.size, 3, none⟩ = some ((Value.slice (some ⟨hx, 0, none⟩) ss.length ss.length))) (first | with_reducible exact SB.out _ BC2 | with_reducible exact SB.out _ BC1 | with_reducible exact SB.out _ BD | go_keep)
  (first
   | (go_at_call 9
      with_reducible refine (HTO.out w6.drew WD).mono ?_
      rintro e w7i ⟨gz, hz, rfl, lz, oz1, oz2, b7⟩
      have BC1 : Below w6.heap.size w6 w7i := BD.trans (b7.mono BD.size)
      have J1 : Hid (IsPairs w7i (some ⟨gz, 0, none⟩) ps ∧ IsPairs w7i (some ⟨gx, 0, none⟩) ps ∧ IsSess w7i (some ⟨hz, 0, none⟩) ss ∧ IsSess w7i (some ⟨hx, 0, none⟩) ss) := ⟨(isPairs_own oz1).2.2, (isPairs_own (kept2 Rx1w6.out BC1)).2.2, (isSess_own oz2).2.2, (isSess_own (kept2 Rx2w6.out BC1)).2.2⟩
      clear oz1 oz2 b7 lz)
   | (go_at_call 11
      with_reducible refine (eqReplica_same ix r ps ss (some ⟨gx, 0, none⟩) (some ⟨gz, 0, none⟩) (some ⟨hx, 0, none⟩) (some ⟨hz, 0, none⟩) ps.length ps.length ss.length ss.length w7i (by omega) J1.out.2.1 J1.out.1 (by omega) J1.out.2.2.2 J1.out.2.2.1).mono ?_
      rintro e w7j ⟨rfl, b8⟩
      have BC2 : Below w6.heap.size w6 w7j := BC1.trans (b8.mono BC1.size)
      clear b8))
 have B7 := Bw6.trans (BC2.mono Bw6.size)
 have HaR7 : Hid (w7j.heap[w.heap.size]? = some (.cells #[.int .i64 ix, .string ⟨r.toArray⟩, .slice a ps.length cap, .slice c ss.length cap2] 25 (0, 0))) := (BC2.block (w.heap.size) (lt_of_block HaRw6.out)).trans HaRw6.out
 have Hx7 : Hid (w7j.heap[w4.heap.size]? = some (.cells #[.int .i64 ix, .string ⟨r.toArray⟩, .slice (some ⟨gx, 0, none⟩) ps.length ps.length, .slice (some ⟨hx, 0, none⟩) ss.length ss.length] 31 (0, 0))) := (BC2.block (w4.heap.size) (lt_of_block Hxw6.out)).trans Hxw6.out
 have Rw7 := hidOwn (kept2 Rww6.out BC2)
 have Rx17 := hidOwn (kept2 Rx1w6.out BC2)
 have Rx27 := hidOwn (kept2 Rx2w6.out BC2)
 have Rg7 := hidOwn (kept2 Rgw6.out BC2)
 clear SB BD WD BC1 BC2 J1
 obtain ⟨x0, x1, x2, x3, _⟩ := rp_cells Hx7.out
 have hk0 : ¬ (1 : Int) + 2 * (ps.length : Int) + 2 * (ss.length : Int) < 0 := by omega
 have hkb : decide ((1 : Int) + 2 * (ps.length : Int) + 2 * (ss.length : Int) < 0) = false := decide_eq_false hk0
 have KM := markReplica_any ix r ps ss (some ⟨gx, 0, none⟩) (some ⟨hx, 0, none⟩) ps.length ps.length ss.length ss.length _ 1 w7j (by omega) (by omega) (by omega) (by omega) (fun q hq e => by have hx0 := Lx.out; simp [Value.ownBlock] at hq e; omega) Rx17.out Rx27.out
 go_wp2_with fail
 refine KM.mono ?_
 rintro e w8 ⟨he, _, _, wm, G1, G2⟩
 subst he
 have HaRm : Hid (wm.heap[w.heap.size]? = some (.cells #[.int .i64 ix, .string ⟨r.toArray⟩, .slice a ps.length cap, .slice c ss.length cap2] 25 (0, 0))) := (G1.block (w.heap.size) (lt_of_block HaR7.out) (fun e => by have hx0 := Lx.out; have hs0 := S0.out; have hs4 := S4.out; simp [Value.ownBlock] at e; omega)).trans HaR7.out
 have Hxm : Hid (wm.heap[w4.heap.size]? = some (.cells #[.int .i64 ix, .string ⟨r.toArray⟩, .slice (some ⟨gx, 0, none⟩) ps.length ps.length, .slice (some ⟨hx, 0, none⟩) ss.length ss.length] 31 (0, 0))) := (G1.block (w4.heap.size) (lt_of_block Hx7.out) (fun e => by have hx0 := Lx.out; have hs0 := S0.out; have hs4 := S4.out; simp [Value.ownBlock] at e; omega)).trans Hx7.out
 have Rwm := hidOwn (Rw7.out.kept G1 (by
  cases hv : (Value.slice aw rs.length cw).ownBlock with
  | none => exact .inl rfl
  | some q => exact .inr (fun e => by have hx0 := Lx.out; have hs0 := S0.out; have hs4 := S4.out; simp [Value.ownBlock] at e; have h1 := Lw.out q hv; omega)))
 have Rx2m := hidOwn (Rx27.out.kept G1 (by
  cases hv : (Value.slice (some ⟨hx, 0, none⟩) ss.length ss.length).ownBlock with
  | none => exact .inl rfl
  | some q => exact .inr (fun e => by have hx0 := Lx.out; have hs0 := S0.out; have hs4 := S4.out; simp [Value.ownBlock] at e; simp [Value.ownBlock] at hv; omega)))
 have Rgm := hidOwn (Rg7.out.kept G1 (by
  cases hv : (Value.slice ag rs.length cg).ownBlock with
  | none => exact .inl rfl
  | some q => exact .inr (fun e => by have hx0 := Lx.out; have hs0 := S0.out; have hs4 := S4.out; simp [Value.ownBlock] at e; have h1 := Lg.out q hv; omega)))
 have Bm : Below w.heap.size w wm := B7.grown G1 B7.size (fun q hq => by have hx0 := Lx.out; have hs0 := S0.out; have hs4 := S4.out; simp [Value.ownBlock] at hq; omega)
 have HaR8 : Hid (w8.heap[w.heap.size]? = some (.cells #[.int .i64 ix, .string ⟨r.toArray⟩, .slice a ps.length cap, .slice c ss.length cap2] 25 (0, 0))) := (G2.block (w.heap.size) (lt_of_block HaRm.out) (fun e => by have hx0 := Lx.out; have hs0 := S0.out; have hs4 := S4.out; simp [Value.ownBlock] at e; omega)).trans HaRm.out
 have Hx8 : Hid (w8.heap[w4.heap.size]? = some (.cells #[.int .i64 ix, .string ⟨r.toArray⟩, .slice (some ⟨gx, 0, none⟩) ps.length ps.length, .slice (some ⟨hx, 0, none⟩) ss.length ss.length] 31 (0, 0))) := (G2.block (w4.heap.size) (lt_of_block Hxm.out) (fun e => by have hx0 := Lx.out; have hs0 := S0.out; have hs4 := S4.out; simp [Value.ownBlock] at e; omega)).trans Hxm.out
 have Rw8 := hidOwn (Rwm.out.kept G2 (by
  cases hv : (Value.slice aw rs.length cw).ownBlock with
  | none => exact .inl rfl
  | some q => exact .inr (fun e => by have hx0 := Lx.out; have hs0 := S0.out; have hs4 := S4.out; simp [Value.ownBlock] at e; have h1 := Lw.out q hv; omega)))
 have Rg8 := hidOwn (Rgm.out.kept G2 (by
  cases hv : (Value.slice ag rs.length cg).ownBlock with
  | none => exact .inl rfl
  | some q => exact .inr (fun e => by have hx0 := Lx.out; have hs0 := S0.out; have hs4 := S4.out; simp [Value.ownBlock] at e; have h1 := Lg.out q hv; omega)))
 have B8 : Below w.heap.size w w8 := Bm.grown G2 Bm.size (fun q hq => by have hx0 := Lx.out; have hs0 := S0.out; have hs4 := S4.out; simp [Value.ownBlock] at hq; omega)
 clear x0 x1 x2 x3
 clear KM G1 G2
 go_wp2_with fail
 refine (eqPairS_same rs ag aw _ _ _ (by omega) (isPairs_own Rg8.out).2.2 (isPairs_own Rw8.out).2.2).mono ?_
 rintro e w9 ⟨rfl, b9⟩
 have Bw9 := B8.trans (b9.mono B8.size)
 have HaRw9 : Hid (w9.heap[w.heap.size]? = some (.cells #[.int .i64 ix, .string ⟨r.toArray⟩, .slice a ps.length cap, .slice c ss.length cap2] 25 (0, 0))) := (b9.block (w.heap.size) (lt_of_block HaR8.out)).trans HaR8.out
 have Rww9 := hidOwn (kept2 Rw8.out b9)
 have Rgw9 := hidOwn (kept2 Rg8.out b9)
 clear b9
 have hq0 : ¬ (1 : Int) + 2 * (rs.length : Int) < 0 := by omega
 have KM := markPairS_any rs ag rs.length cg _ 1 w9 (by omega) (by omega) (by omega) Rgw9.out
 go_wp2_with fail
 refine KM.mono ?_
 rintro e wa ⟨he, om, G⟩
 subst he
 have HaRwa : Hid (wa.heap[w.heap.size]? = some (.cells #[.int .i64 ix, .string ⟨r.toArray⟩, .slice a ps.length cap, .slice c ss.length cap2] 25 (0, 0))) := (G.block (w.heap.size) (lt_of_block HaRw9.out) (fun e => by have hx0 := Lx.out; have hs0 := S0.out; have hs4 := S4.out; have h2 := Lg.out _ e.symm; omega)).trans HaRw9.out
 have Rwwa := hidOwn (Rww9.out.kept G (by
  cases hv : (Value.slice aw rs.length cw).ownBlock with
  | none => exact .inl rfl
  | some q => exact .inr (fun e => by have hx0 := Lx.out; have hs0 := S0.out; have hs4 := S4.out; have h2 := Lg.out _ e.symm; have h1 := Lw.out q hv; omega)))
 have Bwa : Below w.heap.size w wa := Bw9.grown G Bw9.size (fun q hq => by have hx0 := Lx.out; have hs0 := S0.out; have hs4 := S4.out; have h2 := Lg.out q hq; omega)
 have Rgwa := hidOwn om
 clear KM G om
 have KM := heldPairS_any rs.length ag rs.length cg _ 1 wa (by omega) (by omega) (by omega) Rgwa.out
 go_wp2_with fail
 refine KM.mono ?_
 rintro e wb ⟨rfl, G⟩
 have bh := below_of_grown G
 have Bwb := Bwa.trans (bh.mono Bwa.size)
 have HaRwb : Hid (wb.heap[w.heap.size]? = some (.cells #[.int .i64 ix, .string ⟨r.toArray⟩, .slice a ps.length cap, .slice c ss.length cap2] 25 (0, 0))) := (bh.block (w.heap.size) (lt_of_block HaRwa.out)).trans HaRwa.out
 have Rwwb := hidOwn (kept2 Rwwa.out bh)
 have Rgwb := hidOwn (kept2 Rgwa.out bh)
 clear KM G bh
 obtain ⟨aR0, aR1, aR2, aR3, _⟩ := rp_cells HaRwb.out
 go_wp2_with fail
 refine (HTO.out wb Bwb).mono ?_
 rintro e wc ⟨g5, h5, rfl, lg5, og5, oh5, bg5⟩
 have Bwc := Bwb.trans (bg5.mono Bwb.size)
 have HaRwc : Hid (wc.heap[w.heap.size]? = some (.cells #[.int .i64 ix, .string ⟨r.toArray⟩, .slice a ps.length cap, .slice c ss.length cap2] 25 (0, 0))) := (bg5.block (w.heap.size) (lt_of_block HaRwb.out)).trans HaRwb.out
 have Rwwc := hidOwn (kept2 Rwwb.out bg5)
 have Rgwc := hidOwn (kept2 Rgwb.out bg5)
 have Rp1wc : Hid (wc.ownsRow wb.heap.size 57 2 (Value.slice (some ⟨g5, 0, none⟩) ps.length ps.length) ps.length (pcells ps)) := og5
 have Rp2wc : Hid (wc.ownsRow wb.heap.size 67 2 (Value.slice (some ⟨h5, 0, none⟩) ss.length ss.length) ss.length (secells ss)) := oh5
 have Lp : Hid (wb.heap.size ≤ g5 ∧ g5 < h5 ∧ h5 < wc.heap.size) := ⟨(og5.lt g5 (by simp [Value.ownBlock])).1, lg5, (oh5.lt h5 (by simp [Value.ownBlock])).2⟩
 clear og5 oh5 bg5 lg5
 clear aR0 aR1 aR2 aR3
 go_wp2_with fail
 refine (HK2.out g5 h5 wc (HT.out.later Bwc) (isPairs_own Rp1wc.out).2.2 (isSess_own Rp2wc.out).2.2).mono ?_
 rintro e wd ⟨ah, mah, ch, rfl, oah, bah⟩
 obtain ⟨rfl, _, _⟩ := isPairs_own oah
 have Bwd := Bwc.trans (bah.mono Bwc.size)
 have HaRwd : Hid (wd.heap[w.heap.size]? = some (.cells #[.int .i64 ix, .string ⟨r.toArray⟩, .slice a ps.length cap, .slice c ss.length cap2] 25 (0, 0))) := (bah.block (w.heap.size) (lt_of_block HaRwc.out)).trans HaRwc.out
 have Rwwd := hidOwn (kept2 Rwwc.out bah)
 have Rgwd := hidOwn (kept2 Rgwc.out bah)
 have Rp1wd := hidOwn (kept2 Rp1wc.out bah)
 have Rp2wd := hidOwn (kept2 Rp2wc.out bah)
 have Rhwd : Hid (wd.ownsRow wc.heap.size 60 2 (Value.slice ah rs.length ch) rs.length (pcells rs)) := oah
 have Lh : Hid (∀ q, (Value.slice ah rs.length ch).ownBlock = some q → wc.heap.size ≤ q ∧ q < wd.heap.size) := fun q hq => oah.lt q hq
 clear oah bah
 go_wp2_with fail
 refine (eqPairS_same rs ah aw _ _ _ (by omega) (isPairs_own Rhwd.out).2.2 (isPairs_own Rwwd.out).2.2).mono ?_
 rintro e we ⟨rfl, b9⟩
 have Bwe := Bwd.trans (b9.mono Bwd.size)
 have HaRwe : Hid (we.heap[w.heap.size]? = some (.cells #[.int .i64 ix, .string ⟨r.toArray⟩, .slice a ps.length cap, .slice c ss.length cap2] 25 (0, 0))) := (b9.block (w.heap.size) (lt_of_block HaRwd.out)).trans HaRwd.out
 have Rwwe := hidOwn (kept2 Rwwd.out b9)
 have Rgwe := hidOwn (kept2 Rgwd.out b9)
 have Rp1we := hidOwn (kept2 Rp1wd.out b9)
 have Rp2we := hidOwn (kept2 Rp2wd.out b9)
 have Rhwe := hidOwn (kept2 Rhwd.out b9)
 clear b9
 have KM := heldPairS_any rs.length ag rs.length cg _ 1 we (by omega) (by omega) (by omega) Rgwe.out
 go_wp2_with fail
 refine KM.mono ?_
 rintro e wf ⟨rfl, G⟩
 have bh := below_of_grown G
 have Bwf := Bwe.trans (bh.mono Bwe.size)
 have HaRwf : Hid (wf.heap[w.heap.size]? = some (.cells #[.int .i64 ix, .string ⟨r.toArray⟩, .slice a ps.length cap, .slice c ss.length cap2] 25 (0, 0))) := (bh.block (w.heap.size) (lt_of_block HaRwe.out)).trans HaRwe.out
 have Rwwf := hidOwn (kept2 Rwwe.out bh)
 have Rgwf := hidOwn (kept2 Rgwe.out bh)
 have Rp1wf := hidOwn (kept2 Rp1we.out bh)
 have Rp2wf := hidOwn (kept2 Rp2we.out bh)
 have Rhwf := hidOwn (kept2 Rhwe.out bh)
 clear KM G bh
 go_wp2
 go_ret
 exact ⟨rfl, Bwf⟩
set_option maxRecDepth 100000 in
theorem lifted (os : Os) (started : os.Started) (H : Type) (enc : TypeId × Value → H) :
 ReturnsInHanded {} Tryz.checked os 4 .any (fun w args => (Rows.fnExactReplicaPairsSpec.pre enc Tryz.prog Tryz.f4 [] false w args ∧ laidMetH Tryz.prog Rows.fnExactReplicaPairsRow.laid w) ∧ sizedMet enc Tryz.prog Tryz.f4 (OpenSpec.ofChange Rows.fnExactReplicaPairsSpec) false w args)
  (Rows.fnExactReplicaPairsSpec.post enc Tryz.prog Tryz.f4 false true false false) := by
 refine returnsInHanded_of_change_and (C := Tryz.checked) (X := fun w _ => laidMetH Tryz.prog Rows.fnExactReplicaPairsRow.laid w) (fun _ _ _ hh h => h.of_heap hh) own started (by kernel_rfl) Tryz.func4
  (ChangeSpec.witness_shaped (enc := enc) (C := Tryz.checked) (os := os) (X := fun w _ => laidMetH Tryz.prog Rows.fnExactReplicaPairsRow.laid w) false (World.doorLaid Tryz.prog 400 os) #[.agg #[.int .i64 0, .string ByteArray.empty, .slice none 0 0, .slice none 0 0]] 8 rfl (World.shaped_of_RefB (by kernel_rfl) (by kernel_rfl)) (by kernel_rfl) (by kernel_rfl) (by kernel_rfl) (door_met os _)) ?_
 intro W base args ds gs before hval0 hW _ _ hL _
 have hval : ∀ (j : Nat) t v, Tryz.f4.params[j]? = some t → args[j]? = some v → Value.okWide Tryz.prog W .any base t v := hval0
 have hW' := hW
 obtain ⟨p, q, hA0, hV0, rfl, hfz, hnd⟩ := hW
 have hA : DataW.TrodAll enc Tryz.prog W 0 (fun _ => true) true Tryz.f4.params.toList args.toList ds p := hA0
 have hV : DataW.TrodVars enc Tryz.prog W (fun _ => true) ["loop.example/g00226/impl.roundWords"] gs q := hV0
 rw [Tryz.params4] at hA hval
 obtain ⟨v0, vs0, d0, ds0, p0, q0, hargs, rfl, rfl, h0, r0⟩ := trodAll_cons hA
 obtain ⟨rfl, rfl, rfl⟩ := trodAll_nil r0
 obtain rfl : args = #[v0] := by cases args; simp_all
 have k0 := h0
 have lt0 : ∀ x ∈ p0, x.block < W.heap.size := by obtain ⟨m, hm⟩ := k0; exact DataW.trod_lt m _ _ _ hm
 obtain ⟨ix, rr, a0, cap0, ps, c0, cap1, ss, hv0, hrl, hm, hs, hbig, hs2, hbig2⟩ := replica_of (hval 0 25 v0 rfl rfl) h0
 subst hv0
 obtain ⟨g, t, cs, fuel, d, p', rfl, hg, ht, hvar, hd, rfl⟩ := trodVars_one hV
 obtain rfl := Option.some.inj (gTab.symm.trans hg)
 obtain rfl := Option.some.inj (tTab.symm.trans ht)
 have hT := tab_of hL
 have hltv : ∀ x ∈ p', x.block < W.heap.size := fun x hx => hW'.lt x (List.mem_append_right _ (List.mem_append_right _ hx))
 clear hA0 hV0 hval0 hA hV
 refine (walk ix rr a0 cap0 ps c0 cap1 ss W hrl hbig hm hs hbig2 hs2 hT).mono fun e W' ⟨he, hB⟩ => ?_
 subst he
 obtain ⟨fuel', hd'⟩ := Below.trod laidOut0 (by kernel_rfl) (of_decide_eq_true (by kernel_rfl)) (v := .agg cs) (⟨fuel, by simpa [Value.cells] using hd⟩ : DataW.Trod enc Tryz.prog W 0 (fun _ => true) true 184 (.agg cs) d p') hB hltv
 have hv' := trodVars_mk1 (enc := enc) (spare := fun b => decide (b < W.heap.size)) hg ht (var?_below hB hg hT.1 hvar) (by simpa [Value.cells] using hd')
 exact ⟨_, rfl, _, _, _, [], _, _, hW', trodAll_mk1 (shut_bool Tryz.underlying4 _), (trodAll_cons_mk (Below.trod laidOut0 (by kernel_rfl) (of_decide_eq_true (by kernel_rfl)) k0 hB lt0) trodAll_mk0), hv', hB.frame _, fun h => by cases h⟩
theorem named0 : Tryz.prog.funcNamed "loop.example/g00226/laws.FnExactReplicaPairs" = some 4 := by kernel_rfl
theorem closed0 : joinedFacts Tryz.prog 4 Tryz.f4 Rows.fnExactReplicaPairsSpec Rows.fnExactReplicaPairsRow = true := by
 unfold joinedFacts
 rw [seat_may, seat_lifts, seat_make]
 kernel_rfl
theorem inst0 : Tryz.f4.isInstance Tryz.prog Rows.fnExactReplicaPairsRow.origin Rows.fnExactReplicaPairsRow.targs := of_decide_eq_true (by kernel_rfl)
theorem wrap0 : Tryz.f4.isWrapper Tryz.prog Rows.fnExactReplicaPairsRow.wrapper Rows.fnExactReplicaPairsRow.mainSum := by unfold Func.isWrapper; first | (rw [if_pos (by decide +kernel)]; kernel_rfl) | (rw [if_neg (by decide +kernel)]; exact ⟨rfl, rfl⟩)
theorem over : Rows.fnExactReplicaPairsRow.holds Tryz.pinned (OpenSpec.ofChange Rows.fnExactReplicaPairsSpec) :=
 OpenClaim.holds_of_wide 4 Tryz.f4 rfl rfl rfl rfl rfl rfl rfl ⟨rfl, rfl, rfl, rfl, rfl⟩ rfl rfl rfl rfl rfl named0 Tryz.func4 closed0 inst0 wrap0
  (fun os started H enc _ => lifted os started H enc)
theorem text0 : Rows.fnExactReplicaPairsRow.wfByText (OpenSpec.ofChange Rows.fnExactReplicaPairsSpec) = true := by kernel_rfl
theorem looks0 : false = Tryz.prog.looks [] := by kernel_rfl
theorem goes0 : false = Rows.fnExactReplicaPairsRow.goesBy Tryz.prog := by kernel_rfl
theorem wants0 : ([25].all fun u => !Tryz.prog.wantsStandIn u) = true := by kernel_rfl
theorem card : Claim7.holds Tryz.pinned (.plain (OpenSpec.ofChange Rows.fnExactReplicaPairsSpec)) Rows.fnExactReplicaPairsCard :=
 Claim7.holds_tied_plain_at .later [] [.data] true (true, Rows.fnExactReplicaPairsCard.stood.harness.2) false
  over (fun _ h => by cases h) text0 (fun _ h => by cases h) fnExactReplicaPairs_row_tie rfl ⟨rfl, rfl⟩ seat_main rfl
  (fun f fn hf hfn => by
   obtain rfl : f = 4 := Option.some.inj (named0.symm.trans hf) |>.symm
   obtain rfl : fn = Tryz.f4 := (Option.some.inj (Tryz.func4.symm.trans hfn)).symm
   exact ⟨looks0, fun j t ht => by
    rw [Tryz.params4] at ht
    have hm : t ∈ [25] := by simpa using Array.mem_of_getElem? ht
    exact (show Tryz.prog.wantsStandIn t = false by simpa using List.all_eq_true.1 wants0 t hm)⟩)
  goes0
end Go.Proofs.YthnddgdnialogaaGreatDoor.fnExactReplicaPairs
namespace Go.Proofs.YthnddgdnialogaaGreatDoor
theorem fnExactReplicaPairs_holds : Rows.FnExactReplicaPairsCardSaid := fnExactReplicaPairs.card
end Go.Proofs.YthnddgdnialogaaGreatDoor
