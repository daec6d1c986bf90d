/-
  At every two lists of nodes StoreAdd answers as its model; it writes into no argument, and its answer owns its memory. No condition; the round words are laid as the program's text lays them.
-/
import Derived.Test.YtpohjnghhdilaaaGreatDoorIAdd
import Derived.Test.YtpohjnghhdilaaaGreatDoorPairs
import Derived.Test.YtpohjnghhdilaaaGreatDoorSeatAll
import Derived.Test.YtpohjnghhdilaaaGreatDoorTie
import Derived.Test.YtpohjnghhdilaaaGreatDoorCards
import Derived.ProofKit
import Derived.LaidMore
import Derived.OpenShut
import Derived.ShutString
import Derived.ChangeOld
import Derived.Below
import Derived.Stop.Joined
import Derived.Lib.LaidTab
import Derived.SevenTiedAt
import Derived.SliceStrings
namespace Go.Proofs.YtpohjnghhdilaaaGreatDoor.fnExactStoreAdd
open Go.ChangeShapes Go.WideShapes Go.ChangeAt Go.RowKit
open Go.ChangeMaps (open_string shut_string)
set_option linter.unusedVariables false

theorem own : ownKnob Tryz.prog.godebug = none := by kernel_rfl
theorem laidOut0 : laidOutB Tryz.prog = true := by kernel_rfl
theorem gTab : Tryz.prog.globalNamed "loop.example/g00226/impl.roundWords" = some 1 := by kernel_rfl
theorem tTab : (Tryz.prog.globals[1]?).map (·.type) = some 204 := by kernel_rfl

/-- The door's own heap meets the condition. -/
theorem door_met (os : Os) (args : Array Value) : laidMetH Tryz.prog Rows.fnExactStoreAddRow.laid ((World.doorLaid Tryz.prog 400 os).forCall (fun _ _ => 0) ⟨#[], args, []⟩).memory :=
  laidMetH_of_parts3 (fuel := 8) (laidMet_of_run' 8 (by kernel_rfl) (by kernel_rfl)) (by kernel_rfl) (by kernel_rfl)

/-- What the condition gives the walks: the round words' cells. -/
theorem tab_of {W : World} (h : laidMetH Tryz.prog Rows.fnExactStoreAddRow.laid W) : Tab W := by
  rw [MakeChecks.laidMetH_plain _ _ _ (by kernel_rfl)] at h
  have hT : Lib.TabIs Tryz.prog W "loop.example/g00226/impl.roundWords" .u32 (kL.map fun x => num x) := Lib.tabIs_of_head (rest := []) gTab tTab Tryz.underlying204 Tryz.underlying146 (by kernel_rfl) (by kernel_rfl) h
  have hc : ∀ i, i < 64 → W.cell? ⟨1, i, none⟩ = some (.int .u32 (num (kL.getD i 0))) := fun i hi => by
    have hl : i < kL.length := hi
    have := hT.cell gTab i (by rw [List.length_map]; exact hl)
    rw [this]
    simp [List.getD, hl]
  exact ⟨block_lt_of_cell (hc 0 (by omega)), hc⟩

theorem sizes_le (ps : List PairL) (L : Nat) (hL : L ≤ 1048576) (h : ps.length + sizeP ps ≤ L) : ∀ p ∈ ps, p.1.length ≤ 1048576 ∧ p.2.length ≤ 1048576 := by
  intro p hp
  obtain ⟨j, hj, rfl⟩ := List.getElem_of_mem hp
  have := sizeP_le ps j hj
  exact ⟨by omega, by omega⟩

set_option maxRecDepth 100000 in
set_option maxHeartbeats 4000000 in
theorem walk (a : Option Addr) (cap : Nat) (ps : List PairL) (a2 : Option Addr) (cap2 : Nat) (qs : List PairL) (w : World) (hl : ps.length ≤ 9223372036854775807) (hm : ∀ p ∈ ps, p.1.length ≤ 9223372036854775807 ∧ p.2.length ≤ 9223372036854775807) (hs : IsPairs w a ps) (hl2 : qs.length ≤ 9223372036854775807) (hm2 : ∀ p ∈ qs, p.1.length ≤ 9223372036854775807 ∧ p.2.length ≤ 9223372036854775807) (hs2 : IsPairs w a2 qs) (hT : Tab w) :
    Calls Tryz.prog 3 #[.slice a ps.length cap, .slice a2 qs.length cap2] w fun e w' => e = .returned (.bool true) ∧ Below w.heap.size w w' := by
  have HT : Hid (Tab w) := hT
  have HS : Hid (∀ W, Below w.heap.size w W → IsPairs W a ps) := fun W hW => hs.later hW
  have HS2 : Hid (∀ W, Below w.heap.size w W → IsPairs W a2 qs) := fun W hW => hs2.later hW
  have KZ := szStoredS_gen 1048576 (Nat.le_refl _) a cap ps w hl hm hs
  have HKZ2 : Hid (∀ n W, n ≤ 1048576 → Below w.heap.size w W → _) := fun n W hn hW => szStoredS_gen n hn a2 cap2 qs W hl2 hm2 (HS2.out W hW)
  clear hs hs2 hm hm2 hT
  go_enter Tryz.func3, Tryz.ntmps3
  go_wp2_with fail
  refine KZ.mono ?_
  rintro e w1 ⟨he, B1⟩
  rcases he with rfl | ⟨hsz, n1, hn1, rfl⟩
  · go_wp2
    go_ret
    exact ⟨rfl, B1⟩
  have HZ1 : Hid (ps.length + sizeP ps ≤ 1048576 ∧ n1 ≤ 1048576) := ⟨hsz, hn1⟩
  have hn10 : (0 : Int) ≤ (n1 : Int) := by omega
  have KZ2 := HKZ2.out n1 w1 hn1 B1
  clear KZ HKZ2 hsz hn1
  go_wp2_with fail
  refine KZ2.mono ?_
  rintro e w2 ⟨he, b2⟩
  have B2 := B1.trans (b2.mono B1.size)
  rcases he with rfl | ⟨hsz, n2, hn2, rfl⟩
  · go_wp2
    go_ret
    exact ⟨rfl, B2⟩
  have hq1 := HZ1.out
  have hln : ps.length ≤ 1048576 := by omega
  have hln2 : qs.length ≤ 1048576 := by omega
  have hmm := sizes_le ps 1048576 (Nat.le_refl _) (by omega)
  have hmm2 := sizes_le qs 1048576 (Nat.le_refl _) (by omega)
  have HK1' := fun b off c b2 off2 c2 W h h2 => spec_storeAdd b off c ps b2 off2 c2 qs W hln hmm h hln2 hmm2 h2
  have HK2' := fun b off c b2 off2 c2 W hT h h2 => impl_storeAdd b off c ps b2 off2 c2 qs W hT hln hmm h hln2 hmm2 h2
  have hrl9 : (addR ps qs).length ≤ 2097152 := by
    have h1 := sorted_len (ps ++ qs) (ps ++ qs).length (Nat.le_refl _)
    rw [List.take_length, List.length_append] at h1
    unfold addR
    split
    · omega
    · simp
  unfold AddPost at HK1' HK2'
  obtain ⟨ok, hok⟩ : ∃ ok, ok = addOk ps qs := ⟨_, rfl⟩
  obtain ⟨rs, hrs⟩ : ∃ rs, rs = addR ps qs := ⟨_, rfl⟩
  rw [← hok, ← hrs] at HK1' HK2'
  rw [← hrs] at hrl9
  have HK1 : Hid (∀ b off c b2 off2 c2 W, IsPairs W (some ⟨b, off, none⟩) ps → IsPairs W (some ⟨b2, off2, none⟩) qs → Calls Tryz.prog 13 #[.slice (some ⟨b, off, none⟩) ps.length c, .slice (some ⟨b2, off2, none⟩) qs.length c2] W fun e w' => ∃ (a : Option Addr) (m c : Nat), e = .returned (.tuple #[.slice a m c, .bool ok]) ∧ w'.ownsRow W.heap.size 58 2 (.slice a m c) rs.length (pcells rs) ∧ Below W.heap.size W w') := HK1'
  have HK2 : Hid (∀ b off c b2 off2 c2 W, Tab W → IsPairs W (some ⟨b, off, none⟩) ps → IsPairs W (some ⟨b2, off2, none⟩) qs → Calls Tryz.prog 15 #[.slice (some ⟨b, off, none⟩) ps.length c, .slice (some ⟨b2, off2, none⟩) qs.length c2] W fun e w' => ∃ (a : Option Addr) (m c : Nat), e = .returned (.tuple #[.slice a m c, .bool ok]) ∧ w'.ownsRow W.heap.size 58 2 (.slice a m c) rs.length (pcells rs) ∧ Below W.heap.size W w') := HK2'
  have HT1 : Hid (∀ W, Below w.heap.size w W → Calls Tryz.prog 14 #[.slice a ps.length cap] W fun e w' => ∃ g : Nat, e = .returned (.slice (some ⟨g, 0, none⟩) ps.length ps.length) ∧ w'.ownsRow W.heap.size 58 2 (.slice (some ⟨g, 0, none⟩) ps.length ps.length) ps.length (pcells ps) ∧ Below W.heap.size W w') := fun W hW => (toStoredS_any a cap ps W hln (HS.out W hW)).mono fun e w' h => ⟨_, h.1, h.2⟩
  have HT2 : Hid (∀ W, Below w.heap.size w W → Calls Tryz.prog 14 #[.slice a2 qs.length cap2] W fun e w' => ∃ g : Nat, e = .returned (.slice (some ⟨g, 0, none⟩) qs.length qs.length) ∧ w'.ownsRow W.heap.size 58 2 (.slice (some ⟨g, 0, none⟩) qs.length qs.length) qs.length (pcells qs) ∧ Below W.heap.size W w') := fun W hW => (toStoredS_any a2 cap2 qs W hln2 (HS2.out W hW)).mono fun e w' h => ⟨_, h.1, h.2⟩
  clear HK1' HK2' hok hrs hmm hmm2 hq1 hsz hn2 KZ2 b2 hn10 HZ1 HS HS2 hl hl2 B1
  go_wp2_with fail
  refine (HT1.out w2 B2).mono ?_
  rintro e w3 ⟨g1, rfl, og1, bg1⟩
  have Bw3 := B2.trans (bg1.mono B2.size)
  have Rpw3 : Hid (w3.ownsRow w2.heap.size 58 2 (Value.slice (some ⟨g1, 0, none⟩) ps.length ps.length) ps.length (pcells ps)) := og1
  have Lg1 : Hid (w2.heap.size ≤ g1 ∧ g1 < w3.heap.size) := og1.lt g1 (by simp [Value.ownBlock])
  clear og1 bg1
  go_wp2_with fail
  refine (HT2.out w3 Bw3).mono ?_
  rintro e w4 ⟨g2, rfl, og2, bg2⟩
  have Bw4 := Bw3.trans (bg2.mono Bw3.size)
  have Rpw4 := hidOwn (kept2 Rpw3.out bg2)
  have Rqw4 : Hid (w4.ownsRow w3.heap.size 58 2 (Value.slice (some ⟨g2, 0, none⟩) qs.length qs.length) qs.length (pcells qs)) := og2
  have Lg2 : Hid (w3.heap.size ≤ g2 ∧ g2 < w4.heap.size) := og2.lt g2 (by simp [Value.ownBlock])
  clear og2 bg2
  go_wp2_with fail
  refine (HK1.out g1 0 ps.length g2 0 qs.length w4 (isPairs_own Rpw4.out).2.2 (isPairs_own Rqw4.out).2.2).mono ?_
  rintro e w5 ⟨aw, maw, cw, rfl, oaw, baw⟩
  obtain ⟨rfl, _, _⟩ := isPairs_own oaw
  have Bw5 := Bw4.trans (baw.mono Bw4.size)
  have Rpw5 := hidOwn (kept2 Rpw4.out baw)
  have Rqw5 := hidOwn (kept2 Rqw4.out baw)
  have Rww5 : Hid (w5.ownsRow w4.heap.size 58 2 (Value.slice aw rs.length cw) rs.length (pcells rs)) := oaw
  have Law : Hid (∀ q, (Value.slice aw rs.length cw).ownBlock = some q → w4.heap.size ≤ q ∧ q < w5.heap.size) := fun q hq => oaw.lt q hq
  clear oaw baw
  go_wp2_with fail
  refine (HT1.out w5 Bw5).mono ?_
  rintro e w6 ⟨gx, rfl, ogx, bgx⟩
  have Bw6 := Bw5.trans (bgx.mono Bw5.size)
  have Rww6 := hidOwn (kept2 Rww5.out bgx)
  have Rxw6 : Hid (w6.ownsRow w5.heap.size 58 2 (Value.slice (some ⟨gx, 0, none⟩) ps.length ps.length) ps.length (pcells ps)) := ogx
  have Lgx : Hid (w5.heap.size ≤ gx ∧ gx < w6.heap.size) := ogx.lt gx (by simp [Value.ownBlock])
  clear ogx bgx
  go_wp2_with fail
  refine (HT2.out w6 Bw6).mono ?_
  rintro e w7 ⟨gy, rfl, ogy, bgy⟩
  have Bw7 := Bw6.trans (bgy.mono Bw6.size)
  have Rww7 := hidOwn (kept2 Rww6.out bgy)
  have Rxw7 := hidOwn (kept2 Rxw6.out bgy)
  have Ryw7 : Hid (w7.ownsRow w6.heap.size 58 2 (Value.slice (some ⟨gy, 0, none⟩) qs.length qs.length) qs.length (pcells qs)) := ogy
  have Lgy : Hid (w6.heap.size ≤ gy ∧ gy < w7.heap.size) := ogy.lt gy (by simp [Value.ownBlock])
  clear ogy bgy
  go_wp2_with fail
  refine (HK2.out gx 0 ps.length gy 0 qs.length w7 (HT.out.later Bw7) (isPairs_own Rxw7.out).2.2 (isPairs_own Ryw7.out).2.2).mono ?_
  rintro e w8 ⟨ag, mag, cg, rfl, oag, bag⟩
  obtain ⟨rfl, _, _⟩ := isPairs_own oag
  have Bw8 := Bw7.trans (bag.mono Bw7.size)
  have bxg : Hid (w7.heap.size ≤ w8.heap.size) := bag.size
  have B5S : Hid (w.heap.size ≤ w5.heap.size) := Bw5.size
  have Rww8 := hidOwn (kept2 Rww7.out bag)
  have Rxw8 := hidOwn (kept2 Rxw7.out bag)
  have Ryw8 := hidOwn (kept2 Ryw7.out bag)
  have Rgw8 : Hid (w8.ownsRow w7.heap.size 58 2 (Value.slice ag rs.length cg) rs.length (pcells rs)) := oag
  have Lag : Hid (∀ q, (Value.slice ag rs.length cg).ownBlock = some q → w7.heap.size ≤ q ∧ q < w8.heap.size) := fun q hq => oag.lt q hq
  clear oag bag
  have SZ8 : Hid (w7.heap.size ≤ w8.heap.size) := by have := bxg.out; exact this
  have s5 : w5.heap.size ≤ w6.heap.size ∧ w6.heap.size ≤ w7.heap.size ∧ w7.heap.size ≤ w8.heap.size := ⟨by have := Lgx.out; omega, by have := Lgy.out; omega, SZ8.out⟩
  go_wp2_with fail
  refine (eqStoredS_same rs ag aw _ _ _ (by omega) (isPairs_own Rgw8.out).2.2 (isPairs_own Rww8.out).2.2).mono ?_
  rintro e w9 ⟨rfl, b9⟩
  have Bw9 := Bw8.trans (b9.mono Bw8.size)
  have Rww9 := hidOwn (kept2 Rww8.out b9)
  have Rxw9 := hidOwn (kept2 Rxw8.out b9)
  have Ryw9 := hidOwn (kept2 Ryw8.out b9)
  have Rgw9 := hidOwn (kept2 Rgw8.out b9)
  clear b9
  go_wp2_with fail
  refine (HT1.out w9 Bw9).mono ?_
  rintro e wa ⟨gz, rfl, ogz, bgz⟩
  have Bwa := Bw9.trans (bgz.mono Bw9.size)
  have Rwwa := hidOwn (kept2 Rww9.out bgz)
  have Rxwa := hidOwn (kept2 Rxw9.out bgz)
  have Rywa := hidOwn (kept2 Ryw9.out bgz)
  have Rgwa := hidOwn (kept2 Rgw9.out bgz)
  have Rzwa : Hid (wa.ownsRow w9.heap.size 58 2 (Value.slice (some ⟨gz, 0, none⟩) ps.length ps.length) ps.length (pcells ps)) := ogz
  have Lgz : Hid (w9.heap.size ≤ gz ∧ gz < wa.heap.size) := ogz.lt gz (by simp [Value.ownBlock])
  clear ogz bgz
  go_wp2_with fail
  refine (eqStoredS_same ps (some ⟨gx, 0, none⟩) (some ⟨gz, 0, none⟩) _ _ _ (by omega) (isPairs_own Rxwa.out).2.2 (isPairs_own Rzwa.out).2.2).mono ?_
  rintro e wb ⟨rfl, b9⟩
  have Bwb := Bwa.trans (b9.mono Bwa.size)
  have Rwwb := hidOwn (kept2 Rwwa.out b9)
  have Rxwb := hidOwn (kept2 Rxwa.out b9)
  have Rywb := hidOwn (kept2 Rywa.out b9)
  have Rgwb := hidOwn (kept2 Rgwa.out b9)
  have Rzwb := hidOwn (kept2 Rzwa.out b9)
  clear b9
  go_wp2_with fail
  refine (HT2.out wb Bwb).mono ?_
  rintro e wc ⟨gu, rfl, ogu, bgu⟩
  have Bwc := Bwb.trans (bgu.mono Bwb.size)
  have Rwwc := hidOwn (kept2 Rwwb.out bgu)
  have Rxwc := hidOwn (kept2 Rxwb.out bgu)
  have Rywc := hidOwn (kept2 Rywb.out bgu)
  have Rgwc := hidOwn (kept2 Rgwb.out bgu)
  have Ruwc : Hid (wc.ownsRow wb.heap.size 58 2 (Value.slice (some ⟨gu, 0, none⟩) qs.length qs.length) qs.length (pcells qs)) := ogu
  have Lgu : Hid (wb.heap.size ≤ gu ∧ gu < wc.heap.size) := ogu.lt gu (by simp [Value.ownBlock])
  clear ogu bgu
  go_wp2_with fail
  refine (eqStoredS_same qs (some ⟨gy, 0, none⟩) (some ⟨gu, 0, none⟩) _ _ _ (by omega) (isPairs_own Rywc.out).2.2 (isPairs_own Ruwc.out).2.2).mono ?_
  rintro e wd ⟨rfl, b9⟩
  have Bwd := Bwc.trans (b9.mono Bwc.size)
  have Rwwd := hidOwn (kept2 Rwwc.out b9)
  have Rxwd := hidOwn (kept2 Rxwc.out b9)
  have Rywd := hidOwn (kept2 Rywc.out b9)
  have Rgwd := hidOwn (kept2 Rgwc.out b9)
  have Ruwd := hidOwn (kept2 Ruwc.out b9)
  clear b9
  obtain ⟨k1, hk1⟩ : ∃ k1 : Nat, k1 = 1 + 2 * ps.length := ⟨_, rfl⟩
  have hk1b : 0 < k1 ∧ k1 ≤ 3000000 := by omega
  have HK9 : Hid (((1 : Nat) : Int) + 2 * (ps.length : Int) = (k1 : Int)) := by rw [Hid]; omega
  clear hk1
  have KM := markStoredS_any ps (some ⟨gx, 0, none⟩) ps.length ps.length _ 1 wd (by omega) (by omega) (by omega) Rxwd.out
  go_wp2_with fail
  refine KM.mono ?_
  rintro e we ⟨he, om, G⟩
  rw [HK9.out] at he
  subst he
  have Rwwe := hidOwn (Rwwd.out.kept G (by
    cases hv : (Value.slice aw rs.length cw).ownBlock with
    | none => exact .inl rfl
    | some q => exact .inr (fun e => by have h1 := Law.out q hv; simp [Value.ownBlock] at e; have h2 := Lgx.out; omega)))
  have Rywe := hidOwn (Rywd.out.kept G (by
    cases hv : (Value.slice (some ⟨gy, 0, none⟩) qs.length qs.length).ownBlock with
    | none => exact .inl rfl
    | some q => exact .inr (fun e => by simp [Value.ownBlock] at hv; have h1 := Lgy.out; simp [Value.ownBlock] at e; have h2 := Lgx.out; omega)))
  have Rgwe := hidOwn (Rgwd.out.kept G (by
    cases hv : (Value.slice ag rs.length cg).ownBlock with
    | none => exact .inl rfl
    | some q => exact .inr (fun e => by have h1 := Lag.out q hv; simp [Value.ownBlock] at e; have h2 := Lgx.out; omega)))
  have Bwe : Below w.heap.size w we := Bwd.grown G Bwd.size (fun q hq => by simp [Value.ownBlock] at hq; have h2 := Lgx.out; have h3 := B5S.out; omega)
  clear KM G om
  have hk0 : ¬ (k1 : Int) + 2 * (qs.length : Int) < 0 := by omega
  have hkb : decide ((k1 : Int) + 2 * (qs.length : Int) < 0) = false := decide_eq_false hk0
  have KM := markStoredS_any qs (some ⟨gy, 0, none⟩) qs.length qs.length _ k1 we (by omega) (by omega) (by omega) Rywe.out
  go_wp2_with fail
  refine KM.mono ?_
  rintro e wf ⟨he, om, G⟩
  subst he
  have Rwwf := hidOwn (Rwwe.out.kept G (by
    cases hv : (Value.slice aw rs.length cw).ownBlock with
    | none => exact .inl rfl
    | some q => exact .inr (fun e => by have h1 := Law.out q hv; simp [Value.ownBlock] at e; have h2 := Lgy.out; omega)))
  have Rgwf := hidOwn (Rgwe.out.kept G (by
    cases hv : (Value.slice ag rs.length cg).ownBlock with
    | none => exact .inl rfl
    | some q => exact .inr (fun e => by have h1 := Lag.out q hv; simp [Value.ownBlock] at e; have h2 := Lgy.out; omega)))
  have Bwf : Below w.heap.size w wf := Bwe.grown G Bwe.size (fun q hq => by simp [Value.ownBlock] at hq; have h2 := Lgy.out; have h3 := B5S.out; omega)
  clear KM G om
  go_wp2_with fail
  refine (eqStoredS_same rs ag aw _ _ _ (by omega) (isPairs_own Rgwf.out).2.2 (isPairs_own Rwwf.out).2.2).mono ?_
  rintro e wg ⟨rfl, b9⟩
  have Bwg := Bwf.trans (b9.mono Bwf.size)
  have Rwwg := hidOwn (kept2 Rwwf.out b9)
  have Rgwg := hidOwn (kept2 Rgwf.out b9)
  clear b9
  have hq0 : ¬ (1 : Int) + 2 * (rs.length : Int) < 0 := by omega
  have KM := markStoredS_any rs ag rs.length cg _ 1 wg (by omega) (by omega) (by omega) Rgwg.out
  go_wp2_with fail
  refine KM.mono ?_
  rintro e wh ⟨he, om, G⟩
  subst he
  have Rwwh := hidOwn (Rwwg.out.kept G (by
    cases hv : (Value.slice aw rs.length cw).ownBlock with
    | none => exact .inl rfl
    | some q => exact .inr (fun e => by have h1 := Law.out q hv; have h2 := Lag.out q e.symm; omega)))
  have Bwh : Below w.heap.size w wh := Bwg.grown G Bwg.size (fun q hq => by have h2 := Lag.out q hq; have h3 := B5S.out; omega)
  have Rgwh := hidOwn om
  clear KM G om
  have KM := heldStoredS_any rs.length ag rs.length cg _ 1 wh (by omega) (by omega) (by omega) Rgwh.out
  go_wp2_with fail
  refine KM.mono ?_
  rintro e wi ⟨rfl, G⟩
  have bh := below_of_grown G
  have Bwi := Bwh.trans (bh.mono Bwh.size)
  have Rwwi := hidOwn (kept2 Rwwh.out bh)
  have Rgwi := hidOwn (kept2 Rgwh.out bh)
  clear KM G bh
  go_wp2_with fail
  refine (HT1.out wi Bwi).mono ?_
  rintro e wj ⟨g5, rfl, og5, bg5⟩
  have Bwj := Bwi.trans (bg5.mono Bwi.size)
  have Rwwj := hidOwn (kept2 Rwwi.out bg5)
  have Rgwj := hidOwn (kept2 Rgwi.out bg5)
  have Rpwj : Hid (wj.ownsRow wi.heap.size 58 2 (Value.slice (some ⟨g5, 0, none⟩) ps.length ps.length) ps.length (pcells ps)) := og5
  have Lg5 : Hid (wi.heap.size ≤ g5 ∧ g5 < wj.heap.size) := og5.lt g5 (by simp [Value.ownBlock])
  clear og5 bg5
  go_wp2_with fail
  refine (HT2.out wj Bwj).mono ?_
  rintro e wk ⟨g6, rfl, og6, bg6⟩
  have Bwk := Bwj.trans (bg6.mono Bwj.size)
  have Rwwk := hidOwn (kept2 Rwwj.out bg6)
  have Rgwk := hidOwn (kept2 Rgwj.out bg6)
  have Rpwk := hidOwn (kept2 Rpwj.out bg6)
  have Rqwk : Hid (wk.ownsRow wj.heap.size 58 2 (Value.slice (some ⟨g6, 0, none⟩) qs.length qs.length) qs.length (pcells qs)) := og6
  have Lg6 : Hid (wj.heap.size ≤ g6 ∧ g6 < wk.heap.size) := og6.lt g6 (by simp [Value.ownBlock])
  clear og6 bg6
  go_wp2_with fail
  refine (HK2.out g5 0 ps.length g6 0 qs.length wk (HT.out.later Bwk) (isPairs_own Rpwk.out).2.2 (isPairs_own Rqwk.out).2.2).mono ?_
  rintro e wl ⟨ah, mah, ch, rfl, oah, bah⟩
  obtain ⟨rfl, _, _⟩ := isPairs_own oah
  have Bwl := Bwk.trans (bah.mono Bwk.size)
  have Rwwl := hidOwn (kept2 Rwwk.out bah)
  have Rgwl := hidOwn (kept2 Rgwk.out bah)
  have Rpwl := hidOwn (kept2 Rpwk.out bah)
  have Rqwl := hidOwn (kept2 Rqwk.out bah)
  have Rhwl : Hid (wl.ownsRow wk.heap.size 58 2 (Value.slice ah rs.length ch) rs.length (pcells rs)) := oah
  have Lah : Hid (∀ q, (Value.slice ah rs.length ch).ownBlock = some q → wk.heap.size ≤ q ∧ q < wl.heap.size) := fun q hq => oah.lt q hq
  clear oah bah
  go_wp2_with fail
  refine (eqStoredS_same rs ah aw _ _ _ (by omega) (isPairs_own Rhwl.out).2.2 (isPairs_own Rwwl.out).2.2).mono ?_
  rintro e wm ⟨rfl, b9⟩
  have Bwm := Bwl.trans (b9.mono Bwl.size)
  have Rwwm := hidOwn (kept2 Rwwl.out b9)
  have Rgwm := hidOwn (kept2 Rgwl.out b9)
  have Rpwm := hidOwn (kept2 Rpwl.out b9)
  have Rqwm := hidOwn (kept2 Rqwl.out b9)
  have Rhwm := hidOwn (kept2 Rhwl.out b9)
  clear b9
  have KM := heldStoredS_any rs.length ag rs.length cg _ 1 wm (by omega) (by omega) (by omega) Rgwm.out
  go_wp2_with fail
  refine KM.mono ?_
  rintro e wn ⟨rfl, G⟩
  have bh := below_of_grown G
  have Bwn := Bwm.trans (bh.mono Bwm.size)
  have Rwwn := hidOwn (kept2 Rwwm.out bh)
  have Rgwn := hidOwn (kept2 Rgwm.out bh)
  have Rpwn := hidOwn (kept2 Rpwm.out bh)
  have Rqwn := hidOwn (kept2 Rqwm.out bh)
  have Rhwn := hidOwn (kept2 Rhwm.out bh)
  clear KM G bh
  go_wp2
  go_ret
  exact ⟨rfl, Bwn⟩
set_option maxRecDepth 100000 in
theorem lifted (os : Os) (started : os.Started) (H : Type) (enc : TypeId × Value → H) :
    ReturnsInHanded {} Tryz.checked os 3 .any (fun w args => (Rows.fnExactStoreAddSpec.pre enc Tryz.prog Tryz.f3 [] false w args ∧ laidMetH Tryz.prog Rows.fnExactStoreAddRow.laid w) ∧ sizedMet enc Tryz.prog Tryz.f3 (OpenSpec.ofChange Rows.fnExactStoreAddSpec) false w args)
      (Rows.fnExactStoreAddSpec.post enc Tryz.prog Tryz.f3 false true false false) := by
  refine returnsInHanded_of_change_and (C := Tryz.checked) (X := fun w _ => laidMetH Tryz.prog Rows.fnExactStoreAddRow.laid w) (fun _ _ _ hh h => h.of_heap hh) own started (by kernel_rfl) Tryz.func3
    (ChangeSpec.witness_shaped (enc := enc) (C := Tryz.checked) (os := os) (X := fun w _ => laidMetH Tryz.prog Rows.fnExactStoreAddRow.laid w) false (World.doorLaid Tryz.prog 400 os) #[.slice none 0 0, .slice none 0 0] 8 rfl (World.shaped_of_RefB (by kernel_rfl) (by kernel_rfl)) (by kernel_rfl) (by kernel_rfl) (by kernel_rfl) (door_met os _)) ?_
  intro W base args ds gs before hval0 hW _ _ hL _
  have hval : ∀ (j : Nat) t v, Tryz.f3.params[j]? = some t → args[j]? = some v → Value.okWide Tryz.prog W .any base t v := hval0
  have hW' := hW
  obtain ⟨p, q, hA0, hV0, rfl, hfz, hnd⟩ := hW
  have hA : DataW.TrodAll enc Tryz.prog W 0 (fun _ => true) true Tryz.f3.params.toList args.toList ds p := hA0
  have hV : DataW.TrodVars enc Tryz.prog W (fun _ => true) ["loop.example/g00226/impl.roundWords"] gs q := hV0
  rw [Tryz.params3] at hA hval
  obtain ⟨v0, vs0, d0, ds0, p0, q0, hargs, rfl, rfl, h0, r0⟩ := trodAll_cons hA
  obtain ⟨v1, vs1, d1, ds1, p1, q1, hargs1, rfl, rfl, h1, r1⟩ := trodAll_cons r0
  obtain ⟨rfl, rfl, rfl⟩ := trodAll_nil r1
  obtain rfl : args = #[v0, v1] := by cases args; simp_all
  have k0 := h0
  have k1 := h1
  have lt0 : ∀ x ∈ p0, x.block < W.heap.size := by obtain ⟨m, hm⟩ := k0; exact DataW.trod_lt m _ _ _ hm
  have lt1 : ∀ x ∈ p1, x.block < W.heap.size := by obtain ⟨m, hm⟩ := k1; exact DataW.trod_lt m _ _ _ hm
  obtain ⟨a0, ps, cap0, hv0, hm, hs, hbig⟩ : ∃ (a : Option Addr) (ps : List PairL) (cap : Nat), v0 = .slice a ps.length cap ∧ (∀ p ∈ ps, p.1.length ≤ 9223372036854775807 ∧ p.2.length ≤ 9223372036854775807) ∧ IsPairs W a ps ∧ ps.length ≤ 9223372036854775807 := by
    obtain ⟨a1, len1, cap1, rfl⟩ := okWide_slice Tryz.underlying22 (hval 0 22 v0 rfl rfl)
    obtain ⟨fuel, hf⟩ := h0
    exact stored_of (by simpa [Value.cells] using hf)
  obtain ⟨a1, qs, cap1, hv1, hm1, hs1, hbig1⟩ : ∃ (a : Option Addr) (ps : List PairL) (cap : Nat), v1 = .slice a ps.length cap ∧ (∀ p ∈ ps, p.1.length ≤ 9223372036854775807 ∧ p.2.length ≤ 9223372036854775807) ∧ IsPairs W a ps ∧ ps.length ≤ 9223372036854775807 := by
    obtain ⟨a1, len1, cap1, rfl⟩ := okWide_slice Tryz.underlying22 (hval 1 22 v1 rfl rfl)
    obtain ⟨fuel, hf⟩ := h1
    exact stored_of (by simpa [Value.cells] using hf)
  subst hv0 hv1
  obtain ⟨g, t, cs, fuel, d, p', rfl, hg, ht, hvar, hd, rfl⟩ := trodVars_one hV
  obtain rfl := Option.some.inj (gTab.symm.trans hg)
  obtain rfl := Option.some.inj (tTab.symm.trans ht)
  have hT := tab_of hL
  have hltv : ∀ x ∈ p', x.block < W.heap.size := fun x hx => hW'.lt x (List.mem_append_right _ (List.mem_append_right _ hx))
  clear hA0 hV0 hval0 hA hV
  refine (walk a0 cap0 ps a1 cap1 qs W hbig hm hs hbig1 hm1 hs1 hT).mono fun e W' ⟨he, hB⟩ => ?_
  subst he
  obtain ⟨fuel', hd'⟩ := Below.trod laidOut0 (by kernel_rfl) (of_decide_eq_true (by kernel_rfl)) (v := .agg cs) (⟨fuel, by simpa [Value.cells] using hd⟩ : DataW.Trod enc Tryz.prog W 0 (fun _ => true) true 204 (.agg cs) d p') hB hltv
  have hv' := trodVars_mk1 (enc := enc) (spare := fun b => decide (b < W.heap.size)) hg ht (var?_below hB hg hT.1 hvar) (by simpa [Value.cells] using hd')
  exact ⟨_, rfl, _, _, _, [], _, _, hW', trodAll_mk1 (shut_bool Tryz.underlying4 _), (trodAll_cons_mk (Below.trod laidOut0 (by kernel_rfl) (of_decide_eq_true (by kernel_rfl)) k0 hB lt0) (trodAll_cons_mk (Below.trod laidOut0 (by kernel_rfl) (of_decide_eq_true (by kernel_rfl)) k1 hB lt1) trodAll_mk0)), hv', hB.frame _, fun h => by cases h⟩

theorem named0 : Tryz.prog.funcNamed "loop.example/g00226/laws.FnExactStoreAdd" = some 3 := by kernel_rfl
theorem closed0 : joinedFacts Tryz.prog 3 Tryz.f3 Rows.fnExactStoreAddSpec Rows.fnExactStoreAddRow = true := by
  unfold joinedFacts
  rw [seat_may, seat_lifts, seat_make]
  kernel_rfl
theorem inst0 : Tryz.f3.isInstance Tryz.prog Rows.fnExactStoreAddRow.origin Rows.fnExactStoreAddRow.targs := of_decide_eq_true (by kernel_rfl)
theorem wrap0 : Tryz.f3.isWrapper Tryz.prog Rows.fnExactStoreAddRow.wrapper Rows.fnExactStoreAddRow.mainSum := by unfold Func.isWrapper; first | (rw [if_pos (by decide +kernel)]; kernel_rfl) | (rw [if_neg (by decide +kernel)]; exact ⟨rfl, rfl⟩)

theorem over : Rows.fnExactStoreAddRow.holds Tryz.pinned (OpenSpec.ofChange Rows.fnExactStoreAddSpec) :=
  OpenClaim.holds_of_wide 3 Tryz.f3 rfl rfl rfl rfl rfl rfl rfl ⟨rfl, rfl, rfl, rfl, rfl⟩ rfl rfl rfl rfl rfl named0 Tryz.func3 closed0 inst0 wrap0
    (fun os started H enc _ => lifted os started H enc)

theorem text0 : Rows.fnExactStoreAddRow.wfByText (OpenSpec.ofChange Rows.fnExactStoreAddSpec) = true := by kernel_rfl
theorem looks0 : false = Tryz.prog.looks [] := by kernel_rfl
theorem goes0 : false = Rows.fnExactStoreAddRow.goesBy Tryz.prog := by kernel_rfl
theorem wants0 : ([22, 22].all fun u => !Tryz.prog.wantsStandIn u) = true := by kernel_rfl

theorem card : Claim7.holds Tryz.pinned (.plain (OpenSpec.ofChange Rows.fnExactStoreAddSpec)) Rows.fnExactStoreAddCard :=
  Claim7.holds_tied_plain_at .later [] [.data] true (true, Rows.fnExactStoreAddCard.stood.harness.2) false
    over (fun _ h => by cases h) text0 (fun _ h => by cases h) fnExactStoreAdd_row_tie rfl ⟨rfl, rfl⟩ seat_main rfl
    (fun f fn hf hfn => by
      obtain rfl : f = 3 := Option.some.inj (named0.symm.trans hf) |>.symm
      obtain rfl : fn = Tryz.f3 := (Option.some.inj (Tryz.func3.symm.trans hfn)).symm
      exact ⟨looks0, fun j t ht => by
        rw [Tryz.params3] at ht
        have hm : t ∈ [22, 22] := by simpa using Array.mem_of_getElem? ht
        exact (show Tryz.prog.wantsStandIn t = false by simpa using List.all_eq_true.1 wants0 t hm)⟩)
    goes0

end Go.Proofs.YtpohjnghhdilaaaGreatDoor.fnExactStoreAdd
namespace Go.Proofs.YtpohjnghhdilaaaGreatDoor
theorem fnExactStoreAdd_holds : Rows.FnExactStoreAddCardSaid := fnExactStoreAdd.card
end Go.Proofs.YtpohjnghhdilaaaGreatDoor
