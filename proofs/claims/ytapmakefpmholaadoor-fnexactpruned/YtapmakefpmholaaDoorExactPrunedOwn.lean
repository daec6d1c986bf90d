/-
 At every list of nodes and list of roots Pruned answers as its model; it writes into no argument, and its answer owns its memory. No condition; the round words are laid as the program's text lays them.
-/
import Derived.Test.YtapmakefpmholaaDoorSPrune
import Derived.Test.YtapmakefpmholaaDoorIPrune
import Derived.Test.YtapmakefpmholaaDoorPairs
import Derived.Test.YtapmakefpmholaaDoorStrsAll
import Derived.Test.YtapmakefpmholaaDoorOpen4
import Derived.Test.YtapmakefpmholaaDoorIReadAll
import Derived.Test.YtapmakefpmholaaDoorSeatAll
import Derived.Test.YtapmakefpmholaaDoorTie
import Derived.Test.YtapmakefpmholaaDoorCards
import Derived.ProofKit
import Derived.LaidMore
import Derived.OpenShut
import Derived.ShutString
import Derived.ChangeOld
import Derived.Below
import Derived.Stop.Joined
import Derived.Lib.LaidTab
import Derived.SevenTiedAt
import Derived.SliceStrings
namespace Go.Proofs.YtapmakefpmholaaDoor.fnExactPruned
open Go.ChangeShapes Go.WideShapes Go.ChangeAt Go.RowKit
open Go.ChangeMaps (open_string shut_string)
set_option linter.unusedVariables false
theorem own : ownKnob Tryd.prog.godebug = none := by kernel_rfl
theorem laidOut0 : laidOutB Tryd.prog = true := by kernel_rfl
theorem gTab : Tryd.prog.globalNamed "loop.example/g00226/impl.roundWords" = some 0 := by kernel_rfl
theorem tTab : (Tryd.prog.globals[0]?).map (·.type) = some 107 := by kernel_rfl
theorem door_met (os : Os) (args : Array Value) : laidMetH Tryd.prog Rows.fnExactPrunedRow.laid ((World.doorLaid Tryd.prog 400 os).forCall (fun _ _ => 0) ⟨#[], args, []⟩).memory :=
 laidMetH_of_parts3 (fuel := 8) (laidMet_of_run' 8 (by kernel_rfl) (by kernel_rfl)) (by kernel_rfl) (by kernel_rfl)
theorem tab_of {W : World} (h : laidMetH Tryd.prog Rows.fnExactPrunedRow.laid W) : Tab W := by
 rw [MakeChecks.laidMetH_plain _ _ _ (by kernel_rfl)] at h
 have hT : Lib.TabIs Tryd.prog W "loop.example/g00226/impl.roundWords" .u32 (kL.map fun x => num x) := Lib.tabIs_of_head (rest := []) gTab tTab Tryd.underlying107 Tryd.underlying78 (by kernel_rfl) (by kernel_rfl) h
 have hc : ∀ i, i < 64 → W.cell? ⟨0, i, none⟩ = some (.int .u32 (num (kL.getD i 0))) := fun i hi => by
  have hl : i < kL.length := hi
  have := hT.cell gTab i (by rw [List.length_map]; exact hl)
  rw [this]
  simp [List.getD, hl]
 exact ⟨block_lt_of_cell (hc 0 (by omega)), hc⟩
theorem sizes_le (ps : List PairL) (L : Nat) (hL : L ≤ 1048576) (h : ps.length + sizeP ps ≤ L) : ∀ p ∈ ps, p.1.length ≤ 1048576 ∧ p.2.length ≤ 1048576 := by
 intro p hp
 obtain ⟨j, hj, rfl⟩ := List.getElem_of_mem hp
 have := sizeP_le ps j hj
 exact ⟨by omega, by omega⟩
theorem strs_laterP {w w' : World} {a : Option Addr} {ls : List (List UInt8)} (h : IsStrs w a ls) (hb : Below w.heap.size w w') : IsStrs w' a ls := by
 rcases h with h | ⟨b, off, h1, h2⟩
 · exact .inl h
 · exact .inr ⟨b, off, h1, fun j hj => (hb.cell (p := ⟨b, off + j, none⟩) (World.block_lt_of_cell? w _ (h2 j hj))).trans (h2 j hj)⟩
theorem pruned_len (ps : List PairL) (rts : List Bs) : ((prunedR ps rts).getD []).length ≤ ps.length := by
 unfold prunedR
 split
 · exact List.length_filter_le _ _
 · simp
theorem flat_memP (ls : List (List UInt8)) (l : List UInt8) (h : l ∈ ls) : l.length ≤ ls.flatten.length := by
 induction ls with
 | nil => cases h
 | cons x r ih =>
   rw [List.flatten_cons, List.length_append]
   rcases List.mem_cons.1 h with h | h
   · rw [h]; omega
   · have := ih h; omega
set_option maxRecDepth 100000 in
set_option maxHeartbeats 4000000 in
theorem walk (a : Option Addr) (cap : Nat) (ps : List PairL) (ar : Option Addr) (cr : Nat) (rts : List (List UInt8)) (w : World) (hl : ps.length ≤ 9223372036854775807) (hm : ∀ p ∈ ps, p.1.length ≤ 9223372036854775807 ∧ p.2.length ≤ 9223372036854775807) (hs : IsPairs w a ps) (hrl : rts.length ≤ 9223372036854775807) (hrm : ∀ l ∈ rts, l.length ≤ 9223372036854775807) (hrs : IsStrs w ar rts) (hT : Tab w) :
 Calls Tryd.prog 3 #[.slice a ps.length cap, .slice ar rts.length cr] w fun e w' => e = .returned (.bool true) ∧ Below w.heap.size w w' := by
 have HT : Hid (Tab w) := hT
 have HS : Hid (∀ W, Below w.heap.size w W → IsPairs W a ps) := fun W hW => hs.later hW
 have HRS : Hid (∀ W, Below w.heap.size w W → IsStrs W ar rts) := fun W hW => strs_laterP hrs hW
 have KZ := szStoredS_gen 1048576 (Nat.le_refl _) a cap ps w hl hm hs
 have HRM : Hid (∀ l ∈ rts, l.length ≤ 9223372036854775807) := hrm
 clear hs hm hT hrs hrm
 go_enter Tryd.func3, Tryd.ntmps3
 go_wp2_with fail
 refine KZ.mono ?_
 rintro e w2 ⟨he, B2⟩
 rcases he with rfl | ⟨hsz, n1, hn1, rfl⟩
 · go_wp2
   go_ret
   exact ⟨rfl, B2⟩
 have hn10 : (0 : Int) ≤ (n1 : Int) := by omega
 have hn11 : ¬ (n1 : Int) < 0 := by omega
 have KZ2 := szS_gen ar cr rts n1 w2 hn1 hrl HRM.out (HRS.out w2 B2)
 clear KZ
 go_wp2_with fail
 refine KZ2.mono ?_
 rintro e w2' ⟨he, rfl⟩
 rcases he with rfl | ⟨hsz2, n2, hn2, hsum2, rfl⟩
 · go_wp2
   go_ret
   exact ⟨rfl, B2⟩
 have hn20 : (0 : Int) ≤ (n2 : Int) := by omega
 have hn21 : ¬ (n2 : Int) < 0 := by omega
 have hln : ps.length ≤ 1048576 := by omega
 have hrn : rts.length ≤ 1048576 := by omega
 have hmm := sizes_le ps 1048576 (Nat.le_refl _) (by omega)
 have hrr : ∀ r ∈ rts, r.length ≤ 1048576 := fun r hr => by have := flat_memP rts r hr; omega
 have HK1' := fun b b' W hp hq => spec_pruned (some ⟨b, 0, none⟩) ps.length ps (some ⟨b', 0, none⟩) rts.length rts W hln hmm hp hrn hq
 have HK2' := fun b b' W hT hp hq => impl_pruned (some ⟨b, 0, none⟩) ps.length ps (some ⟨b', 0, none⟩) rts.length rts W hT hln hmm hp hrn hrr hq
 have hrl9 := pruned_len ps rts
 unfold PPost at HK1' HK2'
 obtain ⟨ok, hok⟩ : ∃ ok, ok = (prunedR ps rts).isSome := ⟨_, rfl⟩
 obtain ⟨rs, hrs⟩ : ∃ rs, rs = (prunedR ps rts).getD [] := ⟨_, rfl⟩
 rw [← hok, ← hrs] at HK1' HK2'
 rw [← hrs] at hrl9
 have HK1 : Hid (∀ (b b' : Nat) W, IsPairs W (some ⟨b, 0, none⟩) ps → IsStrs W (some ⟨b', 0, none⟩) rts → Calls Tryd.prog 6 #[.slice (some ⟨b, 0, none⟩) ps.length ps.length, .slice (some ⟨b', 0, none⟩) rts.length rts.length] W fun e w' => ∃ (a : Option Addr) (m c : Nat), e = .returned (.tuple #[.slice a m c, .bool ok]) ∧ w'.ownsRow W.heap.size 41 2 (.slice a m c) rs.length (pcells rs) ∧ Below W.heap.size W w') := HK1'
 have HK2 : Hid (∀ (b b' : Nat) W, Tab W → IsPairs W (some ⟨b, 0, none⟩) ps → IsStrs W (some ⟨b', 0, none⟩) rts → Calls Tryd.prog 9 #[.slice (some ⟨b, 0, none⟩) ps.length ps.length, .slice (some ⟨b', 0, none⟩) rts.length rts.length] W fun e w' => ∃ (a : Option Addr) (m c : Nat), e = .returned (.tuple #[.slice a m c, .bool ok]) ∧ w'.ownsRow W.heap.size 41 2 (.slice a m c) rs.length (pcells rs) ∧ Below W.heap.size W w') := HK2'
 have HT1 : Hid (∀ W, Below w.heap.size w W → Calls Tryd.prog 7 #[.slice a ps.length cap] W fun e w' => ∃ g : Nat, e = .returned (.slice (some ⟨g, 0, none⟩) ps.length ps.length) ∧ w'.ownsRow W.heap.size 41 2 (.slice (some ⟨g, 0, none⟩) ps.length ps.length) ps.length (pcells ps) ∧ Below W.heap.size W w') := fun W hW => (toStoredS_any a cap ps W hln (HS.out W hW)).mono fun e w' h => ⟨_, h.1, h.2⟩
 have HT2 : Hid (∀ W, Below w.heap.size w W → Calls Tryd.prog 8 #[.slice ar rts.length cr] W fun e w' => ∃ g : Nat, e = .returned (.slice (some ⟨g, 0, none⟩) rts.length rts.length) ∧ w'.ownsRow W.heap.size 9 1 (.slice (some ⟨g, 0, none⟩) rts.length rts.length) rts.length (scells rts) ∧ Below W.heap.size W w') := fun W hW => (toS_any ar cr rts W hrn (HRS.out W hW)).mono fun e w' h => ⟨_, h.1, h.2⟩
 clear HK1' HK2' hok hrs hmm hsz hsz2 hsum2 hn1 hn2 KZ2 hn10 hn11 HS HRS HRM hl hrl hrr
 go_wp2_with fail
 refine (HT1.out w2' B2).mono ?_
 rintro e w3 ⟨g1, rfl, og1, bg1⟩
 have Bw3 := B2.trans (bg1.mono B2.size)
 have Rpw3 : Hid (w3.ownsRow w2'.heap.size 41 2 (Value.slice (some ⟨g1, 0, none⟩) ps.length ps.length) ps.length (pcells ps)) := og1
 have Lg1 : Hid (w2'.heap.size ≤ g1 ∧ g1 < w3.heap.size) := og1.lt g1 (by simp [Value.ownBlock])
 clear og1 bg1
 go_wp2_with fail
 refine (HT2.out w3 Bw3).mono ?_
 rintro e w4 ⟨g2, rfl, og2, bg2⟩
 have Bw4 := Bw3.trans (bg2.mono Bw3.size)
 have Rpw4 := hidOwn (kept2 Rpw3.out bg2)
 have Rrw4 : Hid (w4.ownsRow w3.heap.size 9 1 (Value.slice (some ⟨g2, 0, none⟩) rts.length rts.length) rts.length (scells rts)) := og2
 have Lg2 : Hid (w3.heap.size ≤ g2 ∧ g2 < w4.heap.size) := og2.lt g2 (by simp [Value.ownBlock])
 clear og2 bg2
 go_wp2_with fail
 refine (HK1.out g1 g2 w4 (isPairs_own Rpw4.out).2.2 (strs_own Rrw4.out).2.2).mono ?_
 rintro e w5 ⟨aw, maw, cw, rfl, oaw, baw⟩
 obtain ⟨rfl, _, _⟩ := isPairs_own oaw
 have Sw5 : Hid (w4.heap.size ≤ w5.heap.size) := baw.size
 have Bw5 := Bw4.trans (baw.mono Bw4.size)
 have Rpw5 := hidOwn (kept2 Rpw4.out baw)
 have Rrw5 := hidOwn (kept1 Rrw4.out baw)
 have Rww5 : Hid (w5.ownsRow w4.heap.size 41 2 (Value.slice aw rs.length cw) rs.length (pcells rs)) := oaw
 have Law : Hid (∀ q, (Value.slice aw rs.length cw).ownBlock = some q → w4.heap.size ≤ q ∧ q < w5.heap.size) := fun q hq => oaw.lt q hq
 clear oaw baw
 have B5S : Hid (w.heap.size ≤ w5.heap.size) := Bw5.size
 go_wp2_with fail
 refine (HT1.out w5 Bw5).mono ?_
 rintro e w6 ⟨gx, rfl, ogx, bgx⟩
 have Bw6 := Bw5.trans (bgx.mono Bw5.size)
 have Rww6 := hidOwn (kept2 Rww5.out bgx)
 have Rxw6 : Hid (w6.ownsRow w5.heap.size 41 2 (Value.slice (some ⟨gx, 0, none⟩) ps.length ps.length) ps.length (pcells ps)) := ogx
 have Lgx : Hid (w5.heap.size ≤ gx ∧ gx < w6.heap.size) := ogx.lt gx (by simp [Value.ownBlock])
 clear ogx bgx
 go_wp2_with fail
 refine (HT2.out w6 Bw6).mono ?_
 rintro e w7 ⟨gy, rfl, ogy, bgy⟩
 have Bw7 := Bw6.trans (bgy.mono Bw6.size)
 have Rww7 := hidOwn (kept2 Rww6.out bgy)
 have Rxw7 := hidOwn (kept2 Rxw6.out bgy)
 have Ryw7 : Hid (w7.ownsRow w6.heap.size 9 1 (Value.slice (some ⟨gy, 0, none⟩) rts.length rts.length) rts.length (scells rts)) := ogy
 have Lgy : Hid (w6.heap.size ≤ gy ∧ gy < w7.heap.size) := ogy.lt gy (by simp [Value.ownBlock])
 clear ogy bgy
 go_wp2_with fail
 refine (HK2.out gx gy w7 (HT.out.later Bw7) (isPairs_own Rxw7.out).2.2 (strs_own Ryw7.out).2.2).mono ?_
 rintro e w8 ⟨ag, mag, cg, rfl, oag, bag⟩
 obtain ⟨rfl, _, _⟩ := isPairs_own oag
 have Sw8 : Hid (w7.heap.size ≤ w8.heap.size) := bag.size
 have Bw8 := Bw7.trans (bag.mono Bw7.size)
 have Rww8 := hidOwn (kept2 Rww7.out bag)
 have Rxw8 := hidOwn (kept2 Rxw7.out bag)
 have Ryw8 := hidOwn (kept1 Ryw7.out bag)
 have Rgw8 : Hid (w8.ownsRow w7.heap.size 41 2 (Value.slice ag rs.length cg) rs.length (pcells rs)) := oag
 have Lag : Hid (∀ q, (Value.slice ag rs.length cg).ownBlock = some q → w7.heap.size ≤ q ∧ q < w8.heap.size) := fun q hq => oag.lt q hq
 clear oag bag
 go_wp2_with fail
 refine (eqStoredS_same rs ag aw _ _ _ (by omega) (isPairs_own Rgw8.out).2.2 (isPairs_own Rww8.out).2.2).mono ?_
 rintro e w9 ⟨rfl, b9⟩
 have Bw9 := Bw8.trans (b9.mono Bw8.size)
 have Rww9 := hidOwn (kept2 Rww8.out b9)
 have Rxw9 := hidOwn (kept2 Rxw8.out b9)
 have Ryw9 := hidOwn (kept1 Ryw8.out b9)
 have Rgw9 := hidOwn (kept2 Rgw8.out b9)
 clear b9
 go_wp2_with fail
 refine (HT1.out w9 Bw9).mono ?_
 rintro e wa ⟨gz, rfl, ogz, bgz⟩
 have Bwa := Bw9.trans (bgz.mono Bw9.size)
 have Rwwa := hidOwn (kept2 Rww9.out bgz)
 have Rxwa := hidOwn (kept2 Rxw9.out bgz)
 have Rywa := hidOwn (kept1 Ryw9.out bgz)
 have Rgwa := hidOwn (kept2 Rgw9.out bgz)
 have Rzwa : Hid (wa.ownsRow w9.heap.size 41 2 (Value.slice (some ⟨gz, 0, none⟩) ps.length ps.length) ps.length (pcells ps)) := ogz
 have Lgz : Hid (w9.heap.size ≤ gz ∧ gz < wa.heap.size) := ogz.lt gz (by simp [Value.ownBlock])
 clear ogz bgz
 go_wp2_with fail
 refine (eqStoredS_same ps (some ⟨gx, 0, none⟩) (some ⟨gz, 0, none⟩) _ _ _ (by omega) (isPairs_own Rxwa.out).2.2 (isPairs_own Rzwa.out).2.2).mono ?_
 rintro e wb ⟨rfl, b9⟩
 have Bwb := Bwa.trans (b9.mono Bwa.size)
 have Rwwb := hidOwn (kept2 Rwwa.out b9)
 have Rxwb := hidOwn (kept2 Rxwa.out b9)
 have Rywb := hidOwn (kept1 Rywa.out b9)
 have Rgwb := hidOwn (kept2 Rgwa.out b9)
 have Rzwb := hidOwn (kept2 Rzwa.out b9)
 clear b9
 go_wp2_with fail
 refine (HT2.out wb Bwb).mono ?_
 rintro e wc ⟨gu, rfl, ogu, bgu⟩
 have Bwc := Bwb.trans (bgu.mono Bwb.size)
 have Rwwc := hidOwn (kept2 Rwwb.out bgu)
 have Rxwc := hidOwn (kept2 Rxwb.out bgu)
 have Rywc := hidOwn (kept1 Rywb.out bgu)
 have Rgwc := hidOwn (kept2 Rgwb.out bgu)
 have Ruwc : Hid (wc.ownsRow wb.heap.size 9 1 (Value.slice (some ⟨gu, 0, none⟩) rts.length rts.length) rts.length (scells rts)) := ogu
 have Lgu : Hid (wb.heap.size ≤ gu ∧ gu < wc.heap.size) := ogu.lt gu (by simp [Value.ownBlock])
 clear ogu bgu
 go_wp2_with fail
 refine (eqS_same rts (Value.slice (some ⟨gy, 0, none⟩) rts.length rts.length) (Value.slice (some ⟨gu, 0, none⟩) rts.length rts.length) _ _ wc (by omega) Rywc.out Ruwc.out).mono ?_
 rintro e wd ⟨rfl, q9, hq9⟩
 have b9 : Below wc.heap.size wc wd := by subst hq9; exact ⟨rfl, rfl, rfl, Nat.le_refl _, fun _ _ => rfl⟩
 clear hq9
 have Bwd := Bwc.trans (b9.mono Bwc.size)
 have Rwwd := hidOwn (kept2 Rwwc.out b9)
 have Rxwd := hidOwn (kept2 Rxwc.out b9)
 have Rywd := hidOwn (kept1 Rywc.out b9)
 have Rgwd := hidOwn (kept2 Rgwc.out b9)
 have Ruwd := hidOwn (kept1 Ruwc.out b9)
 clear b9
 have hk0 : ¬ (1 : Int) + 2 * (ps.length : Int) + (rts.length : Int) < 0 := by omega
 have hkb : decide ((1 : Int) + 2 * (ps.length : Int) + (rts.length : Int) < 0) = false := decide_eq_false hk0
 have KM := markStoredS_any ps (some ⟨gx, 0, none⟩) ps.length ps.length _ 1 wd (by omega) (by omega) (by omega) Rxwd.out
 go_wp2_with fail
 refine KM.mono ?_
 rintro e we ⟨he, om, G⟩
 subst he
 have Rwwe := hidOwn (Rwwd.out.kept G (by
  cases hv : (Value.slice aw rs.length cw).ownBlock with
  | none => exact .inl rfl
  | some q => exact .inr (fun e => by have h1 := Law.out q hv; simp [Value.ownBlock] at e; have h2 := Lgx.out; have c1 := Lgx.out; have c2 := Lgy.out; omega)))
 have Rywe := hidOwn (Rywd.out.kept G (by
  cases hv : (Value.slice (some ⟨gy, 0, none⟩) rts.length rts.length).ownBlock with
  | none => exact .inl rfl
  | some q => exact .inr (fun e => by simp [Value.ownBlock] at hv; have h1 := Lgy.out; simp [Value.ownBlock] at e; have h2 := Lgx.out; have c1 := Lgx.out; have c2 := Lgy.out; omega)))
 have Rgwe := hidOwn (Rgwd.out.kept G (by
  cases hv : (Value.slice ag rs.length cg).ownBlock with
  | none => exact .inl rfl
  | some q => exact .inr (fun e => by have h1 := Lag.out q hv; simp [Value.ownBlock] at e; have h2 := Lgx.out; have c1 := Lgx.out; have c2 := Lgy.out; omega)))
 have Bwe : Below w.heap.size w we := Bwd.grown G Bwd.size (fun q hq => by simp [Value.ownBlock] at hq; have h2 := Lgx.out; have h3 := B5S.out; omega)
 clear KM G om
 have KM := markS_any rts (Value.slice (some ⟨gy, 0, none⟩) rts.length rts.length) _ (1 + 2 * ps.length) we (by omega) (by omega) (by omega) Rywe.out
 rw [show ((1 + 2 * ps.length : Nat) : Int) = (1 : Int) + 2 * (ps.length : Int) by omega] at KM
 go_wp2_with fail
 refine KM.mono ?_
 rintro e wf ⟨he, om, G⟩
 subst he
 have Rwwf := hidOwn (Rwwe.out.kept G (by
  cases hv : (Value.slice aw rs.length cw).ownBlock with
  | none => exact .inl rfl
  | some q => exact .inr (fun e => by have h1 := Law.out q hv; simp [Value.ownBlock] at e; have h2 := Lgy.out; have c1 := Lgx.out; have c2 := Lgy.out; omega)))
 have Rgwf := hidOwn (Rgwe.out.kept G (by
  cases hv : (Value.slice ag rs.length cg).ownBlock with
  | none => exact .inl rfl
  | some q => exact .inr (fun e => by have h1 := Lag.out q hv; simp [Value.ownBlock] at e; have h2 := Lgy.out; have c1 := Lgx.out; have c2 := Lgy.out; omega)))
 have Bwf : Below w.heap.size w wf := Bwe.grown G Bwe.size (fun q hq => by simp [Value.ownBlock] at hq; have h2 := Lgy.out; have c1 := Lgx.out; have h3 := B5S.out; omega)
 clear KM G om
 go_wp2_with fail
 refine (eqStoredS_same rs ag aw _ _ _ (by omega) (isPairs_own Rgwf.out).2.2 (isPairs_own Rwwf.out).2.2).mono ?_
 rintro e wg ⟨rfl, b9⟩
 have Bwg := Bwf.trans (b9.mono Bwf.size)
 have Rwwg := hidOwn (kept2 Rwwf.out b9)
 have Rgwg := hidOwn (kept2 Rgwf.out b9)
 clear b9
 have hq0 : ¬ (1 : Int) + 2 * (rs.length : Int) < 0 := by omega
 have KM := markStoredS_any rs ag rs.length cg _ 1 wg (by omega) (by omega) (by omega) Rgwg.out
 go_wp2_with fail
 refine KM.mono ?_
 rintro e wh ⟨he, om, G⟩
 subst he
 have Rwwh := hidOwn (Rwwg.out.kept G (by
  cases hv : (Value.slice aw rs.length cw).ownBlock with
  | none => exact .inl rfl
  | some q => exact .inr (fun e => by have h1 := Law.out q hv; have h2 := Lag.out q e.symm; have c1 := Lgx.out; have c2 := Lgy.out; omega)))
 have Bwh : Below w.heap.size w wh := Bwg.grown G Bwg.size (fun q hq => by have h2 := Lag.out q hq; have c1 := Lgx.out; have c2 := Lgy.out; have h3 := B5S.out; omega)
 have Rgwh := hidOwn om
 clear KM G om
 have KM := heldStoredS_any rs.length ag rs.length cg _ 1 wh (by omega) (by omega) (by omega) Rgwh.out
 go_wp2_with fail
 refine KM.mono ?_
 rintro e wi ⟨rfl, G⟩
 have bh := below_of_grown G
 have Bwi := Bwh.trans (bh.mono Bwh.size)
 have Rwwi := hidOwn (kept2 Rwwh.out bh)
 have Rgwi := hidOwn (kept2 Rgwh.out bh)
 clear KM G bh
 go_wp2_with fail
 refine (HT1.out wi Bwi).mono ?_
 rintro e wj ⟨g5, rfl, og5, bg5⟩
 have Bwj := Bwi.trans (bg5.mono Bwi.size)
 have Rwwj := hidOwn (kept2 Rwwi.out bg5)
 have Rgwj := hidOwn (kept2 Rgwi.out bg5)
 have Rpwj : Hid (wj.ownsRow wi.heap.size 41 2 (Value.slice (some ⟨g5, 0, none⟩) ps.length ps.length) ps.length (pcells ps)) := og5
 have Lg5 : Hid (wi.heap.size ≤ g5 ∧ g5 < wj.heap.size) := og5.lt g5 (by simp [Value.ownBlock])
 clear og5 bg5
 go_wp2_with fail
 refine (HT2.out wj Bwj).mono ?_
 rintro e wk ⟨g6, rfl, og6, bg6⟩
 have Bwk := Bwj.trans (bg6.mono Bwj.size)
 have Rwwk := hidOwn (kept2 Rwwj.out bg6)
 have Rgwk := hidOwn (kept2 Rgwj.out bg6)
 have Rpwk := hidOwn (kept2 Rpwj.out bg6)
 have Rrwk : Hid (wk.ownsRow wj.heap.size 9 1 (Value.slice (some ⟨g6, 0, none⟩) rts.length rts.length) rts.length (scells rts)) := og6
 have Lg6 : Hid (wj.heap.size ≤ g6 ∧ g6 < wk.heap.size) := og6.lt g6 (by simp [Value.ownBlock])
 clear og6 bg6
 go_wp2_with fail
 refine (HK2.out g5 g6 wk (HT.out.later Bwk) (isPairs_own Rpwk.out).2.2 (strs_own Rrwk.out).2.2).mono ?_
 rintro e wl ⟨ah, mah, ch, rfl, oah, bah⟩
 obtain ⟨rfl, _, _⟩ := isPairs_own oah
 have Swl : Hid (wk.heap.size ≤ wl.heap.size) := bah.size
 have Bwl := Bwk.trans (bah.mono Bwk.size)
 have Rwwl := hidOwn (kept2 Rwwk.out bah)
 have Rgwl := hidOwn (kept2 Rgwk.out bah)
 have Rpwl := hidOwn (kept2 Rpwk.out bah)
 have Rrwl := hidOwn (kept1 Rrwk.out bah)
 have Rhwl : Hid (wl.ownsRow wk.heap.size 41 2 (Value.slice ah rs.length ch) rs.length (pcells rs)) := oah
 have Lah : Hid (∀ q, (Value.slice ah rs.length ch).ownBlock = some q → wk.heap.size ≤ q ∧ q < wl.heap.size) := fun q hq => oah.lt q hq
 clear oah bah
 go_wp2_with fail
 refine (eqStoredS_same rs ah aw _ _ _ (by omega) (isPairs_own Rhwl.out).2.2 (isPairs_own Rwwl.out).2.2).mono ?_
 rintro e wm ⟨rfl, b9⟩
 have Bwm := Bwl.trans (b9.mono Bwl.size)
 have Rwwm := hidOwn (kept2 Rwwl.out b9)
 have Rgwm := hidOwn (kept2 Rgwl.out b9)
 have Rpwm := hidOwn (kept2 Rpwl.out b9)
 have Rrwm := hidOwn (kept1 Rrwl.out b9)
 have Rhwm := hidOwn (kept2 Rhwl.out b9)
 clear b9
 have KM := heldStoredS_any rs.length ag rs.length cg _ 1 wm (by omega) (by omega) (by omega) Rgwm.out
 go_wp2_with fail
 refine KM.mono ?_
 rintro e wn ⟨rfl, G⟩
 have bh := below_of_grown G
 have Bwn := Bwm.trans (bh.mono Bwm.size)
 have Rwwn := hidOwn (kept2 Rwwm.out bh)
 have Rgwn := hidOwn (kept2 Rgwm.out bh)
 have Rpwn := hidOwn (kept2 Rpwm.out bh)
 have Rrwn := hidOwn (kept1 Rrwm.out bh)
 have Rhwn := hidOwn (kept2 Rhwm.out bh)
 clear KM G bh
 go_wp2
 go_ret
 exact ⟨rfl, Bwn⟩
set_option maxRecDepth 100000 in
theorem lifted (os : Os) (started : os.Started) (H : Type) (enc : TypeId × Value → H) :
 ReturnsInHanded {} Tryd.checked os 3 .any (fun w args => (Rows.fnExactPrunedSpec.pre enc Tryd.prog Tryd.f3 [] false w args ∧ laidMetH Tryd.prog Rows.fnExactPrunedRow.laid w) ∧ sizedMet enc Tryd.prog Tryd.f3 (OpenSpec.ofChange Rows.fnExactPrunedSpec) false w args)
  (Rows.fnExactPrunedSpec.post enc Tryd.prog Tryd.f3 false true false false) := by
 refine returnsInHanded_of_change_and (C := Tryd.checked) (X := fun w _ => laidMetH Tryd.prog Rows.fnExactPrunedRow.laid w) (fun _ _ _ hh h => h.of_heap hh) own started (by kernel_rfl) Tryd.func3
  (ChangeSpec.witness_shaped (enc := enc) (C := Tryd.checked) (os := os) (X := fun w _ => laidMetH Tryd.prog Rows.fnExactPrunedRow.laid w) false (World.doorLaid Tryd.prog 400 os) #[.slice none 0 0, .slice none 0 0] 8 rfl (World.shaped_of_RefB (by kernel_rfl) (by kernel_rfl)) (by kernel_rfl) (by kernel_rfl) (by kernel_rfl) (door_met os _)) ?_
 intro W base args ds gs before hval0 hW _ _ hL _
 have hval : ∀ (j : Nat) t v, Tryd.f3.params[j]? = some t → args[j]? = some v → Value.okWide Tryd.prog W .any base t v := hval0
 have hW' := hW
 obtain ⟨p, q, hA0, hV0, rfl, hfz, hnd⟩ := hW
 have hA : DataW.TrodAll enc Tryd.prog W 0 (fun _ => true) true Tryd.f3.params.toList args.toList ds p := hA0
 have hV : DataW.TrodVars enc Tryd.prog W (fun _ => true) ["loop.example/g00226/impl.roundWords"] gs q := hV0
 rw [Tryd.params3] at hA hval
 obtain ⟨v0, vs0, d0, ds0, p0, q0, hargs, rfl, rfl, h0, r0⟩ := trodAll_cons hA
 obtain ⟨v1, vs1, d1, ds1, p1, q1, hargs1, rfl, rfl, h1, r1⟩ := trodAll_cons r0
 obtain ⟨rfl, rfl, rfl⟩ := trodAll_nil r1
 obtain rfl : args = #[v0, v1] := by cases args; simp_all
 have k0 := h0
 have lt0 : ∀ x ∈ p0, x.block < W.heap.size := by obtain ⟨m, hm⟩ := k0; exact DataW.trod_lt m _ _ _ hm
 have k1 := h1
 have lt1 : ∀ x ∈ p1, x.block < W.heap.size := by obtain ⟨m, hm⟩ := k1; exact DataW.trod_lt m _ _ _ hm
 obtain ⟨a0, ps, cap0, hv0, hm, hs, hbig⟩ : ∃ (a : Option Addr) (ps : List PairL) (cap : Nat), v0 = .slice a ps.length cap ∧ (∀ p ∈ ps, p.1.length ≤ 9223372036854775807 ∧ p.2.length ≤ 9223372036854775807) ∧ IsPairs W a ps ∧ ps.length ≤ 9223372036854775807 := by
  obtain ⟨a1, len1, cap1, rfl⟩ := okWide_slice Tryd.underlying22 (hval 0 22 v0 rfl rfl)
  obtain ⟨fuel, hf⟩ := h0
  exact stored_of (by simpa [Value.cells] using hf)
 subst hv0
 obtain ⟨b1, ts, cb1, hv1, htm, hts, htl⟩ : ∃ (a : Option Addr) (ls : List (List UInt8)) (cap : Nat), v1 = .slice a ls.length cap ∧ (∀ l ∈ ls, l.length ≤ 9223372036854775807) ∧ IsStrs W a ls ∧ ls.length ≤ 9223372036854775807 := by
  obtain ⟨a0, len0, cap0, rfl⟩ := okWide_slice Tryd.underlying23 (hval 1 23 v1 rfl rfl)
  obtain ⟨fuel, hf⟩ := h1
  exact strs_of (by simpa [Value.cells] using hf)
 subst hv1
 obtain ⟨g, t, cs, fuel, d, p', rfl, hg, ht, hvar, hd, rfl⟩ := trodVars_one hV
 obtain rfl := Option.some.inj (gTab.symm.trans hg)
 obtain rfl := Option.some.inj (tTab.symm.trans ht)
 have hT := tab_of hL
 have hltv : ∀ x ∈ p', x.block < W.heap.size := fun x hx => hW'.lt x (List.mem_append_right _ (List.mem_append_right _ hx))
 clear hA0 hV0 hval0 hA hV
 refine (walk a0 cap0 ps b1 cb1 ts W hbig hm hs htl htm hts hT).mono fun e W' ⟨he, hB⟩ => ?_
 subst he
 obtain ⟨fuel', hd'⟩ := Below.trod laidOut0 (by kernel_rfl) (of_decide_eq_true (by kernel_rfl)) (v := .agg cs) (⟨fuel, by simpa [Value.cells] using hd⟩ : DataW.Trod enc Tryd.prog W 0 (fun _ => true) true 107 (.agg cs) d p') hB hltv
 have hv' := trodVars_mk1 (enc := enc) (spare := fun b => decide (b < W.heap.size)) hg ht (var?_below hB hg hT.1 hvar) (by simpa [Value.cells] using hd')
 exact ⟨_, rfl, _, _, _, [], _, _, hW', trodAll_mk1 (shut_bool Tryd.underlying4 _), (trodAll_cons_mk (Below.trod laidOut0 (by kernel_rfl) (of_decide_eq_true (by kernel_rfl)) k0 hB lt0) (trodAll_cons_mk (Below.trod laidOut0 (by kernel_rfl) (of_decide_eq_true (by kernel_rfl)) k1 hB lt1) trodAll_mk0)), hv', hB.frame _, fun h => by cases h⟩
theorem named0 : Tryd.prog.funcNamed "loop.example/g00226/laws.FnExactPruned" = some 3 := by kernel_rfl
theorem closed0 : joinedFacts Tryd.prog 3 Tryd.f3 Rows.fnExactPrunedSpec Rows.fnExactPrunedRow = true := by
 unfold joinedFacts
 rw [seat_may, seat_lifts, seat_make]
 kernel_rfl
theorem inst0 : Tryd.f3.isInstance Tryd.prog Rows.fnExactPrunedRow.origin Rows.fnExactPrunedRow.targs := of_decide_eq_true (by kernel_rfl)
theorem wrap0 : Tryd.f3.isWrapper Tryd.prog Rows.fnExactPrunedRow.wrapper Rows.fnExactPrunedRow.mainSum := by unfold Func.isWrapper; first | (rw [if_pos (by decide +kernel)]; kernel_rfl) | (rw [if_neg (by decide +kernel)]; exact ⟨rfl, rfl⟩)
theorem over : Rows.fnExactPrunedRow.holds Tryd.pinned (OpenSpec.ofChange Rows.fnExactPrunedSpec) :=
 OpenClaim.holds_of_wide 3 Tryd.f3 rfl rfl rfl rfl rfl rfl rfl ⟨rfl, rfl, rfl, rfl, rfl⟩ rfl rfl rfl rfl rfl named0 Tryd.func3 closed0 inst0 wrap0
  (fun os started H enc _ => lifted os started H enc)
theorem text0 : Rows.fnExactPrunedRow.wfByText (OpenSpec.ofChange Rows.fnExactPrunedSpec) = true := by kernel_rfl
theorem looks0 : false = Tryd.prog.looks [] := by kernel_rfl
theorem goes0 : false = Rows.fnExactPrunedRow.goesBy Tryd.prog := by kernel_rfl
theorem wants0 : ([22, 23].all fun u => !Tryd.prog.wantsStandIn u) = true := by kernel_rfl
theorem card : Claim7.holds Tryd.pinned (.plain (OpenSpec.ofChange Rows.fnExactPrunedSpec)) Rows.fnExactPrunedCard :=
 Claim7.holds_tied_plain_at .later [] [.data] true (true, Rows.fnExactPrunedCard.stood.harness.2) false
  over (fun _ h => by cases h) text0 (fun _ h => by cases h) fnExactPruned_row_tie rfl ⟨rfl, rfl⟩ seat_main rfl
  (fun f fn hf hfn => by
   obtain rfl : f = 3 := Option.some.inj (named0.symm.trans hf) |>.symm
   obtain rfl : fn = Tryd.f3 := (Option.some.inj (Tryd.func3.symm.trans hfn)).symm
   exact ⟨looks0, fun j t ht => by
    rw [Tryd.params3] at ht
    have hm : t ∈ [22, 23] := by simpa using Array.mem_of_getElem? ht
    exact (show Tryd.prog.wantsStandIn t = false by simpa using List.all_eq_true.1 wants0 t hm)⟩)
  goes0
end Go.Proofs.YtapmakefpmholaaDoor.fnExactPruned
namespace Go.Proofs.YtapmakefpmholaaDoor
theorem fnExactPruned_holds : Rows.FnExactPrunedCardSaid := fnExactPruned.card
end Go.Proofs.YtapmakefpmholaaDoor
