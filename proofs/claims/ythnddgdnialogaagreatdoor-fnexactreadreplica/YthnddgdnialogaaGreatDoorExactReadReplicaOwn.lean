/-
 At every text ReadReplica answers as its model; its answer owns its memory. No condition; the round words are laid as the program's text lays them.
-/
import Derived.Test.YthnddgdnialogaaGreatDoorRdRep
import Derived.Test.YthnddgdnialogaaGreatDoorPairs
import Derived.Test.YthnddgdnialogaaGreatDoorSeatAll
import Derived.Test.YthnddgdnialogaaGreatDoorTie
import Derived.Test.YthnddgdnialogaaGreatDoorCards
import Derived.ProofKit
import Derived.LaidMore
import Derived.OpenShut
import Derived.ShutString
import Derived.ChangeOld
import Derived.Below
import Derived.Stop.Joined
import Derived.Lib.LaidTab
import Derived.SevenTiedAt
import Derived.SliceStrings
namespace Go.Proofs.YthnddgdnialogaaGreatDoor.fnExactReadReplica
open Go.ChangeShapes Go.WideShapes Go.ChangeAt Go.RowKit
open Go.ChangeMaps (open_string shut_string)
set_option linter.unusedVariables false
theorem own : ownKnob Tryz.prog.godebug = none := by kernel_rfl
theorem laidOut0 : laidOutB Tryz.prog = true := by kernel_rfl
theorem gTab : Tryz.prog.globalNamed "loop.example/g00226/impl.roundWords" = some 0 := by kernel_rfl
theorem tTab : (Tryz.prog.globals[0]?).map (·.type) = some 184 := by kernel_rfl
theorem door_met (os : Os) (args : Array Value) : laidMetH Tryz.prog Rows.fnExactReadReplicaRow.laid ((World.doorLaid Tryz.prog 400 os).forCall (fun _ _ => 0) ⟨#[], args, []⟩).memory :=
 laidMetH_of_parts3 (fuel := 8) (laidMet_of_run' 8 (by kernel_rfl) (by kernel_rfl)) (by kernel_rfl) (by kernel_rfl)
theorem tab_of {W : World} (h : laidMetH Tryz.prog Rows.fnExactReadReplicaRow.laid W) : Tab W := by
 rw [MakeChecks.laidMetH_plain _ _ _ (by kernel_rfl)] at h
 have hT : Lib.TabIs Tryz.prog W "loop.example/g00226/impl.roundWords" .u32 (kL.map fun x => num x) := Lib.tabIs_of_head (rest := []) gTab tTab Tryz.underlying184 Tryz.underlying136 (by kernel_rfl) (by kernel_rfl) h
 have hc : ∀ i, i < 64 → W.cell? ⟨0, i, none⟩ = some (.int .u32 (num (kL.getD i 0))) := fun i hi => by
  have hl : i < kL.length := hi
  have := hT.cell gTab i (by rw [List.length_map]; exact hl)
  rw [this]
  simp [List.getD, hl]
 exact ⟨block_lt_of_cell (hc 0 (by omega)), hc⟩
set_option maxRecDepth 100000 in
set_option maxHeartbeats 1000000 in
theorem heldReplica_any (ix : Int) (r : List UInt8) (n1 n2 : Nat) (a c : Option Addr) (m cap m2 cap2 b1 k : Nat) (w : World) (hl : n1 ≤ 1000000) (hl2 : n2 ≤ 1000000) (hk : 0 < k) (hk2 : k ≤ 4000000) (hv : w.ownsRow b1 57 2 (.slice a m cap) n1 (pcells (marksP k n1))) (hv2 : w.ownsRow b1 67 2 (.slice c m2 cap2) n2 (secells (marksSe (k + 2 * n1) n2))) :
 Calls Tryz.prog 22 #[.agg #[.int .i64 ix, .string ⟨r.toArray⟩, .slice a m cap, .slice c m2 cap2], .int .i64 k] w fun e w' => e = .returned (.int .i64 ((k : Int) + 2 * (n1 : Int) + 2 * (n2 : Int))) ∧ Below w.heap.size w w' := by
 have B0 : Below w.heap.size w (w.alloc (.cells #[.int .i64 ix, .string ⟨r.toArray⟩, .slice a m cap, .slice c m2 cap2] 31)) := (Below.refl _ _).alloc (Nat.le_refl _) _
 have H0 : Hid (_ = _) := heap_alloc_new w (.cells #[.int .i64 ix, .string ⟨r.toArray⟩, .slice a m cap, .slice c m2 cap2] 31)
 have K := heldStoredS_any n1 a m cap b1 k (w.alloc (.cells #[.int .i64 ix, .string ⟨r.toArray⟩, .slice a m cap, .slice c m2 cap2] 31)) (by omega) hk hk2 (kept2 hv B0)
 have HO2 : Hid (∀ W, Below w.heap.size w W → W.ownsRow b1 67 2 (.slice c m2 cap2) n2 (secells (marksSe (k + 2 * n1) n2))) := fun W hW => kept2 hv2 hW
 obtain ⟨p0, p1, p2, p3, _⟩ := rp_cells H0.out
 have hq0 : ¬ (k : Int) + 2 * (n1 : Int) < 0 := by omega
 clear hv hv2
 go_enter Tryz.func22, Tryz.ntmps22
 go_wp2_with fail
 refine K.mono ?_
 rintro e w1 ⟨rfl, g1⟩
 have b1' := below_of_grown g1
 have B1 := B0.trans (b1'.mono B0.size)
 obtain ⟨q0, q1, q2, q3, _⟩ := rp_cells ((b1'.block w.heap.size (by simp)).trans H0.out)
 have K2 := heldSessionS_any n2 c m2 cap2 b1 (k + 2 * n1) w1 (by omega) (by omega) (by omega) (HO2.out w1 B1)
 rw [show ((k + 2 * n1 : Nat) : Int) = (k : Int) + 2 * (n1 : Int) by omega] at K2
 have hq1 : ¬ (k : Int) + 2 * (n1 : Int) + 2 * (n2 : Int) < 0 := by omega
 clear K g1 b1' p0 p1 p2 p3 HO2 H0
 go_wp2_with fail
 refine K2.mono ?_
 rintro e w2 ⟨rfl, g2⟩
 have B2 := B1.trans ((below_of_grown g2).mono B1.size)
 clear K2 g2
 go_wp2
 go_ret
 exact ⟨rfl, B2⟩
theorem rr_len (s : List UInt8) : ((readRep s).getD zeroR).2.2.1.length ≤ 10000 ∧ ((readRep s).getD zeroR).2.2.2.length ≤ 6 := by
 have hz : zeroR.2.2.1.length ≤ 10000 ∧ zeroR.2.2.2.length ≤ 6 := by simp [zeroR]
 have hf : ∀ ix ses l, ((finR ix ses l).getD zeroR).2.2.1.length ≤ 10000 ∧ ((finR ix ses l).getD zeroR).2.2.2.length ≤ 6 := fun ix ses l => by
  unfold finR
  split
  · next h =>
    have h1 := nodesR_len l
    have h2 : ses.length ≤ 6 := Classical.byContradiction fun hn => by have := sess_big ses hn; rw [this] at h; cases h.1
    exact ⟨by simp only [Option.getD_some]; omega, h2⟩
  · exact hz
 unfold readRep
 split
 · unfold rdRows
   split
   · split
     · exact hf _ _ _
     · exact hz
   · exact hz
 · exact hz
set_option maxRecDepth 100000 in
set_option maxHeartbeats 8000000 in
theorem walk (a1 : ByteArray) (w1 : a1.size ≤ maxLen) (w : World) (hT : Tab w) :
 Calls Tryz.prog 6 #[.string a1] w fun e w' => e = .returned (.bool true) ∧ Below w.heap.size w w' := by
 unfold maxLen at w1
 have HT : Hid (Tab w) := hT
 by_cases hb0 : a1.size ≤ 1048576
 · have e0 : a1 = ⟨a1.data.toList.toArray⟩ := ba_eq a1
   have hsl : a1.data.toList.length ≤ 1048576 := by rw [Array.length_toList]; exact hb0
   obtain ⟨s, hh⟩ : ∃ s, s = a1.data.toList := ⟨_, rfl⟩
   rw [← hh] at e0 hsl
   clear hh
   subst e0
   have hsl' : (s.length : Int) ≤ 1048576 := by omega
   have HK1' := fun W => spec_readReplica s W hsl
   have HK2' := fun W hT => impl_readReplica s W hsl hT
   have hlens := rr_len s
   unfold RRPost at HK1' HK2'
   obtain ⟨ok, hok⟩ : ∃ ok, ok = (readRep s).isSome := ⟨_, rfl⟩
   obtain ⟨r, hr⟩ : ∃ r, r = (readRep s).getD zeroR := ⟨_, rfl⟩
   rw [← hok, ← hr] at HK1' HK2'
   rw [← hr] at hlens
   obtain ⟨ix, rt, ns, ses⟩ := r
   simp only at HK1' HK2' hlens
   have HK1 : Hid (∀ W, Calls Tryz.prog 20 #[.string ⟨s.toArray⟩] W fun e w' => ∃ (a1 : Option Addr) (m1 c1 : Nat) (a2 : Option Addr) (m2 c2 : Nat), e = .returned (.tuple #[.agg #[.int .i64 ix, .string ⟨rt.toArray⟩, .slice a1 m1 c1, .slice a2 m2 c2], .bool ok]) ∧ w'.ownsRow W.heap.size 57 2 (.slice a1 m1 c1) ns.length (pcells ns) ∧ w'.ownsRow W.heap.size 67 2 (.slice a2 m2 c2) ses.length (secells ses) ∧ (∀ q, (Value.slice a1 m1 c1).ownBlock = some q → (Value.slice a2 m2 c2).ownBlock ≠ some q) ∧ Below W.heap.size W w') := HK1'
   have HK2 : Hid (∀ W, Tab W → Calls Tryz.prog 21 #[.string ⟨s.toArray⟩] W fun e w' => ∃ (a1 : Option Addr) (m1 c1 : Nat) (a2 : Option Addr) (m2 c2 : Nat), e = .returned (.tuple #[.agg #[.int .i64 ix, .string ⟨rt.toArray⟩, .slice a1 m1 c1, .slice a2 m2 c2], .bool ok]) ∧ w'.ownsRow W.heap.size 57 2 (.slice a1 m1 c1) ns.length (pcells ns) ∧ w'.ownsRow W.heap.size 67 2 (.slice a2 m2 c2) ses.length (secells ses) ∧ (∀ q, (Value.slice a1 m1 c1).ownBlock = some q → (Value.slice a2 m2 c2).ownBlock ≠ some q) ∧ Below W.heap.size W w') := HK2'
   have hl1 := hlens.1
   have hl2 := hlens.2
   clear HK1' HK2' hok hr hlens hT hb0 w1 hsl
   have B0 : Below w.heap.size w w := Below.refl _ _
   go_enter Tryz.func6, Tryz.ntmps6
   go_wp2_with fail
   refine (HK1.out w).mono ?_
   rintro e w2 ⟨au, mu, cu, du, nu, fu, rfl, ou, pu, Nu, bu⟩
   obtain ⟨rfl, _, _⟩ := isPairs_own ou
   obtain ⟨rfl, _, _⟩ := isSess_own pu
   have Bw2 := B0.trans (bu.mono B0.size)
   have Ru1w2 : Hid (w2.ownsRow w.heap.size 57 2 (Value.slice au ns.length cu) ns.length (pcells ns)) := ou
   have Ru2w2 : Hid (w2.ownsRow w.heap.size 67 2 (Value.slice du ses.length fu) ses.length (secells ses)) := pu
   have Lu1 : Hid (∀ q, (Value.slice au ns.length cu).ownBlock = some q → w.heap.size ≤ q ∧ q < w2.heap.size) := fun q hq => ou.lt q hq
   have Lu2 : Hid (∀ q, (Value.slice du ses.length fu).ownBlock = some q → w.heap.size ≤ q ∧ q < w2.heap.size) := fun q hq => pu.lt q hq
   have Mu : Hid (∀ q, (Value.slice au ns.length cu).ownBlock = some q → (Value.slice du ses.length fu).ownBlock ≠ some q) := Nu
   clear ou pu bu Nu
   have Xw2a : Below w2.heap.size w2 (w2.alloc (.cells #[.int .i64 ix, .string ⟨rt.toArray⟩, .slice au ns.length cu, .slice du ses.length fu] 31)) := (Below.refl _ _).alloc (Nat.le_refl _) _
   have Bw2a := Bw2.trans (Xw2a.mono Bw2.size)
   have Ru1w2a := hidOwn (kept2 Ru1w2.out Xw2a)
   have Ru2w2a := hidOwn (kept2 Ru2w2.out Xw2a)
   have Huw2a : Hid ((w2.alloc (.cells #[.int .i64 ix, .string ⟨rt.toArray⟩, .slice au ns.length cu, .slice du ses.length fu] 31)).heap[w2.heap.size]? = some (.cells #[.int .i64 ix, .string ⟨rt.toArray⟩, .slice au ns.length cu, .slice du ses.length fu] 31 (0, 0))) := heap_alloc_new w2 _
   go_wp2_with fail
   refine (HK2.out (w2.alloc (.cells #[.int .i64 ix, .string ⟨rt.toArray⟩, .slice au ns.length cu, .slice du ses.length fu] 31)) (HT.out.later Bw2a)).mono ?_
   rintro e w3 ⟨ag, mg, cg, dg, ng, fg, rfl, og, pg, Ng, bg⟩
   obtain ⟨rfl, _, _⟩ := isPairs_own og
   obtain ⟨rfl, _, _⟩ := isSess_own pg
   have Bw3 := Bw2a.trans (bg.mono Bw2a.size)
   have Huw3 : Hid (w3.heap[w2.heap.size]? = some (.cells #[.int .i64 ix, .string ⟨rt.toArray⟩, .slice au ns.length cu, .slice du ses.length fu] 31 (0, 0))) := (bg.block (w2.heap.size) (lt_of_block Huw2a.out)).trans Huw2a.out
   have Ru1w3 := hidOwn (kept2 Ru1w2a.out bg)
   have Ru2w3 := hidOwn (kept2 Ru2w2a.out bg)
   have Rg1w3 : Hid (w3.ownsRow (w2.alloc (.cells #[.int .i64 ix, .string ⟨rt.toArray⟩, .slice au ns.length cu, .slice du ses.length fu] 31)).heap.size 57 2 (Value.slice ag ns.length cg) ns.length (pcells ns)) := og
   have Rg2w3 : Hid (w3.ownsRow (w2.alloc (.cells #[.int .i64 ix, .string ⟨rt.toArray⟩, .slice au ns.length cu, .slice du ses.length fu] 31)).heap.size 67 2 (Value.slice dg ses.length fg) ses.length (secells ses)) := pg
   have Lg1 : Hid (∀ q, (Value.slice ag ns.length cg).ownBlock = some q → (w2.alloc (.cells #[.int .i64 ix, .string ⟨rt.toArray⟩, .slice au ns.length cu, .slice du ses.length fu] 31)).heap.size ≤ q ∧ q < w3.heap.size) := fun q hq => og.lt q hq
   have Lg2 : Hid (∀ q, (Value.slice dg ses.length fg).ownBlock = some q → (w2.alloc (.cells #[.int .i64 ix, .string ⟨rt.toArray⟩, .slice au ns.length cu, .slice du ses.length fu] 31)).heap.size ≤ q ∧ q < w3.heap.size) := fun q hq => pg.lt q hq
   have Mg : Hid (∀ q, (Value.slice ag ns.length cg).ownBlock = some q → (Value.slice dg ses.length fg).ownBlock ≠ some q) := Ng
   clear og pg bg Ng
   have Xw3a : Below w3.heap.size w3 (w3.alloc (.cells #[.int .i64 ix, .string ⟨rt.toArray⟩, .slice ag ns.length cg, .slice dg ses.length fg] 31)) := (Below.refl _ _).alloc (Nat.le_refl _) _
   have Bw3a := Bw3.trans (Xw3a.mono Bw3.size)
   have Huw3a : Hid ((w3.alloc (.cells #[.int .i64 ix, .string ⟨rt.toArray⟩, .slice ag ns.length cg, .slice dg ses.length fg] 31)).heap[w2.heap.size]? = some (.cells #[.int .i64 ix, .string ⟨rt.toArray⟩, .slice au ns.length cu, .slice du ses.length fu] 31 (0, 0))) := (Xw3a.block (w2.heap.size) (lt_of_block Huw3.out)).trans Huw3.out
   have Ru1w3a := hidOwn (kept2 Ru1w3.out Xw3a)
   have Ru2w3a := hidOwn (kept2 Ru2w3.out Xw3a)
   have Rg1w3a := hidOwn (kept2 Rg1w3.out Xw3a)
   have Rg2w3a := hidOwn (kept2 Rg2w3.out Xw3a)
   have Hgw3a : Hid ((w3.alloc (.cells #[.int .i64 ix, .string ⟨rt.toArray⟩, .slice ag ns.length cg, .slice dg ses.length fg] 31)).heap[w3.heap.size]? = some (.cells #[.int .i64 ix, .string ⟨rt.toArray⟩, .slice ag ns.length cg, .slice dg ses.length fg] 31 (0, 0))) := heap_alloc_new w3 _
   have SW : Hid (w.heap.size ≤ w2.heap.size) := Bw2.size
   have SA : Hid ((w2.alloc (.cells #[.int .i64 ix, .string ⟨rt.toArray⟩, .slice au ns.length cu, .slice du ses.length fu] 31)).heap.size = w2.heap.size + 1) := by rw [Hid]; simp
   obtain ⟨g0, g1, g2, g3, _⟩ := rp_cells Hgw3a.out
   obtain ⟨u0, u1, u2, u3, _⟩ := rp_cells Huw3a.out
   go_wp2_with fail
   refine (eqReplica_same ix rt ns ses ag au dg du cg cu fg fu _ (by omega) (isPairs_own Rg1w3a.out).2.2 (isPairs_own Ru1w3a.out).2.2 (by omega) (isSess_own Rg2w3a.out).2.2 (isSess_own Ru2w3a.out).2.2).mono ?_
   rintro e w4 ⟨rfl, b9⟩
   have Bw4 := Bw3a.trans (b9.mono Bw3a.size)
   have Huw4 : Hid (w4.heap[w2.heap.size]? = some (.cells #[.int .i64 ix, .string ⟨rt.toArray⟩, .slice au ns.length cu, .slice du ses.length fu] 31 (0, 0))) := (b9.block (w2.heap.size) (lt_of_block Huw3a.out)).trans Huw3a.out
   have Hgw4 : Hid (w4.heap[w3.heap.size]? = some (.cells #[.int .i64 ix, .string ⟨rt.toArray⟩, .slice ag ns.length cg, .slice dg ses.length fg] 31 (0, 0))) := (b9.block (w3.heap.size) (lt_of_block Hgw3a.out)).trans Hgw3a.out
   have Ru1w4 := hidOwn (kept2 Ru1w3a.out b9)
   have Ru2w4 := hidOwn (kept2 Ru2w3a.out b9)
   have Rg1w4 := hidOwn (kept2 Rg1w3a.out b9)
   have Rg2w4 := hidOwn (kept2 Rg2w3a.out b9)
   clear b9
   clear g0 g1 g2 g3 u0 u1 u2 u3
   obtain ⟨g0, g1, g2, g3, _⟩ := rp_cells Hgw4.out
   have KM := markReplica_any ix rt ns ses ag dg ns.length cg ses.length fg _ 1 w4 (by omega) (by omega) (by omega) (by omega) Mg.out Rg1w4.out Rg2w4.out
   go_wp2_with fail
   refine KM.mono ?_
   rintro e w5 ⟨he, om1, om2, wm, G1, G2⟩
   subst he
   have Hum : Hid (wm.heap[w2.heap.size]? = some (.cells #[.int .i64 ix, .string ⟨rt.toArray⟩, .slice au ns.length cu, .slice du ses.length fu] 31 (0, 0))) := (G1.block (w2.heap.size) (lt_of_block Huw4.out) (fun e => by have hs0 := SW.out; have hs4 := SA.out; have h2 := Lg1.out _ e.symm; omega)).trans Huw4.out
   have Hgm : Hid (wm.heap[w3.heap.size]? = some (.cells #[.int .i64 ix, .string ⟨rt.toArray⟩, .slice ag ns.length cg, .slice dg ses.length fg] 31 (0, 0))) := (G1.block (w3.heap.size) (lt_of_block Hgw4.out) (fun e => by have hs0 := SW.out; have hs4 := SA.out; have h2 := Lg1.out _ e.symm; omega)).trans Hgw4.out
   have Ru1m := hidOwn (Ru1w4.out.kept G1 (by
    cases hv : (Value.slice au ns.length cu).ownBlock with
    | none => exact .inl rfl
    | some q => exact .inr (fun e => by have hs0 := SW.out; have hs4 := SA.out; have h2 := Lg1.out _ e.symm; have h1 := Lu1.out q hv; omega)))
   have Ru2m := hidOwn (Ru2w4.out.kept G1 (by
    cases hv : (Value.slice du ses.length fu).ownBlock with
    | none => exact .inl rfl
    | some q => exact .inr (fun e => by have hs0 := SW.out; have hs4 := SA.out; have h2 := Lg1.out _ e.symm; have h1 := Lu2.out q hv; omega)))
   have Rg2m := hidOwn (Rg2w4.out.kept G1 (by
    cases hv : (Value.slice dg ses.length fg).ownBlock with
    | none => exact .inl rfl
    | some q => exact .inr (fun e => by exact Mg.out q e.symm hv)))
   have Bm : Below w.heap.size w wm := Bw4.grown G1 Bw4.size (fun q hq => by have hs0 := SW.out; have hs4 := SA.out; have h2 := Lg1.out q hq; omega)
   have Hu5 : Hid (w5.heap[w2.heap.size]? = some (.cells #[.int .i64 ix, .string ⟨rt.toArray⟩, .slice au ns.length cu, .slice du ses.length fu] 31 (0, 0))) := (G2.block (w2.heap.size) (lt_of_block Hum.out) (fun e => by have hs0 := SW.out; have hs4 := SA.out; have h2 := Lg2.out _ e.symm; omega)).trans Hum.out
   have Hg5 : Hid (w5.heap[w3.heap.size]? = some (.cells #[.int .i64 ix, .string ⟨rt.toArray⟩, .slice ag ns.length cg, .slice dg ses.length fg] 31 (0, 0))) := (G2.block (w3.heap.size) (lt_of_block Hgm.out) (fun e => by have hs0 := SW.out; have hs4 := SA.out; have h2 := Lg2.out _ e.symm; omega)).trans Hgm.out
   have Ru15 := hidOwn (Ru1m.out.kept G2 (by
    cases hv : (Value.slice au ns.length cu).ownBlock with
    | none => exact .inl rfl
    | some q => exact .inr (fun e => by have hs0 := SW.out; have hs4 := SA.out; have h2 := Lg2.out _ e.symm; have h1 := Lu1.out q hv; omega)))
   have Ru25 := hidOwn (Ru2m.out.kept G2 (by
    cases hv : (Value.slice du ses.length fu).ownBlock with
    | none => exact .inl rfl
    | some q => exact .inr (fun e => by have hs0 := SW.out; have hs4 := SA.out; have h2 := Lg2.out _ e.symm; have h1 := Lu2.out q hv; omega)))
   have B5 : Below w.heap.size w w5 := Bm.grown G2 Bm.size (fun q hq => by have hs0 := SW.out; have hs4 := SA.out; have h2 := Lg2.out q hq; omega)
   have Rg15 := hidOwn om1
   have Rg25 := hidOwn om2
   clear KM G1 G2 om1 om2
   clear g0 g1 g2 g3
   have hk0 : ¬ (1 : Int) + 2 * (ns.length : Int) + 2 * (ses.length : Int) < 0 := by omega
   have hkb : decide ((1 : Int) + 2 * (ns.length : Int) + 2 * (ses.length : Int) < 0) = false := decide_eq_false hk0
   obtain ⟨g0, g1, g2, g3, _⟩ := rp_cells Hg5.out
   have KM := heldReplica_any ix rt ns.length ses.length ag dg ns.length cg ses.length fg _ 1 w5 (by omega) (by omega) (by omega) (by omega) Rg15.out Rg25.out
   go_wp2_with fail
   refine KM.mono ?_
   rintro e w6 ⟨rfl, bh⟩
   have Bw6 := B5.trans (bh.mono B5.size)
   have Huw6 : Hid (w6.heap[w2.heap.size]? = some (.cells #[.int .i64 ix, .string ⟨rt.toArray⟩, .slice au ns.length cu, .slice du ses.length fu] 31 (0, 0))) := (bh.block (w2.heap.size) (lt_of_block Hu5.out)).trans Hu5.out
   have Hgw6 : Hid (w6.heap[w3.heap.size]? = some (.cells #[.int .i64 ix, .string ⟨rt.toArray⟩, .slice ag ns.length cg, .slice dg ses.length fg] 31 (0, 0))) := (bh.block (w3.heap.size) (lt_of_block Hg5.out)).trans Hg5.out
   have Ru1w6 := hidOwn (kept2 Ru15.out bh)
   have Ru2w6 := hidOwn (kept2 Ru25.out bh)
   have Rg1w6 := hidOwn (kept2 Rg15.out bh)
   have Rg2w6 := hidOwn (kept2 Rg25.out bh)
   clear KM bh
   clear g0 g1 g2 g3
   go_wp2_with fail
   refine (HK2.out w6 (HT.out.later Bw6)).mono ?_
   rintro e w7 ⟨ah, mh, ch, dh, nh, fh, rfl, oh, ph, Nh, bh⟩
   obtain ⟨rfl, _, _⟩ := isPairs_own oh
   obtain ⟨rfl, _, _⟩ := isSess_own ph
   have Bw7 := Bw6.trans (bh.mono Bw6.size)
   have Huw7 : Hid (w7.heap[w2.heap.size]? = some (.cells #[.int .i64 ix, .string ⟨rt.toArray⟩, .slice au ns.length cu, .slice du ses.length fu] 31 (0, 0))) := (bh.block (w2.heap.size) (lt_of_block Huw6.out)).trans Huw6.out
   have Hgw7 : Hid (w7.heap[w3.heap.size]? = some (.cells #[.int .i64 ix, .string ⟨rt.toArray⟩, .slice ag ns.length cg, .slice dg ses.length fg] 31 (0, 0))) := (bh.block (w3.heap.size) (lt_of_block Hgw6.out)).trans Hgw6.out
   have Ru1w7 := hidOwn (kept2 Ru1w6.out bh)
   have Ru2w7 := hidOwn (kept2 Ru2w6.out bh)
   have Rg1w7 := hidOwn (kept2 Rg1w6.out bh)
   have Rg2w7 := hidOwn (kept2 Rg2w6.out bh)
   have Rh1w7 : Hid (w7.ownsRow w6.heap.size 57 2 (Value.slice ah ns.length ch) ns.length (pcells ns)) := oh
   have Rh2w7 : Hid (w7.ownsRow w6.heap.size 67 2 (Value.slice dh ses.length fh) ses.length (secells ses)) := ph
   have Lh1 : Hid (∀ q, (Value.slice ah ns.length ch).ownBlock = some q → w6.heap.size ≤ q ∧ q < w7.heap.size) := fun q hq => oh.lt q hq
   have Lh2 : Hid (∀ q, (Value.slice dh ses.length fh).ownBlock = some q → w6.heap.size ≤ q ∧ q < w7.heap.size) := fun q hq => ph.lt q hq
   have Mh : Hid (∀ q, (Value.slice ah ns.length ch).ownBlock = some q → (Value.slice dh ses.length fh).ownBlock ≠ some q) := Nh
   clear oh ph bh Nh
   have Xw7a : Below w7.heap.size w7 (w7.alloc (.cells #[.int .i64 ix, .string ⟨rt.toArray⟩, .slice ah ns.length ch, .slice dh ses.length fh] 31)) := (Below.refl _ _).alloc (Nat.le_refl _) _
   have Bw7a := Bw7.trans (Xw7a.mono Bw7.size)
   have Huw7a : Hid ((w7.alloc (.cells #[.int .i64 ix, .string ⟨rt.toArray⟩, .slice ah ns.length ch, .slice dh ses.length fh] 31)).heap[w2.heap.size]? = some (.cells #[.int .i64 ix, .string ⟨rt.toArray⟩, .slice au ns.length cu, .slice du ses.length fu] 31 (0, 0))) := (Xw7a.block (w2.heap.size) (lt_of_block Huw7.out)).trans Huw7.out
   have Hgw7a : Hid ((w7.alloc (.cells #[.int .i64 ix, .string ⟨rt.toArray⟩, .slice ah ns.length ch, .slice dh ses.length fh] 31)).heap[w3.heap.size]? = some (.cells #[.int .i64 ix, .string ⟨rt.toArray⟩, .slice ag ns.length cg, .slice dg ses.length fg] 31 (0, 0))) := (Xw7a.block (w3.heap.size) (lt_of_block Hgw7.out)).trans Hgw7.out
   have Ru1w7a := hidOwn (kept2 Ru1w7.out Xw7a)
   have Ru2w7a := hidOwn (kept2 Ru2w7.out Xw7a)
   have Rg1w7a := hidOwn (kept2 Rg1w7.out Xw7a)
   have Rg2w7a := hidOwn (kept2 Rg2w7.out Xw7a)
   have Rh1w7a := hidOwn (kept2 Rh1w7.out Xw7a)
   have Rh2w7a := hidOwn (kept2 Rh2w7.out Xw7a)
   have Hhw7a : Hid ((w7.alloc (.cells #[.int .i64 ix, .string ⟨rt.toArray⟩, .slice ah ns.length ch, .slice dh ses.length fh] 31)).heap[w7.heap.size]? = some (.cells #[.int .i64 ix, .string ⟨rt.toArray⟩, .slice ah ns.length ch, .slice dh ses.length fh] 31 (0, 0))) := heap_alloc_new w7 _
   obtain ⟨h0, h1, h2, h3, _⟩ := rp_cells Hhw7a.out
   obtain ⟨u0, u1, u2, u3, _⟩ := rp_cells Huw7a.out
   go_wp2_with fail
   refine (eqReplica_same ix rt ns ses ah au dh du ch cu fh fu _ (by omega) (isPairs_own Rh1w7a.out).2.2 (isPairs_own Ru1w7a.out).2.2 (by omega) (isSess_own Rh2w7a.out).2.2 (isSess_own Ru2w7a.out).2.2).mono ?_
   rintro e w8 ⟨rfl, b9⟩
   have Bw8 := Bw7a.trans (b9.mono Bw7a.size)
   have Huw8 : Hid (w8.heap[w2.heap.size]? = some (.cells #[.int .i64 ix, .string ⟨rt.toArray⟩, .slice au ns.length cu, .slice du ses.length fu] 31 (0, 0))) := (b9.block (w2.heap.size) (lt_of_block Huw7a.out)).trans Huw7a.out
   have Hgw8 : Hid (w8.heap[w3.heap.size]? = some (.cells #[.int .i64 ix, .string ⟨rt.toArray⟩, .slice ag ns.length cg, .slice dg ses.length fg] 31 (0, 0))) := (b9.block (w3.heap.size) (lt_of_block Hgw7a.out)).trans Hgw7a.out
   have Hhw8 : Hid (w8.heap[w7.heap.size]? = some (.cells #[.int .i64 ix, .string ⟨rt.toArray⟩, .slice ah ns.length ch, .slice dh ses.length fh] 31 (0, 0))) := (b9.block (w7.heap.size) (lt_of_block Hhw7a.out)).trans Hhw7a.out
   have Ru1w8 := hidOwn (kept2 Ru1w7a.out b9)
   have Ru2w8 := hidOwn (kept2 Ru2w7a.out b9)
   have Rg1w8 := hidOwn (kept2 Rg1w7a.out b9)
   have Rg2w8 := hidOwn (kept2 Rg2w7a.out b9)
   have Rh1w8 := hidOwn (kept2 Rh1w7a.out b9)
   have Rh2w8 := hidOwn (kept2 Rh2w7a.out b9)
   clear b9
   clear h0 h1 h2 h3 u0 u1 u2 u3
   obtain ⟨g0, g1, g2, g3, _⟩ := rp_cells Hgw8.out
   have KM := heldReplica_any ix rt ns.length ses.length ag dg ns.length cg ses.length fg _ 1 w8 (by omega) (by omega) (by omega) (by omega) Rg1w8.out Rg2w8.out
   go_wp2_with fail
   refine KM.mono ?_
   rintro e w9 ⟨rfl, bh⟩
   have Bw9 := Bw8.trans (bh.mono Bw8.size)
   have Huw9 : Hid (w9.heap[w2.heap.size]? = some (.cells #[.int .i64 ix, .string ⟨rt.toArray⟩, .slice au ns.length cu, .slice du ses.length fu] 31 (0, 0))) := (bh.block (w2.heap.size) (lt_of_block Huw8.out)).trans Huw8.out
   have Hgw9 : Hid (w9.heap[w3.heap.size]? = some (.cells #[.int .i64 ix, .string ⟨rt.toArray⟩, .slice ag ns.length cg, .slice dg ses.length fg] 31 (0, 0))) := (bh.block (w3.heap.size) (lt_of_block Hgw8.out)).trans Hgw8.out
   have Hhw9 : Hid (w9.heap[w7.heap.size]? = some (.cells #[.int .i64 ix, .string ⟨rt.toArray⟩, .slice ah ns.length ch, .slice dh ses.length fh] 31 (0, 0))) := (bh.block (w7.heap.size) (lt_of_block Hhw8.out)).trans Hhw8.out
   have Ru1w9 := hidOwn (kept2 Ru1w8.out bh)
   have Ru2w9 := hidOwn (kept2 Ru2w8.out bh)
   have Rg1w9 := hidOwn (kept2 Rg1w8.out bh)
   have Rg2w9 := hidOwn (kept2 Rg2w8.out bh)
   have Rh1w9 := hidOwn (kept2 Rh1w8.out bh)
   have Rh2w9 := hidOwn (kept2 Rh2w8.out bh)
   clear KM bh
   clear g0 g1 g2 g3
   go_wp2
   go_ret
   exact ⟨rfl, Bw9⟩
 · have hb0' : ¬ (a1.size : Int) ≤ 1048576 := by omega
   clear hT
   go_enter Tryz.func6, Tryz.ntmps6
   go_wp2
   go_ret
   exact ⟨rfl, Below.refl _ _⟩
set_option maxRecDepth 100000 in
theorem lifted (os : Os) (started : os.Started) (H : Type) (enc : TypeId × Value → H) :
 ReturnsInHanded {} Tryz.checked os 6 .any (fun w args => (Rows.fnExactReadReplicaSpec.pre enc Tryz.prog Tryz.f6 [] false w args ∧ laidMetH Tryz.prog Rows.fnExactReadReplicaRow.laid w) ∧ sizedMet enc Tryz.prog Tryz.f6 (OpenSpec.ofChange Rows.fnExactReadReplicaSpec) false w args)
  (Rows.fnExactReadReplicaSpec.post enc Tryz.prog Tryz.f6 false true false false) := by
 refine returnsInHanded_of_change_and (C := Tryz.checked) (X := fun w _ => laidMetH Tryz.prog Rows.fnExactReadReplicaRow.laid w) (fun _ _ _ hh h => h.of_heap hh) own started (by kernel_rfl) Tryz.func6
  (ChangeSpec.witness_shaped (enc := enc) (C := Tryz.checked) (os := os) (X := fun w _ => laidMetH Tryz.prog Rows.fnExactReadReplicaRow.laid w) false (World.doorLaid Tryz.prog 400 os) #[.string ByteArray.empty] 8 rfl (World.shaped_of_RefB (by kernel_rfl) (by kernel_rfl)) (by kernel_rfl) (by kernel_rfl) (by kernel_rfl) (door_met os _)) ?_
 intro W base args ds gs before hval0 hW _ _ hL _
 have hval : ∀ (j : Nat) t v, Tryz.f6.params[j]? = some t → args[j]? = some v → Value.okWide Tryz.prog W .any base t v := hval0
 have hW' := hW
 obtain ⟨p, q, hA0, hV0, rfl, hfz, hnd⟩ := hW
 have hA : DataW.TrodAll enc Tryz.prog W 0 (fun _ => true) true Tryz.f6.params.toList args.toList ds p := hA0
 have hV : DataW.TrodVars enc Tryz.prog W (fun _ => true) ["loop.example/g00226/impl.roundWords"] gs q := hV0
 rw [Tryz.params6] at hA hval
 obtain ⟨v0, vs0, d0, ds0, p0, q0, hargs, rfl, rfl, h0, r0⟩ := trodAll_cons hA
 obtain ⟨rfl, rfl, rfl⟩ := trodAll_nil r0
 obtain rfl : args = #[v0] := by cases args; simp_all
 obtain ⟨a1, rfl, rfl, rfl, w1⟩ := open_string Tryz.underlying9 (hval 0 9 v0 rfl rfl) h0
 obtain ⟨g, t, cs, fuel, d, p', rfl, hg, ht, hvar, hd, rfl⟩ := trodVars_one hV
 obtain rfl := Option.some.inj (gTab.symm.trans hg)
 obtain rfl := Option.some.inj (tTab.symm.trans ht)
 have hT := tab_of hL
 have hltv : ∀ x ∈ p', x.block < W.heap.size := fun x hx => hW'.lt x (List.mem_append_right _ (List.mem_append_right _ hx))
 clear hA0 hV0 hval0 hA hV
 refine (walk a1 w1 W hT).mono fun e W' ⟨he, hB⟩ => ?_
 subst he
 obtain ⟨fuel', hd'⟩ := Below.trod laidOut0 (by kernel_rfl) (of_decide_eq_true (by kernel_rfl)) (v := .agg cs) (⟨fuel, by simpa [Value.cells] using hd⟩ : DataW.Trod enc Tryz.prog W 0 (fun _ => true) true 184 (.agg cs) d p') hB hltv
 have hv' := trodVars_mk1 (enc := enc) (spare := fun b => decide (b < W.heap.size)) hg ht (var?_below hB hg hT.1 hvar) (by simpa [Value.cells] using hd')
 exact ⟨_, rfl, _, _, _, [], _, _, hW', trodAll_mk1 (shut_bool Tryz.underlying4 _), (trodAll_cons_mk (shut_string Tryz.underlying9 w1) trodAll_mk0), hv', hB.frame _, fun h => by cases h⟩
theorem named0 : Tryz.prog.funcNamed "loop.example/g00226/laws.FnExactReadReplica" = some 6 := by kernel_rfl
theorem closed0 : joinedFacts Tryz.prog 6 Tryz.f6 Rows.fnExactReadReplicaSpec Rows.fnExactReadReplicaRow = true := by
 unfold joinedFacts
 rw [seat_may, seat_lifts, seat_make]
 kernel_rfl
theorem inst0 : Tryz.f6.isInstance Tryz.prog Rows.fnExactReadReplicaRow.origin Rows.fnExactReadReplicaRow.targs := of_decide_eq_true (by kernel_rfl)
theorem wrap0 : Tryz.f6.isWrapper Tryz.prog Rows.fnExactReadReplicaRow.wrapper Rows.fnExactReadReplicaRow.mainSum := by unfold Func.isWrapper; first | (rw [if_pos (by decide +kernel)]; kernel_rfl) | (rw [if_neg (by decide +kernel)]; exact ⟨rfl, rfl⟩)
theorem over : Rows.fnExactReadReplicaRow.holds Tryz.pinned (OpenSpec.ofChange Rows.fnExactReadReplicaSpec) :=
 OpenClaim.holds_of_wide 6 Tryz.f6 rfl rfl rfl rfl rfl rfl rfl ⟨rfl, rfl, rfl, rfl, rfl⟩ rfl rfl rfl rfl rfl named0 Tryz.func6 closed0 inst0 wrap0
  (fun os started H enc _ => lifted os started H enc)
theorem text0 : Rows.fnExactReadReplicaRow.wfByText (OpenSpec.ofChange Rows.fnExactReadReplicaSpec) = true := by kernel_rfl
theorem looks0 : false = Tryz.prog.looks [] := by kernel_rfl
theorem goes0 : false = Rows.fnExactReadReplicaRow.goesBy Tryz.prog := by kernel_rfl
theorem wants0 : ([9].all fun u => !Tryz.prog.wantsStandIn u) = true := by kernel_rfl
theorem card : Claim7.holds Tryz.pinned (.plain (OpenSpec.ofChange Rows.fnExactReadReplicaSpec)) Rows.fnExactReadReplicaCard :=
 Claim7.holds_tied_plain_at .later [] [.data] true (true, Rows.fnExactReadReplicaCard.stood.harness.2) false
  over (fun _ h => by cases h) text0 (fun _ h => by cases h) fnExactReadReplica_row_tie rfl ⟨rfl, rfl⟩ seat_main rfl
  (fun f fn hf hfn => by
   obtain rfl : f = 6 := Option.some.inj (named0.symm.trans hf) |>.symm
   obtain rfl : fn = Tryz.f6 := (Option.some.inj (Tryz.func6.symm.trans hfn)).symm
   exact ⟨looks0, fun j t ht => by
    rw [Tryz.params6] at ht
    have hm : t ∈ [9] := by simpa using Array.mem_of_getElem? ht
    exact (show Tryz.prog.wantsStandIn t = false by simpa using List.all_eq_true.1 wants0 t hm)⟩)
  goes0
end Go.Proofs.YthnddgdnialogaaGreatDoor.fnExactReadReplica
namespace Go.Proofs.YthnddgdnialogaaGreatDoor
theorem fnExactReadReplica_holds : Rows.FnExactReadReplicaCardSaid := fnExactReadReplica.card
end Go.Proofs.YthnddgdnialogaaGreatDoor
