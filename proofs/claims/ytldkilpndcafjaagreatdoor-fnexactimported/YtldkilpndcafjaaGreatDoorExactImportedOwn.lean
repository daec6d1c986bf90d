/-
  At every import Imported answers as its model: the nodes of its pairs, or false; it writes into no argument, and its answer owns its memory. No condition; the round words are laid as the program's text lays them.
-/
import Derived.Test.YtldkilpndcafjaaGreatDoorImpI
import Derived.Test.YtldkilpndcafjaaGreatDoorStoredM
import Derived.Test.YtldkilpndcafjaaGreatDoorOpen5
import Derived.Test.YtldkilpndcafjaaGreatDoorSeatAll
import Derived.Test.YtldkilpndcafjaaGreatDoorTie
import Derived.Test.YtldkilpndcafjaaGreatDoorCards
import Derived.ProofKit
import Derived.LaidMore
import Derived.OpenShut
import Derived.ShutString
import Derived.ChangeOld
import Derived.Below
import Derived.Stop.Joined
import Derived.Lib.LaidTab
import Derived.SevenTiedAt
import Derived.SliceStrings
namespace Go.Proofs.YtldkilpndcafjaaGreatDoor.fnExactImported
open Go.ChangeShapes Go.WideShapes Go.ChangeAt Go.RowKit
open Go.ChangeMaps (open_string shut_string)
set_option linter.unusedVariables false

theorem own : ownKnob Tryz.prog.godebug = none := by kernel_rfl
theorem laidOut0 : laidOutB Tryz.prog = true := by kernel_rfl
theorem gTab : Tryz.prog.globalNamed "loop.example/g00226/impl.roundWords" = some 1 := by kernel_rfl
theorem tTab : (Tryz.prog.globals[1]?).map (·.type) = some 147 := by kernel_rfl

/-- The door's own heap meets the condition. -/
theorem door_met (os : Os) (args : Array Value) : laidMetH Tryz.prog Rows.fnExactImportedRow.laid ((World.doorLaid Tryz.prog 400 os).forCall (fun _ _ => 0) ⟨#[], args, []⟩).memory :=
  laidMetH_of_parts3 (fuel := 8) (laidMet_of_run' 8 (by kernel_rfl) (by kernel_rfl)) (by kernel_rfl) (by kernel_rfl)

/-- What the condition gives the walks: the round words' cells. -/
theorem tab_of {W : World} (h : laidMetH Tryz.prog Rows.fnExactImportedRow.laid W) : Tab W := by
  rw [MakeChecks.laidMetH_plain _ _ _ (by kernel_rfl)] at h
  have hT : Lib.TabIs Tryz.prog W "loop.example/g00226/impl.roundWords" .u32 (kL.map fun x => num x) := Lib.tabIs_of_head (rest := []) gTab tTab Tryz.underlying147 Tryz.underlying106 (by kernel_rfl) (by kernel_rfl) h
  have hc : ∀ i, i < 64 → W.cell? ⟨1, i, none⟩ = some (.int .u32 (num (kL.getD i 0))) := fun i hi => by
    have hl : i < kL.length := hi
    have := hT.cell gTab i (by rw [List.length_map]; exact hl)
    rw [this]
    simp [List.getD, hl]
  exact ⟨block_lt_of_cell (hc 0 (by omega)), hc⟩

theorem sizes_le (ps : List PairL) (L : Nat) (hL : L ≤ 1048576) (h : ps.length + sizeP ps ≤ L) : ∀ p ∈ ps, p.1.length ≤ 1048576 ∧ p.2.length ≤ 1048576 := by
  intro p hp
  obtain ⟨j, hj, rfl⟩ := List.getElem_of_mem hp
  have := sizeP_le ps j hj
  exact ⟨by omega, by omega⟩

set_option maxRecDepth 100000 in
set_option maxHeartbeats 4000000 in
theorem walk (r : List UInt8) (a : Option Addr) (cap : Nat) (ps : List PairL) (d : Bool) (w : World) (hr : r.length ≤ 9223372036854775807) (hl : ps.length ≤ 9223372036854775807) (hm : ∀ p ∈ ps, p.1.length ≤ 9223372036854775807 ∧ p.2.length ≤ 9223372036854775807) (hs : IsPairs w a ps) (hT : Tab w) :
    Calls Tryz.prog 7 #[.agg #[.string ⟨r.toArray⟩, .slice a ps.length cap, .bool d]] w fun e w' => e = .returned (.bool true) ∧ Below w.heap.size w w' := by
  have HT : Hid (Tab w) := hT
  have B0 : Below w.heap.size w (w.alloc (.cells #[.string ⟨r.toArray⟩, .slice a ps.length cap, .bool d] 45)) := (Below.refl _ _).alloc (Nat.le_refl _) _
  have H0 := heap_alloc_new w (.cells #[.string ⟨r.toArray⟩, .slice a ps.length cap, .bool d] 45)
  have HS : Hid (∀ W, Below w.heap.size w W → IsPairs W a ps) := fun W hW => hs.later hW
  have KZ := szImport_any 1048576 (Nat.le_refl _) r a cap ps d (w.alloc (.cells #[.string ⟨r.toArray⟩, .slice a ps.length cap, .bool d] 45)) hr hl hm (hs.later B0)
  obtain ⟨p0, p1, p2, _⟩ := im_cells H0
  have HH0 : Hid (_ = _) := H0
  clear hs hm hT H0
  go_enter Tryz.func7, Tryz.ntmps7
  go_wp2_with fail
  refine KZ.mono ?_
  rintro e w1 ⟨he, b1⟩
  have B1 := B0.trans (b1.mono B0.size)
  rcases he with rfl | ⟨hsz, n, hn, rfl⟩
  · go_wp2
    go_ret
    exact ⟨rfl, B1⟩
  · have hrl : r.length ≤ 1048576 := by omega
    have hln : ps.length ≤ 1048576 := by omega
    have hmm := sizes_le ps 1048576 (Nat.le_refl _) (by omega)
    have H1' := fun a c W h => spec_imported r a c ps d W hrl hln hmm h
    have H2' := fun a c W h hT => impl_imported r a c ps d W hrl hln hmm h hT
    have hnl := impdR_len r ps d
    obtain ⟨ok, hok⟩ : ∃ ok, ok = impdB r ps d := ⟨_, rfl⟩
    obtain ⟨nl, hnd⟩ : ∃ nl, nl = impdR r ps d := ⟨_, rfl⟩
    rw [← hnd] at H1' H2' hnl
    rw [← hok] at H1' H2'
    have HK1 : Hid (∀ a c W, IsPairs W a ps → Calls Tryz.prog 37 #[.agg #[.string ⟨r.toArray⟩, .slice a ps.length c, .bool d]] W fun e w' => ∃ (a' : Option Addr) (m c : Nat), e = .returned (.tuple #[.slice a' m c, .bool ok]) ∧ w'.ownsRow W.heap.size 85 2 (.slice a' m c) nl.length (pcells nl) ∧ Below W.heap.size W w') := H1'
    have HK2 : Hid (∀ a c W, IsPairs W a ps → Tab W → Calls Tryz.prog 38 #[.agg #[.string ⟨r.toArray⟩, .slice a ps.length c, .bool d]] W fun e w' => ∃ (a' : Option Addr) (m c : Nat), e = .returned (.tuple #[.slice a' m c, .bool ok]) ∧ w'.ownsRow W.heap.size 85 2 (.slice a' m c) nl.length (pcells nl) ∧ Below W.heap.size W w') := H2'
    clear H1' H2'
    have H1 := (b1.block w.heap.size (by simp)).trans HH0.out
    have HH1 : Hid (_ = _) := H1
    obtain ⟨q0, q1, q2, _⟩ := im_cells H1
    have l1 : w.heap.size < w1.heap.size := lt_of_block H1
    have KT := toImport_any r a cap ps d w1 hln (HS.out w1 B1)
    clear KZ b1 p0 p1 p2 hsz hmm hok hnd H1 HH0 hn
    go_wp2_with fail
    refine KT.mono ?_
    rintro e w2 ⟨rfl, o2, b2⟩
    have B2 := B1.trans (b2.mono B1.size)
    have I2 := (isPairs_own o2).2.2
    have H2 := (b2.block w.heap.size l1).trans HH1.out
    have HH2 : Hid (_ = _) := H2
    have l2 : w.heap.size < w2.heap.size := lt_of_block H2
    have K2 := HK1.out _ ps.length w2 I2
    clear KT b2 q0 q1 q2 H2 HH1 o2 I2 HK1
    go_wp2_with fail
    refine K2.mono ?_
    rintro e w3 ⟨xa, xm, xc, rfl, ox, b3⟩
    have B3 := B2.trans (b3.mono B2.size)
    obtain ⟨rfl, _, _⟩ := isPairs_own ox
    have xlt : ∀ q, (Value.slice xa nl.length xc).ownBlock = some q → q < w3.heap.size := fun q hq => (ox.lt q hq).2
    have OX := hidOwn ox
    have H3 := (b3.block w.heap.size l2).trans HH2.out
    have HH3 : Hid (_ = _) := H3
    obtain ⟨q0, q1, q2, _⟩ := im_cells H3
    have l3 : w.heap.size < w3.heap.size := lt_of_block H3
    have KT := toImport_any r a cap ps d w3 hln (HS.out w3 B3)
    clear K2 b3 H3 HH2 ox
    go_wp2_with fail
    refine KT.mono ?_
    rintro e w4 ⟨rfl, o4, b4⟩
    have B4 := B3.trans (b4.mono B3.size)
    have H4 := (b4.block w.heap.size l3).trans HH3.out
    have l4 : w.heap.size < w4.heap.size := lt_of_block H4
    have l4' : w3.heap.size + 3 < w4.heap.size := own_lt o4
    have XB : Below w4.heap.size w4 (w4.alloc (.cells #[.string ⟨r.toArray⟩, .slice (some ⟨w3.heap.size + 3, 0, none⟩) ps.length ps.length, .bool d] 49)) := (Below.refl _ _).alloc (Nat.le_refl _) _
    have B5 : Below w.heap.size w (w4.alloc (.cells #[.string ⟨r.toArray⟩, .slice (some ⟨w3.heap.size + 3, 0, none⟩) ps.length ps.length, .bool d] 49)) := B4.trans (XB.mono B4.size)
    have HX := heap_alloc_new w4 (.cells #[.string ⟨r.toArray⟩, .slice (some ⟨w3.heap.size + 3, 0, none⟩) ps.length ps.length, .bool d] 49)
    have HHX : Hid (_ = _) := HX
    obtain ⟨x0, x1, x2, _⟩ := im_cells HX
    have OP5 := hidOwn (kept2 o4 XB)
    have OX5 := hidOwn (kept2 (kept2 OX.out b4) XB)
    have K5 := HK2.out _ ps.length _ (isPairs_own OP5.out).2.2 (HT.out.later B5)
    have HH5 : Hid ((w4.alloc (.cells #[.string ⟨r.toArray⟩, .slice (some ⟨w3.heap.size + 3, 0, none⟩) ps.length ps.length, .bool d] 49)).heap[w.heap.size]? = _) := (XB.block w.heap.size l4).trans H4
    clear KT b4 H4 HH3 o4 q0 q1 q2 XB HX OX
    go_wp2_with fail
    refine K5.mono ?_
    rintro e w6 ⟨ya, ym, yc, rfl, oy, b6⟩
    have B6 := B5.trans (b6.mono B5.size)
    obtain ⟨rfl, _, _⟩ := isPairs_own oy
    have ylt : ∀ q, (Value.slice ya nl.length yc).ownBlock = some q → w4.heap.size < q ∧ q < w6.heap.size := fun q hq => by have := oy.lt q hq; simp at this; omega
    have OY6 := hidOwn oy
    have OP6 := hidOwn (kept2 OP5.out b6)
    have OX6 := hidOwn (kept2 OX5.out b6)
    have HA6 : Hid (w6.heap[w.heap.size]? = _) := (b6.block w.heap.size (by simp; omega)).trans HH5.out
    have HX6 : Hid (w6.heap[w4.heap.size]? = _) := (b6.block w4.heap.size (by simp)).trans HHX.out
    have l6 : w4.heap.size < w6.heap.size := by have := b6.size; simp at this; omega
    clear K5 b6 HH5 HHX x0 x1 x2 oy OP5 OX5
    go_wp2_with fail
    refine (eqStoredS_same nl _ _ _ _ _ (by omega) (isPairs_own OY6.out).2.2 (isPairs_own OX6.out).2.2).mono ?_
    rintro e w7 ⟨rfl, b7⟩
    have B7 := B6.trans (b7.mono B6.size)
    have OY7 := hidOwn (kept2 OY6.out b7)
    have OP7 := hidOwn (kept2 OP6.out b7)
    have OX7 := hidOwn (kept2 OX6.out b7)
    have HA7 : Hid (w7.heap[w.heap.size]? = _) := (b7.block w.heap.size (by omega)).trans HA6.out
    have HX7 : Hid (w7.heap[w4.heap.size]? = _) := (b7.block w4.heap.size (by omega)).trans HX6.out
    have l7 : w4.heap.size < w7.heap.size := by have := b7.size; omega
    have s7 := b7.size
    obtain ⟨y0, y1, y2, _⟩ := im_cells HA7.out
    obtain ⟨z0, z1, z2, _⟩ := im_cells HX7.out
    have hS : w7.cell? ⟨w.heap.size, 0, none⟩ = some (.string ⟨r.toArray⟩) ∧ w7.cell? ⟨w.heap.size, 1, none⟩ = some (.slice a ps.length cap) ∧ w7.cell? ⟨w.heap.size, 2, none⟩ = some (.bool d) ∧ w7.cell? ⟨w4.heap.size, 0, none⟩ = some (.string ⟨r.toArray⟩) ∧ w7.cell? ⟨w4.heap.size, 1, none⟩ = some (.slice (some ⟨w3.heap.size + 3, 0, none⟩) ps.length ps.length) ∧ w7.cell? ⟨w4.heap.size, 2, none⟩ = some (.bool d) := ⟨y0, y1, y2, z0, z1, z2⟩
    have hSD : w7.drew.cell? ⟨w.heap.size, 0, none⟩ = some (.string ⟨r.toArray⟩) ∧ w7.drew.cell? ⟨w.heap.size, 1, none⟩ = some (.slice a ps.length cap) ∧ w7.drew.cell? ⟨w.heap.size, 2, none⟩ = some (.bool d) ∧ w7.drew.cell? ⟨w4.heap.size, 0, none⟩ = some (.string ⟨r.toArray⟩) ∧ w7.drew.cell? ⟨w4.heap.size, 1, none⟩ = some (.slice (some ⟨w3.heap.size + 3, 0, none⟩) ps.length ps.length) ∧ w7.drew.cell? ⟨w4.heap.size, 2, none⟩ = some (.bool d) := hS
    have BD : Below w.heap.size w w7.drew := ⟨B7.os, B7.tape, B7.output, B7.size, B7.block⟩
    have KT := toImport_any r a cap ps d w7.drew hln (HS.out _ BD)
    clear b7 y0 y1 y2 z0 z1 z2 OY6 OP6 OX6 HA6 HX6
    go_wp2
    go_region_held3 (fun w' => w'.cell? ⟨w.heap.size, 0, none⟩ = some (.string ⟨r.toArray⟩) ∧ w'.cell? ⟨w.heap.size, 1, none⟩ = some (.slice a ps.length cap) ∧ w'.cell? ⟨w.heap.size, 2, none⟩ = some (.bool d) ∧ w'.cell? ⟨w4.heap.size, 0, none⟩ = some (.string ⟨r.toArray⟩) ∧ w'.cell? ⟨w4.heap.size, 1, none⟩ = some (.slice (some ⟨w3.heap.size + 3, 0, none⟩) ps.length ps.length) ∧ w'.cell? ⟨w4.heap.size, 2, none⟩ = some (.bool d)) (first | with_reducible exact hSD | with_reducible exact hS | with_reducible exact hS7 | with_reducible exact hS8)
      (first
        | (go_at_call 26
           with_reducible refine KT.mono ?_
           rintro e w8 ⟨rfl, o8, b8'⟩
           have b8 : Below w7.heap.size w7 w8 := ⟨b8'.os, b8'.tape, b8'.output, b8'.size, b8'.block⟩
           have hS7 : w8.cell? ⟨w.heap.size, 0, none⟩ = some (.string ⟨r.toArray⟩) ∧ w8.cell? ⟨w.heap.size, 1, none⟩ = some (.slice a ps.length cap) ∧ w8.cell? ⟨w.heap.size, 2, none⟩ = some (.bool d) ∧ w8.cell? ⟨w4.heap.size, 0, none⟩ = some (.string ⟨r.toArray⟩) ∧ w8.cell? ⟨w4.heap.size, 1, none⟩ = some (.slice (some ⟨w3.heap.size + 3, 0, none⟩) ps.length ps.length) ∧ w8.cell? ⟨w4.heap.size, 2, none⟩ = some (.bool d) := ⟨(b8.cell (p := ⟨w.heap.size, 0, none⟩) (show w.heap.size < w7.heap.size by omega)).trans hS.1, (b8.cell (p := ⟨w.heap.size, 1, none⟩) (show w.heap.size < w7.heap.size by omega)).trans hS.2.1, (b8.cell (p := ⟨w.heap.size, 2, none⟩) (show w.heap.size < w7.heap.size by omega)).trans hS.2.2.1, (b8.cell (p := ⟨w4.heap.size, 0, none⟩) l7).trans hS.2.2.2.1, (b8.cell (p := ⟨w4.heap.size, 1, none⟩) l7).trans hS.2.2.2.2.1, (b8.cell (p := ⟨w4.heap.size, 2, none⟩) l7).trans hS.2.2.2.2.2⟩
           have I8 := (isPairs_own (kept2 OP7.out b8)).2.2
           have J8 := (isPairs_own o8).2.2
           have HB8 : Hid (Below w7.heap.size w7 w8) := b8
           have s8 := b8.size
           have KE := eqImport_same r d ps (some ⟨w3.heap.size + 3, 0, none⟩) (some ⟨w7.heap.size + 3, 0, none⟩) ps.length ps.length w8 (by omega) I8 J8
           clear o8 b8 b8' I8 J8)
        | (go_at_call 28
           with_reducible refine KE.mono ?_
           rintro e w9 ⟨rfl, b9⟩
           have hS8 : w9.cell? ⟨w.heap.size, 0, none⟩ = some (.string ⟨r.toArray⟩) ∧ w9.cell? ⟨w.heap.size, 1, none⟩ = some (.slice a ps.length cap) ∧ w9.cell? ⟨w.heap.size, 2, none⟩ = some (.bool d) ∧ w9.cell? ⟨w4.heap.size, 0, none⟩ = some (.string ⟨r.toArray⟩) ∧ w9.cell? ⟨w4.heap.size, 1, none⟩ = some (.slice (some ⟨w3.heap.size + 3, 0, none⟩) ps.length ps.length) ∧ w9.cell? ⟨w4.heap.size, 2, none⟩ = some (.bool d) := ⟨(b9.cell (p := ⟨w.heap.size, 0, none⟩) (show w.heap.size < w8.heap.size by omega)).trans hS7.1, (b9.cell (p := ⟨w.heap.size, 1, none⟩) (show w.heap.size < w8.heap.size by omega)).trans hS7.2.1, (b9.cell (p := ⟨w.heap.size, 2, none⟩) (show w.heap.size < w8.heap.size by omega)).trans hS7.2.2.1, (b9.cell (p := ⟨w4.heap.size, 0, none⟩) (show w4.heap.size < w8.heap.size by omega)).trans hS7.2.2.2.1, (b9.cell (p := ⟨w4.heap.size, 1, none⟩) (show w4.heap.size < w8.heap.size by omega)).trans hS7.2.2.2.2.1, (b9.cell (p := ⟨w4.heap.size, 2, none⟩) (show w4.heap.size < w8.heap.size by omega)).trans hS7.2.2.2.2.2⟩
           have HB9 : Hid (Below w7.heap.size w7 w9) := HB8.out.trans (b9.mono s8)
           clear b9))
    all_goals
      have b9 := HB9.out
      have B9 := B7.trans (b9.mono B7.size)
      have s9 := b9.size
      have OY9 := hidOwn (kept2 OY7.out b9)
      have OP9 := hidOwn (kept2 OP7.out b9)
      have OX9 := hidOwn (kept2 OX7.out b9)
      have HA9 : Hid (w9.heap[w.heap.size]? = _) := (b9.block w.heap.size (by omega)).trans HA7.out
      obtain ⟨z0, z1, z2, _⟩ := im_cells ((b9.block w4.heap.size (by omega)).trans HX7.out)
      have KM := markImport_any r d ps _ _ _ _ 1 w9 (by omega) (by omega) (by omega) OP9.out
      clear hS hSD hS7 hS8 KT KE b9 HB8 HB9 OY7 OP7 OX7 HA7 HX7
      go_wp2_with fail
      refine KM.mono ?_
      rintro e w10 ⟨rfl, _, G10⟩
      have s10 := G10.size
      have B10 : Below w.heap.size w w10 := B9.grown G10 B9.size (fun q hq => by simp [Value.ownBlock] at hq; have := B3.size; omega)
      have OX10 := hidOwn (OX9.out.kept G10 (by
        cases hv : (Value.slice xa nl.length xc).ownBlock with
        | none => exact .inl rfl
        | some q => exact .inr (fun e => by have := xlt q hv; simp [Value.ownBlock] at e; omega)))
      have OY10 := hidOwn (OY9.out.kept G10 (by
        cases hv : (Value.slice ya nl.length yc).ownBlock with
        | none => exact .inl rfl
        | some q => exact .inr (fun e => by have := ylt q hv; simp [Value.ownBlock] at e; omega)))
      have HA10 : Hid (w10.heap[w.heap.size]? = _) := (G10.block w.heap.size (by omega) (by simp [Value.ownBlock]; omega)).trans HA9.out
      have hk0 : ¬ (1 : Int) + 2 * (ps.length : Int) < 0 := by omega
      have hkb : decide ((1 : Int) + 2 * (ps.length : Int) < 0) = false := decide_eq_false hk0
      clear G10 OX9 OP9 OY9 HA9 z0 z1 z2 KM
      go_wp2_with fail
      refine (eqStoredS_same nl _ _ _ _ _ (by omega) (isPairs_own OY10.out).2.2 (isPairs_own OX10.out).2.2).mono ?_
      rintro e w11 ⟨rfl, b11⟩
      have B11 := B10.trans (b11.mono B10.size)
      have s11 := b11.size
      have OX11 := hidOwn (kept2 OX10.out b11)
      have OY11 := hidOwn (kept2 OY10.out b11)
      have HA11 : Hid (w11.heap[w.heap.size]? = _) := (b11.block w.heap.size (by omega)).trans HA10.out
      clear b11 OX10 OY10 HA10
      go_wp2_with fail
      refine (markStoredS_any nl _ _ _ _ 1 w11 (by omega) (by omega) (by omega) OY11.out).mono ?_
      rintro e w12 ⟨rfl, o12, G12⟩
      have s12 := G12.size
      have B12 : Below w.heap.size w w12 := B11.grown G12 B11.size (fun q hq => by have := ylt q hq; have := B4.size; omega)
      have OX12 := hidOwn (OX11.out.kept G12 (by
        cases hv : (Value.slice xa nl.length xc).ownBlock with
        | none => exact .inl rfl
        | some q => exact .inr (fun e => by have h1 := xlt q hv; have h2 := ylt q e.symm; omega)))
      have HA12 : Hid (w12.heap[w.heap.size]? = _) := (G12.block w.heap.size (by omega) (fun e => by have h2 := ylt _ e.symm; omega)).trans HA11.out
      have M12 := hidOwn o12
      have hq0 : ¬ (1 : Int) + 2 * (nl.length : Int) < 0 := by omega
      clear G12 o12 OX11 OY11 HA11
      go_wp2_with fail
      refine (heldStoredS_any nl.length _ _ _ _ 1 w12 (by omega) (by omega) (by omega) M12.out).mono ?_
      rintro e w13 ⟨rfl, G13⟩
      have b13 := below_of_grown G13
      have B13 := B12.trans (b13.mono B12.size)
      have OX13 := hidOwn (kept2 OX12.out b13)
      have M13 := hidOwn (kept2 M12.out b13)
      have HA13 : Hid (w13.heap[w.heap.size]? = _) := (b13.block w.heap.size (by omega)).trans HA12.out
      obtain ⟨v0, v1, v2, _⟩ := im_cells HA13.out
      have KT := toImport_any r a cap ps d w13 hln (HS.out w13 B13)
      clear G13 b13 OX12 M12 HA12
      go_wp2_with fail
      refine KT.mono ?_
      rintro e w14 ⟨rfl, o14, b14⟩
      have B14 := B13.trans (b14.mono B13.size)
      have OX14 := hidOwn (kept2 OX13.out b14)
      have M14 := hidOwn (kept2 M13.out b14)
      have I14 : Hid (IsPairs w14 (some ⟨w13.heap.size + 3, 0, none⟩) ps) := (isPairs_own o14).2.2
      have K15 := HK2.out _ ps.length w14 I14.out (HT.out.later B14)
      clear o14 b14 OX13 M13 KT v0 v1 v2
      go_wp2_with fail
      refine K15.mono ?_
      rintro e w15 ⟨za, zm, zc, rfl, oz, b15⟩
      have B15 := B14.trans (b15.mono B14.size)
      have OX15 := hidOwn (kept2 OX14.out b15)
      have M15 := hidOwn (kept2 M14.out b15)
      have OZ := hidOwn oz
      obtain ⟨rfl, _, _⟩ := isPairs_own oz
      clear oz b15 OX14 M14 I14 HK2 K15
      go_wp2_with fail
      refine (eqStoredS_same nl _ _ _ _ _ (by omega) (isPairs_own OZ.out).2.2 (isPairs_own OX15.out).2.2).mono ?_
      rintro e w16 ⟨rfl, b16⟩
      have B16 := B15.trans (b16.mono B15.size)
      have M16 := hidOwn (kept2 M15.out b16)
      clear b16 OX15 M15 OZ
      go_wp2_with fail
      refine (heldStoredS_any nl.length _ _ _ _ 1 w16 (by omega) (by omega) (by omega) M16.out).mono ?_
      rintro e w17 ⟨rfl, G17⟩
      have B17 := B16.trans ((below_of_grown G17).mono B16.size)
      clear G17
      go_wp2
      go_ret
      exact ⟨rfl, B17⟩

set_option maxRecDepth 100000 in
theorem lifted (os : Os) (started : os.Started) (H : Type) (enc : TypeId × Value → H) :
    ReturnsInHanded {} Tryz.checked os 7 .any (fun w args => (Rows.fnExactImportedSpec.pre enc Tryz.prog Tryz.f7 [] false w args ∧ laidMetH Tryz.prog Rows.fnExactImportedRow.laid w) ∧ sizedMet enc Tryz.prog Tryz.f7 (OpenSpec.ofChange Rows.fnExactImportedSpec) false w args)
      (Rows.fnExactImportedSpec.post enc Tryz.prog Tryz.f7 false true false false) := by
  refine returnsInHanded_of_change_and (C := Tryz.checked) (X := fun w _ => laidMetH Tryz.prog Rows.fnExactImportedRow.laid w) (fun _ _ _ hh h => h.of_heap hh) own started (by kernel_rfl) Tryz.func7
    (ChangeSpec.witness_shaped (enc := enc) (C := Tryz.checked) (os := os) (X := fun w _ => laidMetH Tryz.prog Rows.fnExactImportedRow.laid w) false (World.doorLaid Tryz.prog 400 os) #[.agg #[.string ByteArray.empty, .slice none 0 0, .bool false]] 8 rfl (World.shaped_of_RefB (by kernel_rfl) (by kernel_rfl)) (by kernel_rfl) (by kernel_rfl) (by kernel_rfl) (door_met os _)) ?_
  intro W base args ds gs before hval0 hW _ _ hL _
  have hval : ∀ (j : Nat) t v, Tryz.f7.params[j]? = some t → args[j]? = some v → Value.okWide Tryz.prog W .any base t v := hval0
  have hW' := hW
  obtain ⟨p, q, hA0, hV0, rfl, hfz, hnd⟩ := hW
  have hA : DataW.TrodAll enc Tryz.prog W 0 (fun _ => true) true Tryz.f7.params.toList args.toList ds p := hA0
  have hV : DataW.TrodVars enc Tryz.prog W (fun _ => true) ["loop.example/g00226/impl.roundWords"] gs q := hV0
  rw [Tryz.params7] at hA hval
  obtain ⟨v0, vs0, d0, ds0, p0, q0, hargs, rfl, rfl, h0, r0⟩ := trodAll_cons hA
  obtain ⟨rfl, rfl, rfl⟩ := trodAll_nil r0
  obtain rfl : args = #[v0] := by cases args; simp_all
  have k0 := h0
  have lt0 : ∀ x ∈ p0, x.block < W.heap.size := by obtain ⟨m, hm⟩ := k0; exact DataW.trod_lt m _ _ _ hm
  obtain ⟨rr, a0, cap0, ps, dd, hv0, hrl, hm, hs, hbig⟩ := import_of (hval 0 45 v0 rfl rfl) h0
  subst hv0
  obtain ⟨g, t, cs, fuel, d, p', rfl, hg, ht, hvar, hd, rfl⟩ := trodVars_one hV
  obtain rfl := Option.some.inj (gTab.symm.trans hg)
  obtain rfl := Option.some.inj (tTab.symm.trans ht)
  have hT := tab_of hL
  have hltv : ∀ x ∈ p', x.block < W.heap.size := fun x hx => hW'.lt x (List.mem_append_right _ (List.mem_append_right _ hx))
  clear hA0 hV0 hval0 hA hV
  refine (walk rr a0 cap0 ps dd W hrl hbig hm hs hT).mono fun e W' ⟨he, hB⟩ => ?_
  subst he
  obtain ⟨fuel', hd'⟩ := Below.trod laidOut0 (by kernel_rfl) (of_decide_eq_true (by kernel_rfl)) (v := .agg cs) (⟨fuel, by simpa [Value.cells] using hd⟩ : DataW.Trod enc Tryz.prog W 0 (fun _ => true) true 147 (.agg cs) d p') hB hltv
  have hv' := trodVars_mk1 (enc := enc) (spare := fun b => decide (b < W.heap.size)) hg ht (var?_below hB hg hT.1 hvar) (by simpa [Value.cells] using hd')
  exact ⟨_, rfl, _, _, _, [], _, _, hW', trodAll_mk1 (shut_bool Tryz.underlying4 _), (trodAll_cons_mk (Below.trod laidOut0 (by kernel_rfl) (of_decide_eq_true (by kernel_rfl)) k0 hB lt0) trodAll_mk0), hv', hB.frame _, fun h => by cases h⟩

theorem named0 : Tryz.prog.funcNamed "loop.example/g00226/laws.FnExactImported" = some 7 := by kernel_rfl
theorem closed0 : joinedFacts Tryz.prog 7 Tryz.f7 Rows.fnExactImportedSpec Rows.fnExactImportedRow = true := by
  unfold joinedFacts
  rw [seat_may, seat_lifts, seat_make]
  kernel_rfl
theorem inst0 : Tryz.f7.isInstance Tryz.prog Rows.fnExactImportedRow.origin Rows.fnExactImportedRow.targs := of_decide_eq_true (by kernel_rfl)
theorem wrap0 : Tryz.f7.isWrapper Tryz.prog Rows.fnExactImportedRow.wrapper Rows.fnExactImportedRow.mainSum := by unfold Func.isWrapper; first | (rw [if_pos (by decide +kernel)]; kernel_rfl) | (rw [if_neg (by decide +kernel)]; exact ⟨rfl, rfl⟩)

theorem over : Rows.fnExactImportedRow.holds Tryz.pinned (OpenSpec.ofChange Rows.fnExactImportedSpec) :=
  OpenClaim.holds_of_wide 7 Tryz.f7 rfl rfl rfl rfl rfl rfl rfl ⟨rfl, rfl, rfl, rfl, rfl⟩ rfl rfl rfl rfl rfl named0 Tryz.func7 closed0 inst0 wrap0
    (fun os started H enc _ => lifted os started H enc)

theorem text0 : Rows.fnExactImportedRow.wfByText (OpenSpec.ofChange Rows.fnExactImportedSpec) = true := by kernel_rfl
theorem looks0 : false = Tryz.prog.looks [] := by kernel_rfl
theorem goes0 : false = Rows.fnExactImportedRow.goesBy Tryz.prog := by kernel_rfl
theorem wants0 : ([45].all fun u => !Tryz.prog.wantsStandIn u) = true := by kernel_rfl

theorem card : Claim7.holds Tryz.pinned (.plain (OpenSpec.ofChange Rows.fnExactImportedSpec)) Rows.fnExactImportedCard :=
  Claim7.holds_tied_plain_at .later [] [.data] true (true, Rows.fnExactImportedCard.stood.harness.2) false
    over (fun _ h => by cases h) text0 (fun _ h => by cases h) fnExactImported_row_tie rfl ⟨rfl, rfl⟩ seat_main rfl
    (fun f fn hf hfn => by
      obtain rfl : f = 7 := Option.some.inj (named0.symm.trans hf) |>.symm
      obtain rfl : fn = Tryz.f7 := (Option.some.inj (Tryz.func7.symm.trans hfn)).symm
      exact ⟨looks0, fun j t ht => by
        rw [Tryz.params7] at ht
        have hm : t ∈ [45] := by simpa using Array.mem_of_getElem? ht
        exact (show Tryz.prog.wantsStandIn t = false by simpa using List.all_eq_true.1 wants0 t hm)⟩)
    goes0

end Go.Proofs.YtldkilpndcafjaaGreatDoor.fnExactImported
namespace Go.Proofs.YtldkilpndcafjaaGreatDoor
theorem fnExactImported_holds : Rows.FnExactImportedCardSaid := fnExactImported.card
end Go.Proofs.YtldkilpndcafjaaGreatDoor
