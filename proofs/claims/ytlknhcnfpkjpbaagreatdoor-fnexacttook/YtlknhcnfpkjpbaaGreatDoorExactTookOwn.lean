/-
  At every import and chunk Took answers as its model; it writes into no argument, and its answer owns its memory. No condition; the round words are laid as the program's text lays them.
-/
import Derived.Test.YtlknhcnfpkjpbaaGreatDoorTookS
import Derived.Test.YtlknhcnfpkjpbaaGreatDoorChkS
import Derived.Test.YtlknhcnfpkjpbaaGreatDoorOpen5
import Derived.Test.YtlknhcnfpkjpbaaGreatDoorSeatAll
import Derived.Test.YtlknhcnfpkjpbaaGreatDoorTie
import Derived.Test.YtlknhcnfpkjpbaaGreatDoorCards
import Derived.ProofKit
import Derived.LaidMore
import Derived.OpenShut
import Derived.ShutString
import Derived.ChangeOld
import Derived.Below
import Derived.Stop.Joined
import Derived.Lib.LaidTab
import Derived.SevenTiedAt
import Derived.SliceStrings
namespace Go.Proofs.YtlknhcnfpkjpbaaGreatDoor.fnExactTook
open Go.ChangeShapes Go.WideShapes Go.ChangeAt Go.RowKit
open Go.ChangeMaps (open_string shut_string)
set_option linter.unusedVariables false

theorem own : ownKnob Tryz.prog.godebug = none := by kernel_rfl
theorem laidOut0 : laidOutB Tryz.prog = true := by kernel_rfl
theorem gTab : Tryz.prog.globalNamed "loop.example/g00226/impl.roundWords" = some 1 := by kernel_rfl
theorem tTab : (Tryz.prog.globals[1]?).map (·.type) = some 202 := by kernel_rfl

/-- The door's own heap meets the condition. -/
theorem door_met (os : Os) (args : Array Value) : laidMetH Tryz.prog Rows.fnExactTookRow.laid ((World.doorLaid Tryz.prog 400 os).forCall (fun _ _ => 0) ⟨#[], args, []⟩).memory :=
  laidMetH_of_parts3 (fuel := 8) (laidMet_of_run' 8 (by kernel_rfl) (by kernel_rfl)) (by kernel_rfl) (by kernel_rfl)

/-- What the condition gives the walks: the round words' cells. -/
theorem tab_of {W : World} (h : laidMetH Tryz.prog Rows.fnExactTookRow.laid W) : Tab W := by
  rw [MakeChecks.laidMetH_plain _ _ _ (by kernel_rfl)] at h
  have hT : Lib.TabIs Tryz.prog W "loop.example/g00226/impl.roundWords" .u32 (kL.map fun x => num x) := Lib.tabIs_of_head (rest := []) gTab tTab Tryz.underlying202 Tryz.underlying155 (by kernel_rfl) (by kernel_rfl) h
  have hc : ∀ i, i < 64 → W.cell? ⟨1, i, none⟩ = some (.int .u32 (num (kL.getD i 0))) := fun i hi => by
    have hl : i < kL.length := hi
    have := hT.cell gTab i (by rw [List.length_map]; exact hl)
    rw [this]
    simp [List.getD, hl]
  exact ⟨block_lt_of_cell (hc 0 (by omega)), hc⟩

theorem sizes_le (ps : List PairL) (L : Nat) (hL : L ≤ 1048576) (h : ps.length + sizeP ps ≤ L) : ∀ p ∈ ps, p.1.length ≤ 1048576 ∧ p.2.length ≤ 1048576 := by
  intro p hp
  obtain ⟨j, hj, rfl⟩ := List.getElem_of_mem hp
  have := sizeP_le ps j hj
  exact ⟨by omega, by omega⟩

theorem new_below (w : World) (o : Obj) : Below w.heap.size w (w.alloc o) := (Below.refl _ _).alloc (Nat.le_refl _) _

set_option maxRecDepth 100000 in
set_option maxHeartbeats 8000000 in
theorem walk (r : List UInt8) (a : Option Addr) (cap : Nat) (ps : List PairL) (d : Bool) (f l : Bool) (a2 : Option Addr) (cap2 : Nat) (qs : List PairL) (w : World) (hr : r.length ≤ 9223372036854775807) (hl : ps.length ≤ 9223372036854775807) (hm : ∀ p ∈ ps, p.1.length ≤ 9223372036854775807 ∧ p.2.length ≤ 9223372036854775807) (hs : IsPairs w a ps) (hl2 : qs.length ≤ 9223372036854775807) (hm2 : ∀ p ∈ qs, p.1.length ≤ 9223372036854775807 ∧ p.2.length ≤ 9223372036854775807) (hs2 : IsPairs w a2 qs) (hT : Tab w) :
    Calls Tryz.prog 3 #[.agg #[.string ⟨r.toArray⟩, .slice a ps.length cap, .bool d], .agg #[.bool f, .bool l, .slice a2 qs.length cap2]] w fun e w' => e = .returned (.bool true) ∧ Below w.heap.size w w' := by
  have HT : Hid (Tab w) := hT
  have HS : Hid (∀ W, Below w.heap.size w W → IsPairs W a ps) := fun W hW => hs.later hW
  have HS2 : Hid (∀ W, Below w.heap.size w W → IsPairs W a2 qs) := fun W hW => hs2.later hW
  have Bz : Below w.heap.size w w := Below.refl _ _
  have Xp : Below w.heap.size w (w.alloc (.cells #[.string ⟨r.toArray⟩, .slice a ps.length cap, .bool d] 24)) := (Below.refl _ _).alloc (Nat.le_refl _) _
  have Bp := Bz.trans (Xp.mono Bz.size)
  have HaMp : Hid ((w.alloc (.cells #[.string ⟨r.toArray⟩, .slice a ps.length cap, .bool d] 24)).heap[w.heap.size]? = some (.cells #[.string ⟨r.toArray⟩, .slice a ps.length cap, .bool d] 24 (0, 0))) := heap_alloc_new w _
  have Xq : Below (w.alloc (.cells #[.string ⟨r.toArray⟩, .slice a ps.length cap, .bool d] 24)).heap.size (w.alloc (.cells #[.string ⟨r.toArray⟩, .slice a ps.length cap, .bool d] 24)) ((w.alloc (.cells #[.string ⟨r.toArray⟩, .slice a ps.length cap, .bool d] 24)).alloc (.cells #[.bool f, .bool l, .slice a2 qs.length cap2] 26)) := (Below.refl _ _).alloc (Nat.le_refl _) _
  have Bq := Bp.trans (Xq.mono Bp.size)
  have HaMq : Hid (((w.alloc (.cells #[.string ⟨r.toArray⟩, .slice a ps.length cap, .bool d] 24)).alloc (.cells #[.bool f, .bool l, .slice a2 qs.length cap2] 26)).heap[w.heap.size]? = some (.cells #[.string ⟨r.toArray⟩, .slice a ps.length cap, .bool d] 24 (0, 0))) := (Xq.block (w.heap.size) (lt_of_block HaMp.out)).trans HaMp.out
  have HaCq : Hid (((w.alloc (.cells #[.string ⟨r.toArray⟩, .slice a ps.length cap, .bool d] 24)).alloc (.cells #[.bool f, .bool l, .slice a2 qs.length cap2] 26)).heap[w.heap.size + 1]? = some (.cells #[.bool f, .bool l, .slice a2 qs.length cap2] 26 (0, 0))) := by have := heap_alloc_new (w.alloc (.cells #[.string ⟨r.toArray⟩, .slice a ps.length cap, .bool d] 24)) (.cells #[.bool f, .bool l, .slice a2 qs.length cap2] 26); rw [show (w.alloc (.cells #[.string ⟨r.toArray⟩, .slice a ps.length cap, .bool d] 24)).heap.size = w.heap.size + 1 by simp] at this; exact this
  have KZ := szImport_any 1048576 (Nat.le_refl _) r a cap ps d ((w.alloc (.cells #[.string ⟨r.toArray⟩, .slice a ps.length cap, .bool d] 24)).alloc (.cells #[.bool f, .bool l, .slice a2 qs.length cap2] 26)) hr hl hm (HS.out _ Bq)
  have HKZ2 : Hid (∀ n W, n ≤ 1048576 → Below w.heap.size w W → _) := fun n W hn hW => szChunk_any n hn f l a2 cap2 qs W hl2 hm2 (HS2.out W hW)
  obtain ⟨p0, p1, p2, _⟩ := im_cells HaMq.out
  obtain ⟨q0, q1, q2, _⟩ := im_cells HaCq.out
  clear hs hs2 hm hm2 hT Xp Xq Bz Bp HaMp
  go_enter Tryz.func3, Tryz.ntmps3
  go_wp2_with fail
  refine KZ.mono ?_
  rintro e w1 ⟨he, b1⟩
  have B1 := Bq.trans (b1.mono Bq.size)
  have HaM1 : Hid (w1.heap[w.heap.size]? = some (.cells #[.string ⟨r.toArray⟩, .slice a ps.length cap, .bool d] 24 (0, 0))) := (b1.block (w.heap.size) (lt_of_block HaMq.out)).trans HaMq.out
  have HaC1 : Hid (w1.heap[w.heap.size + 1]? = some (.cells #[.bool f, .bool l, .slice a2 qs.length cap2] 26 (0, 0))) := (b1.block (w.heap.size + 1) (lt_of_block HaCq.out)).trans HaCq.out
  rcases he with rfl | ⟨hsz, n1, hn1, rfl⟩
  · go_wp2
    go_ret
    exact ⟨rfl, B1⟩
  have HZ1 : Hid (r.length + ps.length + sizeP ps ≤ 1048576 ∧ n1 ≤ 1048576) := ⟨hsz, hn1⟩
  have hn10 : (0 : Int) ≤ (n1 : Int) := by omega
  have hn11 : (n1 : Int) ≤ 1048576 := by omega
  have KZ2 := HKZ2.out n1 w1 hn1 B1
  clear p0 p1 p2 q0 q1 q2 KZ HKZ2 b1 hsz hn1 HaMq HaCq
  obtain ⟨p0, p1, p2, _⟩ := im_cells HaM1.out
  obtain ⟨q0, q1, q2, _⟩ := im_cells HaC1.out
  go_wp2_with fail
  refine KZ2.mono ?_
  rintro e w2 ⟨he, b2⟩
  have B2 := B1.trans (b2.mono B1.size)
  have HaM2 : Hid (w2.heap[w.heap.size]? = some (.cells #[.string ⟨r.toArray⟩, .slice a ps.length cap, .bool d] 24 (0, 0))) := (b2.block (w.heap.size) (lt_of_block HaM1.out)).trans HaM1.out
  have HaC2 : Hid (w2.heap[w.heap.size + 1]? = some (.cells #[.bool f, .bool l, .slice a2 qs.length cap2] 26 (0, 0))) := (b2.block (w.heap.size + 1) (lt_of_block HaC1.out)).trans HaC1.out
  rcases he with rfl | ⟨hsz, n2, hn2, rfl⟩
  · go_wp2
    go_ret
    exact ⟨rfl, B2⟩
  have hq1 := HZ1.out
  have hrl : r.length ≤ 1048576 := by omega
  have hln : ps.length ≤ 1048576 := by omega
  have hln2 : qs.length ≤ 1048576 := by omega
  have hmm := sizes_le ps 1048576 (Nat.le_refl _) (by omega)
  have hmm2 := sizes_le qs 1048576 (Nat.le_refl _) (by omega)
  have HK1' := fun b off c b2 off2 c2 W h h2 => spec_took r b off c b2 off2 c2 ps qs ps.length qs.length rfl rfl d f l W hrl hln hmm hln2 hmm2 h h2
  have HK2' := fun b off c b2 off2 c2 W h h2 hT => impl_took r b off c b2 off2 c2 ps qs d f l W hrl hln hmm hln2 hmm2 h h2 hT
  have hrl9 : (tookPs r ps d f l qs).length ≤ 2097152 := by
    unfold tookPs
    split
    · split
      · rw [List.length_append]; omega
      · omega
    · simp
  obtain ⟨ok, hok⟩ : ∃ ok, ok = tookB r ps d f l qs := ⟨_, rfl⟩
  obtain ⟨rr, hrr⟩ : ∃ rr, rr = tookRoot r ps d := ⟨_, rfl⟩
  obtain ⟨rs, hrs⟩ : ∃ rs, rs = tookPs r ps d f l qs := ⟨_, rfl⟩
  obtain ⟨rd, hrd⟩ : ∃ rd, rd = tookD r ps d f l qs := ⟨_, rfl⟩
  rw [← hok, ← hrr, ← hrs, ← hrd] at HK1' HK2'
  rw [← hrs] at hrl9
  have HK1 : Hid (∀ b off c b2 off2 c2 W, IsPairs W (some ⟨b, off, none⟩) ps → IsPairs W (some ⟨b2, off2, none⟩) qs → Calls Tryz.prog 8 #[.agg #[.string ⟨r.toArray⟩, .slice (some ⟨b, off, none⟩) ps.length c, .bool d], .agg #[.bool f, .bool l, .slice (some ⟨b2, off2, none⟩) qs.length c2]] W fun e w' => ∃ (a : Option Addr) (m c : Nat), e = .returned (.tuple #[.agg #[.string ⟨rr.toArray⟩, .slice a m c, .bool rd], .bool ok]) ∧ w'.ownsRow W.heap.size 70 2 (.slice a m c) rs.length (pcells rs) ∧ Below W.heap.size W w') := HK1'
  have HK2 : Hid (∀ b off c b2 off2 c2 W, IsPairs W (some ⟨b, off, none⟩) ps → IsPairs W (some ⟨b2, off2, none⟩) qs → Tab W → Calls Tryz.prog 11 #[.agg #[.string ⟨r.toArray⟩, .slice (some ⟨b, off, none⟩) ps.length c, .bool d], .agg #[.bool f, .bool l, .slice (some ⟨b2, off2, none⟩) qs.length c2]] W fun e w' => ∃ (a : Option Addr) (m c : Nat), e = .returned (.tuple #[.agg #[.string ⟨rr.toArray⟩, .slice a m c, .bool rd], .bool ok]) ∧ w'.ownsRow W.heap.size 70 2 (.slice a m c) rs.length (pcells rs) ∧ Below W.heap.size W w') := HK2'
  clear HK1' HK2' hok hrr hrs hrd hmm hmm2 hq1 hsz hn2 KZ2 b2 p0 p1 p2 q0 q1 q2 HaM1 HaC1 hn10 hn11 HZ1
  have HTI : Hid (∀ W, Below w.heap.size w W → Calls Tryz.prog 9 #[.agg #[.string ⟨r.toArray⟩, .slice a ps.length cap, .bool d]] W fun e w' => ∃ g : Nat, e = .returned (.agg #[.string ⟨r.toArray⟩, .slice (some ⟨g, 0, none⟩) ps.length ps.length, .bool d]) ∧ w'.ownsRow W.heap.size 70 2 (.slice (some ⟨g, 0, none⟩) ps.length ps.length) ps.length (pcells ps) ∧ Below W.heap.size W w') := fun W hW => (toImport_any r a cap ps d W hln (HS.out W hW)).mono fun e w' h => ⟨_, h.1, h.2⟩
  have HTC : Hid (∀ W, Below w.heap.size w W → Calls Tryz.prog 10 #[.agg #[.bool f, .bool l, .slice a2 qs.length cap2]] W fun e w' => ∃ g : Nat, e = .returned (.agg #[.bool f, .bool l, .slice (some ⟨g, 0, none⟩) qs.length qs.length]) ∧ w'.ownsRow W.heap.size 70 2 (.slice (some ⟨g, 0, none⟩) qs.length qs.length) qs.length (pcells qs) ∧ Below W.heap.size W w') := fun W hW => toChunk_any f l a2 cap2 qs W hln2 (HS2.out W hW)
  clear HS HS2 hr hl hl2
  have HKF := HK1
  have SB : Hid (∀ W, Below w2.heap.size w2 W → W.cell? ⟨w.heap.size, 0, none⟩ = some (.string ⟨r.toArray⟩) ∧ W.cell? ⟨w.heap.size, 1, none⟩ = some (.slice a ps.length cap) ∧ W.cell? ⟨w.heap.size, 2, none⟩ = some (.bool d) ∧ W.cell? ⟨w.heap.size + 1, 0, none⟩ = some (.bool f) ∧ W.cell? ⟨w.heap.size + 1, 1, none⟩ = some (.bool l) ∧ W.cell? ⟨w.heap.size + 1, 2, none⟩ = some (.slice a2 qs.length cap2)) := fun W hW => by
    obtain ⟨u0, u1, u2, _⟩ := im_cells ((hW.block _ (lt_of_block HaM2.out)).trans HaM2.out)
    obtain ⟨v0, v1, v2, _⟩ := im_cells ((hW.block _ (lt_of_block HaC2.out)).trans HaC2.out)
    exact ⟨u0, u1, u2, v0, v1, v2⟩
  have BD : Below w2.heap.size w2 w2.drew := ⟨rfl, rfl, rfl, Nat.le_refl _, fun _ _ => rfl⟩
  have BDa : Below w2.heap.size w2 (w2.alloc (.cells #[.string ⟨#[]⟩, .slice none 0 0, .bool false] 31)).drew := ⟨rfl, rfl, rfl, by show _ ≤ (w2.alloc _).heap.size; simp, fun q hq => Below.heap_alloc _ _ _ hq⟩
  have WD : Below w.heap.size w w2.drew := B2.trans (BD.mono B2.size)
  have WDa : Below w.heap.size w (w2.alloc (.cells #[.string ⟨#[]⟩, .slice none 0 0, .bool false] 31)).drew := B2.trans (BDa.mono B2.size)
  have ZN : Hid ((w2.alloc (.cells #[.string ⟨#[]⟩, .slice none 0 0, .bool false] 31)).drew.heap[w2.heap.size]? = some (.cells #[.string ⟨#[]⟩, .slice none 0 0, .bool false] 31 (0, 0))) := heap_alloc_new w2 _
  have hbB := B2.size
  obtain ⟨p0, p1, p2, _⟩ := im_cells HaM2.out
  obtain ⟨q0, q1, q2, _⟩ := im_cells HaC2.out
  go_wp2
  go_cut [6, 7] from 27 (fun v6 v7 wx => ∃ (bs : Nat) (xa : Option Addr) (xc : Nat), v6 = .pointer (some ⟨bs, 0, none⟩) ∧ v7 = .bool ok ∧ Hid (wx.heap[bs]? = some (.cells #[.string ⟨rr.toArray⟩, .slice xa rs.length xc, .bool rd] 31 (0, 0))) ∧ Hid (w2.heap.size ≤ bs ∧ ∀ q, (Value.slice xa rs.length xc).ownBlock = some q → w2.heap.size ≤ q ∧ q ≠ bs) ∧ Hid (wx.ownsRow w2.heap.size 70 2 (.slice xa rs.length xc) rs.length (pcells rs)) ∧ Hid (Below w2.heap.size w2 wx))
  case first =>
    go_region_held3 (fun w' => w'.cell? ⟨w.heap.size, 0, none⟩ = some (.string ⟨r.toArray⟩) ∧ w'.cell? ⟨w.heap.size, 1, none⟩ = some (.slice a ps.length cap) ∧ w'.cell? ⟨w.heap.size, 2, none⟩ = some (.bool d) ∧ w'.cell? ⟨w.heap.size + 1, 0, none⟩ = some (.bool f) ∧ w'.cell? ⟨w.heap.size + 1, 1, none⟩ = some (.bool l) ∧ w'.cell? ⟨w.heap.size + 1, 2, none⟩ = some (.slice a2 qs.length cap2)) (first | with_reducible exact SB.out _ BX | with_reducible exact SB.out _ (BXS.out _ _ _) | with_reducible exact SB.out _ BC2 | with_reducible exact SB.out _ BC1 | with_reducible exact SB.out _ BD | with_reducible exact SB.out _ BDa | with_reducible exact SB.out _ (BC2a.out _) | with_reducible exact SB.out _ (BC1.alloc BC1.size _) | with_reducible exact SB.out _ (BX.alloc BX.size _) | go_keep)
      (first
        | (go_at_call 8
           with_reducible refine (HKF.out _ _ _ _ _ _ (wwj.alloc (.cells #[.string ⟨#[]⟩, .slice none 0 0, .bool false] 31)) (I4a.out (.cells #[.string ⟨#[]⟩, .slice none 0 0, .bool false] 31)).1 (I4a.out (.cells #[.string ⟨#[]⟩, .slice none 0 0, .bool false] 31)).2).mono ?_
           rintro e wwk ⟨xa, xm, xc, rfl, ox, bx⟩
           obtain ⟨rfl, _, _⟩ := isPairs_own ox
           have sW := (BC2a.out (.cells #[.string ⟨#[]⟩, .slice none 0 0, .bool false] 31)).size
           have BX : Below w2.heap.size w2 wwk := (BC2a.out (.cells #[.string ⟨#[]⟩, .slice none 0 0, .bool false] 31)).trans (bx.mono sW)
           have OX : Hid (wwk.ownsRow w2.heap.size 70 2 (.slice xa rs.length xc) rs.length (pcells rs)) := ox.mono sW
           have HBX : Hid (Below w2.heap.size w2 wwk) := BX
           have XL : Hid (∀ q, (Value.slice xa rs.length xc).ownBlock = some q → (wwj.alloc (.cells #[.string ⟨#[]⟩, .slice none 0 0, .bool false] 31)).heap.size ≤ q ∧ q < wwk.heap.size) := fun q hq => ox.lt q hq
           have HN : Hid (wwk.heap[wwj.heap.size]? = some (.cells #[.string ⟨#[]⟩, .slice none 0 0, .bool false] 31 (0, 0))) := (bx.block _ (lt_of_block (heap_alloc_new wwj (.cells #[.string ⟨#[]⟩, .slice none 0 0, .bool false] 31)))).trans (heap_alloc_new wwj (.cells #[.string ⟨#[]⟩, .slice none 0 0, .bool false] 31))
           have HNL : Hid (wwj.heap.size < (wwj.alloc (.cells #[.string ⟨#[]⟩, .slice none 0 0, .bool false] 31)).heap.size ∧ w2.heap.size ≤ wwj.heap.size) := ⟨lt_of_block (heap_alloc_new wwj (.cells #[.string ⟨#[]⟩, .slice none 0 0, .bool false] 31)), by have := BC2.size; omega⟩
           have BXS : Hid (∀ x y z, Below w2.heap.size w2 (((wwk.setCell ⟨wwj.heap.size, 0, none⟩ x).setCell ⟨wwj.heap.size, 1, none⟩ y).setCell ⟨wwj.heap.size, 2, none⟩ z)) := fun x y z => ((BX.setCell HNL.out.2 _).setCell HNL.out.2 _).setCell HNL.out.2 _
           have HQ : Hid (w2.heap.size ≤ wwj.heap.size ∧ ∀ q, (Value.slice xa rs.length xc).ownBlock = some q → w2.heap.size ≤ q ∧ q ≠ wwj.heap.size) := ⟨HNL.out.2, fun q hq => ⟨(OX.out.lt q hq).1, by have h1 := (XL.out q hq).1; have h2 := HNL.out.1; omega⟩⟩
           have TS : Hid (∀ x y z, _) := fun x y z => im_store HN.out HNL.out.2 BX OX.out (fun e => (HQ.out.2 _ e).2 rfl) x y z
           obtain ⟨y0, y1, y2, yf⟩ := im_cells HN.out
           have yf0 := yf 0
           have yf1 := yf 1
           have yf2 := yf 2
           clear yf
           clear ox bx sW)
        | (go_at_call 8
           with_reducible refine (HKF.out _ _ _ _ _ _ wwj I4.out.1 I4.out.2).mono ?_
           rintro e wwk ⟨xa, xm, xc, rfl, ox, bx⟩
           obtain ⟨rfl, _, _⟩ := isPairs_own ox
           have sW := (BC2).size
           have BX : Below w2.heap.size w2 wwk := (BC2).trans (bx.mono sW)
           have OX : Hid (wwk.ownsRow w2.heap.size 70 2 (.slice xa rs.length xc) rs.length (pcells rs)) := ox.mono sW
           have HBX : Hid (Below w2.heap.size w2 wwk) := BX
           have XL : Hid (∀ q, (Value.slice xa rs.length xc).ownBlock = some q → (wwj).heap.size ≤ q ∧ q < wwk.heap.size) := fun q hq => ox.lt q hq
           have HN : Hid (wwk.heap[wwi.heap.size]? = some (.cells #[.string ⟨#[]⟩, .slice none 0 0, .bool false] 31 (0, 0))) := (bx.block _ (lt_of_block HNc.out)).trans HNc.out
           have HNL : Hid (wwi.heap.size < (wwj).heap.size ∧ w2.heap.size ≤ wwi.heap.size) := ⟨lt_of_block HNc.out, by have := BC1.size; omega⟩
           have BXS : Hid (∀ x y z, Below w2.heap.size w2 (((wwk.setCell ⟨wwi.heap.size, 0, none⟩ x).setCell ⟨wwi.heap.size, 1, none⟩ y).setCell ⟨wwi.heap.size, 2, none⟩ z)) := fun x y z => ((BX.setCell HNL.out.2 _).setCell HNL.out.2 _).setCell HNL.out.2 _
           have HQ : Hid (w2.heap.size ≤ wwi.heap.size ∧ ∀ q, (Value.slice xa rs.length xc).ownBlock = some q → w2.heap.size ≤ q ∧ q ≠ wwi.heap.size) := ⟨HNL.out.2, fun q hq => ⟨(OX.out.lt q hq).1, by have h1 := (XL.out q hq).1; have h2 := HNL.out.1; omega⟩⟩
           have TS : Hid (∀ x y z, _) := fun x y z => im_store HN.out HNL.out.2 BX OX.out (fun e => (HQ.out.2 _ e).2 rfl) x y z
           obtain ⟨y0, y1, y2, yf⟩ := im_cells HN.out
           have yf0 := yf 0
           have yf1 := yf 1
           have yf2 := yf 2
           clear yf
           clear ox bx sW)
        | (go_at_call 8
           with_reducible refine (HKF.out _ _ _ _ _ _ wwj I4.out.1 I4.out.2).mono ?_
           rintro e wwk ⟨xa, xm, xc, rfl, ox, bx⟩
           obtain ⟨rfl, _, _⟩ := isPairs_own ox
           have sW := (BC2).size
           have BX : Below w2.heap.size w2 wwk := (BC2).trans (bx.mono sW)
           have OX : Hid (wwk.ownsRow w2.heap.size 70 2 (.slice xa rs.length xc) rs.length (pcells rs)) := ox.mono sW
           have HBX : Hid (Below w2.heap.size w2 wwk) := BX
           have XL : Hid (∀ q, (Value.slice xa rs.length xc).ownBlock = some q → (wwj).heap.size ≤ q ∧ q < wwk.heap.size) := fun q hq => ox.lt q hq
           have HN : Hid (wwk.heap[w2.heap.size]? = some (.cells #[.string ⟨#[]⟩, .slice none 0 0, .bool false] 31 (0, 0))) := (bx.block _ (lt_of_block HNb2.out)).trans HNb2.out
           have HNL : Hid (w2.heap.size < (wwj).heap.size ∧ w2.heap.size ≤ w2.heap.size) := ⟨lt_of_block HNb2.out, by omega⟩
           have BXS : Hid (∀ x y z, Below w2.heap.size w2 (((wwk.setCell ⟨w2.heap.size, 0, none⟩ x).setCell ⟨w2.heap.size, 1, none⟩ y).setCell ⟨w2.heap.size, 2, none⟩ z)) := fun x y z => ((BX.setCell HNL.out.2 _).setCell HNL.out.2 _).setCell HNL.out.2 _
           have HQ : Hid (w2.heap.size ≤ w2.heap.size ∧ ∀ q, (Value.slice xa rs.length xc).ownBlock = some q → w2.heap.size ≤ q ∧ q ≠ w2.heap.size) := ⟨HNL.out.2, fun q hq => ⟨(OX.out.lt q hq).1, by have h1 := (XL.out q hq).1; have h2 := HNL.out.1; omega⟩⟩
           have TS : Hid (∀ x y z, _) := fun x y z => im_store HN.out HNL.out.2 BX OX.out (fun e => (HQ.out.2 _ e).2 rfl) x y z
           obtain ⟨y0, y1, y2, yf⟩ := im_cells HN.out
           have yf0 := yf 0
           have yf1 := yf 1
           have yf2 := yf 2
           clear yf
           clear ox bx sW)
        | (go_at_call 8
           with_reducible refine (HKF.out _ _ _ _ _ _ wwj I4.out.1 I4.out.2).mono ?_
           rintro e wwk ⟨xa, xm, xc, rfl, ox, bx⟩
           obtain ⟨rfl, _, _⟩ := isPairs_own ox
           have sW := (BC2).size
           have BX : Below w2.heap.size w2 wwk := (BC2).trans (bx.mono sW)
           have OX : Hid (wwk.ownsRow w2.heap.size 70 2 (.slice xa rs.length xc) rs.length (pcells rs)) := ox.mono sW
           have HBX : Hid (Below w2.heap.size w2 wwk) := BX
           have XL : Hid (∀ q, (Value.slice xa rs.length xc).ownBlock = some q → (wwj).heap.size ≤ q ∧ q < wwk.heap.size) := fun q hq => ox.lt q hq
           clear ox bx sW)
        | (go_at_call 10
           with_reducible refine (HTC.out (wwi.alloc (.cells #[.string ⟨#[]⟩, .slice none 0 0, .bool false] 31)) (WC1.alloc WC1.size _)).mono ?_
           rintro e wwj ⟨g4, rfl, o4, b4⟩
           have BC2 : Below w2.heap.size w2 wwj := (BC1.alloc BC1.size _).trans (b4.mono (BC1.alloc BC1.size _).size)
           have WC2 : Below w.heap.size w wwj := B2.trans (BC2.mono B2.size)
           have O4a : Hid (wwj.ownsRow w2.heap.size 70 2 (.slice (some ⟨g3, 0, none⟩) ps.length ps.length) ps.length (pcells ps)) := kept2 (kept2 O3.out ((Below.refl _ _).alloc (Nat.le_refl _) _)) b4
           have O4b : Hid (wwj.ownsRow w2.heap.size 70 2 (.slice (some ⟨g4, 0, none⟩) qs.length qs.length) qs.length (pcells qs)) := o4.mono (BC1.alloc BC1.size _).size
           have HNc : Hid (wwj.heap[wwi.heap.size]? = some (.cells #[.string ⟨#[]⟩, .slice none 0 0, .bool false] 31 (0, 0))) := (b4.block _ (by simp)).trans (heap_alloc_new wwi (.cells #[.string ⟨#[]⟩, .slice none 0 0, .bool false] 31))
           have I4 : Hid (IsPairs wwj (some ⟨g3, 0, none⟩) ps ∧ IsPairs wwj (some ⟨g4, 0, none⟩) qs) := ⟨(isPairs_own O4a.out).2.2, (isPairs_own O4b.out).2.2⟩
           have I4a : Hid (∀ o, IsPairs (wwj.alloc o) (some ⟨g3, 0, none⟩) ps ∧ IsPairs (wwj.alloc o) (some ⟨g4, 0, none⟩) qs) := fun o => ⟨I4.out.1.later (new_below wwj o), I4.out.2.later (new_below wwj o)⟩
           have WC2a : Hid (∀ o, Below w.heap.size w (wwj.alloc o)) := fun o => WC2.alloc WC2.size o
           have BC2a : Hid (∀ o, Below w2.heap.size w2 (wwj.alloc o)) := fun o => BC2.alloc BC2.size o
           clear o4 b4)
        | (go_at_call 10
           with_reducible refine (HTC.out wwi WC1).mono ?_
           rintro e wwj ⟨g4, rfl, o4, b4⟩
           have BC2 : Below w2.heap.size w2 wwj := (BC1).trans (b4.mono (BC1).size)
           have WC2 : Below w.heap.size w wwj := B2.trans (BC2.mono B2.size)
           have O4a : Hid (wwj.ownsRow w2.heap.size 70 2 (.slice (some ⟨g3, 0, none⟩) ps.length ps.length) ps.length (pcells ps)) := kept2 (O3.out) b4
           have O4b : Hid (wwj.ownsRow w2.heap.size 70 2 (.slice (some ⟨g4, 0, none⟩) qs.length qs.length) qs.length (pcells qs)) := o4.mono (BC1).size
           have HNb2 : Hid (wwj.heap[w2.heap.size]? = some (.cells #[.string ⟨#[]⟩, .slice none 0 0, .bool false] 31 (0, 0))) := (b4.block _ (lt_of_block HNb.out)).trans HNb.out
           have I4 : Hid (IsPairs wwj (some ⟨g3, 0, none⟩) ps ∧ IsPairs wwj (some ⟨g4, 0, none⟩) qs) := ⟨(isPairs_own O4a.out).2.2, (isPairs_own O4b.out).2.2⟩
           have I4a : Hid (∀ o, IsPairs (wwj.alloc o) (some ⟨g3, 0, none⟩) ps ∧ IsPairs (wwj.alloc o) (some ⟨g4, 0, none⟩) qs) := fun o => ⟨I4.out.1.later (new_below wwj o), I4.out.2.later (new_below wwj o)⟩
           have WC2a : Hid (∀ o, Below w.heap.size w (wwj.alloc o)) := fun o => WC2.alloc WC2.size o
           have BC2a : Hid (∀ o, Below w2.heap.size w2 (wwj.alloc o)) := fun o => BC2.alloc BC2.size o
           clear o4 b4)
        | (go_at_call 10
           with_reducible refine (HTC.out wwi WC1).mono ?_
           rintro e wwj ⟨g4, rfl, o4, b4⟩
           have BC2 : Below w2.heap.size w2 wwj := (BC1).trans (b4.mono (BC1).size)
           have WC2 : Below w.heap.size w wwj := B2.trans (BC2.mono B2.size)
           have O4a : Hid (wwj.ownsRow w2.heap.size 70 2 (.slice (some ⟨g3, 0, none⟩) ps.length ps.length) ps.length (pcells ps)) := kept2 (O3.out) b4
           have O4b : Hid (wwj.ownsRow w2.heap.size 70 2 (.slice (some ⟨g4, 0, none⟩) qs.length qs.length) qs.length (pcells qs)) := o4.mono (BC1).size
           have I4 : Hid (IsPairs wwj (some ⟨g3, 0, none⟩) ps ∧ IsPairs wwj (some ⟨g4, 0, none⟩) qs) := ⟨(isPairs_own O4a.out).2.2, (isPairs_own O4b.out).2.2⟩
           have I4a : Hid (∀ o, IsPairs (wwj.alloc o) (some ⟨g3, 0, none⟩) ps ∧ IsPairs (wwj.alloc o) (some ⟨g4, 0, none⟩) qs) := fun o => ⟨I4.out.1.later (new_below wwj o), I4.out.2.later (new_below wwj o)⟩
           have WC2a : Hid (∀ o, Below w.heap.size w (wwj.alloc o)) := fun o => WC2.alloc WC2.size o
           have BC2a : Hid (∀ o, Below w2.heap.size w2 (wwj.alloc o)) := fun o => BC2.alloc BC2.size o
           clear o4 b4)
        | (go_at_call 9
           with_reducible refine (HTI.out (w2.alloc (.cells #[.string ⟨#[]⟩, .slice none 0 0, .bool false] 31)).drew WDa).mono ?_
           rintro e wwi ⟨g3, rfl, o3, b3⟩
           have BC1 : Below w2.heap.size w2 wwi := (BDa).trans (b3.mono (BDa).size)
           have WC1 : Below w.heap.size w wwi := B2.trans (BC1.mono B2.size)
           have O3 : Hid (wwi.ownsRow w2.heap.size 70 2 (.slice (some ⟨g3, 0, none⟩) ps.length ps.length) ps.length (pcells ps)) := o3.mono (BDa).size
           have HNb : Hid (wwi.heap[w2.heap.size]? = some (.cells #[.string ⟨#[]⟩, .slice none 0 0, .bool false] 31 (0, 0))) := (b3.block _ (lt_of_block ZN.out)).trans ZN.out
           clear o3 b3)
        | (go_at_call 9
           with_reducible refine (HTI.out w2.drew WD).mono ?_
           rintro e wwi ⟨g3, rfl, o3, b3⟩
           have BC1 : Below w2.heap.size w2 wwi := (BD).trans (b3.mono (BD).size)
           have WC1 : Below w.heap.size w wwi := B2.trans (BC1.mono B2.size)
           have O3 : Hid (wwi.ownsRow w2.heap.size 70 2 (.slice (some ⟨g3, 0, none⟩) ps.length ps.length) ps.length (pcells ps)) := o3.mono (BD).size
           clear o3 b3))
    all_goals go_wp2_with fail
    all_goals go_meet
    all_goals first
      | exact ⟨_, xa, xc, rfl, rfl, (TS.out _ _ _).1, HQ.out, (TS.out _ _ _).2.2, (TS.out _ _ _).2.1⟩
      | exact ⟨wwk.heap.size, xa, xc, rfl, rfl, heap_alloc_new wwk _, ⟨HBX.out.size, fun q hq => ⟨(OX.out.lt q hq).1, by have := (OX.out.lt q hq).2; omega⟩⟩, OX.out.alloc _, HBX.out.alloc HBX.out.size _⟩
  case rest =>
    obtain ⟨bw, aw, cw, rfl, rfl, HR0, HR1, HR2, HR3⟩ := hcut
    obtain ⟨wwz, rfl⟩ : ∃ W, W = wc := ⟨_, rfl⟩
    have bwz := HR3.out
    have Bwz := B2.trans (bwz.mono B2.size)
    have HaMwz : Hid (wwz.heap[w.heap.size]? = some (.cells #[.string ⟨r.toArray⟩, .slice a ps.length cap, .bool d] 24 (0, 0))) := (bwz.block (w.heap.size) (lt_of_block HaM2.out)).trans HaM2.out
    have HaCwz : Hid (wwz.heap[w.heap.size + 1]? = some (.cells #[.bool f, .bool l, .slice a2 qs.length cap2] 26 (0, 0))) := (bwz.block (w.heap.size + 1) (lt_of_block HaC2.out)).trans HaC2.out
    have Hw : Hid (wwz.heap[bw]? = some (.cells #[.string ⟨rr.toArray⟩, .slice aw rs.length cw, .bool rd] 31 (0, 0))) := HR0
    have Rw := hidOwn HR2.out
    have Lw : Hid (w2.heap.size ≤ bw ∧ ∀ q, (Value.slice aw rs.length cw).ownBlock = some q → w2.heap.size ≤ q ∧ q ≠ bw) := HR1
    clear HR0 HR1 HR2 HR3 SB BD BDa WD WDa ZN hbB p0 p1 p2 q0 q1 q2
    obtain ⟨aM0, aM1, aM2, _⟩ := im_cells HaMwz.out
    obtain ⟨aC0, aC1, aC2, _⟩ := im_cells HaCwz.out
    go_wp2_with fail
    refine (HTI.out wwz Bwz).mono ?_
    rintro e w3 ⟨g3, rfl, o3, b3⟩
    have O3 : Hid (w3.ownsRow wwz.heap.size 70 2 (.slice (some ⟨g3, 0, none⟩) ps.length ps.length) ps.length (pcells ps)) := o3
    have B3 := Bwz.trans (b3.mono Bwz.size)
    have HaM3 : Hid (w3.heap[w.heap.size]? = some (.cells #[.string ⟨r.toArray⟩, .slice a ps.length cap, .bool d] 24 (0, 0))) := (b3.block (w.heap.size) (lt_of_block HaMwz.out)).trans HaMwz.out
    have HaC3 : Hid (w3.heap[w.heap.size + 1]? = some (.cells #[.bool f, .bool l, .slice a2 qs.length cap2] 26 (0, 0))) := (b3.block (w.heap.size + 1) (lt_of_block HaCwz.out)).trans HaCwz.out
    have Hw3 : Hid (w3.heap[bw]? = some (.cells #[.string ⟨rr.toArray⟩, .slice aw rs.length cw, .bool rd] 31 (0, 0))) := (b3.block (bw) (lt_of_block Hw.out)).trans Hw.out
    have Rw3 := hidOwn (kept2 Rw.out b3)
    have X3a : Below w3.heap.size w3 (w3.alloc (.cells #[.string ⟨r.toArray⟩, .slice (some ⟨g3, 0, none⟩) ps.length ps.length, .bool d] 31)) := (Below.refl _ _).alloc (Nat.le_refl _) _
    have B3a := B3.trans (X3a.mono B3.size)
    have HaM3a : Hid ((w3.alloc (.cells #[.string ⟨r.toArray⟩, .slice (some ⟨g3, 0, none⟩) ps.length ps.length, .bool d] 31)).heap[w.heap.size]? = some (.cells #[.string ⟨r.toArray⟩, .slice a ps.length cap, .bool d] 24 (0, 0))) := (X3a.block (w.heap.size) (lt_of_block HaM3.out)).trans HaM3.out
    have HaC3a : Hid ((w3.alloc (.cells #[.string ⟨r.toArray⟩, .slice (some ⟨g3, 0, none⟩) ps.length ps.length, .bool d] 31)).heap[w.heap.size + 1]? = some (.cells #[.bool f, .bool l, .slice a2 qs.length cap2] 26 (0, 0))) := (X3a.block (w.heap.size + 1) (lt_of_block HaC3.out)).trans HaC3.out
    have Hw3a : Hid ((w3.alloc (.cells #[.string ⟨r.toArray⟩, .slice (some ⟨g3, 0, none⟩) ps.length ps.length, .bool d] 31)).heap[bw]? = some (.cells #[.string ⟨rr.toArray⟩, .slice aw rs.length cw, .bool rd] 31 (0, 0))) := (X3a.block (bw) (lt_of_block Hw3.out)).trans Hw3.out
    have Rw3a := hidOwn (kept2 Rw3.out X3a)
    have Rx3a := hidOwn (kept2 O3.out X3a)
    have Hx3a : Hid ((w3.alloc (.cells #[.string ⟨r.toArray⟩, .slice (some ⟨g3, 0, none⟩) ps.length ps.length, .bool d] 31)).heap[w3.heap.size]? = some (.cells #[.string ⟨r.toArray⟩, .slice (some ⟨g3, 0, none⟩) ps.length ps.length, .bool d] 31 (0, 0))) := heap_alloc_new w3 _
    clear aM0 aM1 aM2 aC0 aC1 aC2
    obtain ⟨aM0, aM1, aM2, _⟩ := im_cells HaM3a.out
    obtain ⟨aC0, aC1, aC2, _⟩ := im_cells HaC3a.out
    clear o3 b3
    go_wp2_with fail
    refine (HTC.out _ B3a).mono ?_
    rintro e w4 ⟨g4, rfl, o4, b4⟩
    have O4 : Hid (w4.ownsRow (w3.alloc (.cells #[.string ⟨r.toArray⟩, .slice (some ⟨g3, 0, none⟩) ps.length ps.length, .bool d] 31)).heap.size 70 2 (.slice (some ⟨g4, 0, none⟩) qs.length qs.length) qs.length (pcells qs)) := o4
    have B4 := B3a.trans (b4.mono B3a.size)
    have HaM4 : Hid (w4.heap[w.heap.size]? = some (.cells #[.string ⟨r.toArray⟩, .slice a ps.length cap, .bool d] 24 (0, 0))) := (b4.block (w.heap.size) (lt_of_block HaM3a.out)).trans HaM3a.out
    have HaC4 : Hid (w4.heap[w.heap.size + 1]? = some (.cells #[.bool f, .bool l, .slice a2 qs.length cap2] 26 (0, 0))) := (b4.block (w.heap.size + 1) (lt_of_block HaC3a.out)).trans HaC3a.out
    have Hw4 : Hid (w4.heap[bw]? = some (.cells #[.string ⟨rr.toArray⟩, .slice aw rs.length cw, .bool rd] 31 (0, 0))) := (b4.block (bw) (lt_of_block Hw3a.out)).trans Hw3a.out
    have Hx4 : Hid (w4.heap[w3.heap.size]? = some (.cells #[.string ⟨r.toArray⟩, .slice (some ⟨g3, 0, none⟩) ps.length ps.length, .bool d] 31 (0, 0))) := (b4.block (w3.heap.size) (lt_of_block Hx3a.out)).trans Hx3a.out
    have Rw4 := hidOwn (kept2 Rw3a.out b4)
    have Rx4 := hidOwn (kept2 Rx3a.out b4)
    have X4a : Below w4.heap.size w4 (w4.alloc (.cells #[.bool f, .bool l, .slice (some ⟨g4, 0, none⟩) qs.length qs.length] 36)) := (Below.refl _ _).alloc (Nat.le_refl _) _
    have B4a := B4.trans (X4a.mono B4.size)
    have HaM4a : Hid ((w4.alloc (.cells #[.bool f, .bool l, .slice (some ⟨g4, 0, none⟩) qs.length qs.length] 36)).heap[w.heap.size]? = some (.cells #[.string ⟨r.toArray⟩, .slice a ps.length cap, .bool d] 24 (0, 0))) := (X4a.block (w.heap.size) (lt_of_block HaM4.out)).trans HaM4.out
    have HaC4a : Hid ((w4.alloc (.cells #[.bool f, .bool l, .slice (some ⟨g4, 0, none⟩) qs.length qs.length] 36)).heap[w.heap.size + 1]? = some (.cells #[.bool f, .bool l, .slice a2 qs.length cap2] 26 (0, 0))) := (X4a.block (w.heap.size + 1) (lt_of_block HaC4.out)).trans HaC4.out
    have Hw4a : Hid ((w4.alloc (.cells #[.bool f, .bool l, .slice (some ⟨g4, 0, none⟩) qs.length qs.length] 36)).heap[bw]? = some (.cells #[.string ⟨rr.toArray⟩, .slice aw rs.length cw, .bool rd] 31 (0, 0))) := (X4a.block (bw) (lt_of_block Hw4.out)).trans Hw4.out
    have Hx4a : Hid ((w4.alloc (.cells #[.bool f, .bool l, .slice (some ⟨g4, 0, none⟩) qs.length qs.length] 36)).heap[w3.heap.size]? = some (.cells #[.string ⟨r.toArray⟩, .slice (some ⟨g3, 0, none⟩) ps.length ps.length, .bool d] 31 (0, 0))) := (X4a.block (w3.heap.size) (lt_of_block Hx4.out)).trans Hx4.out
    have Rw4a := hidOwn (kept2 Rw4.out X4a)
    have Rx4a := hidOwn (kept2 Rx4.out X4a)
    have Ry4a := hidOwn (kept2 O4.out X4a)
    have Hy4a : Hid ((w4.alloc (.cells #[.bool f, .bool l, .slice (some ⟨g4, 0, none⟩) qs.length qs.length] 36)).heap[w4.heap.size]? = some (.cells #[.bool f, .bool l, .slice (some ⟨g4, 0, none⟩) qs.length qs.length] 36 (0, 0))) := heap_alloc_new w4 _
    clear o4 b4 HKF
    clear aM0 aM1 aM2 aC0 aC1 aC2
    have LX : Hid (wwz.heap.size ≤ g3 ∧ g3 < w3.heap.size) := ⟨(O3.out.lt g3 (by simp [Value.ownBlock])).1, (O3.out.lt g3 (by simp [Value.ownBlock])).2⟩
    have LY : Hid (w3.heap.size < g4 ∧ g4 < w4.heap.size) := by
      have h1 := O4.out.lt g4 (by simp [Value.ownBlock])
      have h2 : (w3.alloc (.cells #[.string ⟨r.toArray⟩, .slice (some ⟨g3, 0, none⟩) ps.length ps.length, .bool d] 31)).heap.size = w3.heap.size + 1 := by simp
      exact ⟨by omega, h1.2⟩
    have LwB : Hid (bw < wwz.heap.size) := lt_of_block Hw.out
    have LwR : Hid (∀ q, (Value.slice aw rs.length cw).ownBlock = some q → q < wwz.heap.size) := fun q hq => (Rw.out.lt q hq).2
    obtain ⟨x0, x1, x2, _⟩ := im_cells Hx4a.out
    obtain ⟨y0, y1, y2, _⟩ := im_cells Hy4a.out
    go_wp2_with fail
    refine (HK2.out g3 0 ps.length g4 0 qs.length _ (isPairs_own Rx4a.out).2.2 (isPairs_own Ry4a.out).2.2 (HT.out.later B4a)).mono ?_
    rintro e w5 ⟨ag, mg, cg, rfl, og, b5⟩
    obtain ⟨rfl, _, _⟩ := isPairs_own og
    have O5 : Hid (w5.ownsRow (w4.alloc (.cells #[.bool f, .bool l, .slice (some ⟨g4, 0, none⟩) qs.length qs.length] 36)).heap.size 70 2 (.slice ag rs.length cg) rs.length (pcells rs)) := og
    clear og
    have B5 := B4a.trans (b5.mono B4a.size)
    have HaM5 : Hid (w5.heap[w.heap.size]? = some (.cells #[.string ⟨r.toArray⟩, .slice a ps.length cap, .bool d] 24 (0, 0))) := (b5.block (w.heap.size) (lt_of_block HaM4a.out)).trans HaM4a.out
    have HaC5 : Hid (w5.heap[w.heap.size + 1]? = some (.cells #[.bool f, .bool l, .slice a2 qs.length cap2] 26 (0, 0))) := (b5.block (w.heap.size + 1) (lt_of_block HaC4a.out)).trans HaC4a.out
    have Hw5 : Hid (w5.heap[bw]? = some (.cells #[.string ⟨rr.toArray⟩, .slice aw rs.length cw, .bool rd] 31 (0, 0))) := (b5.block (bw) (lt_of_block Hw4a.out)).trans Hw4a.out
    have Hx5 : Hid (w5.heap[w3.heap.size]? = some (.cells #[.string ⟨r.toArray⟩, .slice (some ⟨g3, 0, none⟩) ps.length ps.length, .bool d] 31 (0, 0))) := (b5.block (w3.heap.size) (lt_of_block Hx4a.out)).trans Hx4a.out
    have Hy5 : Hid (w5.heap[w4.heap.size]? = some (.cells #[.bool f, .bool l, .slice (some ⟨g4, 0, none⟩) qs.length qs.length] 36 (0, 0))) := (b5.block (w4.heap.size) (lt_of_block Hy4a.out)).trans Hy4a.out
    have Rw5 := hidOwn (kept2 Rw4a.out b5)
    have Rx5 := hidOwn (kept2 Rx4a.out b5)
    have Ry5 := hidOwn (kept2 Ry4a.out b5)
    have Lg : Hid (∀ q, (Value.slice ag rs.length cg).ownBlock = some q → w4.heap.size < q ∧ q < w5.heap.size) := fun q hq => by have h1 := O5.out.lt q hq; have h2 : (w4.alloc (.cells #[.bool f, .bool l, .slice (some ⟨g4, 0, none⟩) qs.length qs.length] 36)).heap.size = w4.heap.size + 1 := (by simp); omega
    have SZS : Hid (w.heap.size + 1 < wwz.heap.size ∧ wwz.heap.size ≤ w3.heap.size ∧ w3.heap.size < w4.heap.size ∧ w4.heap.size < w5.heap.size) := by
      have h1 := lt_of_block HaCwz.out
      have h2 := lt_of_block Hx4.out
      have h3 := lt_of_block Hy5.out
      have h4 := LX.out
      exact ⟨h1, by omega, h2, h3⟩
    have X5a : Below w5.heap.size w5 (w5.alloc (.cells #[.string ⟨rr.toArray⟩, .slice ag rs.length cg, .bool rd] 31)) := (Below.refl _ _).alloc (Nat.le_refl _) _
    have B5a := B5.trans (X5a.mono B5.size)
    have HaM5a : Hid ((w5.alloc (.cells #[.string ⟨rr.toArray⟩, .slice ag rs.length cg, .bool rd] 31)).heap[w.heap.size]? = some (.cells #[.string ⟨r.toArray⟩, .slice a ps.length cap, .bool d] 24 (0, 0))) := (X5a.block (w.heap.size) (lt_of_block HaM5.out)).trans HaM5.out
    have HaC5a : Hid ((w5.alloc (.cells #[.string ⟨rr.toArray⟩, .slice ag rs.length cg, .bool rd] 31)).heap[w.heap.size + 1]? = some (.cells #[.bool f, .bool l, .slice a2 qs.length cap2] 26 (0, 0))) := (X5a.block (w.heap.size + 1) (lt_of_block HaC5.out)).trans HaC5.out
    have Hw5a : Hid ((w5.alloc (.cells #[.string ⟨rr.toArray⟩, .slice ag rs.length cg, .bool rd] 31)).heap[bw]? = some (.cells #[.string ⟨rr.toArray⟩, .slice aw rs.length cw, .bool rd] 31 (0, 0))) := (X5a.block (bw) (lt_of_block Hw5.out)).trans Hw5.out
    have Hx5a : Hid ((w5.alloc (.cells #[.string ⟨rr.toArray⟩, .slice ag rs.length cg, .bool rd] 31)).heap[w3.heap.size]? = some (.cells #[.string ⟨r.toArray⟩, .slice (some ⟨g3, 0, none⟩) ps.length ps.length, .bool d] 31 (0, 0))) := (X5a.block (w3.heap.size) (lt_of_block Hx5.out)).trans Hx5.out
    have Hy5a : Hid ((w5.alloc (.cells #[.string ⟨rr.toArray⟩, .slice ag rs.length cg, .bool rd] 31)).heap[w4.heap.size]? = some (.cells #[.bool f, .bool l, .slice (some ⟨g4, 0, none⟩) qs.length qs.length] 36 (0, 0))) := (X5a.block (w4.heap.size) (lt_of_block Hy5.out)).trans Hy5.out
    have Rw5a := hidOwn (kept2 Rw5.out X5a)
    have Rx5a := hidOwn (kept2 Rx5.out X5a)
    have Ry5a := hidOwn (kept2 Ry5.out X5a)
    have Rg5a := hidOwn (kept2 O5.out X5a)
    have Hg5a : Hid ((w5.alloc (.cells #[.string ⟨rr.toArray⟩, .slice ag rs.length cg, .bool rd] 31)).heap[w5.heap.size]? = some (.cells #[.string ⟨rr.toArray⟩, .slice ag rs.length cg, .bool rd] 31 (0, 0))) := heap_alloc_new w5 _
    clear x0 x1 x2 y0 y1 y2
    obtain ⟨g0, g1, g2, _⟩ := im_cells Hg5a.out
    obtain ⟨w0, w1, w2, _⟩ := im_cells Hw5a.out
    clear b5
    go_wp2_with fail
    refine (eqImport_same rr rd rs ag aw cg cw _ (by omega) (isPairs_own Rg5a.out).2.2 (isPairs_own Rw5a.out).2.2).mono ?_
    rintro e w6 ⟨rfl, b6⟩
    have B6 := B5a.trans (b6.mono B5a.size)
    have HaM6 : Hid (w6.heap[w.heap.size]? = some (.cells #[.string ⟨r.toArray⟩, .slice a ps.length cap, .bool d] 24 (0, 0))) := (b6.block (w.heap.size) (lt_of_block HaM5a.out)).trans HaM5a.out
    have HaC6 : Hid (w6.heap[w.heap.size + 1]? = some (.cells #[.bool f, .bool l, .slice a2 qs.length cap2] 26 (0, 0))) := (b6.block (w.heap.size + 1) (lt_of_block HaC5a.out)).trans HaC5a.out
    have Hw6 : Hid (w6.heap[bw]? = some (.cells #[.string ⟨rr.toArray⟩, .slice aw rs.length cw, .bool rd] 31 (0, 0))) := (b6.block (bw) (lt_of_block Hw5a.out)).trans Hw5a.out
    have Hx6 : Hid (w6.heap[w3.heap.size]? = some (.cells #[.string ⟨r.toArray⟩, .slice (some ⟨g3, 0, none⟩) ps.length ps.length, .bool d] 31 (0, 0))) := (b6.block (w3.heap.size) (lt_of_block Hx5a.out)).trans Hx5a.out
    have Hy6 : Hid (w6.heap[w4.heap.size]? = some (.cells #[.bool f, .bool l, .slice (some ⟨g4, 0, none⟩) qs.length qs.length] 36 (0, 0))) := (b6.block (w4.heap.size) (lt_of_block Hy5a.out)).trans Hy5a.out
    have Hg6 : Hid (w6.heap[w5.heap.size]? = some (.cells #[.string ⟨rr.toArray⟩, .slice ag rs.length cg, .bool rd] 31 (0, 0))) := (b6.block (w5.heap.size) (lt_of_block Hg5a.out)).trans Hg5a.out
    have Rw6 := hidOwn (kept2 Rw5a.out b6)
    have Rx6 := hidOwn (kept2 Rx5a.out b6)
    have Ry6 := hidOwn (kept2 Ry5a.out b6)
    have Rg6 := hidOwn (kept2 Rg5a.out b6)
    clear b6
    clear g0 g1 g2 w0 w1 w2
    have SB : Hid (∀ W, Below w6.heap.size w6 W → W.cell? ⟨w.heap.size, 0, none⟩ = some (.string ⟨r.toArray⟩) ∧ W.cell? ⟨w.heap.size, 1, none⟩ = some (.slice a ps.length cap) ∧ W.cell? ⟨w.heap.size, 2, none⟩ = some (.bool d) ∧ W.cell? ⟨w3.heap.size, 0, none⟩ = some (.string ⟨r.toArray⟩) ∧ W.cell? ⟨w3.heap.size, 1, none⟩ = some (.slice (some ⟨g3, 0, none⟩) ps.length ps.length) ∧ W.cell? ⟨w3.heap.size, 2, none⟩ = some (.bool d)) := fun W hW => by
      obtain ⟨u0, u1, u2, _⟩ := im_cells ((hW.block _ (lt_of_block HaM6.out)).trans HaM6.out)
      obtain ⟨v0, v1, v2, _⟩ := im_cells ((hW.block _ (lt_of_block Hx6.out)).trans Hx6.out)
      exact ⟨u0, u1, u2, v0, v1, v2⟩
    have BD : Below w6.heap.size w6 w6.drew := ⟨rfl, rfl, rfl, Nat.le_refl _, fun _ _ => rfl⟩
    have WD : Below w.heap.size w w6.drew := B6.trans (BD.mono B6.size)
    go_wp2
    go_region_held3 (fun w' => w'.cell? ⟨w.heap.size, 0, none⟩ = some (.string ⟨r.toArray⟩) ∧ w'.cell? ⟨w.heap.size, 1, none⟩ = some (.slice a ps.length cap) ∧ w'.cell? ⟨w.heap.size, 2, none⟩ = some (.bool d) ∧ w'.cell? ⟨w3.heap.size, 0, none⟩ = some (.string ⟨r.toArray⟩) ∧ w'.cell? ⟨w3.heap.size, 1, none⟩ = some (.slice (some ⟨g3, 0, none⟩) ps.length ps.length) ∧ w'.cell? ⟨w3.heap.size, 2, none⟩ = some (.bool d)) (first | with_reducible exact SB.out _ BC2 | with_reducible exact SB.out _ BC1 | with_reducible exact SB.out _ BD | go_keep)
      (first
        | (go_at_call 9
           with_reducible refine (HTI.out w6.drew WD).mono ?_
           rintro e w7i ⟨g7, rfl, o7, b7⟩
           have BC1 : Below w6.heap.size w6 w7i := BD.trans (b7.mono BD.size)
           have J1 : Hid (IsPairs w7i (some ⟨g7, 0, none⟩) ps ∧ IsPairs w7i (some ⟨g3, 0, none⟩) ps) := ⟨(isPairs_own o7).2.2, (isPairs_own (kept2 Rx6.out BC1)).2.2⟩
           clear o7 b7)
        | (go_at_call 12
           with_reducible refine (eqImport_same r d ps (some ⟨g3, 0, none⟩) (some ⟨g7, 0, none⟩) ps.length ps.length w7i (by omega) J1.out.2 J1.out.1).mono ?_
           rintro e w7j ⟨rfl, b8⟩
           have BC2 : Below w6.heap.size w6 w7j := BC1.trans (b8.mono BC1.size)
           clear b8))
    have B7 := B6.trans (BC2.mono B6.size)
    have HaM7 : Hid (w7j.heap[w.heap.size]? = some (.cells #[.string ⟨r.toArray⟩, .slice a ps.length cap, .bool d] 24 (0, 0))) := (BC2.block (w.heap.size) (lt_of_block HaM6.out)).trans HaM6.out
    have HaC7 : Hid (w7j.heap[w.heap.size + 1]? = some (.cells #[.bool f, .bool l, .slice a2 qs.length cap2] 26 (0, 0))) := (BC2.block (w.heap.size + 1) (lt_of_block HaC6.out)).trans HaC6.out
    have Hw7 : Hid (w7j.heap[bw]? = some (.cells #[.string ⟨rr.toArray⟩, .slice aw rs.length cw, .bool rd] 31 (0, 0))) := (BC2.block (bw) (lt_of_block Hw6.out)).trans Hw6.out
    have Hx7 : Hid (w7j.heap[w3.heap.size]? = some (.cells #[.string ⟨r.toArray⟩, .slice (some ⟨g3, 0, none⟩) ps.length ps.length, .bool d] 31 (0, 0))) := (BC2.block (w3.heap.size) (lt_of_block Hx6.out)).trans Hx6.out
    have Hy7 : Hid (w7j.heap[w4.heap.size]? = some (.cells #[.bool f, .bool l, .slice (some ⟨g4, 0, none⟩) qs.length qs.length] 36 (0, 0))) := (BC2.block (w4.heap.size) (lt_of_block Hy6.out)).trans Hy6.out
    have Hg7 : Hid (w7j.heap[w5.heap.size]? = some (.cells #[.string ⟨rr.toArray⟩, .slice ag rs.length cg, .bool rd] 31 (0, 0))) := (BC2.block (w5.heap.size) (lt_of_block Hg6.out)).trans Hg6.out
    have Rw7 := hidOwn (kept2 Rw6.out BC2)
    have Rx7 := hidOwn (kept2 Rx6.out BC2)
    have Ry7 := hidOwn (kept2 Ry6.out BC2)
    have Rg7 := hidOwn (kept2 Rg6.out BC2)
    clear SB BD WD BC1 BC2 J1
    have SB : Hid (∀ W, Below w7j.heap.size w7j W → W.cell? ⟨w.heap.size + 1, 0, none⟩ = some (.bool f) ∧ W.cell? ⟨w.heap.size + 1, 1, none⟩ = some (.bool l) ∧ W.cell? ⟨w.heap.size + 1, 2, none⟩ = some (.slice a2 qs.length cap2) ∧ W.cell? ⟨w4.heap.size, 0, none⟩ = some (.bool f) ∧ W.cell? ⟨w4.heap.size, 1, none⟩ = some (.bool l) ∧ W.cell? ⟨w4.heap.size, 2, none⟩ = some (.slice (some ⟨g4, 0, none⟩) qs.length qs.length)) := fun W hW => by
      obtain ⟨u0, u1, u2, _⟩ := im_cells ((hW.block _ (lt_of_block HaC7.out)).trans HaC7.out)
      obtain ⟨v0, v1, v2, _⟩ := im_cells ((hW.block _ (lt_of_block Hy7.out)).trans Hy7.out)
      exact ⟨u0, u1, u2, v0, v1, v2⟩
    have BD : Below w7j.heap.size w7j w7j.drew := ⟨rfl, rfl, rfl, Nat.le_refl _, fun _ _ => rfl⟩
    have WD : Below w.heap.size w w7j.drew := B7.trans (BD.mono B7.size)
    go_wp2
    go_region_held3 (fun w' => w'.cell? ⟨w.heap.size + 1, 0, none⟩ = some (.bool f) ∧ w'.cell? ⟨w.heap.size + 1, 1, none⟩ = some (.bool l) ∧ w'.cell? ⟨w.heap.size + 1, 2, none⟩ = some (.slice a2 qs.length cap2) ∧ w'.cell? ⟨w4.heap.size, 0, none⟩ = some (.bool f) ∧ w'.cell? ⟨w4.heap.size, 1, none⟩ = some (.bool l) ∧ w'.cell? ⟨w4.heap.size, 2, none⟩ = some (.slice (some ⟨g4, 0, none⟩) qs.length qs.length)) (first | with_reducible exact SB.out _ BC2 | with_reducible exact SB.out _ BC1 | with_reducible exact SB.out _ BD | go_keep)
      (first
        | (go_at_call 10
           with_reducible refine (HTC.out w7j.drew WD).mono ?_
           rintro e w8i ⟨g8, rfl, o7, b7⟩
           have BC1 : Below w7j.heap.size w7j w8i := BD.trans (b7.mono BD.size)
           have J1 : Hid (IsPairs w8i (some ⟨g8, 0, none⟩) qs ∧ IsPairs w8i (some ⟨g4, 0, none⟩) qs) := ⟨(isPairs_own o7).2.2, (isPairs_own (kept2 Ry7.out BC1)).2.2⟩
           clear o7 b7)
        | (go_at_call 13
           with_reducible refine (eqChunk_same f l qs (some ⟨g4, 0, none⟩) (some ⟨g8, 0, none⟩) qs.length qs.length w8i (by omega) J1.out.2 J1.out.1).mono ?_
           rintro e w8j ⟨rfl, b8⟩
           have BC2 : Below w7j.heap.size w7j w8j := BC1.trans (b8.mono BC1.size)
           clear b8))
    have B8 := B7.trans (BC2.mono B7.size)
    have HaM8 : Hid (w8j.heap[w.heap.size]? = some (.cells #[.string ⟨r.toArray⟩, .slice a ps.length cap, .bool d] 24 (0, 0))) := (BC2.block (w.heap.size) (lt_of_block HaM7.out)).trans HaM7.out
    have HaC8 : Hid (w8j.heap[w.heap.size + 1]? = some (.cells #[.bool f, .bool l, .slice a2 qs.length cap2] 26 (0, 0))) := (BC2.block (w.heap.size + 1) (lt_of_block HaC7.out)).trans HaC7.out
    have Hw8 : Hid (w8j.heap[bw]? = some (.cells #[.string ⟨rr.toArray⟩, .slice aw rs.length cw, .bool rd] 31 (0, 0))) := (BC2.block (bw) (lt_of_block Hw7.out)).trans Hw7.out
    have Hx8 : Hid (w8j.heap[w3.heap.size]? = some (.cells #[.string ⟨r.toArray⟩, .slice (some ⟨g3, 0, none⟩) ps.length ps.length, .bool d] 31 (0, 0))) := (BC2.block (w3.heap.size) (lt_of_block Hx7.out)).trans Hx7.out
    have Hy8 : Hid (w8j.heap[w4.heap.size]? = some (.cells #[.bool f, .bool l, .slice (some ⟨g4, 0, none⟩) qs.length qs.length] 36 (0, 0))) := (BC2.block (w4.heap.size) (lt_of_block Hy7.out)).trans Hy7.out
    have Hg8 : Hid (w8j.heap[w5.heap.size]? = some (.cells #[.string ⟨rr.toArray⟩, .slice ag rs.length cg, .bool rd] 31 (0, 0))) := (BC2.block (w5.heap.size) (lt_of_block Hg7.out)).trans Hg7.out
    have Rw8 := hidOwn (kept2 Rw7.out BC2)
    have Rx8 := hidOwn (kept2 Rx7.out BC2)
    have Ry8 := hidOwn (kept2 Ry7.out BC2)
    have Rg8 := hidOwn (kept2 Rg7.out BC2)
    clear SB BD WD BC1 BC2 J1
    have sz := SZS.out
    have lx := LX.out
    have ly := LY.out
    obtain ⟨x0, x1, x2, _⟩ := im_cells Hx8.out
    have KM := markImport_any r d ps (some ⟨g3, 0, none⟩) ps.length ps.length _ 1 w8j (by omega) (by omega) (by omega) Rx8.out
    obtain ⟨k1, hk1⟩ : ∃ k1 : Nat, k1 = 1 + 2 * ps.length := ⟨_, rfl⟩
    have hk1' : (1 : Int) + 2 * (ps.length : Int) = (k1 : Int) := by omega
    have hk1b : k1 ≤ 3000000 := by omega
    have hk1p : 0 < k1 := by omega
    have HK9 : Hid ((1 : Int) + 2 * (ps.length : Int) = (k1 : Int)) := hk1'
    clear hk1 hk1'
    go_wp2_with fail
    refine KM.mono ?_
    rintro e w9 ⟨he, _, G9⟩
    rw [show ((1 : Nat) : Int) + 2 * (ps.length : Int) = (k1 : Int) from HK9.out] at he
    subst he
    have HaM9 : Hid (w9.heap[w.heap.size]? = some (.cells #[.string ⟨r.toArray⟩, .slice a ps.length cap, .bool d] 24 (0, 0))) := (G9.block (w.heap.size) (lt_of_block HaM8.out) (fun e => by simp [Value.ownBlock] at e; omega)).trans HaM8.out
    have HaC9 : Hid (w9.heap[w.heap.size + 1]? = some (.cells #[.bool f, .bool l, .slice a2 qs.length cap2] 26 (0, 0))) := (G9.block (w.heap.size + 1) (lt_of_block HaC8.out) (fun e => by simp [Value.ownBlock] at e; omega)).trans HaC8.out
    have Hw9 : Hid (w9.heap[bw]? = some (.cells #[.string ⟨rr.toArray⟩, .slice aw rs.length cw, .bool rd] 31 (0, 0))) := (G9.block (bw) (lt_of_block Hw8.out) (fun e => by simp [Value.ownBlock] at e; have h1 := LwB.out; omega)).trans Hw8.out
    have Hx9 : Hid (w9.heap[w3.heap.size]? = some (.cells #[.string ⟨r.toArray⟩, .slice (some ⟨g3, 0, none⟩) ps.length ps.length, .bool d] 31 (0, 0))) := (G9.block (w3.heap.size) (lt_of_block Hx8.out) (fun e => by simp [Value.ownBlock] at e; omega)).trans Hx8.out
    have Hy9 : Hid (w9.heap[w4.heap.size]? = some (.cells #[.bool f, .bool l, .slice (some ⟨g4, 0, none⟩) qs.length qs.length] 36 (0, 0))) := (G9.block (w4.heap.size) (lt_of_block Hy8.out) (fun e => by simp [Value.ownBlock] at e; omega)).trans Hy8.out
    have Hg9 : Hid (w9.heap[w5.heap.size]? = some (.cells #[.string ⟨rr.toArray⟩, .slice ag rs.length cg, .bool rd] 31 (0, 0))) := (G9.block (w5.heap.size) (lt_of_block Hg8.out) (fun e => by simp [Value.ownBlock] at e; omega)).trans Hg8.out
    have Rw9 := hidOwn (Rw8.out.kept G9 (by
      cases hv : (Value.slice aw rs.length cw).ownBlock with
      | none => exact .inl rfl
      | some q => exact .inr (fun e => by simp [Value.ownBlock] at e; have h1 := LwR.out q hv; omega)))
    have Ry9 := hidOwn (Ry8.out.kept G9 (by
      cases hv : (Value.slice (some ⟨g4, 0, none⟩) qs.length qs.length).ownBlock with
      | none => exact .inl rfl
      | some q => exact .inr (fun e => by simp [Value.ownBlock] at e; simp [Value.ownBlock] at hv; omega)))
    have Rg9 := hidOwn (Rg8.out.kept G9 (by
      cases hv : (Value.slice ag rs.length cg).ownBlock with
      | none => exact .inl rfl
      | some q => exact .inr (fun e => by simp [Value.ownBlock] at e; have h1 := Lg.out q hv; omega)))
    have B9 : Below w.heap.size w w9 := B8.grown G9 B8.size (fun q hq => by simp [Value.ownBlock] at hq; omega)
    clear x0 x1 x2
    obtain ⟨y0, y1, y2, _⟩ := im_cells Hy9.out
    clear KM G9
    have KM := markChunk_any f l qs (some ⟨g4, 0, none⟩) qs.length qs.length _ k1 w9 (by omega) hk1p (by omega) Ry9.out
    have hk0 : ¬ (k1 : Int) + 2 * (qs.length : Int) < 0 := by omega
    have hkb : decide ((k1 : Int) + 2 * (qs.length : Int) < 0) = false := decide_eq_false hk0
    go_wp2_with fail
    refine KM.mono ?_
    rintro e wa ⟨rfl, _, G10⟩
    have HaMA : Hid (wa.heap[w.heap.size]? = some (.cells #[.string ⟨r.toArray⟩, .slice a ps.length cap, .bool d] 24 (0, 0))) := (G10.block (w.heap.size) (lt_of_block HaM9.out) (fun e => by simp [Value.ownBlock] at e; omega)).trans HaM9.out
    have HaCA : Hid (wa.heap[w.heap.size + 1]? = some (.cells #[.bool f, .bool l, .slice a2 qs.length cap2] 26 (0, 0))) := (G10.block (w.heap.size + 1) (lt_of_block HaC9.out) (fun e => by simp [Value.ownBlock] at e; omega)).trans HaC9.out
    have HwA : Hid (wa.heap[bw]? = some (.cells #[.string ⟨rr.toArray⟩, .slice aw rs.length cw, .bool rd] 31 (0, 0))) := (G10.block (bw) (lt_of_block Hw9.out) (fun e => by simp [Value.ownBlock] at e; have h1 := LwB.out; omega)).trans Hw9.out
    have HxA : Hid (wa.heap[w3.heap.size]? = some (.cells #[.string ⟨r.toArray⟩, .slice (some ⟨g3, 0, none⟩) ps.length ps.length, .bool d] 31 (0, 0))) := (G10.block (w3.heap.size) (lt_of_block Hx9.out) (fun e => by simp [Value.ownBlock] at e; omega)).trans Hx9.out
    have HyA : Hid (wa.heap[w4.heap.size]? = some (.cells #[.bool f, .bool l, .slice (some ⟨g4, 0, none⟩) qs.length qs.length] 36 (0, 0))) := (G10.block (w4.heap.size) (lt_of_block Hy9.out) (fun e => by simp [Value.ownBlock] at e; omega)).trans Hy9.out
    have HgA : Hid (wa.heap[w5.heap.size]? = some (.cells #[.string ⟨rr.toArray⟩, .slice ag rs.length cg, .bool rd] 31 (0, 0))) := (G10.block (w5.heap.size) (lt_of_block Hg9.out) (fun e => by simp [Value.ownBlock] at e; omega)).trans Hg9.out
    have RwA := hidOwn (Rw9.out.kept G10 (by
      cases hv : (Value.slice aw rs.length cw).ownBlock with
      | none => exact .inl rfl
      | some q => exact .inr (fun e => by simp [Value.ownBlock] at e; have h1 := LwR.out q hv; omega)))
    have RgA := hidOwn (Rg9.out.kept G10 (by
      cases hv : (Value.slice ag rs.length cg).ownBlock with
      | none => exact .inl rfl
      | some q => exact .inr (fun e => by simp [Value.ownBlock] at e; have h1 := Lg.out q hv; omega)))
    have BA : Below w.heap.size w wa := B9.grown G10 B9.size (fun q hq => by simp [Value.ownBlock] at hq; omega)
    clear y0 y1 y2
    obtain ⟨g0, g1, g2, _⟩ := im_cells HgA.out
    obtain ⟨w0, w1, w2, _⟩ := im_cells HwA.out
    clear KM G10
    go_wp2_with fail
    refine (eqImport_same rr rd rs ag aw cg cw _ (by omega) (isPairs_own RgA.out).2.2 (isPairs_own RwA.out).2.2).mono ?_
    rintro e wb ⟨rfl, bb⟩
    have BQ := BA.trans (bb.mono BA.size)
    have HaMQ : Hid (wb.heap[w.heap.size]? = some (.cells #[.string ⟨r.toArray⟩, .slice a ps.length cap, .bool d] 24 (0, 0))) := (bb.block (w.heap.size) (lt_of_block HaMA.out)).trans HaMA.out
    have HaCQ : Hid (wb.heap[w.heap.size + 1]? = some (.cells #[.bool f, .bool l, .slice a2 qs.length cap2] 26 (0, 0))) := (bb.block (w.heap.size + 1) (lt_of_block HaCA.out)).trans HaCA.out
    have HwQ : Hid (wb.heap[bw]? = some (.cells #[.string ⟨rr.toArray⟩, .slice aw rs.length cw, .bool rd] 31 (0, 0))) := (bb.block (bw) (lt_of_block HwA.out)).trans HwA.out
    have HgQ : Hid (wb.heap[w5.heap.size]? = some (.cells #[.string ⟨rr.toArray⟩, .slice ag rs.length cg, .bool rd] 31 (0, 0))) := (bb.block (w5.heap.size) (lt_of_block HgA.out)).trans HgA.out
    have RwQ := hidOwn (kept2 RwA.out bb)
    have RgQ := hidOwn (kept2 RgA.out bb)
    clear g0 g1 g2 w0 w1 w2
    clear bb
    obtain ⟨g0, g1, g2, _⟩ := im_cells HgQ.out
    have KM := markImport_any rr rd rs ag rs.length cg _ 1 wb (by omega) (by omega) (by omega) RgQ.out
    go_wp2_with fail
    refine KM.mono ?_
    rintro e wd ⟨rfl, og, G12⟩
    have HaMD : Hid (wd.heap[w.heap.size]? = some (.cells #[.string ⟨r.toArray⟩, .slice a ps.length cap, .bool d] 24 (0, 0))) := (G12.block (w.heap.size) (lt_of_block HaMQ.out) (fun e => by have hg := Lg.out _ e.symm; omega)).trans HaMQ.out
    have HaCD : Hid (wd.heap[w.heap.size + 1]? = some (.cells #[.bool f, .bool l, .slice a2 qs.length cap2] 26 (0, 0))) := (G12.block (w.heap.size + 1) (lt_of_block HaCQ.out) (fun e => by have hg := Lg.out _ e.symm; omega)).trans HaCQ.out
    have HwD : Hid (wd.heap[bw]? = some (.cells #[.string ⟨rr.toArray⟩, .slice aw rs.length cw, .bool rd] 31 (0, 0))) := (G12.block (bw) (lt_of_block HwQ.out) (fun e => by have hg := Lg.out _ e.symm; have h1 := LwB.out; omega)).trans HwQ.out
    have HgD : Hid (wd.heap[w5.heap.size]? = some (.cells #[.string ⟨rr.toArray⟩, .slice ag rs.length cg, .bool rd] 31 (0, 0))) := (G12.block (w5.heap.size) (lt_of_block HgQ.out) (fun e => by have hg := Lg.out _ e.symm; omega)).trans HgQ.out
    have RwD := hidOwn (RwQ.out.kept G12 (by
      cases hv : (Value.slice aw rs.length cw).ownBlock with
      | none => exact .inl rfl
      | some q => exact .inr (fun e => by have hg := Lg.out q e.symm; have h1 := LwR.out q hv; omega)))
    have BD : Below w.heap.size w wd := BQ.grown G12 BQ.size (fun q hq => by have hg := Lg.out q hq; omega)
    have RgD := hidOwn og
    clear g0 g1 g2
    clear KM G12 og
    obtain ⟨g0, g1, g2, _⟩ := im_cells HgD.out
    have hq0 : ¬ (1 : Int) + 2 * (rs.length : Int) < 0 := by omega
    have KM := heldImport_any rr rd rs.length ag rs.length cg _ 1 wd (by omega) (by omega) (by omega) RgD.out
    go_wp2_with fail
    refine KM.mono ?_
    rintro e we ⟨rfl, be⟩
    have BE := BD.trans (be.mono BD.size)
    have HaME : Hid (we.heap[w.heap.size]? = some (.cells #[.string ⟨r.toArray⟩, .slice a ps.length cap, .bool d] 24 (0, 0))) := (be.block (w.heap.size) (lt_of_block HaMD.out)).trans HaMD.out
    have HaCE : Hid (we.heap[w.heap.size + 1]? = some (.cells #[.bool f, .bool l, .slice a2 qs.length cap2] 26 (0, 0))) := (be.block (w.heap.size + 1) (lt_of_block HaCD.out)).trans HaCD.out
    have HwE : Hid (we.heap[bw]? = some (.cells #[.string ⟨rr.toArray⟩, .slice aw rs.length cw, .bool rd] 31 (0, 0))) := (be.block (bw) (lt_of_block HwD.out)).trans HwD.out
    have HgE : Hid (we.heap[w5.heap.size]? = some (.cells #[.string ⟨rr.toArray⟩, .slice ag rs.length cg, .bool rd] 31 (0, 0))) := (be.block (w5.heap.size) (lt_of_block HgD.out)).trans HgD.out
    have RwE := hidOwn (kept2 RwD.out be)
    have RgE := hidOwn (kept2 RgD.out be)
    clear g0 g1 g2
    clear KM be
    have HKF := HK2
    have SB : Hid (∀ W, Below we.heap.size we W → W.cell? ⟨w.heap.size, 0, none⟩ = some (.string ⟨r.toArray⟩) ∧ W.cell? ⟨w.heap.size, 1, none⟩ = some (.slice a ps.length cap) ∧ W.cell? ⟨w.heap.size, 2, none⟩ = some (.bool d) ∧ W.cell? ⟨w.heap.size + 1, 0, none⟩ = some (.bool f) ∧ W.cell? ⟨w.heap.size + 1, 1, none⟩ = some (.bool l) ∧ W.cell? ⟨w.heap.size + 1, 2, none⟩ = some (.slice a2 qs.length cap2)) := fun W hW => by
      obtain ⟨u0, u1, u2, _⟩ := im_cells ((hW.block _ (lt_of_block HaME.out)).trans HaME.out)
      obtain ⟨v0, v1, v2, _⟩ := im_cells ((hW.block _ (lt_of_block HaCE.out)).trans HaCE.out)
      exact ⟨u0, u1, u2, v0, v1, v2⟩
    have BD : Below we.heap.size we we.drew := ⟨rfl, rfl, rfl, Nat.le_refl _, fun _ _ => rfl⟩
    have BDa : Below we.heap.size we (we.alloc (.cells #[.string ⟨#[]⟩, .slice none 0 0, .bool false] 31)).drew := ⟨rfl, rfl, rfl, by show _ ≤ (we.alloc _).heap.size; simp, fun q hq => Below.heap_alloc _ _ _ hq⟩
    have WD : Below w.heap.size w we.drew := BE.trans (BD.mono BE.size)
    have WDa : Below w.heap.size w (we.alloc (.cells #[.string ⟨#[]⟩, .slice none 0 0, .bool false] 31)).drew := BE.trans (BDa.mono BE.size)
    have ZN : Hid ((we.alloc (.cells #[.string ⟨#[]⟩, .slice none 0 0, .bool false] 31)).drew.heap[we.heap.size]? = some (.cells #[.string ⟨#[]⟩, .slice none 0 0, .bool false] 31 (0, 0))) := heap_alloc_new we _
    have hbB := BE.size
    obtain ⟨p0, p1, p2, _⟩ := im_cells HaME.out
    obtain ⟨q0, q1, q2, _⟩ := im_cells HaCE.out
    go_wp2
    go_cut [15, 16] from 99 (fun v6 v7 wx => ∃ (bs : Nat) (xa : Option Addr) (xc : Nat), v6 = .pointer (some ⟨bs, 0, none⟩) ∧ v7 = .bool ok ∧ Hid (wx.heap[bs]? = some (.cells #[.string ⟨rr.toArray⟩, .slice xa rs.length xc, .bool rd] 31 (0, 0))) ∧ Hid (we.heap.size ≤ bs ∧ ∀ q, (Value.slice xa rs.length xc).ownBlock = some q → we.heap.size ≤ q ∧ q ≠ bs) ∧ Hid (wx.ownsRow we.heap.size 70 2 (.slice xa rs.length xc) rs.length (pcells rs)) ∧ Hid (Below we.heap.size we wx))
    case first =>
      go_region_held3 (fun w' => w'.cell? ⟨w.heap.size, 0, none⟩ = some (.string ⟨r.toArray⟩) ∧ w'.cell? ⟨w.heap.size, 1, none⟩ = some (.slice a ps.length cap) ∧ w'.cell? ⟨w.heap.size, 2, none⟩ = some (.bool d) ∧ w'.cell? ⟨w.heap.size + 1, 0, none⟩ = some (.bool f) ∧ w'.cell? ⟨w.heap.size + 1, 1, none⟩ = some (.bool l) ∧ w'.cell? ⟨w.heap.size + 1, 2, none⟩ = some (.slice a2 qs.length cap2)) (first | with_reducible exact SB.out _ BX | with_reducible exact SB.out _ (BXS.out _ _ _) | with_reducible exact SB.out _ BC2 | with_reducible exact SB.out _ BC1 | with_reducible exact SB.out _ BD | with_reducible exact SB.out _ BDa | with_reducible exact SB.out _ (BC2a.out _) | with_reducible exact SB.out _ (BC1.alloc BC1.size _) | with_reducible exact SB.out _ (BX.alloc BX.size _) | go_keep)
        (first
          | (go_at_call 11
             with_reducible refine (HKF.out _ _ _ _ _ _ (whj.alloc (.cells #[.string ⟨#[]⟩, .slice none 0 0, .bool false] 31)) (I4a.out (.cells #[.string ⟨#[]⟩, .slice none 0 0, .bool false] 31)).1 (I4a.out (.cells #[.string ⟨#[]⟩, .slice none 0 0, .bool false] 31)).2 (HT.out.later (WC2a.out (.cells #[.string ⟨#[]⟩, .slice none 0 0, .bool false] 31)))).mono ?_
             rintro e whk ⟨xa, xm, xc, rfl, ox, bx⟩
             obtain ⟨rfl, _, _⟩ := isPairs_own ox
             have sW := (BC2a.out (.cells #[.string ⟨#[]⟩, .slice none 0 0, .bool false] 31)).size
             have BX : Below we.heap.size we whk := (BC2a.out (.cells #[.string ⟨#[]⟩, .slice none 0 0, .bool false] 31)).trans (bx.mono sW)
             have OX : Hid (whk.ownsRow we.heap.size 70 2 (.slice xa rs.length xc) rs.length (pcells rs)) := ox.mono sW
             have HBX : Hid (Below we.heap.size we whk) := BX
             have XL : Hid (∀ q, (Value.slice xa rs.length xc).ownBlock = some q → (whj.alloc (.cells #[.string ⟨#[]⟩, .slice none 0 0, .bool false] 31)).heap.size ≤ q ∧ q < whk.heap.size) := fun q hq => ox.lt q hq
             have HN : Hid (whk.heap[whj.heap.size]? = some (.cells #[.string ⟨#[]⟩, .slice none 0 0, .bool false] 31 (0, 0))) := (bx.block _ (lt_of_block (heap_alloc_new whj (.cells #[.string ⟨#[]⟩, .slice none 0 0, .bool false] 31)))).trans (heap_alloc_new whj (.cells #[.string ⟨#[]⟩, .slice none 0 0, .bool false] 31))
             have HNL : Hid (whj.heap.size < (whj.alloc (.cells #[.string ⟨#[]⟩, .slice none 0 0, .bool false] 31)).heap.size ∧ we.heap.size ≤ whj.heap.size) := ⟨lt_of_block (heap_alloc_new whj (.cells #[.string ⟨#[]⟩, .slice none 0 0, .bool false] 31)), by have := BC2.size; omega⟩
             have BXS : Hid (∀ x y z, Below we.heap.size we (((whk.setCell ⟨whj.heap.size, 0, none⟩ x).setCell ⟨whj.heap.size, 1, none⟩ y).setCell ⟨whj.heap.size, 2, none⟩ z)) := fun x y z => ((BX.setCell HNL.out.2 _).setCell HNL.out.2 _).setCell HNL.out.2 _
             have HQ : Hid (we.heap.size ≤ whj.heap.size ∧ ∀ q, (Value.slice xa rs.length xc).ownBlock = some q → we.heap.size ≤ q ∧ q ≠ whj.heap.size) := ⟨HNL.out.2, fun q hq => ⟨(OX.out.lt q hq).1, by have h1 := (XL.out q hq).1; have h2 := HNL.out.1; omega⟩⟩
             have TS : Hid (∀ x y z, _) := fun x y z => im_store HN.out HNL.out.2 BX OX.out (fun e => (HQ.out.2 _ e).2 rfl) x y z
             obtain ⟨y0, y1, y2, yf⟩ := im_cells HN.out
             have yf0 := yf 0
             have yf1 := yf 1
             have yf2 := yf 2
             clear yf
             clear ox bx sW)
          | (go_at_call 11
             with_reducible refine (HKF.out _ _ _ _ _ _ whj I4.out.1 I4.out.2 (HT.out.later WC2)).mono ?_
             rintro e whk ⟨xa, xm, xc, rfl, ox, bx⟩
             obtain ⟨rfl, _, _⟩ := isPairs_own ox
             have sW := (BC2).size
             have BX : Below we.heap.size we whk := (BC2).trans (bx.mono sW)
             have OX : Hid (whk.ownsRow we.heap.size 70 2 (.slice xa rs.length xc) rs.length (pcells rs)) := ox.mono sW
             have HBX : Hid (Below we.heap.size we whk) := BX
             have XL : Hid (∀ q, (Value.slice xa rs.length xc).ownBlock = some q → (whj).heap.size ≤ q ∧ q < whk.heap.size) := fun q hq => ox.lt q hq
             have HN : Hid (whk.heap[whi.heap.size]? = some (.cells #[.string ⟨#[]⟩, .slice none 0 0, .bool false] 31 (0, 0))) := (bx.block _ (lt_of_block HNc.out)).trans HNc.out
             have HNL : Hid (whi.heap.size < (whj).heap.size ∧ we.heap.size ≤ whi.heap.size) := ⟨lt_of_block HNc.out, by have := BC1.size; omega⟩
             have BXS : Hid (∀ x y z, Below we.heap.size we (((whk.setCell ⟨whi.heap.size, 0, none⟩ x).setCell ⟨whi.heap.size, 1, none⟩ y).setCell ⟨whi.heap.size, 2, none⟩ z)) := fun x y z => ((BX.setCell HNL.out.2 _).setCell HNL.out.2 _).setCell HNL.out.2 _
             have HQ : Hid (we.heap.size ≤ whi.heap.size ∧ ∀ q, (Value.slice xa rs.length xc).ownBlock = some q → we.heap.size ≤ q ∧ q ≠ whi.heap.size) := ⟨HNL.out.2, fun q hq => ⟨(OX.out.lt q hq).1, by have h1 := (XL.out q hq).1; have h2 := HNL.out.1; omega⟩⟩
             have TS : Hid (∀ x y z, _) := fun x y z => im_store HN.out HNL.out.2 BX OX.out (fun e => (HQ.out.2 _ e).2 rfl) x y z
             obtain ⟨y0, y1, y2, yf⟩ := im_cells HN.out
             have yf0 := yf 0
             have yf1 := yf 1
             have yf2 := yf 2
             clear yf
             clear ox bx sW)
          | (go_at_call 11
             with_reducible refine (HKF.out _ _ _ _ _ _ whj I4.out.1 I4.out.2 (HT.out.later WC2)).mono ?_
             rintro e whk ⟨xa, xm, xc, rfl, ox, bx⟩
             obtain ⟨rfl, _, _⟩ := isPairs_own ox
             have sW := (BC2).size
             have BX : Below we.heap.size we whk := (BC2).trans (bx.mono sW)
             have OX : Hid (whk.ownsRow we.heap.size 70 2 (.slice xa rs.length xc) rs.length (pcells rs)) := ox.mono sW
             have HBX : Hid (Below we.heap.size we whk) := BX
             have XL : Hid (∀ q, (Value.slice xa rs.length xc).ownBlock = some q → (whj).heap.size ≤ q ∧ q < whk.heap.size) := fun q hq => ox.lt q hq
             have HN : Hid (whk.heap[we.heap.size]? = some (.cells #[.string ⟨#[]⟩, .slice none 0 0, .bool false] 31 (0, 0))) := (bx.block _ (lt_of_block HNb2.out)).trans HNb2.out
             have HNL : Hid (we.heap.size < (whj).heap.size ∧ we.heap.size ≤ we.heap.size) := ⟨lt_of_block HNb2.out, by omega⟩
             have BXS : Hid (∀ x y z, Below we.heap.size we (((whk.setCell ⟨we.heap.size, 0, none⟩ x).setCell ⟨we.heap.size, 1, none⟩ y).setCell ⟨we.heap.size, 2, none⟩ z)) := fun x y z => ((BX.setCell HNL.out.2 _).setCell HNL.out.2 _).setCell HNL.out.2 _
             have HQ : Hid (we.heap.size ≤ we.heap.size ∧ ∀ q, (Value.slice xa rs.length xc).ownBlock = some q → we.heap.size ≤ q ∧ q ≠ we.heap.size) := ⟨HNL.out.2, fun q hq => ⟨(OX.out.lt q hq).1, by have h1 := (XL.out q hq).1; have h2 := HNL.out.1; omega⟩⟩
             have TS : Hid (∀ x y z, _) := fun x y z => im_store HN.out HNL.out.2 BX OX.out (fun e => (HQ.out.2 _ e).2 rfl) x y z
             obtain ⟨y0, y1, y2, yf⟩ := im_cells HN.out
             have yf0 := yf 0
             have yf1 := yf 1
             have yf2 := yf 2
             clear yf
             clear ox bx sW)
          | (go_at_call 11
             with_reducible refine (HKF.out _ _ _ _ _ _ whj I4.out.1 I4.out.2 (HT.out.later WC2)).mono ?_
             rintro e whk ⟨xa, xm, xc, rfl, ox, bx⟩
             obtain ⟨rfl, _, _⟩ := isPairs_own ox
             have sW := (BC2).size
             have BX : Below we.heap.size we whk := (BC2).trans (bx.mono sW)
             have OX : Hid (whk.ownsRow we.heap.size 70 2 (.slice xa rs.length xc) rs.length (pcells rs)) := ox.mono sW
             have HBX : Hid (Below we.heap.size we whk) := BX
             have XL : Hid (∀ q, (Value.slice xa rs.length xc).ownBlock = some q → (whj).heap.size ≤ q ∧ q < whk.heap.size) := fun q hq => ox.lt q hq
             clear ox bx sW)
          | (go_at_call 10
             with_reducible refine (HTC.out (whi.alloc (.cells #[.string ⟨#[]⟩, .slice none 0 0, .bool false] 31)) (WC1.alloc WC1.size _)).mono ?_
             rintro e whj ⟨g4, rfl, o4, b4⟩
             have BC2 : Below we.heap.size we whj := (BC1.alloc BC1.size _).trans (b4.mono (BC1.alloc BC1.size _).size)
             have WC2 : Below w.heap.size w whj := BE.trans (BC2.mono BE.size)
             have O4a : Hid (whj.ownsRow we.heap.size 70 2 (.slice (some ⟨g3, 0, none⟩) ps.length ps.length) ps.length (pcells ps)) := kept2 (kept2 O3.out ((Below.refl _ _).alloc (Nat.le_refl _) _)) b4
             have O4b : Hid (whj.ownsRow we.heap.size 70 2 (.slice (some ⟨g4, 0, none⟩) qs.length qs.length) qs.length (pcells qs)) := o4.mono (BC1.alloc BC1.size _).size
             have HNc : Hid (whj.heap[whi.heap.size]? = some (.cells #[.string ⟨#[]⟩, .slice none 0 0, .bool false] 31 (0, 0))) := (b4.block _ (by simp)).trans (heap_alloc_new whi (.cells #[.string ⟨#[]⟩, .slice none 0 0, .bool false] 31))
             have I4 : Hid (IsPairs whj (some ⟨g3, 0, none⟩) ps ∧ IsPairs whj (some ⟨g4, 0, none⟩) qs) := ⟨(isPairs_own O4a.out).2.2, (isPairs_own O4b.out).2.2⟩
             have I4a : Hid (∀ o, IsPairs (whj.alloc o) (some ⟨g3, 0, none⟩) ps ∧ IsPairs (whj.alloc o) (some ⟨g4, 0, none⟩) qs) := fun o => ⟨I4.out.1.later (new_below whj o), I4.out.2.later (new_below whj o)⟩
             have WC2a : Hid (∀ o, Below w.heap.size w (whj.alloc o)) := fun o => WC2.alloc WC2.size o
             have BC2a : Hid (∀ o, Below we.heap.size we (whj.alloc o)) := fun o => BC2.alloc BC2.size o
             clear o4 b4)
          | (go_at_call 10
             with_reducible refine (HTC.out whi WC1).mono ?_
             rintro e whj ⟨g4, rfl, o4, b4⟩
             have BC2 : Below we.heap.size we whj := (BC1).trans (b4.mono (BC1).size)
             have WC2 : Below w.heap.size w whj := BE.trans (BC2.mono BE.size)
             have O4a : Hid (whj.ownsRow we.heap.size 70 2 (.slice (some ⟨g3, 0, none⟩) ps.length ps.length) ps.length (pcells ps)) := kept2 (O3.out) b4
             have O4b : Hid (whj.ownsRow we.heap.size 70 2 (.slice (some ⟨g4, 0, none⟩) qs.length qs.length) qs.length (pcells qs)) := o4.mono (BC1).size
             have HNb2 : Hid (whj.heap[we.heap.size]? = some (.cells #[.string ⟨#[]⟩, .slice none 0 0, .bool false] 31 (0, 0))) := (b4.block _ (lt_of_block HNb.out)).trans HNb.out
             have I4 : Hid (IsPairs whj (some ⟨g3, 0, none⟩) ps ∧ IsPairs whj (some ⟨g4, 0, none⟩) qs) := ⟨(isPairs_own O4a.out).2.2, (isPairs_own O4b.out).2.2⟩
             have I4a : Hid (∀ o, IsPairs (whj.alloc o) (some ⟨g3, 0, none⟩) ps ∧ IsPairs (whj.alloc o) (some ⟨g4, 0, none⟩) qs) := fun o => ⟨I4.out.1.later (new_below whj o), I4.out.2.later (new_below whj o)⟩
             have WC2a : Hid (∀ o, Below w.heap.size w (whj.alloc o)) := fun o => WC2.alloc WC2.size o
             have BC2a : Hid (∀ o, Below we.heap.size we (whj.alloc o)) := fun o => BC2.alloc BC2.size o
             clear o4 b4)
          | (go_at_call 10
             with_reducible refine (HTC.out whi WC1).mono ?_
             rintro e whj ⟨g4, rfl, o4, b4⟩
             have BC2 : Below we.heap.size we whj := (BC1).trans (b4.mono (BC1).size)
             have WC2 : Below w.heap.size w whj := BE.trans (BC2.mono BE.size)
             have O4a : Hid (whj.ownsRow we.heap.size 70 2 (.slice (some ⟨g3, 0, none⟩) ps.length ps.length) ps.length (pcells ps)) := kept2 (O3.out) b4
             have O4b : Hid (whj.ownsRow we.heap.size 70 2 (.slice (some ⟨g4, 0, none⟩) qs.length qs.length) qs.length (pcells qs)) := o4.mono (BC1).size
             have I4 : Hid (IsPairs whj (some ⟨g3, 0, none⟩) ps ∧ IsPairs whj (some ⟨g4, 0, none⟩) qs) := ⟨(isPairs_own O4a.out).2.2, (isPairs_own O4b.out).2.2⟩
             have I4a : Hid (∀ o, IsPairs (whj.alloc o) (some ⟨g3, 0, none⟩) ps ∧ IsPairs (whj.alloc o) (some ⟨g4, 0, none⟩) qs) := fun o => ⟨I4.out.1.later (new_below whj o), I4.out.2.later (new_below whj o)⟩
             have WC2a : Hid (∀ o, Below w.heap.size w (whj.alloc o)) := fun o => WC2.alloc WC2.size o
             have BC2a : Hid (∀ o, Below we.heap.size we (whj.alloc o)) := fun o => BC2.alloc BC2.size o
             clear o4 b4)
          | (go_at_call 9
             with_reducible refine (HTI.out (we.alloc (.cells #[.string ⟨#[]⟩, .slice none 0 0, .bool false] 31)).drew WDa).mono ?_
             rintro e whi ⟨g3, rfl, o3, b3⟩
             have BC1 : Below we.heap.size we whi := (BDa).trans (b3.mono (BDa).size)
             have WC1 : Below w.heap.size w whi := BE.trans (BC1.mono BE.size)
             have O3 : Hid (whi.ownsRow we.heap.size 70 2 (.slice (some ⟨g3, 0, none⟩) ps.length ps.length) ps.length (pcells ps)) := o3.mono (BDa).size
             have HNb : Hid (whi.heap[we.heap.size]? = some (.cells #[.string ⟨#[]⟩, .slice none 0 0, .bool false] 31 (0, 0))) := (b3.block _ (lt_of_block ZN.out)).trans ZN.out
             clear o3 b3)
          | (go_at_call 9
             with_reducible refine (HTI.out we.drew WD).mono ?_
             rintro e whi ⟨g3, rfl, o3, b3⟩
             have BC1 : Below we.heap.size we whi := (BD).trans (b3.mono (BD).size)
             have WC1 : Below w.heap.size w whi := BE.trans (BC1.mono BE.size)
             have O3 : Hid (whi.ownsRow we.heap.size 70 2 (.slice (some ⟨g3, 0, none⟩) ps.length ps.length) ps.length (pcells ps)) := o3.mono (BD).size
             clear o3 b3))
      all_goals go_wp2_with fail
      all_goals go_meet
      all_goals first
        | exact ⟨_, xa, xc, rfl, rfl, (TS.out _ _ _).1, HQ.out, (TS.out _ _ _).2.2, (TS.out _ _ _).2.1⟩
        | exact ⟨whk.heap.size, xa, xc, rfl, rfl, heap_alloc_new whk _, ⟨HBX.out.size, fun q hq => ⟨(OX.out.lt q hq).1, by have := (OX.out.lt q hq).2; omega⟩⟩, OX.out.alloc _, HBX.out.alloc HBX.out.size _⟩
    case rest =>
      obtain ⟨bh, ah, ch, rfl, rfl, HR0, HR1, HR2, HR3⟩ := hcut
      obtain ⟨whz, rfl⟩ : ∃ W, W = wc := ⟨_, rfl⟩
      have bhz := HR3.out
      have Bhz := BE.trans (bhz.mono BE.size)
      have HaMhz : Hid (whz.heap[w.heap.size]? = some (.cells #[.string ⟨r.toArray⟩, .slice a ps.length cap, .bool d] 24 (0, 0))) := (bhz.block (w.heap.size) (lt_of_block HaME.out)).trans HaME.out
      have HaChz : Hid (whz.heap[w.heap.size + 1]? = some (.cells #[.bool f, .bool l, .slice a2 qs.length cap2] 26 (0, 0))) := (bhz.block (w.heap.size + 1) (lt_of_block HaCE.out)).trans HaCE.out
      have Hwhz : Hid (whz.heap[bw]? = some (.cells #[.string ⟨rr.toArray⟩, .slice aw rs.length cw, .bool rd] 31 (0, 0))) := (bhz.block (bw) (lt_of_block HwE.out)).trans HwE.out
      have Hghz : Hid (whz.heap[w5.heap.size]? = some (.cells #[.string ⟨rr.toArray⟩, .slice ag rs.length cg, .bool rd] 31 (0, 0))) := (bhz.block (w5.heap.size) (lt_of_block HgE.out)).trans HgE.out
      have Rwhz := hidOwn (kept2 RwE.out bhz)
      have Rghz := hidOwn (kept2 RgE.out bhz)
      have Hh : Hid (whz.heap[bh]? = some (.cells #[.string ⟨rr.toArray⟩, .slice ah rs.length ch, .bool rd] 31 (0, 0))) := HR0
      have Rh := hidOwn HR2.out
      have Lh : Hid (we.heap.size ≤ bh ∧ ∀ q, (Value.slice ah rs.length ch).ownBlock = some q → we.heap.size ≤ q ∧ q ≠ bh) := HR1
      clear HR0 HR1 HR2 HR3 SB BD BDa WD WDa ZN hbB p0 p1 p2 q0 q1 q2
      obtain ⟨h0, h1, h2, _⟩ := im_cells Hh.out
      obtain ⟨w0, w1, w2, _⟩ := im_cells Hwhz.out
      go_wp2_with fail
      refine (eqImport_same rr rd rs ah aw ch cw _ (by omega) (isPairs_own Rh.out).2.2 (isPairs_own Rwhz.out).2.2).mono ?_
      rintro e wf ⟨rfl, bf⟩
      have BF := Bhz.trans (bf.mono Bhz.size)
      have HaMF : Hid (wf.heap[w.heap.size]? = some (.cells #[.string ⟨r.toArray⟩, .slice a ps.length cap, .bool d] 24 (0, 0))) := (bf.block (w.heap.size) (lt_of_block HaMhz.out)).trans HaMhz.out
      have HaCF : Hid (wf.heap[w.heap.size + 1]? = some (.cells #[.bool f, .bool l, .slice a2 qs.length cap2] 26 (0, 0))) := (bf.block (w.heap.size + 1) (lt_of_block HaChz.out)).trans HaChz.out
      have HwF : Hid (wf.heap[bw]? = some (.cells #[.string ⟨rr.toArray⟩, .slice aw rs.length cw, .bool rd] 31 (0, 0))) := (bf.block (bw) (lt_of_block Hwhz.out)).trans Hwhz.out
      have HgF : Hid (wf.heap[w5.heap.size]? = some (.cells #[.string ⟨rr.toArray⟩, .slice ag rs.length cg, .bool rd] 31 (0, 0))) := (bf.block (w5.heap.size) (lt_of_block Hghz.out)).trans Hghz.out
      have HhF : Hid (wf.heap[bh]? = some (.cells #[.string ⟨rr.toArray⟩, .slice ah rs.length ch, .bool rd] 31 (0, 0))) := (bf.block (bh) (lt_of_block Hh.out)).trans Hh.out
      have RwF := hidOwn (kept2 Rwhz.out bf)
      have RgF := hidOwn (kept2 Rghz.out bf)
      have RhF := hidOwn (kept2 Rh.out bf)
      clear h0 h1 h2 w0 w1 w2
      clear bf
      obtain ⟨g0, g1, g2, _⟩ := im_cells HgF.out
      have KM := heldImport_any rr rd rs.length ag rs.length cg _ 1 wf (by omega) (by omega) (by omega) RgF.out
      go_wp2_with fail
      refine KM.mono ?_
      rintro e wg ⟨rfl, bg⟩
      have BG := BF.trans (bg.mono BF.size)
      have HaMG : Hid (wg.heap[w.heap.size]? = some (.cells #[.string ⟨r.toArray⟩, .slice a ps.length cap, .bool d] 24 (0, 0))) := (bg.block (w.heap.size) (lt_of_block HaMF.out)).trans HaMF.out
      have HaCG : Hid (wg.heap[w.heap.size + 1]? = some (.cells #[.bool f, .bool l, .slice a2 qs.length cap2] 26 (0, 0))) := (bg.block (w.heap.size + 1) (lt_of_block HaCF.out)).trans HaCF.out
      have HwG : Hid (wg.heap[bw]? = some (.cells #[.string ⟨rr.toArray⟩, .slice aw rs.length cw, .bool rd] 31 (0, 0))) := (bg.block (bw) (lt_of_block HwF.out)).trans HwF.out
      have HgG : Hid (wg.heap[w5.heap.size]? = some (.cells #[.string ⟨rr.toArray⟩, .slice ag rs.length cg, .bool rd] 31 (0, 0))) := (bg.block (w5.heap.size) (lt_of_block HgF.out)).trans HgF.out
      have HhG : Hid (wg.heap[bh]? = some (.cells #[.string ⟨rr.toArray⟩, .slice ah rs.length ch, .bool rd] 31 (0, 0))) := (bg.block (bh) (lt_of_block HhF.out)).trans HhF.out
      have RwG := hidOwn (kept2 RwF.out bg)
      have RgG := hidOwn (kept2 RgF.out bg)
      have RhG := hidOwn (kept2 RhF.out bg)
      clear g0 g1 g2
      clear KM bg
      go_wp2
      go_ret
      exact ⟨rfl, BG⟩
set_option maxRecDepth 100000 in
theorem lifted (os : Os) (started : os.Started) (H : Type) (enc : TypeId × Value → H) :
    ReturnsInHanded {} Tryz.checked os 3 .any (fun w args => (Rows.fnExactTookSpec.pre enc Tryz.prog Tryz.f3 [] false w args ∧ laidMetH Tryz.prog Rows.fnExactTookRow.laid w) ∧ sizedMet enc Tryz.prog Tryz.f3 (OpenSpec.ofChange Rows.fnExactTookSpec) false w args)
      (Rows.fnExactTookSpec.post enc Tryz.prog Tryz.f3 false true false false) := by
  refine returnsInHanded_of_change_and (C := Tryz.checked) (X := fun w _ => laidMetH Tryz.prog Rows.fnExactTookRow.laid w) (fun _ _ _ hh h => h.of_heap hh) own started (by kernel_rfl) Tryz.func3
    (ChangeSpec.witness_shaped (enc := enc) (C := Tryz.checked) (os := os) (X := fun w _ => laidMetH Tryz.prog Rows.fnExactTookRow.laid w) false (World.doorLaid Tryz.prog 400 os) #[.agg #[.string ByteArray.empty, .slice none 0 0, .bool false], .agg #[.bool false, .bool false, .slice none 0 0]] 8 rfl (World.shaped_of_RefB (by kernel_rfl) (by kernel_rfl)) (by kernel_rfl) (by kernel_rfl) (by kernel_rfl) (door_met os _)) ?_
  intro W base args ds gs before hval0 hW _ _ hL _
  have hval : ∀ (j : Nat) t v, Tryz.f3.params[j]? = some t → args[j]? = some v → Value.okWide Tryz.prog W .any base t v := hval0
  have hW' := hW
  obtain ⟨p, q, hA0, hV0, rfl, hfz, hnd⟩ := hW
  have hA : DataW.TrodAll enc Tryz.prog W 0 (fun _ => true) true Tryz.f3.params.toList args.toList ds p := hA0
  have hV : DataW.TrodVars enc Tryz.prog W (fun _ => true) ["loop.example/g00226/impl.roundWords"] gs q := hV0
  rw [Tryz.params3] at hA hval
  obtain ⟨v0, vs0, d0, ds0, p0, q0, hargs, rfl, rfl, h0, r0⟩ := trodAll_cons hA
  obtain ⟨v1, vs1, d1, ds1, p1, q1, hargs1, rfl, rfl, h1, r1⟩ := trodAll_cons r0
  obtain ⟨rfl, rfl, rfl⟩ := trodAll_nil r1
  obtain rfl : args = #[v0, v1] := by cases args; simp_all
  have k0 := h0
  have k1 := h1
  have lt0 : ∀ x ∈ p0, x.block < W.heap.size := by obtain ⟨m, hm⟩ := k0; exact DataW.trod_lt m _ _ _ hm
  have lt1 : ∀ x ∈ p1, x.block < W.heap.size := by obtain ⟨m, hm⟩ := k1; exact DataW.trod_lt m _ _ _ hm
  obtain ⟨rr, a0, cap0, ps, dd, hv0, hrl, hm, hs, hbig⟩ := import_of (hval 0 24 v0 rfl rfl) h0
  obtain ⟨ff, ll, a1, cap1, qs, hv1, hm1, hs1, hbig1⟩ := chunk_of (hval 1 26 v1 rfl rfl) h1
  subst hv0 hv1
  obtain ⟨g, t, cs, fuel, d, p', rfl, hg, ht, hvar, hd, rfl⟩ := trodVars_one hV
  obtain rfl := Option.some.inj (gTab.symm.trans hg)
  obtain rfl := Option.some.inj (tTab.symm.trans ht)
  have hT := tab_of hL
  have hltv : ∀ x ∈ p', x.block < W.heap.size := fun x hx => hW'.lt x (List.mem_append_right _ (List.mem_append_right _ hx))
  clear hA0 hV0 hval0 hA hV
  refine (walk rr a0 cap0 ps dd ff ll a1 cap1 qs W hrl hbig hm hs hbig1 hm1 hs1 hT).mono fun e W' ⟨he, hB⟩ => ?_
  subst he
  obtain ⟨fuel', hd'⟩ := Below.trod laidOut0 (by kernel_rfl) (of_decide_eq_true (by kernel_rfl)) (v := .agg cs) (⟨fuel, by simpa [Value.cells] using hd⟩ : DataW.Trod enc Tryz.prog W 0 (fun _ => true) true 202 (.agg cs) d p') hB hltv
  have hv' := trodVars_mk1 (enc := enc) (spare := fun b => decide (b < W.heap.size)) hg ht (var?_below hB hg hT.1 hvar) (by simpa [Value.cells] using hd')
  exact ⟨_, rfl, _, _, _, [], _, _, hW', trodAll_mk1 (shut_bool Tryz.underlying4 _), (trodAll_cons_mk (Below.trod laidOut0 (by kernel_rfl) (of_decide_eq_true (by kernel_rfl)) k0 hB lt0) (trodAll_cons_mk (Below.trod laidOut0 (by kernel_rfl) (of_decide_eq_true (by kernel_rfl)) k1 hB lt1) trodAll_mk0)), hv', hB.frame _, fun h => by cases h⟩

theorem named0 : Tryz.prog.funcNamed "loop.example/g00226/laws.FnExactTook" = some 3 := by kernel_rfl
theorem closed0 : joinedFacts Tryz.prog 3 Tryz.f3 Rows.fnExactTookSpec Rows.fnExactTookRow = true := by
  unfold joinedFacts
  rw [seat_may, seat_lifts, seat_make]
  kernel_rfl
theorem inst0 : Tryz.f3.isInstance Tryz.prog Rows.fnExactTookRow.origin Rows.fnExactTookRow.targs := of_decide_eq_true (by kernel_rfl)
theorem wrap0 : Tryz.f3.isWrapper Tryz.prog Rows.fnExactTookRow.wrapper Rows.fnExactTookRow.mainSum := by unfold Func.isWrapper; first | (rw [if_pos (by decide +kernel)]; kernel_rfl) | (rw [if_neg (by decide +kernel)]; exact ⟨rfl, rfl⟩)

theorem over : Rows.fnExactTookRow.holds Tryz.pinned (OpenSpec.ofChange Rows.fnExactTookSpec) :=
  OpenClaim.holds_of_wide 3 Tryz.f3 rfl rfl rfl rfl rfl rfl rfl ⟨rfl, rfl, rfl, rfl, rfl⟩ rfl rfl rfl rfl rfl named0 Tryz.func3 closed0 inst0 wrap0
    (fun os started H enc _ => lifted os started H enc)

theorem text0 : Rows.fnExactTookRow.wfByText (OpenSpec.ofChange Rows.fnExactTookSpec) = true := by kernel_rfl
theorem looks0 : false = Tryz.prog.looks [] := by kernel_rfl
theorem goes0 : false = Rows.fnExactTookRow.goesBy Tryz.prog := by kernel_rfl
theorem wants0 : ([24, 26].all fun u => !Tryz.prog.wantsStandIn u) = true := by kernel_rfl

theorem card : Claim7.holds Tryz.pinned (.plain (OpenSpec.ofChange Rows.fnExactTookSpec)) Rows.fnExactTookCard :=
  Claim7.holds_tied_plain_at .later [] [.data] true (true, Rows.fnExactTookCard.stood.harness.2) false
    over (fun _ h => by cases h) text0 (fun _ h => by cases h) fnExactTook_row_tie rfl ⟨rfl, rfl⟩ seat_main rfl
    (fun f fn hf hfn => by
      obtain rfl : f = 3 := Option.some.inj (named0.symm.trans hf) |>.symm
      obtain rfl : fn = Tryz.f3 := (Option.some.inj (Tryz.func3.symm.trans hfn)).symm
      exact ⟨looks0, fun j t ht => by
        rw [Tryz.params3] at ht
        have hm : t ∈ [24, 26] := by simpa using Array.mem_of_getElem? ht
        exact (show Tryz.prog.wantsStandIn t = false by simpa using List.all_eq_true.1 wants0 t hm)⟩)
    goes0

end Go.Proofs.YtlknhcnfpkjpbaaGreatDoor.fnExactTook
namespace Go.Proofs.YtlknhcnfpkjpbaaGreatDoor
theorem fnExactTook_holds : Rows.FnExactTookCardSaid := fnExactTook.card
end Go.Proofs.YtlknhcnfpkjpbaaGreatDoor
