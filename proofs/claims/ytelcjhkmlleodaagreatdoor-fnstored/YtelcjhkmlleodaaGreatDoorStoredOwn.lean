/-
 At every code two drawn stores that are put together have all nodes of both, in either order, and once more changes nothing: FnStored answers true. No condition; the round words are laid as the program's text lays them.
-/
import Derived.Test.YtelcjhkmlleodaaGreatDoorDrawSt
import Derived.Test.YtelcjhkmlleodaaGreatDoorMathSd
import Derived.Test.YtelcjhkmlleodaaGreatDoorIAdd
import Derived.Test.YtelcjhkmlleodaaGreatDoorStAll
import Derived.Test.YtelcjhkmlleodaaGreatDoorGetAll
import Derived.Test.YtelcjhkmlleodaaGreatDoorDrawPs
import Derived.Test.YtelcjhkmlleodaaGreatDoorSeatAll
import Derived.Test.YtelcjhkmlleodaaGreatDoorTie
import Derived.Test.YtelcjhkmlleodaaGreatDoorCards
import Derived.ProofKit
import Derived.LaidMore
import Derived.OpenShut
import Derived.ShutString
import Derived.ChangeOld
import Derived.Below
import Derived.Stop.Joined
import Derived.Lib.LaidTab
import Derived.SevenTiedAt
import Derived.SliceStrings
namespace Go.Proofs.YtelcjhkmlleodaaGreatDoor.fnStored
open Go.ChangeShapes Go.WideShapes Go.ChangeAt Go.RowKit
open Go.ChangeMaps (open_string shut_string)
set_option linter.unusedVariables false
theorem own : ownKnob Tryz.prog.godebug = none := by kernel_rfl
theorem laidOut0 : laidOutB Tryz.prog = true := by kernel_rfl
theorem gTab : Tryz.prog.globalNamed "loop.example/g00226/impl.roundWords" = some 1 := by kernel_rfl
theorem tTab : (Tryz.prog.globals[1]?).map (·.type) = some 130 := by kernel_rfl
theorem door_met (os : Os) (args : Array Value) : laidMetH Tryz.prog Rows.fnStoredRow.laid ((World.doorLaid Tryz.prog 400 os).forCall (fun _ _ => 0) ⟨#[], args, []⟩).memory :=
 laidMetH_of_parts3 (fuel := 8) (laidMet_of_run' 8 (by kernel_rfl) (by kernel_rfl)) (by kernel_rfl) (by kernel_rfl)
theorem tab_of {W : World} (h : laidMetH Tryz.prog Rows.fnStoredRow.laid W) : Tab W := by
 rw [MakeChecks.laidMetH_plain _ _ _ (by kernel_rfl)] at h
 have hT : Lib.TabIs Tryz.prog W "loop.example/g00226/impl.roundWords" .u32 (kL.map fun x => num x) := Lib.tabIs_of_head (rest := []) gTab tTab Tryz.underlying130 Tryz.underlying82 (by kernel_rfl) (by kernel_rfl) h
 have hc : ∀ i, i < 64 → W.cell? ⟨1, i, none⟩ = some (.int .u32 (num (kL.getD i 0))) := fun i hi => by
  have hl : i < kL.length := hi
  have := hT.cell gTab i (by rw [List.length_map]; exact hl)
  rw [this]
  simp [List.getD, hl]
 exact ⟨block_lt_of_cell (hc 0 (by omega)), hc⟩
set_option maxRecDepth 100000 in
set_option maxHeartbeats 1000000 in
theorem drawStoreAdd (n cap : Nat) (a : Option Addr) (w : World) (hn : n ≤ 1048576) (h : Code w a n) :
 Calls Tryz.prog 5 #[.slice a n cap] w fun e w' => ∃ (ps qs : List PairL) (a1 : Option Addr) (c1 : Nat) (a2 : Option Addr) (c2 : Nat), e = .returned (.tuple #[.slice a1 ps.length c1, .slice a2 qs.length c2]) ∧ ps.length ≤ 3601 ∧ qs.length ≤ 3601 ∧ (∀ p ∈ ps, p.1.length ≤ 1048576 ∧ p.2.length ≤ 1048576) ∧ (∀ p ∈ qs, p.1.length ≤ 1048576 ∧ p.2.length ≤ 1048576) ∧ w'.ownsRow w.heap.size 33 2 (.slice a1 ps.length c1) ps.length (pcells ps) ∧ w'.ownsRow w.heap.size 33 2 (.slice a2 qs.length c2) qs.length (pcells qs) ∧ Below w.heap.size w w' := by
 have H1 := open_any n cap a w h
 clear h
 go_enter Tryz.func5, Tryz.ntmps5
 go_wp2_with fail
 refine H1.mono ?_
 rintro e w1 ⟨rfl, hR1, b1⟩
 have HR1 : Hid (Rd w.heap.size a n cap w1) := hR1
 have hlt1 := hR1.lt
 clear hR1 H1
 go_wp2_with fail
 refine (store_any w.heap.size n cap a w1 hn HR1.out).mono ?_
 rintro e w2 ⟨v2, rt2, rfl, _, ps, a1, c1, rfl, hpl, HPS, HO2, HR2, HG2⟩
 have B2 := below_rd b1 HG2.out
 clear HR1 b1
 go_wp2_with fail
 refine (store_any w.heap.size n cap a w2 hn HR2.out).mono ?_
 rintro e w3 ⟨v3, rt3, rfl, _, qs, a2, c2, rfl, hql, HQS, HO3, HR3, HG3⟩
 have B3 := below_rd B2 HG3.out
 have HP3 := hidOwn ((keptR HO2.out HG3.out (rd_far HO2.out hlt1)).mono (Nat.le_of_lt hlt1))
 have HQ3 := hidOwn (HO3.out.mono (Nat.le_trans (Nat.le_of_lt hlt1) HG2.out.size))
 clear HR2 HR3 HG2 HG3 HO2 HO3
 go_wp2
 go_ret2
 exact ⟨ps, qs, a1, c1, a2, c2, rfl, hpl, hql, HPS.out, HQS.out, HP3.out, HQ3.out, B3⟩
set_option maxRecDepth 100000 in
set_option maxHeartbeats 8000000 in
theorem walk (a0 : Option Addr) (len0 cap0 : Nat) (w : World) (w0 : Code w a0 len0) (hT : Tab w) :
 Calls Tryz.prog 3 #[.slice a0 len0 cap0] w fun e w' => e = .returned (.bool true) ∧ Below w.heap.size w w' := by
 by_cases hb : len0 ≤ 1048576
 · have HB := bigNo len0 cap0 a0 w hb
   have HC : Hid (Code w a0 len0) := w0
   have HT : Hid (Tab w) := hT
   obtain ⟨i0, hi0, hz0, hz1, hz2⟩ := info_parts infoStored
   clear w0 hT
   go_enter Tryz.func3, Tryz.ntmps3
   go_wp2_with fail
   refine HB.mono ?_
   rintro e w ⟨rfl, rfl⟩
   clear HB
   have HD := drawStoreAdd len0 cap0 a0 w hb HC.out
   go_wp2_with fail
   refine HD.mono ?_
   rintro e w1 ⟨ps, qs, a1, c1, a2, c2, rfl, hpl, hql, hps, hqs, o1, o2, B1⟩
   have hca := own_none o1
   have hcb := own_none o2
   have I1 := (isPairs_own o1).2.2
   have I2 := (isPairs_own o2).2.2
   have HI : Hid (∀ W, Below w1.heap.size w1 W → IsPairs W a1 ps ∧ IsPairs W a2 qs) := fun W hW => ⟨I1.later hW, I2.later hW⟩
   have K2 := impl_storeAddG a1 c1 ps a2 c2 qs w1 (HT.out.later B1) (by omega) hps I1 (by omega) hqs I2
   have HK3 : Hid (∀ W, Below w1.heap.size w1 W → _) := fun W hW => spec_storeAddG a1 c1 ps a2 c2 qs W (by omega) hps (I1.later hW) (by omega) hqs (I2.later hW) hca hcb
   have HK4 : Hid (∀ W, Below w1.heap.size w1 W → Tab W → _) := fun W hW hT => impl_storeAddG a2 c2 qs a1 c1 ps W hT (by omega) hqs (I2.later hW) (by omega) hps (I1.later hW)
   have HF : Hid (addOk ps qs = true → AddF ps qs (addR ps qs)) := add_facts
   have hadd := add_small hps hqs
   have HPS : Hid (∀ p ∈ ps, p.1.length ≤ 1048576 ∧ p.2.length ≤ 1048576) := hps
   unfold AddPost at K2 HK3 HK4
   obtain ⟨R, hR⟩ : ∃ R, R = addR ps qs := ⟨_, rfl⟩
   obtain ⟨ok, hok⟩ : ∃ ok, ok = addOk ps qs := ⟨_, rfl⟩
   rw [← hR, ← hok] at K2 HK3 HF
   rw [← hR] at hadd
   have HRS : Hid (∀ p ∈ R, p.1.length ≤ 1048576 ∧ p.2.length ≤ 1048576) := hadd.1
   have hR4 := hadd.2
   have HAS : Hid (∀ p ∈ ps ++ qs, p.1.length ≤ 1048576 ∧ p.2.length ≤ 1048576) := fun p hp => by
    rcases List.mem_append.1 hp with h | h
    · exact hps p h
    · exact hqs p h
   clear HD o1 o2 I1 I2 hR hok hadd hps hqs
   go_wp2_with fail
   refine K2.mono ?_
   rintro e w2 ⟨a3, m3, c3, rfl, o3, b2⟩
   obtain ⟨rfl, _, i3⟩ := isPairs_own o3
   have B2 := B1.trans (b2.mono B1.size)
   have HI3 : Hid (∀ W, Below w2.heap.size w2 W → IsPairs W a3 R) := fun W hW => i3.later hW
   have Hb2 : Hid (Below w1.heap.size w1 w2) := b2
   have K3 := HK3.out w2 b2
   clear K2 o3 i3 b2 HK3
   go_wp2_with fail
   refine K3.mono ?_
   rintro e w3 ⟨a4, m4, c4, rfl, o4, b3⟩
   obtain ⟨rfl, _, i4⟩ := isPairs_own o4
   have B3 := B2.trans (b3.mono B2.size)
   have Hb3 : Hid (Below w2.heap.size w2 w3) := b3
   have I4 : Hid (IsPairs w3 a4 R) := i4
   have K4 := sameStores_same R a3 a4 c3 c4 w3 (by omega) (HI3.out w3 b3) i4
   clear K3 o4 i4 b3
   cases ok with
   | false =>
     clear HF HK4
     go_wp2_with fail
     refine K4.mono ?_
     rintro e w4 ⟨rfl, b4⟩
     have B4 := B3.trans (b4.mono B3.size)
     have K5 := sameStores_same R a3 a4 c3 c4 w4 (by omega) (HI3.out w4 (Hb3.out.trans (b4.mono Hb3.out.size))) (I4.out.later b4)
     clear K4 b4
     go_wp2_with fail
     refine K5.mono ?_
     rintro e w5 ⟨rfl, b5⟩
     have B5 := B4.trans (b5.mono B4.size)
     go_wp2
     go_ret
     exact ⟨rfl, B5⟩
   | true =>
     have hF := HF.out rfl
     have HSO : Hid (storeOkL R = true) := hF.ok
     have HAG : Hid (addOk R ps = true ∧ addR R ps = R) := hF.again
     have HALL : Hid (∀ x ∈ ps ++ qs, findL R x.1 = some x.2) := hF.all
     have hfew := hF.few
     have hsw := hF.swap
     rw [hsw.1, hsw.2] at HK4
     clear HF hF hsw
     go_wp2_with fail
     refine K4.mono ?_
     rintro e w4 ⟨rfl, b4⟩
     have B4 := B3.trans (b4.mono B3.size)
     have x4 : Below w2.heap.size w2 w4 := Hb3.out.trans (b4.mono Hb3.out.size)
     have y4 : Below w1.heap.size w1 w4 := Hb2.out.trans (x4.mono Hb2.out.size)
     have K5 := HK4.out w4 y4 (HT.out.later B4)
     clear K4 b4 HK4
     go_wp2_with fail
     refine K5.mono ?_
     rintro e w5 ⟨a5, m5, c5, rfl, o5, b5⟩
     obtain ⟨rfl, _, i5⟩ := isPairs_own o5
     have B5 := B4.trans (b5.mono B4.size)
     have x5 := x4.trans (b5.mono x4.size)
     have y5 := y4.trans (b5.mono y4.size)
     have HI5 : Hid (∀ W, Below w5.heap.size w5 W → IsPairs W a5 R) := fun W hW => i5.later hW
     have K6 := impl_storeAddG a3 c3 R a1 c1 ps w5 (HT.out.later B5) (by omega) HRS.out (HI3.out w5 x5) (by omega) HPS.out (HI.out w5 y5).1
     unfold AddPost at K6
     rw [HAG.out.1, HAG.out.2] at K6
     clear K5 b5 o5 i5 x4 y4
     go_wp2_with fail
     refine K6.mono ?_
     rintro e w6 ⟨a6, m6, c6, rfl, o6, b6⟩
     obtain ⟨rfl, _, i6⟩ := isPairs_own o6
     have B6 := B5.trans (b6.mono B5.size)
     have x6 := x5.trans (b6.mono x5.size)
     have y6 := y5.trans (b6.mono y5.size)
     have HI6 : Hid (∀ W, Below w6.heap.size w6 W → IsPairs W a6 R) := fun W hW => i6.later hW
     have Hx6 : Hid (Below w2.heap.size w2 w6) := x6
     have Hy6 : Hid (Below w1.heap.size w1 w6) := y6
     have Hz6 : Hid (Below w5.heap.size w5 w6) := b6
     have L1 : Hid (Below w6.heap.size w6 (w6.alloc (.cells #[] 33))) := (Below.refl _ _).alloc (Nat.le_refl _) _
     have HO0 := hidOwn (World.ownsRow_lit (e := 33) (size := 2) w6 #[] 0 (base := w6.heap.size) (Nat.le_refl _) (Nat.zero_le _) rfl)
     clear K6 b6 o6 i6 x5 y5 x6 y6
     go_wp2_with (first | (at_builtin; refine wpList_append_pairs rfl _ _ 24 rfl w6.heap.size 33 i0 (.agg #[.string ⟨#[]⟩, .string ⟨#[]⟩]) 32 Tryz.underlying24 hi0 hz0 hz1 hz2 rfl (.slice a7 m7 c7) (0 + ps.length) _ rfl OV7.out a2 qs c2 rfl hcb (HI.out w7 (Hy6.out.trans (B7.mono Hy6.out.size))).2 (by unfold maxLen; omega) (by omega) (by first | omega | (simp <;> omega)) ?_; intro v8 w8 hown8 hgrow8; obtain ⟨a8, m8, c8, rfl⟩ := own_slice2 hown8) | (at_builtin; refine wpList_append_pairs rfl _ _ 24 rfl w6.heap.size 33 i0 (.agg #[.string ⟨#[]⟩, .string ⟨#[]⟩]) 32 Tryz.underlying24 hi0 hz0 hz1 hz2 rfl (.slice (some ⟨w6.heap.size, 0, none⟩) 0 0) 0 _ rfl HO0.out a1 ps c1 rfl hca (HI.out _ (Hy6.out.trans (L1.out.mono Hy6.out.size))).1 (by unfold maxLen; omega) (by omega) (by simp <;> omega) ?_; intro v7 w7 hown7 hgrow7; obtain ⟨a7, m7, c7, rfl⟩ := own_slice2 hown7; have B7 : Below w6.heap.size w6 w7 := L1.out.grown hgrow7 (by simp) (fun q hq => by simp [Value.ownBlock] at hq; omega); have s7 := B7.size; have OV7 := hidOwn hown7; clear hown7 hgrow7))
     have b8 : Below w6.heap.size w6 w8 := B7.grown hgrow8 s7 (fun k hk => (OV7.out.lt k hk).1)
     have hown9 : w8.ownsRow w6.heap.size 33 2 (.slice a8 m8 c8) (ps ++ qs).length (pcells (ps ++ qs)) := by
      rw [pcells_app, List.length_append]; simpa using hown8
     obtain ⟨rfl, _, i8⟩ := isPairs_own hown9
     have B8 := B6.trans (b8.mono B6.size)
     have hal : (ps ++ qs).length = ps.length + qs.length := List.length_append
     have HI8 : Hid (∀ W, Below w8.heap.size w8 W → IsPairs W a8 (ps ++ qs)) := fun W hW => i8.later hW
     have Hb8 : Hid (Below w6.heap.size w6 w8) := b8
     obtain ⟨al, hale⟩ : ∃ al, al = ps ++ qs := ⟨_, rfl⟩
     rw [← hale] at HI8 HALL HAS hal ⊢
     have HLA : Hid (al.length = ps.length + qs.length) := hal
     have hal2 : al.length ≤ 7202 := by omega
     have hfew2 : R.length ≤ al.length := by omega
     clear hown8 hgrow8 hown9 i8 B7 OV7 L1 HO0 b8 hal hale s7
     go_wp2
     go_loopw [14, 15, 16] (fun i _ _ wr => ∃ j : Nat, j ≤ al.length ∧ i = .int .i64 (j : Int) ∧ Below w8.heap.size w8 wr) (fun i _ _ _ => al.length - (intOf i).toNat)
     case atStart => exact ⟨0, Nat.zero_le _, rfl, Below.refl _ _⟩
     case round =>
      obtain ⟨j, hj, rfl, hbel⟩ := hrel
      have BR := B8.trans (hbel.mono B8.size)
      by_cases hlt : j < al.length
      · obtain ⟨b, off, rfl, d1, d2⟩ : ∃ b off, a8 = some ⟨b, off, none⟩ ∧ wr.cell? ⟨b, off + j * 2, none⟩ = some (.string ⟨al[j].1.toArray⟩) ∧ wr.cell? ⟨b, off + j * 2 + 1, none⟩ = some (.string ⟨al[j].2.toArray⟩) := by
         rcases HI8.out wr hbel with h | ⟨b, off, h, hc⟩
         · rw [h] at hlt; simp at hlt
         · exact ⟨b, off, h, hc j hlt⟩
        have hj0 : (0 : Int) ≤ (j : Int) := by omega
        have hj1 : (j : Int) < (al.length : Int) := by omega
        have hmem := List.getElem_mem (h := hlt)
        have hfd := HALL.out _ hmem
        have KG := impl_storeGet a3 c3 R al[j].1 wr (HT.out.later BR) (by omega) (HAS.out _ hmem).1 HRS.out (HI3.out wr (Hx6.out.trans ((Hb8.out.trans (hbel.mono Hb8.out.size)).mono Hx6.out.size))) al[j].2 true (by rw [HSO.out, hfd]; rfl) (by rw [HSO.out, hfd]; rfl)
        obtain ⟨x, hx⟩ : ∃ x, x = al[j].1 := ⟨_, rfl⟩
        obtain ⟨y, hy⟩ : ∃ y, y = al[j].2 := ⟨_, rfl⟩
        rw [← hx] at d1 KG
        rw [← hy] at d2 KG
        have hbl := World.block_lt_of_cell? wr _ d2
        have HD2 : Hid (wr.cell? ⟨b, off + j * 2 + 1, none⟩ = some (.string ⟨y.toArray⟩)) := d2
        have HBE : Hid (Below w8.heap.size w8 wr) := hbel
        clear hx hy hmem hfd HALL HAS hbel
        go_wp2_with fail
        refine KG.mono ?_
        rintro e w9 ⟨rfl, b9⟩
        have e2 := (b9.cell (p := ⟨b, off + j * 2 + 1, none⟩) hbl).trans HD2.out
        have bel9 := HBE.out.trans (b9.mono HBE.out.size)
        clear KG b9 d1 d2
        go_wp2
        go_roundw
        case rel => exact ⟨j + 1, by omega, by go_num, bel9⟩
        case measure => simp [intOf]; omega
      · have hjl : j = al.length := by omega
        subst hjl
        have bR := Hb8.out.trans (hbel.mono Hb8.out.size)
        have K9 := sameStores_same R a5 a3 c5 c3 wr (by omega) (HI5.out wr (Hz6.out.trans (bR.mono Hz6.out.size))) (HI3.out wr (Hx6.out.trans (bR.mono Hx6.out.size)))
        have HBR : Hid (Below w6.heap.size w6 wr) := bR
        clear hbel HALL HAS hlt hj bR
        go_wp2_with fail
        refine K9.mono ?_
        rintro e w10 ⟨rfl, b10⟩
        have B10 := BR.trans (b10.mono BR.size)
        have r10 := HBR.out.trans (b10.mono HBR.out.size)
        have K10 := sameStores_same R a6 a3 c6 c3 w10 (by omega) (HI6.out w10 r10) (HI3.out w10 (Hx6.out.trans (r10.mono Hx6.out.size)))
        have HR10 : Hid (Below w6.heap.size w6 w10) := r10
        clear K9 b10 r10
        go_wp2_with fail
        refine K10.mono ?_
        rintro e w11 ⟨rfl, b11⟩
        have B11 := B10.trans (b11.mono B10.size)
        have r11 := HR10.out.trans (b11.mono HR10.out.size)
        have K11 := impl_storeOk a3 c3 R w11 (HT.out.later B11) (by omega) HRS.out (HI3.out w11 (Hx6.out.trans (r11.mono Hx6.out.size)))
        rw [HSO.out] at K11
        clear K10 b11 r11
        go_wp2_with fail
        refine K11.mono ?_
        rintro e w12 ⟨rfl, b12⟩
        have B12 := B11.trans (b12.mono B11.size)
        have hle : (R.length : Int) ≤ (al.length : Int) := by omega
        have hleb : decide ((R.length : Int) ≤ (al.length : Int)) = true := decide_eq_true hle
        clear K11 b12
        go_wp2
        go_ret
        exact ⟨rfl, B12⟩
 · have HB := bigYes len0 cap0 a0 w hb
   clear w0
   go_enter Tryz.func3, Tryz.ntmps3
   go_wp2_with fail
   refine HB.mono ?_
   rintro e w1 ⟨rfl, rfl⟩
   go_wp2
   go_ret
   exact ⟨rfl, Below.refl _ _⟩
set_option maxRecDepth 100000 in
theorem lifted (os : Os) (started : os.Started) (H : Type) (enc : TypeId × Value → H) :
 ReturnsInHanded {} Tryz.checked os 3 .any (fun w args => (Rows.fnStoredSpec.pre enc Tryz.prog Tryz.f3 [] false w args ∧ laidMetH Tryz.prog Rows.fnStoredRow.laid w) ∧ sizedMet enc Tryz.prog Tryz.f3 (OpenSpec.ofChange Rows.fnStoredSpec) false w args)
  (Rows.fnStoredSpec.post enc Tryz.prog Tryz.f3 false true false false) := by
 refine returnsInHanded_of_change_and (C := Tryz.checked) (X := fun w _ => laidMetH Tryz.prog Rows.fnStoredRow.laid w) (fun _ _ _ hh h => h.of_heap hh) own started (by kernel_rfl) Tryz.func3
  (ChangeSpec.witness_shaped (enc := enc) (C := Tryz.checked) (os := os) (X := fun w _ => laidMetH Tryz.prog Rows.fnStoredRow.laid w) false (World.doorLaid Tryz.prog 400 os) #[.slice none 0 0] 8 rfl (World.shaped_of_RefB (by kernel_rfl) (by kernel_rfl)) (by kernel_rfl) (by kernel_rfl) (by kernel_rfl) (door_met os _)) ?_
 intro W base args ds gs before hval0 hW _ _ hL _
 have hval : ∀ (j : Nat) t v, Tryz.f3.params[j]? = some t → args[j]? = some v → Value.okWide Tryz.prog W .any base t v := hval0
 have hW' := hW
 obtain ⟨p, q, hA0, hV0, rfl, hfz, hnd⟩ := hW
 have hA : DataW.TrodAll enc Tryz.prog W 0 (fun _ => true) true Tryz.f3.params.toList args.toList ds p := hA0
 have hV : DataW.TrodVars enc Tryz.prog W (fun _ => true) ["loop.example/g00226/impl.roundWords"] gs q := hV0
 rw [Tryz.params3] at hA hval
 obtain ⟨v0, vs0, d0, ds0, p0, q0, hargs, rfl, rfl, h0, r0⟩ := trodAll_cons hA
 obtain ⟨rfl, rfl, rfl⟩ := trodAll_nil r0
 obtain rfl : args = #[v0] := by cases args; simp_all
 obtain ⟨a0, len0, cap0, rfl⟩ := okWide_slice Tryz.underlying22 (hval 0 22 v0 rfl rfl)
 have k0 := h0
 have lt0 : ∀ x ∈ p0, x.block < W.heap.size := by obtain ⟨m, hm⟩ := k0; exact DataW.trod_lt m _ _ _ hm
 have w0 : Code W a0 len0 := by
  obtain ⟨fuel, hf⟩ := h0
  rcases open_ints Tryz.underlying22 Tryz.underlying5 (by kernel_rfl) hf with ⟨hcs, _⟩ | ⟨x, l, c, zs, hcs, _, hl, hm, hz, _, hcell, hwz⟩
  · simp [Value.cells] at hcs
    obtain ⟨rfl, rfl, rfl⟩ := hcs
    exact .inl rfl
  · simp [Value.cells] at hcs
    obtain ⟨rfl, rfl, rfl⟩ := hcs
    exact codeOf W x _ _ zs hl (by simpa using hz) hcell hwz
 obtain ⟨g, t, cs, fuel, d, p', rfl, hg, ht, hvar, hd, rfl⟩ := trodVars_one hV
 obtain rfl := Option.some.inj (gTab.symm.trans hg)
 obtain rfl := Option.some.inj (tTab.symm.trans ht)
 have hT := tab_of hL
 have hltv : ∀ x ∈ p', x.block < W.heap.size := fun x hx => hW'.lt x (List.mem_append_right _ (List.mem_append_right _ hx))
 clear hA0 hV0 hval0 hA hV
 refine (walk a0 len0 cap0 W w0 hT).mono fun e W' ⟨he, hB⟩ => ?_
 subst he
 obtain ⟨fuel', hd'⟩ := Below.trod laidOut0 (by kernel_rfl) (of_decide_eq_true (by kernel_rfl)) (v := .agg cs) (⟨fuel, by simpa [Value.cells] using hd⟩ : DataW.Trod enc Tryz.prog W 0 (fun _ => true) true 130 (.agg cs) d p') hB hltv
 have hv' := trodVars_mk1 (enc := enc) (spare := fun b => decide (b < W.heap.size)) hg ht (var?_below hB hg hT.1 hvar) (by simpa [Value.cells] using hd')
 exact ⟨_, rfl, _, _, _, [], _, _, hW', trodAll_mk1 (shut_bool Tryz.underlying4 _), (trodAll_cons_mk (Below.trod laidOut0 (by kernel_rfl) (of_decide_eq_true (by kernel_rfl)) k0 hB lt0) trodAll_mk0), hv', hB.frame _, fun h => by cases h⟩
theorem named0 : Tryz.prog.funcNamed "loop.example/g00226/laws.FnStored" = some 3 := by kernel_rfl
theorem closed0 : joinedFacts Tryz.prog 3 Tryz.f3 Rows.fnStoredSpec Rows.fnStoredRow = true := by
 unfold joinedFacts
 rw [seat_may, seat_lifts, seat_make]
 kernel_rfl
theorem inst0 : Tryz.f3.isInstance Tryz.prog Rows.fnStoredRow.origin Rows.fnStoredRow.targs := of_decide_eq_true (by kernel_rfl)
theorem wrap0 : Tryz.f3.isWrapper Tryz.prog Rows.fnStoredRow.wrapper Rows.fnStoredRow.mainSum := by unfold Func.isWrapper; first | (rw [if_pos (by decide +kernel)]; kernel_rfl) | (rw [if_neg (by decide +kernel)]; exact ⟨rfl, rfl⟩)
theorem over : Rows.fnStoredRow.holds Tryz.pinned (OpenSpec.ofChange Rows.fnStoredSpec) :=
 OpenClaim.holds_of_wide 3 Tryz.f3 rfl rfl rfl rfl rfl rfl rfl ⟨rfl, rfl, rfl, rfl, rfl⟩ rfl rfl rfl rfl rfl named0 Tryz.func3 closed0 inst0 wrap0
  (fun os started H enc _ => lifted os started H enc)
theorem text0 : Rows.fnStoredRow.wfByText (OpenSpec.ofChange Rows.fnStoredSpec) = true := by kernel_rfl
theorem looks0 : false = Tryz.prog.looks [] := by kernel_rfl
theorem goes0 : false = Rows.fnStoredRow.goesBy Tryz.prog := by kernel_rfl
theorem wants0 : ([22].all fun u => !Tryz.prog.wantsStandIn u) = true := by kernel_rfl
theorem card : Claim7.holds Tryz.pinned (.plain (OpenSpec.ofChange Rows.fnStoredSpec)) Rows.fnStoredCard :=
 Claim7.holds_tied_plain_at .later [] [.data] true (true, Rows.fnStoredCard.stood.harness.2) false
  over (fun _ h => by cases h) text0 (fun _ h => by cases h) fnStored_row_tie rfl ⟨rfl, rfl⟩ seat_main rfl
  (fun f fn hf hfn => by
   obtain rfl : f = 3 := Option.some.inj (named0.symm.trans hf) |>.symm
   obtain rfl : fn = Tryz.f3 := (Option.some.inj (Tryz.func3.symm.trans hfn)).symm
   exact ⟨looks0, fun j t ht => by
    rw [Tryz.params3] at ht
    have hm : t ∈ [22] := by simpa using Array.mem_of_getElem? ht
    exact (show Tryz.prog.wantsStandIn t = false by simpa using List.all_eq_true.1 wants0 t hm)⟩)
  goes0
end Go.Proofs.YtelcjhkmlleodaaGreatDoor.fnStored
namespace Go.Proofs.YtelcjhkmlleodaaGreatDoor
theorem fnStored_holds : Rows.FnStoredCardSaid := fnStored.card
end Go.Proofs.YtelcjhkmlleodaaGreatDoor
