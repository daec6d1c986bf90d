/-
  At every root, text and signature Verify answers as its model; it writes into no argument. No condition; the round words are laid as the program's text lays them.
-/
import Derived.Test.YtnhdkhngpnialaaDoorIVer
import Derived.Test.YtnhdkhngpnialaaDoorSVer
import Derived.Test.YtnhdkhngpnialaaDoorILaw4
import Derived.Test.YtnhdkhngpnialaaDoorOpen4
import Derived.Test.YtnhdkhngpnialaaDoorSeatA
import Derived.Test.YtnhdkhngpnialaaDoorSeatB
import Derived.Test.YtnhdkhngpnialaaDoorTie
import Derived.Test.YtnhdkhngpnialaaDoorCards
import Derived.ProofKit
import Derived.LaidMore
import Derived.OpenShut
import Derived.ShutString
import Derived.ChangeOld
import Derived.Below
import Derived.Stop.Joined
import Derived.Lib.LaidTab
import Derived.SevenTiedAt
import Derived.SliceStrings
namespace Go.Proofs.YtnhdkhngpnialaaDoor.fnExactVerify
open Go.ChangeShapes Go.WideShapes Go.ChangeAt Go.RowKit
open Go.ChangeMaps (open_string shut_string)
set_option linter.unusedVariables false

theorem own : ownKnob Tryd.prog.godebug = none := by kernel_rfl
theorem laidOut0 : laidOutB Tryd.prog = true := by kernel_rfl
theorem gTab : Tryd.prog.globalNamed "loop.example/g00226/impl.roundWords" = some 0 := by kernel_rfl
theorem tTab : (Tryd.prog.globals[0]?).map (·.type) = some 134 := by kernel_rfl

/-- The door's own heap meets the condition. -/
theorem door_met (os : Os) (args : Array Value) : laidMetH Tryd.prog Rows.fnExactVerifyRow.laid ((World.doorLaid Tryd.prog 400 os).forCall (fun _ _ => 0) ⟨#[], args, []⟩).memory :=
  laidMetH_of_parts3 (fuel := 8) (laidMet_of_run' 8 (by kernel_rfl) (by kernel_rfl)) (by kernel_rfl) (by kernel_rfl)

/-- What the condition gives the walks: the round words' cells. -/
theorem tab_of {W : World} (h : laidMetH Tryd.prog Rows.fnExactVerifyRow.laid W) : Tab W := by
  rw [MakeChecks.laidMetH_plain _ _ _ (by kernel_rfl)] at h
  have hT : Lib.TabIs Tryd.prog W "loop.example/g00226/impl.roundWords" .u32 (kL.map fun x => num x) := Lib.tabIs_of_head (rest := []) gTab tTab Tryd.underlying134 Tryd.underlying104 (by kernel_rfl) (by kernel_rfl) h
  have hc : ∀ i, i < 64 → W.cell? ⟨0, i, none⟩ = some (.int .u32 (num (kL.getD i 0))) := fun i hi => by
    have hl : i < kL.length := hi
    have := hT.cell gTab i (by rw [List.length_map]; exact hl)
    rw [this]
    simp [List.getD, hl]
  exact ⟨block_lt_of_cell (hc 0 (by omega)), hc⟩

set_option maxRecDepth 100000 in
set_option maxHeartbeats 4000000 in
theorem walk (a0 : ByteArray) (w0 : a0.size ≤ maxLen) (a1 : ByteArray) (w1 : a1.size ≤ maxLen) (i : Int) (ao ap : Option Addr) (co cp : Nat) (os ps : List (List UInt8)) (w : World) (hso : IsStrs w ao os) (hsp : IsStrs w ap ps) (hlo : os.length ≤ 9223372036854775807) (hlp : ps.length ≤ 9223372036854775807) (hmo : ∀ l ∈ os, l.length ≤ 9223372036854775807) (hmp : ∀ l ∈ ps, l.length ≤ 9223372036854775807) (hT : Tab w) :
    Calls Tryd.prog 18 #[.string a0, .string a1, .agg #[.int .i64 i, .slice ao os.length co, .slice ap ps.length cp]] w fun e w' => e = .returned (.bool true) ∧ Below w.heap.size w w' := by
  unfold maxLen at w0 w1
  have HT : Hid (Tab w) := hT
  clear hT
  have Bb : Below w.heap.size w (w.alloc (.cells #[.int .i64 i, .slice ao os.length co, .slice ap ps.length cp] 68)) := (Below.refl _ _).alloc (Nat.le_refl _) _
  by_cases hb : a0.size ≤ 1048576
  · by_cases hb1 : a1.size ≤ 1048576
    · have e0 : a0 = ⟨a0.data.toList.toArray⟩ := ba_eq a0
      have hl : a0.data.toList.length ≤ 1048576 := by rw [Array.length_toList]; exact hb
      have e1 : a1 = ⟨a1.data.toList.toArray⟩ := ba_eq a1
      have hm : a1.data.toList.length ≤ 1048576 := by rw [Array.length_toList]; exact hb1
      obtain ⟨s, hs⟩ : ∃ s, s = a0.data.toList := ⟨_, rfl⟩
      obtain ⟨msg, hmsg⟩ : ∃ s, s = a1.data.toList := ⟨_, rfl⟩
      rw [← hs] at e0 hl
      rw [← hmsg] at e1 hm
      clear hs hmsg
      subst e0
      subst e1
      obtain ⟨r, ok, hr⟩ := rootIs_some msg i os ps
      have hrS : RootIsS msg i os ps r ok := hr
      have KZ := szSig_any i ao ap co cp os ps (w.alloc (.cells #[.int .i64 i, .slice ao os.length co, .slice ap ps.length cp] 68)) hlo hmo hlp hmp (hso.later Bb) (hsp.later Bb)
      have HS : Hid (∀ W, Below w.heap.size w W → IsStrs W ao os ∧ IsStrs W ap ps) := fun W hW => ⟨hso.later hW, hsp.later hW⟩
      have hblk := heap_alloc_new w (.cells #[.int .i64 i, .slice ao os.length co, .slice ap ps.length cp] 68)
      clear hso hsp hmo hmp
      go_enter Tryd.func18, Tryd.ntmps18
      go_wp2_with fail
      refine KZ.mono ?_
      rintro e w1 ⟨he, b1⟩
      have B1 := Bb.trans (b1.mono (by simp))
      have k1 := (b1.block w.heap.size (by simp)).trans hblk
      have n1 : w.heap.size < w1.heap.size := by have := b1.size; simp at this; omega
      clear KZ b1 hblk
      rcases he with rfl | ⟨hbig, n, rfl⟩
      · go_wp2
        go_ret
        exact ⟨rfl, B1⟩
      · have hlo' : os.length ≤ 1048576 := by omega
        have hlp' : ps.length ≤ 1048576 := by omega
        have hmo' : ∀ l ∈ os, l.length ≤ 1048576 := fun l hl => by obtain ⟨j, hj, rfl⟩ := List.getElem_of_mem hl; have := each_le os j hj; omega
        have hmp' : ∀ l ∈ ps, l.length ≤ 1048576 := fun l hl => by obtain ⟨j, hj, rfl⟩ := List.getElem_of_mem hl; have := each_le ps j hj; omega
        obtain ⟨vb, hvb⟩ : ∃ vb, vb = (ok && decide (r = s)) := ⟨_, rfl⟩
        have HR1 : Hid (∀ a b c d W, IsStrs W a os → IsStrs W b ps → Calls Tryd.prog 42 #[.string ⟨s.toArray⟩, .string ⟨msg.toArray⟩, .agg #[.int .i64 i, .slice a os.length c, .slice b ps.length d]] W fun e w' => e = .returned (.bool vb) ∧ Below W.heap.size W w') := fun a b c d W h1 h2 => by rw [hvb]; exact spec_verify s msg i a b c d os ps W hm hlo' hmo' hlp' hmp' h1 h2 r ok hrS
        have HR2 : Hid (∀ a b c d W, IsStrs W a os → IsStrs W b ps → Tab W → Calls Tryd.prog 37 #[.string ⟨s.toArray⟩, .string ⟨msg.toArray⟩, .agg #[.int .i64 i, .slice a os.length c, .slice b ps.length d]] W fun e w' => e = .returned (.bool vb) ∧ Below W.heap.size W w') := fun a b c d W h1 h2 h3 => by rw [hvb]; exact impl_verify s msg i a b c d os ps W hm hlo' hmo' hlp' hmp' h1 h2 h3 r ok hr
        have HTS : Hid (∀ W, Below w.heap.size w W → Calls Tryd.prog 62 #[.agg #[.int .i64 i, .slice ao os.length co, .slice ap ps.length cp]] W fun e w' => ∃ g1 g2 : Nat, e = .returned (.agg #[.int .i64 i, .slice (some ⟨g1, 0, none⟩) os.length os.length, .slice (some ⟨g2, 0, none⟩) ps.length ps.length]) ∧ w'.ownsRow W.heap.size 9 1 (.slice (some ⟨g1, 0, none⟩) os.length os.length) os.length (scells os) ∧ w'.ownsRow W.heap.size 9 1 (.slice (some ⟨g2, 0, none⟩) ps.length ps.length) ps.length (scells ps) ∧ Below W.heap.size W w') := fun W hW => toSig_any i ao ap co cp os ps W hlo' hlp' (HS.out W hW).1 (HS.out W hW).2
        obtain ⟨p0, p1, p2, _⟩ := tri_cells k1
        clear hvb hr hrS hmo' hmp' hbig hlo hlp HS
        go_wp2_with fail
        refine (HTS.out _ B1).mono ?_
        rintro e w2 ⟨g1, g2, rfl, o1, o2, b2⟩
        have B2 := B1.trans (b2.mono B1.size)
        have k2 := (b2.block w.heap.size n1).trans k1
        have n2 : w.heap.size < w2.heap.size := Nat.lt_of_lt_of_le n1 b2.size
        have I1 : Hid (IsStrs w2 _ os ∧ IsStrs w2 _ ps) := ⟨(isStrs_own o1).2.2, (isStrs_own o2).2.2⟩
        clear o1 o2 b2 B1 k1 p0 p1 p2
        go_wp2_with fail
        refine (HR1.out _ _ _ _ _ I1.out.1 I1.out.2).mono ?_
        rintro e w3 ⟨rfl, b3⟩
        have B3 := B2.trans (b3.mono B2.size)
        have k3 := (b3.block w.heap.size n2).trans k2
        have n3 : w.heap.size < w3.heap.size := Nat.lt_of_lt_of_le n2 b3.size
        obtain ⟨p0, p1, p2, _⟩ := tri_cells k3
        clear b3 B2 k2 I1
        go_wp2_with fail
        refine (HTS.out _ B3).mono ?_
        rintro e w4 ⟨g3, g4, rfl, o3, o4, b4⟩
        have B4 := B3.trans (b4.mono B3.size)
        have k4 := (b4.block w.heap.size n3).trans k3
        have n4 : w.heap.size < w4.heap.size := Nat.lt_of_lt_of_le n3 b4.size
        have O3 := hidOwn o3
        have O4 := hidOwn o4
        clear o3 o4 b4 B3 k3 p0 p1 p2
        have Bl : Below w4.heap.size w4 (w4.alloc (.cells #[.int .i64 i, .slice (some ⟨g3, 0, none⟩) os.length os.length, .slice (some ⟨g4, 0, none⟩) ps.length ps.length] 45)) := (Below.refl _ _).alloc (Nat.le_refl _) _
        have P3 := hidOwn (keptO O3.out Bl)
        have P4 := hidOwn (keptO O4.out Bl)
        have I4 : Hid (IsStrs (w4.alloc (.cells #[.int .i64 i, .slice (some ⟨g3, 0, none⟩) os.length os.length, .slice (some ⟨g4, 0, none⟩) ps.length ps.length] 45)) _ os ∧ IsStrs (w4.alloc (.cells #[.int .i64 i, .slice (some ⟨g3, 0, none⟩) os.length os.length, .slice (some ⟨g4, 0, none⟩) ps.length ps.length] 45)) _ ps) := ⟨(isStrs_own P3.out).2.2, (isStrs_own P4.out).2.2⟩
        have B5 := B4.trans (Bl.mono B4.size)
        have x5 := heap_alloc_new w4 (.cells #[.int .i64 i, .slice (some ⟨g3, 0, none⟩) os.length os.length, .slice (some ⟨g4, 0, none⟩) ps.length ps.length] 45)
        have k5 := (Bl.block w.heap.size n4).trans k4
        clear O3 O4 B4 Bl k4
        go_wp2_with fail
        refine (HR2.out _ _ _ _ _ I4.out.1 I4.out.2 (HT.out.later B5)).mono ?_
        rintro e w6 ⟨rfl, b6⟩
        have B6 := B5.trans (b6.mono B5.size)
        have x6 := (b6.block w4.heap.size (by simp)).trans x5
        have k6 := (b6.block w.heap.size (by simp; omega)).trans k5
        have n6 : w4.heap.size < w6.heap.size := by have := b6.size; simp at this; omega
        have Q3 := hidOwn (keptO P3.out b6)
        have Q4 := hidOwn (keptO P4.out b6)
        obtain ⟨p0, p1, p2, _⟩ := tri_cells k6
        obtain ⟨z0, z1, z2, _⟩ := tri_cells x6
        clear b6 B5 x5 k5 P3 P4 I4
        have B6d : Below w.heap.size w w6.drew := ⟨B6.os, B6.tape, B6.output, B6.size, B6.block⟩
        have n6w : w.heap.size < w6.heap.size := by omega
        clear x6 k6
        go_wp2_with fail
        go_region_held3 (fun w' => w'.cell? ⟨w.heap.size, 0, none⟩ = some (.int .i64 i) ∧ w'.cell? ⟨w.heap.size, 1, none⟩ = some (.slice ao os.length co) ∧ w'.cell? ⟨w.heap.size, 2, none⟩ = some (.slice ap ps.length cp) ∧ w'.cell? ⟨w4.heap.size, 0, none⟩ = some (.int .i64 i) ∧ w'.cell? ⟨w4.heap.size, 1, none⟩ = some (.slice (some ⟨g3, 0, none⟩) os.length os.length) ∧ w'.cell? ⟨w4.heap.size, 2, none⟩ = some (.slice (some ⟨g4, 0, none⟩) ps.length ps.length))
          (first | (exact ⟨by assumption, by assumption, by assumption, by assumption, by assumption, by assumption⟩) | go_keep)
          (first
            | (go_at_call 57
               refine (eqSig_same i (some ⟨g3, 0, none⟩) (some ⟨g4, 0, none⟩) (some ⟨g5, 0, none⟩) (some ⟨g6, 0, none⟩) os.length ps.length os.length ps.length os.length ps.length os.length ps.length os ps _ _ _ _ w7 hlo7 hlp7 R3.out R4.out O5.out O6.out).mono ?_
               rintro e w8 ⟨rfl, b8⟩
               have B8 := B7.trans (b8.mono B7.size)
               have a0 := (b8.cell (p := ⟨w.heap.size, 0, none⟩) n7).trans c0
               have a1 := (b8.cell (p := ⟨w.heap.size, 1, none⟩) n7).trans c1
               have a2 := (b8.cell (p := ⟨w.heap.size, 2, none⟩) n7).trans c2
               have a3 := (b8.cell (p := ⟨w4.heap.size, 0, none⟩) n7x).trans c3
               have a4 := (b8.cell (p := ⟨w4.heap.size, 1, none⟩) n7x).trans c4
               have a5 := (b8.cell (p := ⟨w4.heap.size, 2, none⟩) n7x).trans c5
               clear b8)
            | (go_at_call 62
               refine (HTS.out w6.drew B6d).mono ?_
               rintro e w7 ⟨g5, g6, rfl, o5, o6, b7⟩
               have b7' : Below w6.heap.size w6 w7 := ⟨b7.os, b7.tape, b7.output, b7.size, b7.block⟩
               have B7 := B6.trans (b7'.mono B6.size)
               have c0 := (b7'.cell (p := ⟨w.heap.size, 0, none⟩) n6w).trans p0
               have c1 := (b7'.cell (p := ⟨w.heap.size, 1, none⟩) n6w).trans p1
               have c2 := (b7'.cell (p := ⟨w.heap.size, 2, none⟩) n6w).trans p2
               have c3 := (b7'.cell (p := ⟨w4.heap.size, 0, none⟩) n6).trans z0
               have c4 := (b7'.cell (p := ⟨w4.heap.size, 1, none⟩) n6).trans z1
               have c5 := (b7'.cell (p := ⟨w4.heap.size, 2, none⟩) n6).trans z2
               have n7 : w.heap.size < w7.heap.size := Nat.lt_of_lt_of_le n6w b7'.size
               have n7x : w4.heap.size < w7.heap.size := Nat.lt_of_lt_of_le n6 b7'.size
               have hlo7 : os.length ≤ 16777216 := Nat.le_trans hlo' (by decide)
               have hlp7 : ps.length ≤ 16777216 := Nat.le_trans hlp' (by decide)
               have O5 := hidOwn o5
               have O6 := hidOwn o6
               have R3 := hidOwn (keptO Q3.out b7')
               have R4 := hidOwn (keptO Q4.out b7')
               clear b7 b7' o5 o6))
        all_goals
          go_wp2
          go_ret
          exact ⟨rfl, B8⟩
    · go_enter Tryd.func18, Tryd.ntmps18
      go_wp2
      go_ret
      exact ⟨rfl, Bb⟩
  · go_enter Tryd.func18, Tryd.ntmps18
    go_wp2
    go_ret
    exact ⟨rfl, Bb⟩

set_option maxRecDepth 100000 in
theorem lifted (os : Os) (started : os.Started) (H : Type) (enc : TypeId × Value → H) :
    ReturnsInHanded {} Tryd.checked os 18 .any (fun w args => (Rows.fnExactVerifySpec.pre enc Tryd.prog Tryd.f18 [] false w args ∧ laidMetH Tryd.prog Rows.fnExactVerifyRow.laid w) ∧ sizedMet enc Tryd.prog Tryd.f18 (OpenSpec.ofChange Rows.fnExactVerifySpec) false w args)
      (Rows.fnExactVerifySpec.post enc Tryd.prog Tryd.f18 false true false false) := by
  refine returnsInHanded_of_change_and (C := Tryd.checked) (X := fun w _ => laidMetH Tryd.prog Rows.fnExactVerifyRow.laid w) (fun _ _ _ hh h => h.of_heap hh) own started (by kernel_rfl) Tryd.func18
    (ChangeSpec.witness_shaped (enc := enc) (C := Tryd.checked) (os := os) (X := fun w _ => laidMetH Tryd.prog Rows.fnExactVerifyRow.laid w) false (World.doorLaid Tryd.prog 400 os) #[.string ByteArray.empty, .string ByteArray.empty, .agg #[.int .i64 0, .slice none 0 0, .slice none 0 0]] 8 rfl (World.shaped_of_RefB (by kernel_rfl) (by kernel_rfl)) (by kernel_rfl) (by kernel_rfl) (by kernel_rfl) (door_met os _)) ?_
  intro W base args ds gs before hval0 hW _ _ hL _
  have hval : ∀ (j : Nat) t v, Tryd.f18.params[j]? = some t → args[j]? = some v → Value.okWide Tryd.prog W .any base t v := hval0
  have hW' := hW
  obtain ⟨p, q, hA0, hV0, rfl, hfz, hnd⟩ := hW
  have hA : DataW.TrodAll enc Tryd.prog W 0 (fun _ => true) true Tryd.f18.params.toList args.toList ds p := hA0
  have hV : DataW.TrodVars enc Tryd.prog W (fun _ => true) ["loop.example/g00226/impl.roundWords"] gs q := hV0
  rw [Tryd.params18] at hA hval
  obtain ⟨v0, vs0, d0, ds0, p0, q0, hargs0, rfl, rfl, h0, r0⟩ := trodAll_cons hA
  obtain ⟨v1, vs1, d1, ds1, p1, q1, hargs1, rfl, rfl, h1, r1⟩ := trodAll_cons r0
  obtain ⟨v2, vs2, d2, ds2, p2, q2, hargs2, rfl, rfl, h2, r2⟩ := trodAll_cons r1
  obtain ⟨rfl, rfl, rfl⟩ := trodAll_nil r2
  obtain rfl : args = #[v0, v1, v2] := by cases args; simp_all
  obtain ⟨a0, rfl, rfl, rfl, w0⟩ := open_string Tryd.underlying9 (hval 0 9 v0 rfl rfl) h0
  obtain ⟨a1, rfl, rfl, rfl, w1⟩ := open_string Tryd.underlying9 (hval 1 9 v1 rfl rfl) h1
  have k2 := h2
  have lt2 : ∀ x ∈ p2, x.block < W.heap.size := by obtain ⟨m, hm⟩ := k2; exact DataW.trod_lt m _ _ _ hm
  obtain ⟨i, ao, ap, co, cp, os, ps, rfl, hso, hsp, hlo, hlp, hmo, hmp⟩ := sig_of (hval 2 68 v2 rfl rfl) h2
  obtain ⟨g, t, cs, fuel, d, p', rfl, hg, ht, hvar, hd, rfl⟩ := trodVars_one hV
  obtain rfl := Option.some.inj (gTab.symm.trans hg)
  obtain rfl := Option.some.inj (tTab.symm.trans ht)
  have hT := tab_of hL
  have hltv : ∀ x ∈ p', x.block < W.heap.size := fun x hx => hW'.lt x (List.mem_append_right _ (List.mem_append_right _ hx))
  clear hA0 hV0 hval0 hA hV
  refine (walk a0 w0 a1 w1 i ao ap co cp os ps W hso hsp hlo hlp hmo hmp hT).mono fun e W' ⟨he, hB⟩ => ?_
  subst he
  obtain ⟨fuel', hd'⟩ := Below.trod laidOut0 (by kernel_rfl) (of_decide_eq_true (by kernel_rfl)) (v := .agg cs) (⟨fuel, by simpa [Value.cells] using hd⟩ : DataW.Trod enc Tryd.prog W 0 (fun _ => true) true 134 (.agg cs) d p') hB hltv
  have hv' := trodVars_mk1 (enc := enc) (spare := fun b => decide (b < W.heap.size)) hg ht (var?_below hB hg hT.1 hvar) (by simpa [Value.cells] using hd')
  exact ⟨_, rfl, _, _, _, [], _, _, hW', trodAll_mk1 (shut_bool Tryd.underlying4 _), (trodAll_cons_mk (shut_string Tryd.underlying9 w0) (trodAll_cons_mk (shut_string Tryd.underlying9 w1) (trodAll_cons_mk (Below.trod laidOut0 (by kernel_rfl) (of_decide_eq_true (by kernel_rfl)) k2 hB lt2) trodAll_mk0))), hv', hB.frame _, fun h => by cases h⟩

theorem named0 : Tryd.prog.funcNamed "loop.example/g00226/laws.FnExactVerify" = some 18 := by kernel_rfl
theorem closed0 : joinedFacts Tryd.prog 18 Tryd.f18 Rows.fnExactVerifySpec Rows.fnExactVerifyRow = true := by
  unfold joinedFacts
  rw [seat_may, seat_lifts, seat_make]
  kernel_rfl
theorem inst0 : Tryd.f18.isInstance Tryd.prog Rows.fnExactVerifyRow.origin Rows.fnExactVerifyRow.targs := of_decide_eq_true (by kernel_rfl)
theorem wrap0 : Tryd.f18.isWrapper Tryd.prog Rows.fnExactVerifyRow.wrapper Rows.fnExactVerifyRow.mainSum := by unfold Func.isWrapper; first | (rw [if_pos (by decide +kernel)]; kernel_rfl) | (rw [if_neg (by decide +kernel)]; exact ⟨rfl, rfl⟩)

theorem over : Rows.fnExactVerifyRow.holds Tryd.pinned (OpenSpec.ofChange Rows.fnExactVerifySpec) :=
  OpenClaim.holds_of_wide 18 Tryd.f18 rfl rfl rfl rfl rfl rfl rfl ⟨rfl, rfl, rfl, rfl, rfl⟩ rfl rfl rfl rfl rfl named0 Tryd.func18 closed0 inst0 wrap0
    (fun os started H enc _ => lifted os started H enc)

theorem text0 : Rows.fnExactVerifyRow.wfByText (OpenSpec.ofChange Rows.fnExactVerifySpec) = true := by kernel_rfl
theorem looks0 : false = Tryd.prog.looks [] := by kernel_rfl
theorem goes0 : false = Rows.fnExactVerifyRow.goesBy Tryd.prog := by kernel_rfl
theorem wants0 : ([9, 9, 68].all fun u => !Tryd.prog.wantsStandIn u) = true := by kernel_rfl

theorem card : Claim7.holds Tryd.pinned (.plain (OpenSpec.ofChange Rows.fnExactVerifySpec)) Rows.fnExactVerifyCard :=
  Claim7.holds_tied_plain_at .later [] [.data] true (true, Rows.fnExactVerifyCard.stood.harness.2) false
    over (fun _ h => by cases h) text0 (fun _ h => by cases h) fnExactVerify_row_tie rfl ⟨rfl, rfl⟩ seat_main rfl
    (fun f fn hf hfn => by
      obtain rfl : f = 18 := Option.some.inj (named0.symm.trans hf) |>.symm
      obtain rfl : fn = Tryd.f18 := (Option.some.inj (Tryd.func18.symm.trans hfn)).symm
      exact ⟨looks0, fun j t ht => by
        rw [Tryd.params18] at ht
        have hm : t ∈ [9, 9, 68] := by simpa using Array.mem_of_getElem? ht
        exact (show Tryd.prog.wantsStandIn t = false by simpa using List.all_eq_true.1 wants0 t hm)⟩)
    goes0

end Go.Proofs.YtnhdkhngpnialaaDoor.fnExactVerify
namespace Go.Proofs.YtnhdkhngpnialaaDoor
theorem fnExactVerify_holds : Rows.FnExactVerifyCardSaid := fnExactVerify.card
end Go.Proofs.YtnhdkhngpnialaaDoor
