/-
  At every text and list of texts OncePublicOf answers as its model; it writes into no argument. No condition; the round words are laid as the program's text lays them.
-/
import Derived.Test.YtnhdkhngpnialaaDoorIOnce2
import Derived.Test.YtnhdkhngpnialaaDoorSSign2
import Derived.Test.YtnhdkhngpnialaaDoorStrs
import Derived.Test.YtnhdkhngpnialaaDoorSeatA
import Derived.Test.YtnhdkhngpnialaaDoorSeatB
import Derived.Test.YtnhdkhngpnialaaDoorTie
import Derived.Test.YtnhdkhngpnialaaDoorCards
import Derived.ProofKit
import Derived.LaidMore
import Derived.OpenShut
import Derived.ShutString
import Derived.ChangeOld
import Derived.Below
import Derived.Stop.Joined
import Derived.Lib.LaidTab
import Derived.SevenTiedAt
import Derived.SliceStrings
namespace Go.Proofs.YtnhdkhngpnialaaDoor.fnExactOncePublicOf
open Go.ChangeShapes Go.WideShapes Go.ChangeAt Go.RowKit
open Go.ChangeMaps (open_string shut_string)
set_option linter.unusedVariables false

theorem own : ownKnob Tryd.prog.godebug = none := by kernel_rfl
theorem laidOut0 : laidOutB Tryd.prog = true := by kernel_rfl
theorem gTab : Tryd.prog.globalNamed "loop.example/g00226/impl.roundWords" = some 0 := by kernel_rfl
theorem tTab : (Tryd.prog.globals[0]?).map (·.type) = some 134 := by kernel_rfl

/-- The door's own heap meets the condition. -/
theorem door_met (os : Os) (args : Array Value) : laidMetH Tryd.prog Rows.fnExactOncePublicOfRow.laid ((World.doorLaid Tryd.prog 400 os).forCall (fun _ _ => 0) ⟨#[], args, []⟩).memory :=
  laidMetH_of_parts3 (fuel := 8) (laidMet_of_run' 8 (by kernel_rfl) (by kernel_rfl)) (by kernel_rfl) (by kernel_rfl)

/-- What the condition gives the walks: the round words' cells. -/
theorem tab_of {W : World} (h : laidMetH Tryd.prog Rows.fnExactOncePublicOfRow.laid W) : Tab W := by
  rw [MakeChecks.laidMetH_plain _ _ _ (by kernel_rfl)] at h
  have hT : Lib.TabIs Tryd.prog W "loop.example/g00226/impl.roundWords" .u32 (kL.map fun x => num x) := Lib.tabIs_of_head (rest := []) gTab tTab Tryd.underlying134 Tryd.underlying104 (by kernel_rfl) (by kernel_rfl) h
  have hc : ∀ i, i < 64 → W.cell? ⟨0, i, none⟩ = some (.int .u32 (num (kL.getD i 0))) := fun i hi => by
    have hl : i < kL.length := hi
    have := hT.cell gTab i (by rw [List.length_map]; exact hl)
    rw [this]
    simp [List.getD, hl]
  exact ⟨block_lt_of_cell (hc 0 (by omega)), hc⟩

theorem below_drewN {B : Nat} {w w' : World} (h : Below B w w') (q : Nat) : Below B w (w'.drewN q) := ⟨h.os, h.tape, h.output, h.size, h.block⟩
theorem below_low {w w1 w2 : World} {v : Value} (h : Below w.heap.size w w1) (hg : w1.grownBy w2 v.ownBlock) (hl : ∀ k, v.ownBlock = some k → w.heap.size ≤ k) : Below w.heap.size w w2 := h.grown hg h.size hl

theorem ispec (msg : List UInt8) (a : Option Addr) (cap : Nat) (ls : List (List UInt8)) (w : World) (hm : msg.length ≤ 1048576) (hl : ls.length + ls.flatten.length ≤ 1048576) (hs : IsStrs w a ls) (r : List UInt8) (ok : Bool) (hr : (ok = true ∧ r = publicOfL msg ls ∧ ls.length = 19 ∧ ∀ l ∈ ls, l.length = 32) ∨ (ok = false ∧ r = [] ∧ ¬ (ls.length = 19 ∧ ∀ l ∈ ls, l.length = 32))) :
    Calls Tryd.prog 51 #[.string ⟨msg.toArray⟩, .slice a ls.length cap] w fun e w' => e = .returned (.tuple #[.string ⟨r.toArray⟩, .bool ok]) ∧ Below w.heap.size w w' := by
  rcases hr with ⟨h0, hr, h1, h2⟩ | ⟨h0, hr, h⟩ <;> rw [h0, hr]
  · exact spec_publicOf msg a cap ls w hm h1 h2 hs
  · refine (spec_publicOf_no msg a cap ls w (by omega) (fun l hl' => ?_) h hs).mono ?_
    · obtain ⟨j, hj, rfl⟩ := List.getElem_of_mem hl'
      have := each_le ls j hj
      omega
    · rintro e w1 ⟨rfl, rfl⟩
      exact ⟨rfl, Below.refl _ _⟩

theorem iimpl (msg : List UInt8) (a : Option Addr) (cap : Nat) (ls : List (List UInt8)) (w : World) (hm : msg.length ≤ 1048576) (hl : ls.length + ls.flatten.length ≤ 1048576) (hs : IsStrs w a ls) (hT : Tab w) (r : List UInt8) (ok : Bool) (hr : (ok = true ∧ r = publicOfL msg ls ∧ ls.length = 19 ∧ ∀ l ∈ ls, l.length = 32) ∨ (ok = false ∧ r = [] ∧ ¬ (ls.length = 19 ∧ ∀ l ∈ ls, l.length = 32))) :
    Calls Tryd.prog 32 #[.string ⟨msg.toArray⟩, .slice a ls.length cap] w fun e w' => e = .returned (.tuple #[.string ⟨r.toArray⟩, .bool ok]) ∧ Below w.heap.size w w' := by
  rcases hr with ⟨h0, hr, h1, h2⟩ | ⟨h0, hr, h⟩ <;> rw [h0, hr]
  · exact impl_publicOf msg a cap ls w hm h1 h2 hs hT
  · refine (impl_publicOf_no msg a cap ls w (by omega) (fun l hl' => ?_) h hs).mono ?_
    · obtain ⟨j, hj, rfl⟩ := List.getElem_of_mem hl'
      have := each_le ls j hj
      omega
    · rintro e w1 ⟨rfl, rfl⟩
      exact ⟨rfl, Below.refl _ _⟩

set_option maxRecDepth 100000 in
set_option maxHeartbeats 1000000 in
theorem walk (a0 : ByteArray) (w0 : a0.size ≤ maxLen) (a : Option Addr) (cap : Nat) (ls : List (List UInt8)) (w : World) (hl : ls.length ≤ 9223372036854775807) (hm : ∀ l ∈ ls, l.length ≤ 9223372036854775807) (hs : IsStrs w a ls) (hT : Tab w) :
    Calls Tryd.prog 13 #[.string a0, .slice a ls.length cap] w fun e w' => e = .returned (.bool true) ∧ Below w.heap.size w w' := by
  unfold maxLen at w0
  have HT : Hid (Tab w) := hT
  clear hT
  by_cases hb0 : a0.size ≤ 1048576
  · have e0 : a0 = ⟨a0.data.toList.toArray⟩ := ba_eq a0
    have htl : a0.data.toList.length ≤ 1048576 := by rw [Array.length_toList]; exact hb0
    obtain ⟨s, hs0⟩ : ∃ s, s = a0.data.toList := ⟨_, rfl⟩
    rw [← hs0] at e0 htl
    clear hs0
    subst e0
    obtain ⟨r, ok, hr⟩ : ∃ (r : List UInt8) (ok : Bool), (ok = true ∧ r = publicOfL s ls ∧ ls.length = 19 ∧ ∀ l ∈ ls, l.length = 32) ∨ (ok = false ∧ r = [] ∧ ¬ (ls.length = 19 ∧ ∀ l ∈ ls, l.length = 32)) := by
      by_cases h : ls.length = 19 ∧ ∀ l ∈ ls, l.length = 32
      · exact ⟨_, true, .inl ⟨rfl, rfl, h.1, h.2⟩⟩
      · exact ⟨[], false, .inr ⟨rfl, rfl, h⟩⟩
    have H1 := fun a cap W h1 h2 => ispec s a cap ls W htl h1 h2 r ok hr
    have H2 := fun a cap W h1 h2 h3 => iimpl s a cap ls W htl h1 h2 h3 r ok hr
    have HK := szS_any a cap ls w hl hm hs
    have HS : Hid (∀ W, Below w.heap.size w W → IsStrs W a ls) := fun W hW => hs.later hW
    clear hs hm hr
    go_enter Tryd.func13, Tryd.ntmps13
    go_wp2_with fail
    refine HK.mono ?_
    rintro e w0 ⟨he, rfl⟩
    rcases he with rfl | ⟨hb, n, rfl⟩
    · go_wp2
      go_ret
      exact ⟨rfl, Below.refl _ _⟩
    · have hln : ls.length ≤ 1048576 := by omega
      have HB : Hid (ls.length + ls.flatten.length ≤ 1048576) := hb
      clear HK hb
      go_wp2_with fail
      refine (toS_any a cap ls _ hln (HS.out _ (Below.refl _ _))).mono ?_
      rintro e w1 ⟨rfl, o1, b1⟩
      have I1 : Hid (IsStrs w1 _ ls) := (isStrs_own o1).2.2
      clear o1
      go_wp2_with fail
      refine (H1 _ _ _ HB.out I1.out).mono ?_
      rintro e w2 ⟨rfl, b2⟩
      have h2 := b1.trans (b2.mono b1.size)
      clear I1 b1 b2
      go_wp2_with fail
      refine (toS_any a cap ls _ hln (HS.out _ h2)).mono ?_
      rintro e w3 ⟨rfl, o3, b3⟩
      have h3 := h2.trans (b3.mono h2.size)
      have O3 := hidOwn o3
      have I3 : Hid (IsStrs w3 _ ls) := (isStrs_own o3).2.2
      clear o3 b3 h2
      go_wp2_with fail
      refine (H2 _ _ _ HB.out I3.out (HT.out.later h3)).mono ?_
      rintro e w4 ⟨rfl, b4⟩
      have h4 := h3.trans (b4.mono h3.size)
      have O4 := hidOwn (keptO O3.out b4)
      clear O3 b4 h3 I3
      go_wp2_with fail
      refine (toS_any a cap ls _ hln (HS.out _ h4)).mono ?_
      rintro e w5 ⟨rfl, o5, b5⟩
      have h5 := h4.trans (b5.mono h4.size)
      have O5 := hidOwn o5
      have P5 := hidOwn (keptO O4.out b5)
      clear O4 o5 b5 h4
      go_wp2_with fail
      refine (eqS_same ls _ _ _ _ _ (by omega) P5.out O5.out).mono ?_
      rintro e w6 ⟨rfl, q, rfl⟩
      have h6 := below_drewN h5 q
      clear O5 P5 h5
      go_wp2
      go_ret
      exact ⟨rfl, h6⟩
  · clear hs hm
    go_enter Tryd.func13, Tryd.ntmps13
    go_wp2
    go_ret
    exact ⟨rfl, Below.refl _ _⟩

set_option maxRecDepth 100000 in
theorem lifted (os : Os) (started : os.Started) (H : Type) (enc : TypeId × Value → H) :
    ReturnsInHanded {} Tryd.checked os 13 .any (fun w args => (Rows.fnExactOncePublicOfSpec.pre enc Tryd.prog Tryd.f13 [] false w args ∧ laidMetH Tryd.prog Rows.fnExactOncePublicOfRow.laid w) ∧ sizedMet enc Tryd.prog Tryd.f13 (OpenSpec.ofChange Rows.fnExactOncePublicOfSpec) false w args)
      (Rows.fnExactOncePublicOfSpec.post enc Tryd.prog Tryd.f13 false true false false) := by
  refine returnsInHanded_of_change_and (C := Tryd.checked) (X := fun w _ => laidMetH Tryd.prog Rows.fnExactOncePublicOfRow.laid w) (fun _ _ _ hh h => h.of_heap hh) own started (by kernel_rfl) Tryd.func13
    (ChangeSpec.witness_shaped (enc := enc) (C := Tryd.checked) (os := os) (X := fun w _ => laidMetH Tryd.prog Rows.fnExactOncePublicOfRow.laid w) false (World.doorLaid Tryd.prog 400 os) #[.string ByteArray.empty, .slice none 0 0] 8 rfl (World.shaped_of_RefB (by kernel_rfl) (by kernel_rfl)) (by kernel_rfl) (by kernel_rfl) (by kernel_rfl) (door_met os _)) ?_
  intro W base args ds gs before hval0 hW _ _ hL _
  have hval : ∀ (j : Nat) t v, Tryd.f13.params[j]? = some t → args[j]? = some v → Value.okWide Tryd.prog W .any base t v := hval0
  have hW' := hW
  obtain ⟨p, q, hA0, hV0, rfl, hfz, hnd⟩ := hW
  have hA : DataW.TrodAll enc Tryd.prog W 0 (fun _ => true) true Tryd.f13.params.toList args.toList ds p := hA0
  have hV : DataW.TrodVars enc Tryd.prog W (fun _ => true) ["loop.example/g00226/impl.roundWords"] gs q := hV0
  rw [Tryd.params13] at hA hval
  obtain ⟨v0, vs0, d0, ds0, p0, q0, hargs0, rfl, rfl, h0, r0⟩ := trodAll_cons hA
  obtain ⟨v1, vs1, d1, ds1, p1, q1, hargs1, rfl, rfl, h1, r1⟩ := trodAll_cons r0
  obtain ⟨rfl, rfl, rfl⟩ := trodAll_nil r1
  obtain rfl : args = #[v0, v1] := by cases args; simp_all
  obtain ⟨a0, rfl, rfl, rfl, w0⟩ := open_string Tryd.underlying9 (hval 0 9 v0 rfl rfl) h0
  obtain ⟨a1, len1, cap1, rfl⟩ := okWide_slice Tryd.underlying34 (hval 1 34 v1 rfl rfl)
  have k1 := h1
  have lt1 : ∀ x ∈ p1, x.block < W.heap.size := by obtain ⟨m, hm⟩ := k1; exact DataW.trod_lt m _ _ _ hm
  obtain ⟨ls, hls, hm, hs, hbig⟩ : ∃ ls : List (List UInt8), len1 = ls.length ∧ (∀ l ∈ ls, l.length ≤ 9223372036854775807) ∧ IsStrs W a1 ls ∧ ls.length ≤ 9223372036854775807 := by
    obtain ⟨fuel, hf⟩ := h1
    rcases open_strings Tryd.underlying34 Tryd.underlying9 (by kernel_rfl) hf with ⟨hcs, _⟩ | ⟨x, l, c, ss, hcs, _, hl, hm, hz, _, hcell, hwz⟩
    · simp [Value.cells] at hcs
      obtain ⟨rfl, rfl, rfl⟩ := hcs
      exact ⟨[], rfl, by simp, .inl rfl, by simp⟩
    · simp [Value.cells] at hcs
      obtain ⟨rfl, rfl, rfl⟩ := hcs
      unfold maxLen at hm
      have hz' : ss.length = cap1 := by simpa using hz
      refine ⟨(ss.take len1).map (·.data.toList), by simp; omega, ?_, ?_, by simp; omega⟩
      · intro l hlm
        simp only [List.mem_map] at hlm
        obtain ⟨s, hs1, rfl⟩ := hlm
        have := hwz s (List.mem_of_mem_take hs1)
        unfold maxLen at this
        rw [Array.length_toList]; exact this
      · by_cases h0 : len1 = 0
        · exact .inl (by simp [h0])
        · obtain ⟨b, off, spot⟩ := x
          have hc := hcell 0 (by omega)
          have hspot : spot = none := by simpa [Addr.add] using World.cell?_spot hc
          subst hspot
          refine .inr ⟨b, off, rfl, fun j hj => ?_⟩
          simp at hj
          have hjs : j < ss.length := by omega
          have hcj := hcell j hjs
          have e1 : (⟨b, off, none⟩ : Addr).add j = ⟨b, off + j, none⟩ := by simp [Addr.add]
          rw [e1, List.getD_eq_getElem?_getD, List.getElem?_eq_getElem hjs, Option.getD_some] at hcj
          rw [hcj]
          simp only [List.getElem_map, List.getElem_take]
  subst hls
  obtain ⟨g, t, cs, fuel, d, p', rfl, hg, ht, hvar, hd, rfl⟩ := trodVars_one hV
  obtain rfl := Option.some.inj (gTab.symm.trans hg)
  obtain rfl := Option.some.inj (tTab.symm.trans ht)
  have hT := tab_of hL
  have hltv : ∀ x ∈ p', x.block < W.heap.size := fun x hx => hW'.lt x (List.mem_append_right _ (List.mem_append_right _ hx))
  clear hA0 hV0 hval0 hA hV
  refine (walk a0 w0 a1 cap1 ls W hbig hm hs hT).mono fun e W' ⟨he, hB⟩ => ?_
  subst he
  obtain ⟨fuel', hd'⟩ := Below.trod laidOut0 (by kernel_rfl) (of_decide_eq_true (by kernel_rfl)) (v := .agg cs) (⟨fuel, by simpa [Value.cells] using hd⟩ : DataW.Trod enc Tryd.prog W 0 (fun _ => true) true 134 (.agg cs) d p') hB hltv
  have hv' := trodVars_mk1 (enc := enc) (spare := fun b => decide (b < W.heap.size)) hg ht (var?_below hB hg hT.1 hvar) (by simpa [Value.cells] using hd')
  exact ⟨_, rfl, _, _, _, [], _, _, hW', trodAll_mk1 (shut_bool Tryd.underlying4 _), (trodAll_cons_mk (shut_string Tryd.underlying9 w0) (trodAll_cons_mk (Below.trod laidOut0 (by kernel_rfl) (of_decide_eq_true (by kernel_rfl)) k1 hB lt1) trodAll_mk0)), hv', hB.frame _, fun h => by cases h⟩

theorem named0 : Tryd.prog.funcNamed "loop.example/g00226/laws.FnExactOncePublicOf" = some 13 := by kernel_rfl
theorem closed0 : joinedFacts Tryd.prog 13 Tryd.f13 Rows.fnExactOncePublicOfSpec Rows.fnExactOncePublicOfRow = true := by
  unfold joinedFacts
  rw [seat_may, seat_lifts, seat_make]
  kernel_rfl
theorem inst0 : Tryd.f13.isInstance Tryd.prog Rows.fnExactOncePublicOfRow.origin Rows.fnExactOncePublicOfRow.targs := of_decide_eq_true (by kernel_rfl)
theorem wrap0 : Tryd.f13.isWrapper Tryd.prog Rows.fnExactOncePublicOfRow.wrapper Rows.fnExactOncePublicOfRow.mainSum := by unfold Func.isWrapper; first | (rw [if_pos (by decide +kernel)]; kernel_rfl) | (rw [if_neg (by decide +kernel)]; exact ⟨rfl, rfl⟩)

theorem over : Rows.fnExactOncePublicOfRow.holds Tryd.pinned (OpenSpec.ofChange Rows.fnExactOncePublicOfSpec) :=
  OpenClaim.holds_of_wide 13 Tryd.f13 rfl rfl rfl rfl rfl rfl rfl ⟨rfl, rfl, rfl, rfl, rfl⟩ rfl rfl rfl rfl rfl named0 Tryd.func13 closed0 inst0 wrap0
    (fun os started H enc _ => lifted os started H enc)

theorem text0 : Rows.fnExactOncePublicOfRow.wfByText (OpenSpec.ofChange Rows.fnExactOncePublicOfSpec) = true := by kernel_rfl
theorem looks0 : false = Tryd.prog.looks [] := by kernel_rfl
theorem goes0 : false = Rows.fnExactOncePublicOfRow.goesBy Tryd.prog := by kernel_rfl
theorem wants0 : ([9, 34].all fun u => !Tryd.prog.wantsStandIn u) = true := by kernel_rfl

theorem card : Claim7.holds Tryd.pinned (.plain (OpenSpec.ofChange Rows.fnExactOncePublicOfSpec)) Rows.fnExactOncePublicOfCard :=
  Claim7.holds_tied_plain_at .later [] [.data] true (true, Rows.fnExactOncePublicOfCard.stood.harness.2) false
    over (fun _ h => by cases h) text0 (fun _ h => by cases h) fnExactOncePublicOf_row_tie rfl ⟨rfl, rfl⟩ seat_main rfl
    (fun f fn hf hfn => by
      obtain rfl : f = 13 := Option.some.inj (named0.symm.trans hf) |>.symm
      obtain rfl : fn = Tryd.f13 := (Option.some.inj (Tryd.func13.symm.trans hfn)).symm
      exact ⟨looks0, fun j t ht => by
        rw [Tryd.params13] at ht
        have hm : t ∈ [9, 34] := by simpa using Array.mem_of_getElem? ht
        exact (show Tryd.prog.wantsStandIn t = false by simpa using List.all_eq_true.1 wants0 t hm)⟩)
    goes0

end Go.Proofs.YtnhdkhngpnialaaDoor.fnExactOncePublicOf
namespace Go.Proofs.YtnhdkhngpnialaaDoor
theorem fnExactOncePublicOf_holds : Rows.FnExactOncePublicOfCardSaid := fnExactOncePublicOf.card
end Go.Proofs.YtnhdkhngpnialaaDoor
