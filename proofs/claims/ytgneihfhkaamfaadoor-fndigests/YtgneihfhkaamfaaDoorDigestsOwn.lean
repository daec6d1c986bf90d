/-
  At every code a digest has 32 bytes, that of abc is the one that is known, and one with a tag is that of a list of texts: FnDigests answers true. No condition; the round words are laid as the program's text lays them.
-/
import Derived.Test.YtgneihfhkaamfaaDoorITag
import Derived.Test.YtgneihfhkaamfaaDoorSTag
import Derived.Test.YtgneihfhkaamfaaDoorDrawS
import Derived.Test.YtgneihfhkaamfaaDoorHexC
import Derived.Test.YtgneihfhkaamfaaDoorMathAbc
import Derived.Test.YtgneihfhkaamfaaDoorTie
import Derived.Test.YtgneihfhkaamfaaDoorCards
import Derived.ProofKit
import Derived.LaidMore
import Derived.OpenShut
import Derived.ShutString
import Derived.ChangeOld
import Derived.Below
import Derived.Stop.Joined
import Derived.Lib.LaidTab
import Derived.SevenTiedAt
import Derived.SliceStrings
namespace Go.Proofs.YtgneihfhkaamfaaDoor.fnDigests
open Go.ChangeShapes Go.WideShapes Go.ChangeAt Go.RowKit
open Go.ChangeMaps (open_string shut_string)
set_option linter.unusedVariables false

theorem own : ownKnob Tryd.prog.godebug = none := by kernel_rfl
theorem laidOut0 : laidOutB Tryd.prog = true := by kernel_rfl
theorem gTab : Tryd.prog.globalNamed "loop.example/g00226/impl.roundWords" = some 0 := by kernel_rfl
theorem tTab : (Tryd.prog.globals[0]?).map (·.type) = some 69 := by kernel_rfl

/-- The door's own heap meets the condition. -/
theorem door_met (os : Os) (args : Array Value) : laidMetH Tryd.prog Rows.fnDigestsRow.laid ((World.doorLaid Tryd.prog 400 os).forCall (fun _ _ => 0) ⟨#[], args, []⟩).memory :=
  laidMetH_of_parts3 (fuel := 8) (laidMet_of_run' 8 (by kernel_rfl) (by kernel_rfl)) (by kernel_rfl) (by kernel_rfl)

/-- What the condition gives the walks: the round words' cells. -/
theorem tab_of {W : World} (h : laidMetH Tryd.prog Rows.fnDigestsRow.laid W) : Tab W := by
  rw [MakeChecks.laidMetH_plain _ _ _ (by kernel_rfl)] at h
  have hT : Lib.TabIs Tryd.prog W "loop.example/g00226/impl.roundWords" .u32 (kL.map fun x => num x) := Lib.tabIs_of_head (rest := []) gTab tTab Tryd.underlying69 Tryd.underlying37 (by kernel_rfl) (by kernel_rfl) h
  have hc : ∀ i, i < 64 → W.cell? ⟨0, i, none⟩ = some (.int .u32 (num (kL.getD i 0))) := fun i hi => by
    have hl : i < kL.length := hi
    have := hT.cell gTab i (by rw [List.length_map]; exact hl)
    rw [this]
    simp [List.getD, hl]
  exact ⟨block_lt_of_cell (hc 0 (by omega)), hc⟩

theorem keptB {w w' : World} {b e n : Nat} {v : Value} {xs : List Value} (h : w.ownsRow b e 1 v n xs) (hb : Below w.heap.size w w') : w'.ownsRow b e 1 v n xs :=
  h.kept (row := none) ⟨hb.os, hb.tape, hb.output, hb.size, fun k hk _ => hb.block k hk⟩ (by cases v.ownBlock with | none => exact .inl rfl | some k => exact .inr (by simp))

theorem hex_abc : hexs (ByteArray.mk #[186, 120, 22, 191, 143, 1, 207, 234, 65, 65, 64, 222, 93, 174, 34, 35, 176, 3, 97, 163, 150, 23, 122, 156, 180, 16, 255, 97, 242, 0, 21, 173]).data.toList = [98, 97, 55, 56, 49, 54, 98, 102, 56, 102, 48, 49, 99, 102, 101, 97, 52, 49, 52, 49, 52, 48, 100, 101, 53, 100, 97, 101, 50, 50, 50, 51, 98, 48, 48, 51, 54, 49, 97, 51, 57, 54, 49, 55, 55, 97, 57, 99, 98, 52, 49, 48, 102, 102, 54, 49, 102, 50, 48, 48, 49, 53, 97, 100] := by decide +kernel

theorem sum_len (l : List UInt8) : (sumL l).length = 32 := by
  have := stT_len (stAt initS (padB l l.length) ((padB l l.length).length / 64)) 8 (by omega)
  exact this

set_option maxRecDepth 100000 in
set_option maxHeartbeats 4000000 in
theorem walk (a0 : Option Addr) (len0 cap0 : Nat) (w : World) (w0 : Code w a0 len0) (hT : Tab w) :
    Calls Tryd.prog 3 #[.slice a0 len0 cap0] w fun e w' => e = .returned (.bool true) ∧ Below w.heap.size w w' := by
  obtain ⟨i0, hi0, hz0, hz1, hz2⟩ := info_parts info9i
  by_cases hb : len0 ≤ 1048576
  · have HB := bigNo len0 cap0 a0 w hb
    have HC : Hid (Code w a0 len0) := w0
    have HT : Hid (Tab w) := hT
    clear w0 hT
    go_enter Tryd.func3, Tryd.ntmps3
    go_wp2_with fail
    refine HB.mono ?_
    rintro e w ⟨rfl, rfl⟩
    clear HB
    have HD := drawSum len0 cap0 a0 w hb HC.out
    go_wp2_with fail
    refine HD.mono ?_
    rintro e w2 ⟨s, hsl, rfl, b2⟩
    clear HD
    have HD := drawTagged len0 cap0 a0 w2 hb (HC.out.later b2)
    go_wp2_with fail
    refine HD.mono ?_
    rintro e w3 ⟨g, c, tag, ls, htag, hll, hlf, rfl, own3, b3⟩
    have c3 := b2.trans (b3.mono b2.size)
    have s3 := c3.size
    have O3 := hidOwn own3
    have hgl := own_lt own3
    have hgb := own_base own3
    have hc : ∀ j (h : j < ls.length), w3.cell? ⟨g, j, none⟩ = some (.string ⟨ls[j].toArray⟩) := fun j h => by rw [own3.cellAt j (by omega), scells_at ls j h]
    have HCC : Hid (∀ j (h : j < ls.length), w3.cell? ⟨g, j, none⟩ = some (.string ⟨ls[j].toArray⟩)) := hc
    clear HD b2 b3 own3 hc HC
    have H0 := fun W => rlptext_at tag (by omega) W
    obtain ⟨y0, hy0⟩ : ∃ y0, y0 = textB tag := ⟨_, rfl⟩
    rw [← hy0] at H0
    have HY0 : Hid (y0 = textB tag) := hy0
    clear hy0
    go_wp2_with fail
    refine (H0 _).mono ?_
    rintro e w4 ⟨rfl, b4⟩
    have s4 := b4.size
    clear H0
    go_wp2
    go_loopw [6, 7] (fun v i wr => ∃ j g1 cap1 : Nat, j ≤ ls.length ∧ i = .int .i64 (j : Int) ∧ v = .slice (some ⟨g1, 0, none⟩) (j + 1) cap1 ∧ wr.ownsRow w3.heap.size 9 1 (.slice (some ⟨g1, 0, none⟩) (j + 1) cap1) (j + 1) (scells ((tag :: ls.take j).map textB)) ∧ Below w3.heap.size w3 wr) (fun _ i _ => ls.length - (intOf i).toNat)
    case atStart => exact ⟨0, w4.heap.size, 1, Nat.zero_le _, rfl, rfl, by rw [HY0.out]; exact World.ownsRow_lit w4 #[_] 1 s4 (by decide) rfl, b4.alloc s4 _⟩
    case round =>
      obtain ⟨j, g1, cap1, hj, rfl, rfl, hown, hbel⟩ := hrel
      have hsz := hbel.size
      have hbg := own_base hown
      by_cases hlt : j < ls.length
      · have c1 := (hbel.cell (p := ⟨g, j, none⟩) hgl).trans (HCC.out j hlt)
        have hxl := each_le ls j hlt
        have HI : Hid ((tag :: ls.take (j + 1)).map textB = (tag :: ls.take j).map textB ++ [textB ls[j]]) := by rw [Hid, List.take_succ_eq_append_getElem hlt, ← List.cons_append, List.map_append]; rfl
        have hj0 : (0 : Int) ≤ (j : Int) := by omega
        have hj1 : (j : Int) < (ls.length : Int) := by omega
        obtain ⟨x, hx⟩ : ∃ x, x = ls[j] := ⟨_, rfl⟩
        rw [← hx] at c1 hxl HI
        have HO := hidOwn hown
        have H1 := fun W => rlptext_at x (by omega) W
        obtain ⟨y, hy⟩ : ∃ y, y = textB x := ⟨_, rfl⟩
        rw [← hy] at H1 HI
        clear hx hy hown
        go_wp2_with fail
        refine (H1 _).mono ?_
        rintro e w5 ⟨rfl, hb5⟩
        have hown2 := keptB HO.out hb5
        have hbel2 := hbel.trans (hb5.mono hsz)
        have hsz2 := hbel2.size
        clear HO hbel hb5 H1 c1
        go_wp2_with (at_builtin; refine wpList_append_lies _ rfl _ _ 25 rfl w3.heap.size 9 i0 (.string ⟨#[]⟩) 1 16 Tryd.underlying25 hi0 hz0 hz1 hz2 rfl (by decide) (.slice (some ⟨g1, 0, none⟩) (j + 1) cap1) (j + 1) _ rfl (hown2.alloc _) ⟨w5.heap.size, 0, none⟩ 1 1 [.string ⟨y.toArray⟩] rfl rfl (World.news_of_block (cs := #[.string ⟨y.toArray⟩]) (t := 9) (fr := (0, 0)) (heap_alloc_new w5 _)) (by simp [Value.oneCell']) (by omega) (by unfold maxLen; omega) (by omega) (by simp; omega) (w5.heap.size + 1) (by simp) ?_; intro g2 cap2 w6 hown3 hgrow hat hlt3)
        have hbel3 := below_app0 hbel2 hsz2 hbg hgrow
        have HO3 : Hid (w6.ownsRow w3.heap.size 9 1 (.slice (some ⟨g2, 0, none⟩) (j + 1 + 1) cap2) (j + 1 + 1) (scells ((tag :: ls.take (j + 1)).map textB))) := by rw [Hid, HI.out, scells_snoc]; exact hown3
        clear hgrow hown3 hown2 hbel2
        go_roundw
        case rel => exact ⟨j + 1, g2, cap2, by omega, by go_num, rfl, HO3.out, hbel3⟩
        case measure => simp [intOf]; omega
      · have hjl : j = ls.length := by omega
        subst hjl
        have hfl : (tag :: ls).flatten.length ≤ 30000 := by rw [List.flatten_cons, List.length_append]; omega
        have hl1 : (tag :: ls).length ≤ 1001 := by simp; omega
        rw [List.take_length] at hown
        have hlen : ((tag :: ls).map textB).length = ls.length + 1 := by simp
        have hfb := (listB_len (tag :: ls) hfl hl1)
        have hcap := own_capT hown
        have hown' : wr.ownsRow w3.heap.size 9 1 (.slice (some ⟨g1, 0, none⟩) ((tag :: ls).map textB).length cap1) ((tag :: ls).map textB).length (scells ((tag :: ls).map textB)) := by rw [hlen]; exact hown
        have HOI := hidOwn hown
        have H1 := fun W => impl_sum s W (by omega)
        have H2 := fun W hW hv => impl_tagged tag g c ls w2.heap.size W (by omega) (by omega) hW hv
        have H3 := fun W => spec_sum s W (by omega)
        have H4 := fun W hv => spec_tagged tag g c ls w2.heap.size W (by omega) (by omega) hv
        have H5 := fun W hv => impl_list g1 cap1 ((tag :: ls).map textB) w3.heap.size W (by rw [hlen]; have h1 := hfb.1; unfold textsB at h1; omega) (by rw [hlen]; exact hcap) hv
        rw [listL_texts _ hfl hl1] at H5
        have H6 := fun W hW => impl_sum (listB (tag :: ls)) W (by omega) hW
        rw [← tagL_yes tag ls (by omega) (by omega)] at H6
        have H7 := fun W hW => impl_sum [97, 98, 99] W (by simp) hW
        rw [sum_abc] at H7
        have H8 := fun W => impl_hex ⟨#[186, 120, 22, 191, 143, 1, 207, 234, 65, 65, 64, 222, 93, 174, 34, 35, 176, 3, 97, 163, 150, 23, 122, 156, 180, 16, 255, 97, 242, 0, 21, 173]⟩ W (by decide)
        rw [hex_abc] at H8
        have h32 := sum_len s
        obtain ⟨d, hd⟩ : ∃ d, d = sumL s := ⟨_, rfl⟩
        rw [← hd] at H1 H3 h32
        obtain ⟨tt, htt⟩ : ∃ tt, tt = tagL tag ls := ⟨_, rfl⟩
        rw [← htt] at H2 H4 H6
        obtain ⟨lb, hlb⟩ : ∃ lb, lb = listB (tag :: ls) := ⟨_, rfl⟩
        rw [← hlb] at H5 H6
        rw [hlen] at H5
        have HRW : Hid (∀ W, Below w3.heap.size w3 W → Tab W ∧ W.ownsRow w2.heap.size 9 1 (.slice (some ⟨g, 0, none⟩) ls.length c) ls.length (scells ls) ∧ Below w.heap.size w W) := fun W hbW => ⟨HT.out.later (c3.trans (hbW.mono s3)), keptB O3.out hbW, c3.trans (hbW.mono s3)⟩
        clear hd htt hlb hown hown' hfb hfl hl1 hcap HCC O3 HT HY0
        have t7 := fun W h => H7 W h
        clear H7
        go_wp2_with fail
        refine (H1 _ (HRW.out _ hbel).1).mono ?_
        rintro e v1 ⟨rfl, d1⟩
        have e1 := hbel.trans (d1.mono hsz)
        have P1 := hidOwn (keptB HOI.out d1)
        clear H1 d1 hbel HOI
        go_wp2_with fail
        refine (H2 _ (HRW.out _ e1).1 (HRW.out _ e1).2.1).mono ?_
        rintro e v2 ⟨rfl, d2⟩
        have e2 := e1.trans (d2.mono e1.size)
        have P2 := hidOwn (keptB P1.out d2)
        clear H2 d2 e1 P1
        go_wp2_with fail
        refine (H3 _).mono ?_
        rintro e v3 ⟨rfl, d3⟩
        have e3 := e2.trans (d3.mono e2.size)
        have P3 := hidOwn (keptB P2.out d3)
        clear H3 d3 e2 P2
        go_wp2_with fail
        refine (H4 _ (HRW.out _ e3).2.1).mono ?_
        rintro e v4 ⟨rfl, d4⟩
        have e4 := e3.trans (d4.mono e3.size)
        have P4 := hidOwn (keptB P3.out d4)
        clear H4 d4 e3 P3
        go_wp2_with fail
        refine (H5 _ P4.out).mono ?_
        rintro e v5 ⟨rfl, d5⟩
        have e5 := e4.trans (d5.mono e4.size)
        clear H5 d5 e4 P4
        go_wp2_with fail
        refine (H6 _ (HRW.out _ e5).1).mono ?_
        rintro e v6 ⟨rfl, d6⟩
        have e6 := e5.trans (d6.mono e5.size)
        clear H6 d6 e5
        go_wp2_with fail
        refine (t7 _ (HRW.out _ e6).1).mono ?_
        rintro e v7 ⟨rfl, d7⟩
        have e7 := e6.trans (d7.mono e6.size)
        clear t7 d7 e6
        go_wp2_with fail
        refine (H8 _).mono ?_
        rintro e v8 ⟨rfl, d8⟩
        have e8 := e7.trans (d8.mono e7.size)
        have hfin := (HRW.out _ e8).2.2
        clear H8 d8 e7 HRW e8
        go_wp2
        go_ret
        exact ⟨rfl, hfin⟩
  · have HB := bigYes len0 cap0 a0 w hb
    clear w0 hT
    go_enter Tryd.func3, Tryd.ntmps3
    go_wp2_with fail
    refine HB.mono ?_
    rintro e w ⟨rfl, rfl⟩
    clear HB
    go_wp2
    go_ret
    exact ⟨rfl, Below.refl _ _⟩

set_option maxRecDepth 100000 in
theorem lifted (os : Os) (started : os.Started) (H : Type) (enc : TypeId × Value → H) :
    ReturnsInHanded {} Tryd.checked os 3 .any (fun w args => (Rows.fnDigestsSpec.pre enc Tryd.prog Tryd.f3 [] false w args ∧ laidMetH Tryd.prog Rows.fnDigestsRow.laid w) ∧ sizedMet enc Tryd.prog Tryd.f3 (OpenSpec.ofChange Rows.fnDigestsSpec) false w args)
      (Rows.fnDigestsSpec.post enc Tryd.prog Tryd.f3 false true false false) := by
  refine returnsInHanded_of_change_and (C := Tryd.checked) (X := fun w _ => laidMetH Tryd.prog Rows.fnDigestsRow.laid w) (fun _ _ _ hh h => h.of_heap hh) own started (by kernel_rfl) Tryd.func3
    (ChangeSpec.witness_shaped (enc := enc) (C := Tryd.checked) (os := os) (X := fun w _ => laidMetH Tryd.prog Rows.fnDigestsRow.laid w) false (World.doorLaid Tryd.prog 400 os) #[.slice none 0 0] 8 rfl (World.shaped_of_RefB (by kernel_rfl) (by kernel_rfl)) (by kernel_rfl) (by kernel_rfl) (by kernel_rfl) (door_met os _)) ?_
  intro W base args ds gs before hval0 hW _ _ hL _
  have hval : ∀ (j : Nat) t v, Tryd.f3.params[j]? = some t → args[j]? = some v → Value.okWide Tryd.prog W .any base t v := hval0
  have hW' := hW
  obtain ⟨p, q, hA0, hV0, rfl, hfz, hnd⟩ := hW
  have hA : DataW.TrodAll enc Tryd.prog W 0 (fun _ => true) true Tryd.f3.params.toList args.toList ds p := hA0
  have hV : DataW.TrodVars enc Tryd.prog W (fun _ => true) ["loop.example/g00226/impl.roundWords"] gs q := hV0
  rw [Tryd.params3] at hA hval
  obtain ⟨v0, vs0, d0, ds0, p0, q0, hargs, rfl, rfl, h0, r0⟩ := trodAll_cons hA
  obtain ⟨rfl, rfl, rfl⟩ := trodAll_nil r0
  obtain rfl : args = #[v0] := by cases args; simp_all
  obtain ⟨a0, len0, cap0, rfl⟩ := okWide_slice Tryd.underlying22 (hval 0 22 v0 rfl rfl)
  have k0 := h0
  have lt0 : ∀ x ∈ p0, x.block < W.heap.size := by obtain ⟨m, hm⟩ := k0; exact DataW.trod_lt m _ _ _ hm
  have w0 : Code W a0 len0 := by
    obtain ⟨fuel, hf⟩ := h0
    rcases open_ints Tryd.underlying22 Tryd.underlying5 (by kernel_rfl) hf with ⟨hcs, _⟩ | ⟨x, l, c, zs, hcs, _, hl, hm, hz, _, hcell, hwz⟩
    · simp [Value.cells] at hcs
      obtain ⟨rfl, rfl, rfl⟩ := hcs
      exact .inl rfl
    · simp [Value.cells] at hcs
      obtain ⟨rfl, rfl, rfl⟩ := hcs
      exact codeOf W x _ _ zs hl (by simpa using hz) hcell hwz
  obtain ⟨g, t, cs, fuel, d, p', rfl, hg, ht, hvar, hd, rfl⟩ := trodVars_one hV
  obtain rfl := Option.some.inj (gTab.symm.trans hg)
  obtain rfl := Option.some.inj (tTab.symm.trans ht)
  have hT := tab_of hL
  have hltv : ∀ x ∈ p', x.block < W.heap.size := fun x hx => hW'.lt x (List.mem_append_right _ (List.mem_append_right _ hx))
  clear hA0 hV0 hval0 hA hV
  refine (walk a0 len0 cap0 W w0 hT).mono fun e W' ⟨he, hB⟩ => ?_
  subst he
  obtain ⟨fuel', hd'⟩ := Below.trod laidOut0 (by kernel_rfl) (of_decide_eq_true (by kernel_rfl)) (v := .agg cs) (⟨fuel, by simpa [Value.cells] using hd⟩ : DataW.Trod enc Tryd.prog W 0 (fun _ => true) true 69 (.agg cs) d p') hB hltv
  have hv' := trodVars_mk1 (enc := enc) (spare := fun b => decide (b < W.heap.size)) hg ht (var?_below hB hg hT.1 hvar) (by simpa [Value.cells] using hd')
  exact ⟨_, rfl, _, _, _, [], _, _, hW', trodAll_mk1 (shut_bool Tryd.underlying4 _), (trodAll_cons_mk (Below.trod laidOut0 (by kernel_rfl) (of_decide_eq_true (by kernel_rfl)) k0 hB lt0) trodAll_mk0), hv', hB.frame _, fun h => by cases h⟩

theorem over : Rows.fnDigestsRow.holds Tryd.pinned (OpenSpec.ofChange Rows.fnDigestsSpec) :=
  OpenClaim.holds_of_wide 3 Tryd.f3 rfl rfl rfl rfl rfl rfl rfl ⟨rfl, rfl, rfl, rfl, rfl⟩ rfl rfl rfl rfl rfl (by kernel_rfl) Tryd.func3 (by kernel_rfl)
    (of_decide_eq_true (by kernel_rfl)) (by unfold Func.isWrapper; first | (rw [if_pos (by decide +kernel)]; kernel_rfl) | (rw [if_neg (by decide +kernel)]; exact ⟨rfl, rfl⟩))
    (fun os started H enc _ => lifted os started H enc)

theorem card : Claim7.holds Tryd.pinned (.plain (OpenSpec.ofChange Rows.fnDigestsSpec)) Rows.fnDigestsCard :=
  Claim7.holds_tied_plain_at .later [] [.data] true (true, Rows.fnDigestsCard.stood.harness.2) false
    over (fun _ h => by cases h) (by kernel_rfl) (fun _ h => by cases h) fnDigests_row_tie rfl ⟨rfl, rfl⟩ (by kernel_rfl) rfl
    (fun f fn hf hfn => by
      obtain rfl : f = 3 := Option.some.inj ((show Tryd.prog.funcNamed "loop.example/g00226/laws.FnDigests" = some 3 by kernel_rfl).symm.trans hf) |>.symm
      obtain rfl : fn = Tryd.f3 := (Option.some.inj (Tryd.func3.symm.trans hfn)).symm
      exact ⟨by kernel_rfl, fun j t ht => by
        rw [Tryd.params3] at ht
        have hm : t ∈ [22] := by simpa using Array.mem_of_getElem? ht
        have hall : ([22].all fun u => !Tryd.prog.wantsStandIn u) = true := by kernel_rfl
        exact (show Tryd.prog.wantsStandIn t = false by simpa using List.all_eq_true.1 hall t hm)⟩)
    (by kernel_rfl)

end Go.Proofs.YtgneihfhkaamfaaDoor.fnDigests
namespace Go.Proofs.YtgneihfhkaamfaaDoor
theorem fnDigests_holds : Rows.FnDigestsCardSaid := fnDigests.card
end Go.Proofs.YtgneihfhkaamfaaDoor
