/-
  At every code what is read as frames are texts whose frames these are, up to the place that is told, and of frames that are cut the first few come back: FnFrames answers true. No condition; the round words are laid as the program's text lays them.
-/
import Derived.Test.YtgoohohkgmiemaaDoorSFrames
import Derived.Test.YtgoohohkgmiemaaDoorMathFrs
import Derived.Test.YtgoohohkgmiemaaDoorDrawF
import Derived.Test.YtgoohohkgmiemaaDoorCodeLaw
import Derived.Test.YtgoohohkgmiemaaDoorSeatAll
import Derived.Test.YtgoohohkgmiemaaDoorTie
import Derived.Test.YtgoohohkgmiemaaDoorCards
import Derived.ProofKit
import Derived.LaidMore
import Derived.OpenShut
import Derived.ShutString
import Derived.ChangeOld
import Derived.Below
import Derived.Stop.Joined
import Derived.Lib.LaidTab
import Derived.SevenTiedAt
import Derived.SliceStrings
namespace Go.Proofs.YtgoohohkgmiemaaDoor.fnFrames
open Go.ChangeShapes Go.WideShapes Go.ChangeAt Go.RowKit
open Go.ChangeMaps (open_string shut_string)
set_option linter.unusedVariables false

theorem own : ownKnob Tryd.prog.godebug = none := by kernel_rfl
theorem laidOut0 : laidOutB Tryd.prog = true := by kernel_rfl
theorem gTab : Tryd.prog.globalNamed "loop.example/g00226/impl.roundWords" = some 0 := by kernel_rfl
theorem tTab : (Tryd.prog.globals[0]?).map (·.type) = some 58 := by kernel_rfl

/-- The door's own heap meets the condition. -/
theorem door_met (os : Os) (args : Array Value) : laidMetH Tryd.prog Rows.fnFramesRow.laid ((World.doorLaid Tryd.prog 400 os).forCall (fun _ _ => 0) ⟨#[], args, []⟩).memory :=
  laidMetH_of_parts3 (fuel := 8) (laidMet_of_run' 8 (by kernel_rfl) (by kernel_rfl)) (by kernel_rfl) (by kernel_rfl)

/-- What the condition gives the walks: the round words' cells. -/
theorem tab_of {W : World} (h : laidMetH Tryd.prog Rows.fnFramesRow.laid W) : Tab W := by
  rw [MakeChecks.laidMetH_plain _ _ _ (by kernel_rfl)] at h
  have hT : Lib.TabIs Tryd.prog W "loop.example/g00226/impl.roundWords" .u32 (kL.map fun x => num x) := Lib.tabIs_of_head (rest := []) gTab tTab Tryd.underlying58 Tryd.underlying48 (by kernel_rfl) (by kernel_rfl) h
  have hc : ∀ i, i < 64 → W.cell? ⟨0, i, none⟩ = some (.int .u32 (num (kL.getD i 0))) := fun i hi => by
    have hl : i < kL.length := hi
    have := hT.cell gTab i (by rw [List.length_map]; exact hl)
    rw [this]
    simp [List.getD, hl]
  exact ⟨block_lt_of_cell (hc 0 (by omega)), hc⟩

theorem fr_drewN {B : Nat} {w w' : World} (h : Below B w w') (q : Nat) : Below B w (w'.drewN q) := ⟨h.os, h.tape, h.output, h.size, h.block⟩

theorem fr_kept {w w' : World} {b e n : Nat} {v : Value} {xs : List Value} (h : w.ownsRow b e 1 v n xs) (hb : Below w.heap.size w w') : w'.ownsRow b e 1 v n xs :=
  h.kept (row := none) ⟨hb.os, hb.tape, hb.output, hb.size, fun k hk _ => hb.block k hk⟩ (by cases v.ownBlock with | none => exact .inl rfl | some k => exact .inr (by simp))

theorem fr_at {w : World} {b m c n : Nat} {a : Option Addr} {ls : List (List UInt8)} (h : w.ownsRow b 9 1 (.slice a m c) n (scells ls)) (hn : n = ls.length) : m = ls.length ∧ AtStrs w a ls := by
  subst hn
  rcases own_cases h with ⟨h1, h2, _⟩ | ⟨g, cap, h1, _, _, hc, _⟩
  · cases h1
    exact ⟨h2.symm, .inl (List.length_eq_zero_iff.1 h2)⟩
  · cases h1
    exact ⟨rfl, .inr ⟨g, rfl, fun j hj => (hc j hj).trans (scells_at ls j hj)⟩⟩

theorem fr_pre {w : World} {a : Option Addr} {ls : List (List UInt8)} (h : AtStrs w a ls) (k : Nat) : AtStrs w a (ls.take k) := by
  rcases h with rfl | ⟨g, h1, h2⟩
  · exact .inl (by simp)
  · exact .inr ⟨g, h1, fun j hj => by rw [List.getElem_take]; exact h2 j (by simp at hj; omega)⟩

theorem fr_drew {w : World} {a : Option Addr} {ls : List (List UInt8)} (h : AtStrs w a ls) (q : Nat) : AtStrs (w.drewN q) a ls := by
  rcases h with rfl | ⟨g, h1, h2⟩
  · exact .inl rfl
  · exact .inr ⟨g, h1, h2⟩

theorem fr_below {w w' : World} {b n : Nat} {a : Option Addr} {m c : Nat} {ls : List (List UInt8)} (h : w.ownsRow b 9 1 (.slice a m c) n (scells ls)) (hn : n = ls.length) (hb : Below w.heap.size w w') : AtStrs w' a ls := (fr_at (fr_kept h hb) hn).2

theorem fr_cut {w : World} {b n c : Nat} {a : Option Addr} {xs : List Value} (h : w.ownsRow b 9 1 (.slice a n c) n xs) (k : Nat) (hk : k ≤ n) (W : World) : (Instr.slice 25 (.slice a n c) none (some (.int .i64 (k : Int))) none).run Tryd.prog W = .ok (.slice a k c) W := by
  rcases h.2 with ⟨h1, h2⟩ | ⟨g, cap, cur, h1, _, _, hc, hm, _⟩
  · simp only [Value.slice.injEq] at h1
    obtain ⟨rfl, rfl, rfl⟩ := h1
    obtain rfl : k = 0 := by omega
    go_simp
  · simp only [Value.slice.injEq] at h1
    obtain ⟨rfl, _, rfl⟩ := h1
    unfold maxLen at hm
    have h0 : (0 : Int) ≤ (k : Int) := by omega
    have hkc : (k : Int) ≤ (c : Int) := by omega
    have hkc' : k ≤ c := by omega
    go_simp

set_option maxRecDepth 100000 in
set_option maxHeartbeats 4000000 in
theorem walk (a0 : Option Addr) (len0 cap0 : Nat) (w : World) (w0 : Code w a0 len0) (hT : Tab w) :
    Calls Tryd.prog 3 #[.slice a0 len0 cap0] w fun e w' => e = .returned (.bool true) ∧ Below w.heap.size w w' := by
  by_cases hb : len0 ≤ 1048576
  · have HB := bigNo len0 cap0 a0 w hb
    have HC : Hid (Code w a0 len0) := w0
    have HT : Hid (Tab w) := hT
    clear w0 hT
    go_enter Tryd.func3, Tryd.ntmps3
    go_wp2_with fail
    refine HB.mono ?_
    rintro e w ⟨rfl, rfl⟩
    clear HB
    have HD := drawTakeFrames len0 cap0 a0 w hb HC.out
    go_wp2_with fail
    refine HD.mono ?_
    rintro e w2 ⟨s, hsl, rfl, b2⟩
    clear HD
    have HI := impl_takeFrames s w2 (by omega) (HT.out.later b2)
    have HIS := fun W => spec_takeFrames s W (by omega)
    obtain ⟨ls, hls⟩ : ∃ ls, ls = framesL s := ⟨_, rfl⟩
    obtain ⟨fl, hfl⟩ : ∃ fl, fl = endsF ls := ⟨_, rfl⟩
    unfold FramesPost at HI HIS
    rw [← hls, ← hfl] at HI
    simp only [← hls, ← hfl] at HIS
    have HLS : Hid (ls = framesL s) := hls
    have HFL : Hid (fl = endsF ls) := hfl
    clear hls hfl
    go_wp2_with fail
    refine HI.mono ?_
    rintro e w3 ⟨v0, rfl, o3, b3, hln, hfs⟩
    have B3 := b2.trans (b3.mono b2.size)
    clear HI b2
    obtain ⟨va, vm, vc, rfl⟩ := own_slice o3
    obtain ⟨rfl, at3⟩ := fr_at o3 rfl
    have O3 := hidOwn o3
    clear o3 at3
    go_wp2_with fail
    refine (HIS _).mono ?_
    rintro e w4 ⟨v1, rfl, o4, b4, _, _⟩
    have B4 := B3.trans (b4.mono B3.size)
    have O3' := hidOwn (fr_kept O3.out b4)
    obtain ⟨ua, um, uc, rfl⟩ := own_slice o4
    obtain ⟨rfl, at4⟩ := fr_at o4 rfl
    have at3 := (fr_at O3'.out rfl).2
    have HS := sameT_any ls va ua vc uc w4 (by omega) at3 at4
    clear O3 HIS b4 B3 o4 at3 at4
    go_wp2_with fail
    refine HS.mono ?_
    rintro e w5 ⟨rfl, q, rfl⟩
    have B5 := fr_drewN B4 q
    have O5 := hidOwn (own_drewN' O3'.out q)
    generalize w4.drewN q = w5 at B5 O5 ⊢
    clear HS B4 O3'
    have hfs1 : ¬ (s.length : Int) < (fl : Int) := by omega
    have hfs2 : decide ((s.length : Int) < (fl : Int)) = false := by simp; omega
    have hfs3 : decide (s.length < fl) = false := by simp; omega
    go_wp2
    have hsh : Hid (∀ d ∈ ls, d.length ≤ 60000) := by intro d hd; rw [HLS.out] at hd; exact framesF_short _ _ d hd
    go_loopw [8, 9] (fun v i wr => ∃ j : Nat, ∃ al : List UInt8, j ≤ ls.length ∧ v = .string ⟨al.toArray⟩ ∧ i = .int .i64 (j : Int) ∧ Hid (al = packF (ls.take j)) ∧ wr.ownsRow w2.heap.size 9 1 (.slice va ls.length vc) ls.length (scells ls) ∧ Below w.heap.size w wr) (fun _ i _ => ls.length - (intOf i).toNat)
    case atStart => exact ⟨0, [], Nat.zero_le _, rfl, rfl, by simp [Hid, packF], O5.out, B5⟩
    case round =>
      obtain ⟨j, al, hj, rfl, rfl, HAL, hown, hbr⟩ := hrel
      have hO := hidOwn hown
      have hza : (ByteArray.mk al.toArray).size = al.length := by simp [ByteArray.size]
      clear hown O5 B5
      by_cases hlt : j < ls.length
      · obtain ⟨_, hat⟩ := fr_at hO.out rfl
        rcases hat with h | ⟨g, hva, hc⟩
        · rw [h] at hlt; exact absurd hlt (by simp)
        have c1 := hc j hlt
        have hj0 : (0 : Int) ≤ (j : Int) := by omega
        have hj1 : (j : Int) < (ls.length : Int) := by omega
        have hidx : ∀ W : World, (Instr.indexAt 25 (.slice va ls.length vc) (.int .i64 (j : Int))).run Tryd.prog W = .ok (.pointer (some ⟨g, j, none⟩)) W := by
          intro W; rw [hva]; go_simp
        clear hva
        have hx6 := hsh.out ls[j] (List.getElem_mem _)
        have HAL' : Hid (al ++ frameL ls[j] = packF (ls.take (j + 1))) := by
          rw [Hid, HAL.out, ← packF_snoc, List.take_append_getElem hlt]
        obtain ⟨x, hx⟩ : ∃ x, x = ls[j] := ⟨_, rfl⟩
        rw [← hx] at c1 hx6 HAL'
        have K := impl_frameOf x wr (by omega) (HT.out.later hbr)
        obtain ⟨fx, hfx⟩ : ∃ fx, fx = frameL x := ⟨_, rfl⟩
        have hfl6 : fx.length ≤ 60012 := by rw [hfx, frameL_short hx6, frameB_length]; omega
        rw [← hfx] at K HAL'
        have hzf : (ByteArray.mk fx.toArray).size = fx.length := by simp [ByteArray.size]
        have hal9 : al.length ≤ 1048576 := by
          rw [HAL.out, packF_length _ (fun d hd => hsh.out d (List.mem_of_mem_take hd))]
          have e1 : endsF ls = endsF (ls.take j) + endsF (ls.drop j) := by rw [← endsF_app, List.take_append_drop]
          have := HFL.out; omega
        clear hc hx hfx HAL
        go_wp2_with fail
        refine K.mono ?_
        rintro e w6 ⟨rfl, b6⟩
        have hB6 := hbr.trans (b6.mono hbr.size)
        have hO6 := hidOwn (fr_kept hO.out b6)
        clear K hO b6
        go_wp2
        go_roundw
        case rel => exact ⟨j + 1, al ++ fx, by omega, by rw [ba_app], by go_num, HAL', hO6.out, hB6⟩
        case measure => simp [intOf]; omega
      · have HAL9 : Hid (al = packF ls) := by rw [Hid, HAL.out, List.take_of_length_le (by omega)]
        have HPK : Hid (al = s.take fl) := by
          rw [Hid, HAL9.out, HLS.out, HFL.out, HLS.out]; exact (packF_frames _ s (Nat.le_refl _)).1
        have hall : al.length = fl := by rw [HPK.out]; simp; omega
        have HD := drawFrameOf len0 cap0 a0 wr hb (HC.out.later hbr)
        clear HAL
        go_wp2_with fail
        refine HD.mono ?_
        rintro e w6 ⟨t, ht, rfl, b6⟩
        have B6 := hbr.trans (b6.mono hbr.size)
        have O6 := hidOwn (fr_kept hO.out b6)
        have K := fun W hW => impl_frameOf t W (by omega) hW
        have hftl : (frameL t).length = 12 + t.length := by rw [frameL_short (by omega), frameB_length]
        have HONE : Hid (framesL (al ++ frameL t) = ls ++ [t]) := by
          rw [Hid, HAL9.out, ← packF_snoc]
          exact frames_pack_all _ (fun d hd => by
            rcases List.mem_append.1 hd with h | h
            · exact hsh.out d h
            · simp at h; rw [h]; omega)
        have HM : Hid (endsF (ls ++ [t]) = fl + (frameL t).length) := by rw [Hid, endsF_app, ← HFL.out, hftl]; simp [endsF]
        obtain ⟨ft, hft⟩ : ∃ ft, ft = frameL t := ⟨_, rfl⟩
        rw [← hft] at K hftl HONE HM
        have hzf : (ByteArray.mk ft.toArray).size = ft.length := by simp [ByteArray.size]
        have K1 := fun W hW => impl_takeFrames (al ++ ft) W (by simp; omega) hW
        unfold FramesPost at K1
        simp only [HONE.out] at K1
        obtain ⟨l1, hl1⟩ : ∃ l1, l1 = ls ++ [t] := ⟨_, rfl⟩
        have HL1 : Hid (l1.length = ls.length + 1 ∧ ∀ h : ls.length < l1.length, l1[ls.length] = t) := by
          rw [Hid, hl1]; exact ⟨by simp, fun h => by simp⟩
        rw [← hl1] at HM
        simp only [← hl1] at K1
        obtain ⟨mm, hmm⟩ : ∃ mm, mm = endsF l1 := ⟨_, rfl⟩
        rw [← hmm] at HM
        simp only [← hmm] at K1
        clear hft hl1 hmm HONE HD hO b6 hbr
        go_wp2_with fail
        refine (K _ (HT.out.later B6)).mono ?_
        rintro e w7 ⟨rfl, b7⟩
        have B7 := B6.trans (b7.mono B6.size)
        have O7 := hidOwn (fr_kept O6.out b7)
        clear O6 b7
        have K1' := K1 w7 (HT.out.later B7)
        have eba : (ByteArray.mk (al ++ ft).toArray) = ByteArray.mk al.toArray ++ ByteArray.mk ft.toArray := by rw [ba_app]
        rw [eba] at K1'
        go_wp2_with fail
        refine K1'.mono ?_
        rintro e w8 ⟨v8, rfl, o8, b8, hl8, _⟩
        have B8 := B7.trans (b8.mono B7.size)
        have O7' := hidOwn (fr_kept O7.out b8)
        obtain ⟨oa, om, oc, rfl⟩ := own_slice o8
        obtain ⟨rfl, at8⟩ := fr_at o8 rfl
        obtain ⟨hl1a, hl1b⟩ := HL1.out
        rcases at8 with h | ⟨g8, rfl, hc8⟩
        · rw [h] at hl1a; exact absurd hl1a (by simp)
        have O8 := hidOwn o8
        clear O7 b8 K1 K1' o8 hc8
        obtain ⟨k, hk⟩ : ∃ k, k = len0 % (al.length + 1) := ⟨_, rfl⟩
        have hkle : k ≤ al.length := by have := Nat.mod_lt len0 (show al.length + 1 > 0 by omega); omega
        have hkm : (len0 : Int) % ((al.length : Int) + 1) = (k : Int) := by rw [hk]; push_cast; rfl
        have hkt : (len0 : Int).tmod ((al.length : Int) + 1) = (k : Int) := by rw [Int.tmod_eq_emod_of_nonneg (by omega)]; exact hkm
        have hex := ext_to al k hkle
        obtain ⟨j2, hj2, hcut⟩ := frames_cut ls k (al.take k).length hsh.out (by rw [HAL9.out]; exact Nat.le_refl _)
        have HCUT : Hid (framesL (al.take k) = ls.take j2) := by rw [Hid, ← hcut, ← HAL9.out]; rfl
        have hlk : (al.take k).length ≤ 1048576 := by simp; omega
        obtain ⟨ak, hak⟩ : ∃ ak, ak = al.take k := ⟨_, rfl⟩
        rw [← hak] at hex HCUT hlk
        have K2 := impl_takeFrames ak w8 hlk (HT.out.later B8)
        unfold FramesPost at K2
        rw [HCUT.out] at K2
        have hl2 : (ls.take j2).length ≤ ls.length := by simp; omega
        have HL2 : Hid (∀ W, AtStrs W va ls → AtStrs W va (ls.take j2)) := fun W h => fr_pre h j2
        obtain ⟨l2, hl2d⟩ : ∃ l2, l2 = ls.take j2 := ⟨_, rfl⟩
        rw [← hl2d] at K2 hl2 HL2
        obtain ⟨m2, hm2⟩ : ∃ m2, m2 = endsF l2 := ⟨_, rfl⟩
        rw [← hm2] at K2
        have HK : Hid (k = len0 % (al.length + 1)) := hk
        have hkn : len0 % (al.length + 1) = k := hk.symm
        have HALL : Hid (al.length = fl) := hall
        have hal206 : al.length ≤ 206 := by omega
        have HL1A : Hid (l1.length = ls.length + 1) := hl1a
        clear hk hcut hak hl2d hm2 HCUT hall hl1a
        go_wp2_with fail
        with_reducible refine K2.mono ?_
        rintro e w9 ⟨v9, rfl, o9, b9, hl9, _⟩
        have B9 := B8.trans (b9.mono B8.size)
        have O79 := hidOwn (fr_kept O7'.out b9)
        have O89 := fr_kept O8.out b9
        obtain ⟨fa, fm, fc, rfl⟩ := own_slice o9
        obtain ⟨rfl, at9⟩ := fr_at o9 rfl
        have hc8 : w9.cell? ⟨g8, ls.length, none⟩ = some (.string ⟨t.toArray⟩) := by
          rcases (fr_at O89 rfl).2 with h | ⟨g', hg, hc⟩
          · have hl1a := HL1A.out; rw [h] at hl1a; exact absurd hl1a (by simp)
          · cases hg
            have hl1a := HL1A.out
            have := hc ls.length (by omega)
            rw [hl1b (by omega)] at this
            exact this
        have at7 := HL2.out w9 (fr_at O79.out rfl).2
        have O9 := O79.out
        have hsl9 := fun W => fr_cut O9 l2.length hl2 W
        have K9 := K w9 (HT.out.later B9)
        have hxs : (ByteArray.mk s.toArray).extract 0 fl = ⟨al.toArray⟩ := by rw [ext_to s fl hfs, ← HPK.out]
        have hq1 : ((l1.length : Int) == (ls.length : Int) + 1) = true := by have := HL1A.out; simp; omega
        have hq2 : (ls.length : Int) < (l1.length : Int) := by have := HL1A.out; omega
        have hq3 : ((mm : Int) == (fl : Int) + (ft.length : Int)) = true := by have := HM.out; simp; omega
        have hq4 : (l2.length : Int) ≤ (ls.length : Int) := by omega
        have hq5 : decide ((l2.length : Int) ≤ (ls.length : Int)) = true := by simp; omega
        have hq6 : decide (l2.length ≤ ls.length) = true := by simp; omega
        have hq0 : (0 : Int) ≤ (ls.length : Int) := by omega
        have HAT9 : Hid (AtStrs w9 fa l2 ∧ AtStrs w9 va l2) := ⟨at9, at7⟩
        have hft68 : ft.length ≤ 68 := by omega
        clear hftl K K2 O7' O8 O79 O89 O9 o9 at9 at7 hkm hkt hkn hex hl1b HL1 HL2
        go_wp2_with fail
        with_reducible refine K9.mono ?_
        rintro e w10 ⟨rfl, b10⟩
        have B10 := B9.trans (b10.mono B9.size)
        have hat9 : AtStrs w10 fa l2 ∧ AtStrs w10 va l2 := by
          obtain ⟨h1, h2⟩ := HAT9.out
          have keep : ∀ a, AtStrs w9 a l2 → AtStrs w10 a l2 := fun a h => by
            rcases h with h | ⟨g, h1, h2⟩
            · exact .inl h
            · exact .inr ⟨g, h1, fun j hj => (b10.cell (p := ⟨g, j, none⟩) (World.block_lt_of_cell? w9 _ (h2 j hj))).trans (h2 j hj)⟩
          exact ⟨keep _ h1, keep _ h2⟩
        have KS := sameT_any l2 fa va fc vc w10 (by omega) hat9.1 hat9.2
        clear K9 HAT9 hat9 b10 B9
        go_wp2_with fail
        with_reducible refine KS.mono ?_
        rintro e w11 ⟨rfl, q11, rfl⟩
        have B11 := fr_drewN B10 q11
        generalize w10.drewN q11 = w11 at B11 ⊢
        go_wp2
        go_ret
        exact ⟨rfl, B11⟩
  · have HB := bigYes len0 cap0 a0 w hb
    clear w0
    go_enter Tryd.func3, Tryd.ntmps3
    go_wp2_with fail
    refine HB.mono ?_
    rintro e w1 ⟨rfl, rfl⟩
    go_wp2
    go_ret
    exact ⟨rfl, Below.refl _ _⟩

set_option maxRecDepth 100000 in
theorem lifted (os : Os) (started : os.Started) (H : Type) (enc : TypeId × Value → H) :
    ReturnsInHanded {} Tryd.checked os 3 .any (fun w args => (Rows.fnFramesSpec.pre enc Tryd.prog Tryd.f3 [] false w args ∧ laidMetH Tryd.prog Rows.fnFramesRow.laid w) ∧ sizedMet enc Tryd.prog Tryd.f3 (OpenSpec.ofChange Rows.fnFramesSpec) false w args)
      (Rows.fnFramesSpec.post enc Tryd.prog Tryd.f3 false true false false) := by
  refine returnsInHanded_of_change_and (C := Tryd.checked) (X := fun w _ => laidMetH Tryd.prog Rows.fnFramesRow.laid w) (fun _ _ _ hh h => h.of_heap hh) own started (by kernel_rfl) Tryd.func3
    (ChangeSpec.witness_shaped (enc := enc) (C := Tryd.checked) (os := os) (X := fun w _ => laidMetH Tryd.prog Rows.fnFramesRow.laid w) false (World.doorLaid Tryd.prog 400 os) #[.slice none 0 0] 8 rfl (World.shaped_of_RefB (by kernel_rfl) (by kernel_rfl)) (by kernel_rfl) (by kernel_rfl) (by kernel_rfl) (door_met os _)) ?_
  intro W base args ds gs before hval0 hW _ _ hL _
  have hval : ∀ (j : Nat) t v, Tryd.f3.params[j]? = some t → args[j]? = some v → Value.okWide Tryd.prog W .any base t v := hval0
  have hW' := hW
  obtain ⟨p, q, hA0, hV0, rfl, hfz, hnd⟩ := hW
  have hA : DataW.TrodAll enc Tryd.prog W 0 (fun _ => true) true Tryd.f3.params.toList args.toList ds p := hA0
  have hV : DataW.TrodVars enc Tryd.prog W (fun _ => true) ["loop.example/g00226/impl.roundWords"] gs q := hV0
  rw [Tryd.params3] at hA hval
  obtain ⟨v0, vs0, d0, ds0, p0, q0, hargs, rfl, rfl, h0, r0⟩ := trodAll_cons hA
  obtain ⟨rfl, rfl, rfl⟩ := trodAll_nil r0
  obtain rfl : args = #[v0] := by cases args; simp_all
  obtain ⟨a0, len0, cap0, rfl⟩ := okWide_slice Tryd.underlying22 (hval 0 22 v0 rfl rfl)
  have k0 := h0
  have lt0 : ∀ x ∈ p0, x.block < W.heap.size := by obtain ⟨m, hm⟩ := k0; exact DataW.trod_lt m _ _ _ hm
  have w0 : Code W a0 len0 := by
    obtain ⟨fuel, hf⟩ := h0
    rcases open_ints Tryd.underlying22 Tryd.underlying5 (by kernel_rfl) hf with ⟨hcs, _⟩ | ⟨x, l, c, zs, hcs, _, hl, hm, hz, _, hcell, hwz⟩
    · simp [Value.cells] at hcs
      obtain ⟨rfl, rfl, rfl⟩ := hcs
      exact .inl rfl
    · simp [Value.cells] at hcs
      obtain ⟨rfl, rfl, rfl⟩ := hcs
      exact codeOf W x _ _ zs hl (by simpa using hz) hcell hwz
  obtain ⟨g, t, cs, fuel, d, p', rfl, hg, ht, hvar, hd, rfl⟩ := trodVars_one hV
  obtain rfl := Option.some.inj (gTab.symm.trans hg)
  obtain rfl := Option.some.inj (tTab.symm.trans ht)
  have hT := tab_of hL
  have hltv : ∀ x ∈ p', x.block < W.heap.size := fun x hx => hW'.lt x (List.mem_append_right _ (List.mem_append_right _ hx))
  clear hA0 hV0 hval0 hA hV
  refine (walk a0 len0 cap0 W w0 hT).mono fun e W' ⟨he, hB⟩ => ?_
  subst he
  obtain ⟨fuel', hd'⟩ := Below.trod laidOut0 (by kernel_rfl) (of_decide_eq_true (by kernel_rfl)) (v := .agg cs) (⟨fuel, by simpa [Value.cells] using hd⟩ : DataW.Trod enc Tryd.prog W 0 (fun _ => true) true 58 (.agg cs) d p') hB hltv
  have hv' := trodVars_mk1 (enc := enc) (spare := fun b => decide (b < W.heap.size)) hg ht (var?_below hB hg hT.1 hvar) (by simpa [Value.cells] using hd')
  exact ⟨_, rfl, _, _, _, [], _, _, hW', trodAll_mk1 (shut_bool Tryd.underlying4 _), (trodAll_cons_mk (Below.trod laidOut0 (by kernel_rfl) (of_decide_eq_true (by kernel_rfl)) k0 hB lt0) trodAll_mk0), hv', hB.frame _, fun h => by cases h⟩

theorem named0 : Tryd.prog.funcNamed "loop.example/g00226/laws.FnFrames" = some 3 := by kernel_rfl
theorem closed0 : joinedFacts Tryd.prog 3 Tryd.f3 Rows.fnFramesSpec Rows.fnFramesRow = true := by
  unfold joinedFacts
  rw [seat_may, seat_lifts, seat_make]
  kernel_rfl
theorem inst0 : Tryd.f3.isInstance Tryd.prog Rows.fnFramesRow.origin Rows.fnFramesRow.targs := of_decide_eq_true (by kernel_rfl)
theorem wrap0 : Tryd.f3.isWrapper Tryd.prog Rows.fnFramesRow.wrapper Rows.fnFramesRow.mainSum := by unfold Func.isWrapper; first | (rw [if_pos (by decide +kernel)]; kernel_rfl) | (rw [if_neg (by decide +kernel)]; exact ⟨rfl, rfl⟩)

theorem over : Rows.fnFramesRow.holds Tryd.pinned (OpenSpec.ofChange Rows.fnFramesSpec) :=
  OpenClaim.holds_of_wide 3 Tryd.f3 rfl rfl rfl rfl rfl rfl rfl ⟨rfl, rfl, rfl, rfl, rfl⟩ rfl rfl rfl rfl rfl named0 Tryd.func3 closed0 inst0 wrap0
    (fun os started H enc _ => lifted os started H enc)

theorem text0 : Rows.fnFramesRow.wfByText (OpenSpec.ofChange Rows.fnFramesSpec) = true := by kernel_rfl
theorem looks0 : false = Tryd.prog.looks [] := by kernel_rfl
theorem goes0 : false = Rows.fnFramesRow.goesBy Tryd.prog := by kernel_rfl
theorem wants0 : ([22].all fun u => !Tryd.prog.wantsStandIn u) = true := by kernel_rfl

theorem card : Claim7.holds Tryd.pinned (.plain (OpenSpec.ofChange Rows.fnFramesSpec)) Rows.fnFramesCard :=
  Claim7.holds_tied_plain_at .later [] [.data] true (true, Rows.fnFramesCard.stood.harness.2) false
    over (fun _ h => by cases h) text0 (fun _ h => by cases h) fnFrames_row_tie rfl ⟨rfl, rfl⟩ seat_main rfl
    (fun f fn hf hfn => by
      obtain rfl : f = 3 := Option.some.inj (named0.symm.trans hf) |>.symm
      obtain rfl : fn = Tryd.f3 := (Option.some.inj (Tryd.func3.symm.trans hfn)).symm
      exact ⟨looks0, fun j t ht => by
        rw [Tryd.params3] at ht
        have hm : t ∈ [22] := by simpa using Array.mem_of_getElem? ht
        exact (show Tryd.prog.wantsStandIn t = false by simpa using List.all_eq_true.1 wants0 t hm)⟩)
    goes0

end Go.Proofs.YtgoohohkgmiemaaDoor.fnFrames
namespace Go.Proofs.YtgoohohkgmiemaaDoor
theorem fnFrames_holds : Rows.FnFramesCardSaid := fnFrames.card
end Go.Proofs.YtgoohohkgmiemaaDoor
