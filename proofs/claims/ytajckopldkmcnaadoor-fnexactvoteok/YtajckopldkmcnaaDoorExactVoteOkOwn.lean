/-
  At every list of keys, index, root and vote VoteOk answers as its model; it writes into no argument. No condition; the round words are laid as the program's text lays them.
-/
import Derived.Test.YtajckopldkmcnaaDoorVOk
import Derived.Test.YtajckopldkmcnaaDoorVoteL
import Derived.Test.YtajckopldkmcnaaDoorStrsAll
import Derived.Test.YtajckopldkmcnaaDoorSzGen
import Derived.Test.YtajckopldkmcnaaDoorOpen4
import Derived.Test.YtajckopldkmcnaaDoorSeatAll
import Derived.Test.YtajckopldkmcnaaDoorTie
import Derived.Test.YtajckopldkmcnaaDoorCards
import Derived.ProofKit
import Derived.LaidMore
import Derived.OpenShut
import Derived.ShutString
import Derived.ChangeOld
import Derived.Below
import Derived.Stop.Joined
import Derived.Lib.LaidTab
import Derived.SevenTiedAt
import Derived.SliceStrings
namespace Go.Proofs.YtajckopldkmcnaaDoor.fnExactVoteOk
open Go.ChangeShapes Go.WideShapes Go.ChangeAt Go.RowKit
open Go.ChangeMaps (open_string shut_string)
set_option linter.unusedVariables false

theorem own : ownKnob Tryd.prog.godebug = none := by kernel_rfl
theorem laidOut0 : laidOutB Tryd.prog = true := by kernel_rfl
theorem gTab : Tryd.prog.globalNamed "loop.example/g00226/impl.roundWords" = some 0 := by kernel_rfl
theorem tTab : (Tryd.prog.globals[0]?).map (·.type) = some 191 := by kernel_rfl

/-- The door's own heap meets the condition. -/
theorem door_met (os : Os) (args : Array Value) : laidMetH Tryd.prog Rows.fnExactVoteOkRow.laid ((World.doorLaid Tryd.prog 400 os).forCall (fun _ _ => 0) ⟨#[], args, []⟩).memory :=
  laidMetH_of_parts3 (fuel := 8) (laidMet_of_run' 8 (by kernel_rfl) (by kernel_rfl)) (by kernel_rfl) (by kernel_rfl)

/-- What the condition gives the walks: the round words' cells. -/
theorem tab_of {W : World} (h : laidMetH Tryd.prog Rows.fnExactVoteOkRow.laid W) : Tab W := by
  rw [MakeChecks.laidMetH_plain _ _ _ (by kernel_rfl)] at h
  have hT : Lib.TabIs Tryd.prog W "loop.example/g00226/impl.roundWords" .u32 (kL.map fun x => num x) := Lib.tabIs_of_head (rest := []) gTab tTab Tryd.underlying191 Tryd.underlying142 (by kernel_rfl) (by kernel_rfl) h
  have hc : ∀ i, i < 64 → W.cell? ⟨0, i, none⟩ = some (.int .u32 (num (kL.getD i 0))) := fun i hi => by
    have hl : i < kL.length := hi
    have := hT.cell gTab i (by rw [List.length_map]; exact hl)
    rw [this]
    simp [List.getD, hl]
  exact ⟨block_lt_of_cell (hc 0 (by omega)), hc⟩

set_option maxRecDepth 100000 in
set_option maxHeartbeats 8000000 in
theorem walk (ak : Option Addr) (ck : Nat) (ks : List (List UInt8)) (ix : Int) (a2 : ByteArray) (w2 : a2.size ≤ maxLen) (nd i : Int) (ao ap : Option Addr) (co cp : Nat) (os ps : List (List UInt8)) (w : World) (hks : IsStrs w ak ks) (hkl : ks.length ≤ 9223372036854775807) (hkm : ∀ l ∈ ks, l.length ≤ 9223372036854775807) (hso : IsStrs w ao os) (hsp : IsStrs w ap ps) (hlo : os.length ≤ 9223372036854775807) (hlp : ps.length ≤ 9223372036854775807) (hmo : ∀ l ∈ os, l.length ≤ 9223372036854775807) (hmp : ∀ l ∈ ps, l.length ≤ 9223372036854775807) (hT : Tab w) :
    Calls Tryd.prog 5 #[.slice ak ks.length ck, .int .i64 ix, .string a2, .agg #[.int .i64 nd, .int .i64 i, .slice ao os.length co, .slice ap ps.length cp]] w fun e w' => e = .returned (.bool true) ∧ Below w.heap.size w w' := by
  unfold maxLen at w2
  have HT : Hid (Tab w) := hT
  clear hT
  have Bb : Below w.heap.size w (w.alloc (.cells #[.int .i64 nd, .int .i64 i, .slice ao os.length co, .slice ap ps.length cp] 43)) := (Below.refl _ _).alloc (Nat.le_refl _) _
  by_cases hb : a2.size ≤ 1048576
  · have e0 : a2 = ⟨a2.data.toList.toArray⟩ := ba_eq a2
    have hl : a2.data.toList.length ≤ 1048576 := by rw [Array.length_toList]; exact hb
    obtain ⟨s, hs⟩ : ∃ s, s = a2.data.toList := ⟨_, rfl⟩
    rw [← hs] at e0 hl
    clear hs
    subst e0
    have hl' : (s.length : Int) ≤ 1048576 := by omega
    obtain ⟨r, ok, hr⟩ := rootIs_some (chkL ix.toNat s) i os ps
    have hrS : RootIsS (chkL ix.toNat s) i os ps r ok := hr
    have KZ := szS_gen ak ck ks 1048576 (w.alloc (.cells #[.int .i64 nd, .int .i64 i, .slice ao os.length co, .slice ap ps.length cp] 43)) (by omega) hkl hkm (strs_later hks Bb)
    have HS : Hid (∀ W, Below w.heap.size w W → IsStrs W ao os ∧ IsStrs W ap ps ∧ IsStrs W ak ks) := fun W hW => ⟨hso.later hW, hsp.later hW, hks.later hW⟩
    have KY := fun L hL => szVote_gen nd i ao ap co cp os ps L (w.alloc (.cells #[.int .i64 nd, .int .i64 i, .slice ao os.length co, .slice ap ps.length cp] 43)) hL hlo hmo hlp hmp (hso.later Bb) (hsp.later Bb)
    have hblk := heap_alloc_new w (.cells #[.int .i64 nd, .int .i64 i, .slice ao os.length co, .slice ap ps.length cp] 43)
    clear hso hsp hks hmo hmp
    go_enter Tryd.func5, Tryd.ntmps5
    go_wp2_with fail
    refine KZ.mono ?_
    rintro e w1 ⟨he, rfl⟩
    clear KZ
    rcases he with rfl | ⟨hbk, n, hn, hnn, rfl⟩
    · go_wp2
      go_ret
      exact ⟨rfl, Bb⟩
    · have KYn := KY n (by omega)
      obtain ⟨c0, c1, c2, c3, _⟩ := vq_cells hblk
      clear KY
      go_wp2_with fail
      refine KYn.mono ?_
      rintro e w1 ⟨he, b1⟩
      have B1 := Bb.trans (b1.mono (by simp))
      have k1 := (b1.block w.heap.size (by simp)).trans hblk
      have n1 : w.heap.size < w1.heap.size := by have := b1.size; simp at this; omega
      clear KYn b1 hblk c0 c1 c2 c3
      rcases he with rfl | ⟨hbig, n', hn', hnn', rfl⟩
      · go_wp2
        go_ret
        exact ⟨rfl, B1⟩
      · have hlo' : os.length ≤ 1048576 := by omega
        have hlp' : ps.length ≤ 1048576 := by omega
        have hlk' : ks.length ≤ 1048576 := by omega
        have hmo' : ∀ l ∈ os, l.length ≤ 1048576 := fun l hl => by obtain ⟨j, hj, rfl⟩ := List.getElem_of_mem hl; have := each_le os j hj; omega
        have hmp' : ∀ l ∈ ps, l.length ≤ 1048576 := fun l hl => by obtain ⟨j, hj, rfl⟩ := List.getElem_of_mem hl; have := each_le ps j hj; omega
        have hmk' : ∀ l ∈ ks, l.length ≤ 1048576 := fun l hl => by obtain ⟨j, hj, rfl⟩ := List.getElem_of_mem hl; have := each_le ks j hj; omega
        obtain ⟨vb, hvb⟩ : ∃ vb, vb = vOk ks ix s nd r ok := ⟨_, rfl⟩
        have HR1 : Hid (∀ k ck a c b d W, IsStrs W k ks → IsStrs W a os → IsStrs W b ps → Calls Tryd.prog 21 #[.slice k ks.length ck, .int .i64 ix, .string ⟨s.toArray⟩, .agg #[.int .i64 nd, .int .i64 i, .slice a os.length c, .slice b ps.length d]] W fun e w' => e = .returned (.bool vb) ∧ Below W.heap.size W w') := fun k ck a c b d W h0 h1 h2 => by rw [hvb]; exact spec_voteOk k ck ks ix s nd i a b c d os ps W hlk' hmk' hl hlo' hmo' hlp' hmp' h0 h1 h2 r ok hrS
        have HR2 : Hid (∀ k ck a c b d W, IsStrs W k ks → IsStrs W a os → IsStrs W b ps → Tab W → Calls Tryd.prog 24 #[.slice k ks.length ck, .int .i64 ix, .string ⟨s.toArray⟩, .agg #[.int .i64 nd, .int .i64 i, .slice a os.length c, .slice b ps.length d]] W fun e w' => e = .returned (.bool vb) ∧ Below W.heap.size W w') := fun k ck a c b d W h0 h1 h2 h3 => by rw [hvb]; exact impl_voteOk k ck ks ix s nd i a b c d os ps W hlk' hmk' hl hlo' hmo' hlp' hmp' h0 h1 h2 h3 r ok hr
        have HTK : Hid (∀ W, Below w.heap.size w W → Calls Tryd.prog 22 #[.slice ak ks.length ck] W fun e w' => e = .returned (.slice (some ⟨W.heap.size, 0, none⟩) ks.length ks.length) ∧ w'.ownsRow W.heap.size 9 1 (.slice (some ⟨W.heap.size, 0, none⟩) ks.length ks.length) ks.length (scells ks) ∧ Below W.heap.size W w') := fun W hW => toS_any ak ck ks W hlk' (HS.out W hW).2.2
        have HTV : Hid (∀ W, Below w.heap.size w W → Calls Tryd.prog 23 #[.agg #[.int .i64 nd, .int .i64 i, .slice ao os.length co, .slice ap ps.length cp]] W fun e w' => ∃ g1 g2 : Nat, e = .returned (.agg #[.int .i64 nd, .int .i64 i, .slice (some ⟨g1, 0, none⟩) os.length os.length, .slice (some ⟨g2, 0, none⟩) ps.length ps.length]) ∧ w'.ownsRow W.heap.size 9 1 (.slice (some ⟨g1, 0, none⟩) os.length os.length) os.length (scells os) ∧ w'.ownsRow W.heap.size 9 1 (.slice (some ⟨g2, 0, none⟩) ps.length ps.length) ps.length (scells ps) ∧ Below W.heap.size W w') := fun W hW => toVote_any nd i ao ap co cp os ps W hlo' hlp' (HS.out W hW).1 (HS.out W hW).2.1
        have S1 : Hid (w1.cell? ⟨w.heap.size, 0, none⟩ = some (.int .i64 nd) ∧ w1.cell? ⟨w.heap.size, 1, none⟩ = some (.int .i64 i) ∧ w1.cell? ⟨w.heap.size, 2, none⟩ = some (.slice ao os.length co) ∧ w1.cell? ⟨w.heap.size, 3, none⟩ = some (.slice ap ps.length cp)) := by obtain ⟨c0, c1, c2, c3, _⟩ := vq_cells k1; exact ⟨c0, c1, c2, c3⟩
        clear hvb hr hrS hmo' hmp' hmk' hbig hlo hlp HS hbk hnn hnn' k1 hkl hkm
        go_wp2_with fail
        have B1d : Below w.heap.size w w1.drew := ⟨B1.os, B1.tape, B1.output, B1.size, B1.block⟩
        go_region_held3 (fun w' => w'.cell? ⟨w.heap.size, 0, none⟩ = some (.int .i64 nd) ∧ w'.cell? ⟨w.heap.size, 1, none⟩ = some (.int .i64 i) ∧ w'.cell? ⟨w.heap.size, 2, none⟩ = some (.slice ao os.length co) ∧ w'.cell? ⟨w.heap.size, 3, none⟩ = some (.slice ap ps.length cp))
          (first | exact S4.out | exact S3.out | exact S2.out | exact S1.out)
          (first
            | (go_at_call 21
               refine (HR1.out _ _ _ _ _ _ v3 J3.out.1 J3.out.2.1 J3.out.2.2).mono ?_
               rintro e v4 ⟨rfl, b4⟩
               have B4 := B3.trans (b4.mono B3.size)
               have n4 : w.heap.size < v4.heap.size := Nat.lt_of_lt_of_le n3 b4.size
               have S4 : Hid (v4.cell? ⟨w.heap.size, 0, none⟩ = some (.int .i64 nd) ∧ v4.cell? ⟨w.heap.size, 1, none⟩ = some (.int .i64 i) ∧ v4.cell? ⟨w.heap.size, 2, none⟩ = some (.slice ao os.length co) ∧ v4.cell? ⟨w.heap.size, 3, none⟩ = some (.slice ap ps.length cp)) := ⟨(b4.cell (p := ⟨w.heap.size, 0, none⟩) n3).trans S3.out.1, (b4.cell (p := ⟨w.heap.size, 1, none⟩) n3).trans S3.out.2.1, (b4.cell (p := ⟨w.heap.size, 2, none⟩) n3).trans S3.out.2.2.1, (b4.cell (p := ⟨w.heap.size, 3, none⟩) n3).trans S3.out.2.2.2⟩
               clear b4)
            | (go_at_call 23
               refine (HTV.out v2 B2).mono ?_
               rintro e v3 ⟨g1, g2, rfl, o3, o4, b3⟩
               have B3 := B2.trans (b3.mono B2.size)
               have n3 : w.heap.size < v3.heap.size := Nat.lt_of_lt_of_le n2 b3.size
               have S3 : Hid (v3.cell? ⟨w.heap.size, 0, none⟩ = some (.int .i64 nd) ∧ v3.cell? ⟨w.heap.size, 1, none⟩ = some (.int .i64 i) ∧ v3.cell? ⟨w.heap.size, 2, none⟩ = some (.slice ao os.length co) ∧ v3.cell? ⟨w.heap.size, 3, none⟩ = some (.slice ap ps.length cp)) := ⟨(b3.cell (p := ⟨w.heap.size, 0, none⟩) n2).trans S2.out.1, (b3.cell (p := ⟨w.heap.size, 1, none⟩) n2).trans S2.out.2.1, (b3.cell (p := ⟨w.heap.size, 2, none⟩) n2).trans S2.out.2.2.1, (b3.cell (p := ⟨w.heap.size, 3, none⟩) n2).trans S2.out.2.2.2⟩
               have J3 : Hid (IsStrs v3 (some ⟨w1.heap.size, 0, none⟩) ks ∧ IsStrs v3 (some ⟨g1, 0, none⟩) os ∧ IsStrs v3 (some ⟨g2, 0, none⟩) ps) := ⟨strs_later J2.out b3, (isStrs_own o3).2.2, (isStrs_own o4).2.2⟩
               clear b3 o3 o4)
            | (go_at_call 22
               refine (HTK.out w1.drew B1d).mono ?_
               rintro e v2 ⟨rfl, o2, b2'⟩
               have b2 : Below w1.heap.size w1 v2 := ⟨b2'.os, b2'.tape, b2'.output, b2'.size, b2'.block⟩
               have B2 := B1.trans (b2.mono B1.size)
               have n2 : w.heap.size < v2.heap.size := Nat.lt_of_lt_of_le n1 b2.size
               have S2 : Hid (v2.cell? ⟨w.heap.size, 0, none⟩ = some (.int .i64 nd) ∧ v2.cell? ⟨w.heap.size, 1, none⟩ = some (.int .i64 i) ∧ v2.cell? ⟨w.heap.size, 2, none⟩ = some (.slice ao os.length co) ∧ v2.cell? ⟨w.heap.size, 3, none⟩ = some (.slice ap ps.length cp)) := ⟨(b2.cell (p := ⟨w.heap.size, 0, none⟩) n1).trans S1.out.1, (b2.cell (p := ⟨w.heap.size, 1, none⟩) n1).trans S1.out.2.1, (b2.cell (p := ⟨w.heap.size, 2, none⟩) n1).trans S1.out.2.2.1, (b2.cell (p := ⟨w.heap.size, 3, none⟩) n1).trans S1.out.2.2.2⟩
               have J2 : Hid (IsStrs v2 (some ⟨w1.heap.size, 0, none⟩) ks) := (isStrs_own o2).2.2
               clear b2 b2' o2))
        all_goals
          obtain ⟨c0, c1, c2, c3⟩ := S4.out
          go_wp2_with fail
          refine (HTK.out v4 B4).mono ?_
          rintro e v5 ⟨rfl, o5, b5⟩
          have B5 := B4.trans (b5.mono B4.size)
          have n5 : w.heap.size < v5.heap.size := Nat.lt_of_lt_of_le n4 b5.size
          have S5 : Hid (v5.cell? ⟨w.heap.size, 0, none⟩ = some (.int .i64 nd) ∧ v5.cell? ⟨w.heap.size, 1, none⟩ = some (.int .i64 i) ∧ v5.cell? ⟨w.heap.size, 2, none⟩ = some (.slice ao os.length co) ∧ v5.cell? ⟨w.heap.size, 3, none⟩ = some (.slice ap ps.length cp)) := ⟨(b5.cell (p := ⟨w.heap.size, 0, none⟩) n4).trans S4.out.1, (b5.cell (p := ⟨w.heap.size, 1, none⟩) n4).trans S4.out.2.1, (b5.cell (p := ⟨w.heap.size, 2, none⟩) n4).trans S4.out.2.2.1, (b5.cell (p := ⟨w.heap.size, 3, none⟩) n4).trans S4.out.2.2.2⟩
          have O5 := hidOwn o5
          clear b5 o5 c0 c1 c2 c3 S3 S2 S1 J3 J2 S4
          obtain ⟨c0, c1, c2, c3⟩ := S5.out
          go_wp2_with fail
          refine (HTV.out v5 B5).mono ?_
          rintro e v6 ⟨g3, g4, rfl, p3, p4, b6⟩
          have B6 := B5.trans (b6.mono B5.size)
          have n6 : w.heap.size < v6.heap.size := Nat.lt_of_lt_of_le n5 b6.size
          have Ba : Below v6.heap.size v6 (v6.alloc (.cells #[.int .i64 nd, .int .i64 i, .slice (some ⟨g3, 0, none⟩) os.length os.length, .slice (some ⟨g4, 0, none⟩) ps.length ps.length] 33)) := (Below.refl _ _).alloc (Nat.le_refl _) _
          have B7 : Below w.heap.size w (v6.alloc (.cells #[.int .i64 nd, .int .i64 i, .slice (some ⟨g3, 0, none⟩) os.length os.length, .slice (some ⟨g4, 0, none⟩) ps.length ps.length] 33)) := B6.trans (Ba.mono B6.size)
          have O7 := hidOwn (keptO (keptO O5.out b6) Ba)
          have P3 := hidOwn (keptO p3 Ba)
          have P4 := hidOwn (keptO p4 Ba)
          have J7 : Hid (IsStrs (v6.alloc (.cells #[.int .i64 nd, .int .i64 i, .slice (some ⟨g3, 0, none⟩) os.length os.length, .slice (some ⟨g4, 0, none⟩) ps.length ps.length] 33)) (some ⟨v4.heap.size, 0, none⟩) ks ∧ IsStrs (v6.alloc (.cells #[.int .i64 nd, .int .i64 i, .slice (some ⟨g3, 0, none⟩) os.length os.length, .slice (some ⟨g4, 0, none⟩) ps.length ps.length] 33)) (some ⟨g3, 0, none⟩) os ∧ IsStrs (v6.alloc (.cells #[.int .i64 nd, .int .i64 i, .slice (some ⟨g3, 0, none⟩) os.length os.length, .slice (some ⟨g4, 0, none⟩) ps.length ps.length] 33)) (some ⟨g4, 0, none⟩) ps) := ⟨(isStrs_own O7.out).2.2, (isStrs_own P3.out).2.2, (isStrs_own P4.out).2.2⟩
          have x7 := heap_alloc_new v6 (.cells #[.int .i64 nd, .int .i64 i, .slice (some ⟨g3, 0, none⟩) os.length os.length, .slice (some ⟨g4, 0, none⟩) ps.length ps.length] 33)
          have S7 : Hid ((v6.alloc (.cells #[.int .i64 nd, .int .i64 i, .slice (some ⟨g3, 0, none⟩) os.length os.length, .slice (some ⟨g4, 0, none⟩) ps.length ps.length] 33)).cell? ⟨w.heap.size, 0, none⟩ = some (.int .i64 nd) ∧ (v6.alloc (.cells #[.int .i64 nd, .int .i64 i, .slice (some ⟨g3, 0, none⟩) os.length os.length, .slice (some ⟨g4, 0, none⟩) ps.length ps.length] 33)).cell? ⟨w.heap.size, 1, none⟩ = some (.int .i64 i) ∧ (v6.alloc (.cells #[.int .i64 nd, .int .i64 i, .slice (some ⟨g3, 0, none⟩) os.length os.length, .slice (some ⟨g4, 0, none⟩) ps.length ps.length] 33)).cell? ⟨w.heap.size, 2, none⟩ = some (.slice ao os.length co) ∧ (v6.alloc (.cells #[.int .i64 nd, .int .i64 i, .slice (some ⟨g3, 0, none⟩) os.length os.length, .slice (some ⟨g4, 0, none⟩) ps.length ps.length] 33)).cell? ⟨w.heap.size, 3, none⟩ = some (.slice ap ps.length cp) ∧ (v6.alloc (.cells #[.int .i64 nd, .int .i64 i, .slice (some ⟨g3, 0, none⟩) os.length os.length, .slice (some ⟨g4, 0, none⟩) ps.length ps.length] 33)).cell? ⟨v6.heap.size, 0, none⟩ = some (.int .i64 nd) ∧ (v6.alloc (.cells #[.int .i64 nd, .int .i64 i, .slice (some ⟨g3, 0, none⟩) os.length os.length, .slice (some ⟨g4, 0, none⟩) ps.length ps.length] 33)).cell? ⟨v6.heap.size, 1, none⟩ = some (.int .i64 i) ∧ (v6.alloc (.cells #[.int .i64 nd, .int .i64 i, .slice (some ⟨g3, 0, none⟩) os.length os.length, .slice (some ⟨g4, 0, none⟩) ps.length ps.length] 33)).cell? ⟨v6.heap.size, 2, none⟩ = some (.slice (some ⟨g3, 0, none⟩) os.length os.length) ∧ (v6.alloc (.cells #[.int .i64 nd, .int .i64 i, .slice (some ⟨g3, 0, none⟩) os.length os.length, .slice (some ⟨g4, 0, none⟩) ps.length ps.length] 33)).cell? ⟨v6.heap.size, 3, none⟩ = some (.slice (some ⟨g4, 0, none⟩) ps.length ps.length)) := by
            obtain ⟨y0, y1, y2, y3, _⟩ := vq_cells x7
            exact ⟨(Ba.cell (p := ⟨w.heap.size, 0, none⟩) n6).trans ((b6.cell (p := ⟨w.heap.size, 0, none⟩) n5).trans S5.out.1), (Ba.cell (p := ⟨w.heap.size, 1, none⟩) n6).trans ((b6.cell (p := ⟨w.heap.size, 1, none⟩) n5).trans S5.out.2.1), (Ba.cell (p := ⟨w.heap.size, 2, none⟩) n6).trans ((b6.cell (p := ⟨w.heap.size, 2, none⟩) n5).trans S5.out.2.2.1), (Ba.cell (p := ⟨w.heap.size, 3, none⟩) n6).trans ((b6.cell (p := ⟨w.heap.size, 3, none⟩) n5).trans S5.out.2.2.2), y0, y1, y2, y3⟩
          clear b6 p3 p4 c0 c1 c2 c3 S5 O5 x7 Ba
          obtain ⟨c0, c1, c2, c3, y0, y1, y2, y3⟩ := S7.out
          go_wp2_with fail
          refine (HR2.out _ _ _ _ _ _ _ J7.out.1 J7.out.2.1 J7.out.2.2 (HT.out.later B7)).mono ?_
          rintro e v8 ⟨rfl, b8⟩
          have B8 := B7.trans (b8.mono B7.size)
          have n7 : w.heap.size < (v6.alloc (.cells #[.int .i64 nd, .int .i64 i, .slice (some ⟨g3, 0, none⟩) os.length os.length, .slice (some ⟨g4, 0, none⟩) ps.length ps.length] 33)).heap.size := by simp; omega
          have n7x : v6.heap.size < (v6.alloc (.cells #[.int .i64 nd, .int .i64 i, .slice (some ⟨g3, 0, none⟩) os.length os.length, .slice (some ⟨g4, 0, none⟩) ps.length ps.length] 33)).heap.size := by simp
          have n8 : w.heap.size < v8.heap.size := Nat.lt_of_lt_of_le n7 b8.size
          have n8x : v6.heap.size < v8.heap.size := Nat.lt_of_lt_of_le n7x b8.size
          have S8 : Hid (v8.cell? ⟨w.heap.size, 0, none⟩ = some (.int .i64 nd) ∧ v8.cell? ⟨w.heap.size, 1, none⟩ = some (.int .i64 i) ∧ v8.cell? ⟨w.heap.size, 2, none⟩ = some (.slice ao os.length co) ∧ v8.cell? ⟨w.heap.size, 3, none⟩ = some (.slice ap ps.length cp) ∧ v8.cell? ⟨v6.heap.size, 0, none⟩ = some (.int .i64 nd) ∧ v8.cell? ⟨v6.heap.size, 1, none⟩ = some (.int .i64 i) ∧ v8.cell? ⟨v6.heap.size, 2, none⟩ = some (.slice (some ⟨g3, 0, none⟩) os.length os.length) ∧ v8.cell? ⟨v6.heap.size, 3, none⟩ = some (.slice (some ⟨g4, 0, none⟩) ps.length ps.length)) := ⟨(b8.cell (p := ⟨w.heap.size, 0, none⟩) n7).trans S7.out.1, (b8.cell (p := ⟨w.heap.size, 1, none⟩) n7).trans S7.out.2.1, (b8.cell (p := ⟨w.heap.size, 2, none⟩) n7).trans S7.out.2.2.1, (b8.cell (p := ⟨w.heap.size, 3, none⟩) n7).trans S7.out.2.2.2.1, (b8.cell (p := ⟨v6.heap.size, 0, none⟩) n7x).trans S7.out.2.2.2.2.1, (b8.cell (p := ⟨v6.heap.size, 1, none⟩) n7x).trans S7.out.2.2.2.2.2.1, (b8.cell (p := ⟨v6.heap.size, 2, none⟩) n7x).trans S7.out.2.2.2.2.2.2.1, (b8.cell (p := ⟨v6.heap.size, 3, none⟩) n7x).trans S7.out.2.2.2.2.2.2.2⟩
          have O8 := hidOwn (keptO O7.out b8)
          have P38 := hidOwn (keptO P3.out b8)
          have P48 := hidOwn (keptO P4.out b8)
          clear b8 c0 c1 c2 c3 y0 y1 y2 y3 S7 O7 P3 P4 J7 n7 n7x
          go_wp2_with fail
          refine (HTK.out v8 B8).mono ?_
          rintro e v9 ⟨rfl, o9, b9⟩
          have B9 := B8.trans (b9.mono B8.size)
          have n9 : w.heap.size < v9.heap.size := Nat.lt_of_lt_of_le n8 b9.size
          have n9x : v6.heap.size < v9.heap.size := Nat.lt_of_lt_of_le n8x b9.size
          have S9 : Hid (v9.cell? ⟨w.heap.size, 0, none⟩ = some (.int .i64 nd) ∧ v9.cell? ⟨w.heap.size, 1, none⟩ = some (.int .i64 i) ∧ v9.cell? ⟨w.heap.size, 2, none⟩ = some (.slice ao os.length co) ∧ v9.cell? ⟨w.heap.size, 3, none⟩ = some (.slice ap ps.length cp) ∧ v9.cell? ⟨v6.heap.size, 0, none⟩ = some (.int .i64 nd) ∧ v9.cell? ⟨v6.heap.size, 1, none⟩ = some (.int .i64 i) ∧ v9.cell? ⟨v6.heap.size, 2, none⟩ = some (.slice (some ⟨g3, 0, none⟩) os.length os.length) ∧ v9.cell? ⟨v6.heap.size, 3, none⟩ = some (.slice (some ⟨g4, 0, none⟩) ps.length ps.length)) := ⟨(b9.cell (p := ⟨w.heap.size, 0, none⟩) n8).trans S8.out.1, (b9.cell (p := ⟨w.heap.size, 1, none⟩) n8).trans S8.out.2.1, (b9.cell (p := ⟨w.heap.size, 2, none⟩) n8).trans S8.out.2.2.1, (b9.cell (p := ⟨w.heap.size, 3, none⟩) n8).trans S8.out.2.2.2.1, (b9.cell (p := ⟨v6.heap.size, 0, none⟩) n8x).trans S8.out.2.2.2.2.1, (b9.cell (p := ⟨v6.heap.size, 1, none⟩) n8x).trans S8.out.2.2.2.2.2.1, (b9.cell (p := ⟨v6.heap.size, 2, none⟩) n8x).trans S8.out.2.2.2.2.2.2.1, (b9.cell (p := ⟨v6.heap.size, 3, none⟩) n8x).trans S8.out.2.2.2.2.2.2.2⟩
          have O9 := hidOwn (keptO O8.out b9)
          have Q9 := hidOwn o9
          have P39 := hidOwn (keptO P38.out b9)
          have P49 := hidOwn (keptO P48.out b9)
          clear b9 o9 S8 O8 P38 P48
          go_wp2_with fail
          refine (eqS_same ks _ _ _ _ v9 (by omega) O9.out Q9.out).mono ?_
          rintro e v10 ⟨rfl, q, rfl⟩
          have B10 : Below w.heap.size w (v9.drewN q) := ⟨B9.os, B9.tape, B9.output, B9.size, B9.block⟩
          have SZ : Hid ((v9.drewN q).cell? ⟨w.heap.size, 0, none⟩ = some (.int .i64 nd) ∧ (v9.drewN q).cell? ⟨w.heap.size, 1, none⟩ = some (.int .i64 i) ∧ (v9.drewN q).cell? ⟨w.heap.size, 2, none⟩ = some (.slice ao os.length co) ∧ (v9.drewN q).cell? ⟨w.heap.size, 3, none⟩ = some (.slice ap ps.length cp) ∧ (v9.drewN q).cell? ⟨v6.heap.size, 0, none⟩ = some (.int .i64 nd) ∧ (v9.drewN q).cell? ⟨v6.heap.size, 1, none⟩ = some (.int .i64 i) ∧ (v9.drewN q).cell? ⟨v6.heap.size, 2, none⟩ = some (.slice (some ⟨g3, 0, none⟩) os.length os.length) ∧ (v9.drewN q).cell? ⟨v6.heap.size, 3, none⟩ = some (.slice (some ⟨g4, 0, none⟩) ps.length ps.length)) := S9.out
          have E9 : Below v9.heap.size v9 (v9.drewN q) := ⟨rfl, rfl, rfl, Nat.le_refl _, fun _ _ => rfl⟩
          have P3a := hidOwn (keptO P39.out E9)
          have P4a := hidOwn (keptO P49.out E9)
          have m9 : w.heap.size < (v9.drewN q).heap.size := n9
          have m9x : v6.heap.size < (v9.drewN q).heap.size := n9x
          obtain ⟨va, hva⟩ : ∃ va, va = v9.drewN q := ⟨_, rfl⟩
          rw [← hva] at B10 SZ P3a P4a m9 m9x ⊢
          clear hva S9 O9 Q9 P39 P49 E9
          have Bad : Below w.heap.size w va.drew := ⟨B10.os, B10.tape, B10.output, B10.size, B10.block⟩
          go_wp2_with fail
          go_region_held3 (fun w' => w'.cell? ⟨w.heap.size, 0, none⟩ = some (.int .i64 nd) ∧ w'.cell? ⟨w.heap.size, 1, none⟩ = some (.int .i64 i) ∧ w'.cell? ⟨w.heap.size, 2, none⟩ = some (.slice ao os.length co) ∧ w'.cell? ⟨w.heap.size, 3, none⟩ = some (.slice ap ps.length cp) ∧ w'.cell? ⟨v6.heap.size, 0, none⟩ = some (.int .i64 nd) ∧ w'.cell? ⟨v6.heap.size, 1, none⟩ = some (.int .i64 i) ∧ w'.cell? ⟨v6.heap.size, 2, none⟩ = some (.slice (some ⟨g3, 0, none⟩) os.length os.length) ∧ w'.cell? ⟨v6.heap.size, 3, none⟩ = some (.slice (some ⟨g4, 0, none⟩) ps.length ps.length))
            (first | exact SC.out | exact SB.out | exact SZ.out)
            (first
              | (go_at_call 16
                 refine (eqVote_same nd i (some ⟨g3, 0, none⟩) (some ⟨g4, 0, none⟩) (some ⟨g5, 0, none⟩) (some ⟨g6, 0, none⟩) os.length ps.length os.length ps.length os.length ps.length os.length ps.length os ps _ _ _ _ vc (by omega) (by omega) R3.out R4.out O5.out O6.out).mono ?_
                 rintro e vd ⟨rfl, bd⟩
                 have BD := BC.trans (bd.mono BC.size)
                 have SC : Hid (vd.cell? ⟨w.heap.size, 0, none⟩ = some (.int .i64 nd) ∧ vd.cell? ⟨w.heap.size, 1, none⟩ = some (.int .i64 i) ∧ vd.cell? ⟨w.heap.size, 2, none⟩ = some (.slice ao os.length co) ∧ vd.cell? ⟨w.heap.size, 3, none⟩ = some (.slice ap ps.length cp) ∧ vd.cell? ⟨v6.heap.size, 0, none⟩ = some (.int .i64 nd) ∧ vd.cell? ⟨v6.heap.size, 1, none⟩ = some (.int .i64 i) ∧ vd.cell? ⟨v6.heap.size, 2, none⟩ = some (.slice (some ⟨g3, 0, none⟩) os.length os.length) ∧ vd.cell? ⟨v6.heap.size, 3, none⟩ = some (.slice (some ⟨g4, 0, none⟩) ps.length ps.length)) := ⟨(bd.cell (p := ⟨w.heap.size, 0, none⟩) nc).trans SB.out.1, (bd.cell (p := ⟨w.heap.size, 1, none⟩) nc).trans SB.out.2.1, (bd.cell (p := ⟨w.heap.size, 2, none⟩) nc).trans SB.out.2.2.1, (bd.cell (p := ⟨w.heap.size, 3, none⟩) nc).trans SB.out.2.2.2.1, (bd.cell (p := ⟨v6.heap.size, 0, none⟩) ncx).trans SB.out.2.2.2.2.1, (bd.cell (p := ⟨v6.heap.size, 1, none⟩) ncx).trans SB.out.2.2.2.2.2.1, (bd.cell (p := ⟨v6.heap.size, 2, none⟩) ncx).trans SB.out.2.2.2.2.2.2.1, (bd.cell (p := ⟨v6.heap.size, 3, none⟩) ncx).trans SB.out.2.2.2.2.2.2.2⟩
                 clear bd)
              | (go_at_call 23
                 refine (HTV.out va.drew Bad).mono ?_
                 rintro e vc ⟨g5, g6, rfl, o5, o6, bc'⟩
                 have bc : Below va.heap.size va vc := ⟨bc'.os, bc'.tape, bc'.output, bc'.size, bc'.block⟩
                 have BC := B10.trans (bc.mono B10.size)
                 have SB : Hid (vc.cell? ⟨w.heap.size, 0, none⟩ = some (.int .i64 nd) ∧ vc.cell? ⟨w.heap.size, 1, none⟩ = some (.int .i64 i) ∧ vc.cell? ⟨w.heap.size, 2, none⟩ = some (.slice ao os.length co) ∧ vc.cell? ⟨w.heap.size, 3, none⟩ = some (.slice ap ps.length cp) ∧ vc.cell? ⟨v6.heap.size, 0, none⟩ = some (.int .i64 nd) ∧ vc.cell? ⟨v6.heap.size, 1, none⟩ = some (.int .i64 i) ∧ vc.cell? ⟨v6.heap.size, 2, none⟩ = some (.slice (some ⟨g3, 0, none⟩) os.length os.length) ∧ vc.cell? ⟨v6.heap.size, 3, none⟩ = some (.slice (some ⟨g4, 0, none⟩) ps.length ps.length)) := ⟨(bc.cell (p := ⟨w.heap.size, 0, none⟩) m9).trans SZ.out.1, (bc.cell (p := ⟨w.heap.size, 1, none⟩) m9).trans SZ.out.2.1, (bc.cell (p := ⟨w.heap.size, 2, none⟩) m9).trans SZ.out.2.2.1, (bc.cell (p := ⟨w.heap.size, 3, none⟩) m9).trans SZ.out.2.2.2.1, (bc.cell (p := ⟨v6.heap.size, 0, none⟩) m9x).trans SZ.out.2.2.2.2.1, (bc.cell (p := ⟨v6.heap.size, 1, none⟩) m9x).trans SZ.out.2.2.2.2.2.1, (bc.cell (p := ⟨v6.heap.size, 2, none⟩) m9x).trans SZ.out.2.2.2.2.2.2.1, (bc.cell (p := ⟨v6.heap.size, 3, none⟩) m9x).trans SZ.out.2.2.2.2.2.2.2⟩
                 have nc : w.heap.size < vc.heap.size := Nat.lt_of_lt_of_le m9 bc.size
                 have ncx : v6.heap.size < vc.heap.size := Nat.lt_of_lt_of_le m9x bc.size
                 have O5 := hidOwn o5
                 have O6 := hidOwn o6
                 have R3 := hidOwn (keptO P3a.out bc)
                 have R4 := hidOwn (keptO P4a.out bc)
                 clear bc bc' o5 o6))
          all_goals
            go_wp2
            go_ret
            exact ⟨rfl, BD⟩
  · go_enter Tryd.func5, Tryd.ntmps5
    go_wp2
    go_ret
    exact ⟨rfl, Bb⟩

set_option maxRecDepth 100000 in
theorem lifted (os : Os) (started : os.Started) (H : Type) (enc : TypeId × Value → H) :
    ReturnsInHanded {} Tryd.checked os 5 .any (fun w args => (Rows.fnExactVoteOkSpec.pre enc Tryd.prog Tryd.f5 [] false w args ∧ laidMetH Tryd.prog Rows.fnExactVoteOkRow.laid w) ∧ sizedMet enc Tryd.prog Tryd.f5 (OpenSpec.ofChange Rows.fnExactVoteOkSpec) false w args)
      (Rows.fnExactVoteOkSpec.post enc Tryd.prog Tryd.f5 false true false false) := by
  refine returnsInHanded_of_change_and (C := Tryd.checked) (X := fun w _ => laidMetH Tryd.prog Rows.fnExactVoteOkRow.laid w) (fun _ _ _ hh h => h.of_heap hh) own started (by kernel_rfl) Tryd.func5
    (ChangeSpec.witness_shaped (enc := enc) (C := Tryd.checked) (os := os) (X := fun w _ => laidMetH Tryd.prog Rows.fnExactVoteOkRow.laid w) false (World.doorLaid Tryd.prog 400 os) #[.slice none 0 0, .int .i64 0, .string ByteArray.empty, .agg #[.int .i64 0, .int .i64 0, .slice none 0 0, .slice none 0 0]] 8 rfl (World.shaped_of_RefB (by kernel_rfl) (by kernel_rfl)) (by kernel_rfl) (by kernel_rfl) (by kernel_rfl) (door_met os _)) ?_
  intro W base args ds gs before hval0 hW _ _ hL _
  have hval : ∀ (j : Nat) t v, Tryd.f5.params[j]? = some t → args[j]? = some v → Value.okWide Tryd.prog W .any base t v := hval0
  have hW' := hW
  obtain ⟨p, q, hA0, hV0, rfl, hfz, hnd⟩ := hW
  have hA : DataW.TrodAll enc Tryd.prog W 0 (fun _ => true) true Tryd.f5.params.toList args.toList ds p := hA0
  have hV : DataW.TrodVars enc Tryd.prog W (fun _ => true) ["loop.example/g00226/impl.roundWords"] gs q := hV0
  rw [Tryd.params5] at hA hval
  obtain ⟨v0, vs0, d0, ds0, p0, q0, hargs0, rfl, rfl, h0, r0⟩ := trodAll_cons hA
  obtain ⟨v1, vs1, d1, ds1, p1, q1, hargs1, rfl, rfl, h1, r1⟩ := trodAll_cons r0
  obtain ⟨v2, vs2, d2, ds2, p2, q2, hargs2, rfl, rfl, h2, r2⟩ := trodAll_cons r1
  obtain ⟨v3, vs3, d3, ds3, p3, q3, hargs3, rfl, rfl, h3, r3⟩ := trodAll_cons r2
  obtain ⟨rfl, rfl, rfl⟩ := trodAll_nil r3
  obtain rfl : args = #[v0, v1, v2, v3] := by cases args; simp_all
  have k0 := h0
  have lt0 : ∀ x ∈ p0, x.block < W.heap.size := by obtain ⟨m, hm⟩ := k0; exact DataW.trod_lt m _ _ _ hm
  obtain ⟨ak, ks, ck, rfl, hkm, hks, hkl⟩ : ∃ (a : Option Addr) (ls : List (List UInt8)) (cap : Nat), v0 = .slice a ls.length cap ∧ (∀ l ∈ ls, l.length ≤ 9223372036854775807) ∧ IsStrs W a ls ∧ ls.length ≤ 9223372036854775807 := by
    obtain ⟨a0, len0, cap0, rfl⟩ := okWide_slice Tryd.underlying29 (hval 0 29 v0 rfl rfl)
    obtain ⟨fuel, hf⟩ := h0
    exact strs_of (by simpa [Value.cells] using hf)
  obtain ⟨n1, rfl, rfl, rfl, w1⟩ := open_int Tryd.underlying2 (hval 1 2 v1 rfl rfl) h1
  obtain ⟨a2, rfl, rfl, rfl, w2⟩ := open_string Tryd.underlying9 (hval 2 9 v2 rfl rfl) h2
  have k3 := h3
  have lt3 : ∀ x ∈ p3, x.block < W.heap.size := by obtain ⟨m, hm⟩ := k3; exact DataW.trod_lt m _ _ _ hm
  obtain ⟨nd, i, ao, ap, co, cp, os, ps, rfl, hso, hsp, hlo, hlp, hmo, hmp⟩ := vote_of (hval 3 43 v3 rfl rfl) h3
  obtain ⟨g, t, cs, fuel, d, p', rfl, hg, ht, hvar, hd, rfl⟩ := trodVars_one hV
  obtain rfl := Option.some.inj (gTab.symm.trans hg)
  obtain rfl := Option.some.inj (tTab.symm.trans ht)
  have hT := tab_of hL
  have hltv : ∀ x ∈ p', x.block < W.heap.size := fun x hx => hW'.lt x (List.mem_append_right _ (List.mem_append_right _ hx))
  clear hA0 hV0 hval0 hA hV
  refine (walk ak ck ks n1 a2 w2 nd i ao ap co cp os ps W hks hkl hkm hso hsp hlo hlp hmo hmp hT).mono fun e W' ⟨he, hB⟩ => ?_
  subst he
  obtain ⟨fuel', hd'⟩ := Below.trod laidOut0 (by kernel_rfl) (of_decide_eq_true (by kernel_rfl)) (v := .agg cs) (⟨fuel, by simpa [Value.cells] using hd⟩ : DataW.Trod enc Tryd.prog W 0 (fun _ => true) true 191 (.agg cs) d p') hB hltv
  have hv' := trodVars_mk1 (enc := enc) (spare := fun b => decide (b < W.heap.size)) hg ht (var?_below hB hg hT.1 hvar) (by simpa [Value.cells] using hd')
  exact ⟨_, rfl, _, _, _, [], _, _, hW', trodAll_mk1 (shut_bool Tryd.underlying4 _), (trodAll_cons_mk (Below.trod laidOut0 (by kernel_rfl) (of_decide_eq_true (by kernel_rfl)) k0 hB lt0) (trodAll_cons_mk (shut_int Tryd.underlying2 w1) (trodAll_cons_mk (shut_string Tryd.underlying9 w2) (trodAll_cons_mk (Below.trod laidOut0 (by kernel_rfl) (of_decide_eq_true (by kernel_rfl)) k3 hB lt3) trodAll_mk0)))), hv', hB.frame _, fun h => by cases h⟩

theorem named0 : Tryd.prog.funcNamed "loop.example/g00226/laws.FnExactVoteOk" = some 5 := by kernel_rfl
theorem closed0 : joinedFacts Tryd.prog 5 Tryd.f5 Rows.fnExactVoteOkSpec Rows.fnExactVoteOkRow = true := by
  unfold joinedFacts
  rw [seat_may, seat_lifts, seat_make]
  kernel_rfl
theorem inst0 : Tryd.f5.isInstance Tryd.prog Rows.fnExactVoteOkRow.origin Rows.fnExactVoteOkRow.targs := of_decide_eq_true (by kernel_rfl)
theorem wrap0 : Tryd.f5.isWrapper Tryd.prog Rows.fnExactVoteOkRow.wrapper Rows.fnExactVoteOkRow.mainSum := by unfold Func.isWrapper; first | (rw [if_pos (by decide +kernel)]; kernel_rfl) | (rw [if_neg (by decide +kernel)]; exact ⟨rfl, rfl⟩)

theorem over : Rows.fnExactVoteOkRow.holds Tryd.pinned (OpenSpec.ofChange Rows.fnExactVoteOkSpec) :=
  OpenClaim.holds_of_wide 5 Tryd.f5 rfl rfl rfl rfl rfl rfl rfl ⟨rfl, rfl, rfl, rfl, rfl⟩ rfl rfl rfl rfl rfl named0 Tryd.func5 closed0 inst0 wrap0
    (fun os started H enc _ => lifted os started H enc)

theorem text0 : Rows.fnExactVoteOkRow.wfByText (OpenSpec.ofChange Rows.fnExactVoteOkSpec) = true := by kernel_rfl
theorem looks0 : false = Tryd.prog.looks [] := by kernel_rfl
theorem goes0 : false = Rows.fnExactVoteOkRow.goesBy Tryd.prog := by kernel_rfl
theorem wants0 : ([29, 2, 9, 43].all fun u => !Tryd.prog.wantsStandIn u) = true := by kernel_rfl

theorem card : Claim7.holds Tryd.pinned (.plain (OpenSpec.ofChange Rows.fnExactVoteOkSpec)) Rows.fnExactVoteOkCard :=
  Claim7.holds_tied_plain_at .later [] [.data] true (true, Rows.fnExactVoteOkCard.stood.harness.2) false
    over (fun _ h => by cases h) text0 (fun _ h => by cases h) fnExactVoteOk_row_tie rfl ⟨rfl, rfl⟩ seat_main rfl
    (fun f fn hf hfn => by
      obtain rfl : f = 5 := Option.some.inj (named0.symm.trans hf) |>.symm
      obtain rfl : fn = Tryd.f5 := (Option.some.inj (Tryd.func5.symm.trans hfn)).symm
      exact ⟨looks0, fun j t ht => by
        rw [Tryd.params5] at ht
        have hm : t ∈ [29, 2, 9, 43] := by simpa using Array.mem_of_getElem? ht
        exact (show Tryd.prog.wantsStandIn t = false by simpa using List.all_eq_true.1 wants0 t hm)⟩)
    goes0

end Go.Proofs.YtajckopldkmcnaaDoor.fnExactVoteOk
namespace Go.Proofs.YtajckopldkmcnaaDoor
theorem fnExactVoteOk_holds : Rows.FnExactVoteOkCardSaid := fnExactVoteOk.card
end Go.Proofs.YtajckopldkmcnaaDoor
