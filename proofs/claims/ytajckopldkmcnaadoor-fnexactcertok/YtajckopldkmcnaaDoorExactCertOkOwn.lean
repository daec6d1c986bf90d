/-
  At every list of keys and certificate CertOk answers as its model; it writes into no argument. No condition; the round words are laid as the program's text lays them.
-/
import Derived.Test.YtajckopldkmcnaaDoorCertAll
import Derived.Test.YtajckopldkmcnaaDoorCertLaws
import Derived.Test.YtajckopldkmcnaaDoorStrsAll
import Derived.Test.YtajckopldkmcnaaDoorSzGen
import Derived.Test.YtajckopldkmcnaaDoorSeatAll
import Derived.Test.YtajckopldkmcnaaDoorTie
import Derived.Test.YtajckopldkmcnaaDoorCards
import Derived.ProofKit
import Derived.LaidMore
import Derived.OpenShut
import Derived.ShutString
import Derived.ChangeOld
import Derived.Below
import Derived.Stop.Joined
import Derived.Lib.LaidTab
import Derived.SevenTiedAt
import Derived.SliceStrings
namespace Go.Proofs.YtajckopldkmcnaaDoor.fnExactCertOk
open Go.ChangeShapes Go.WideShapes Go.ChangeAt Go.RowKit
open Go.ChangeMaps (open_string shut_string)
set_option linter.unusedVariables false

theorem own : ownKnob Tryd.prog.godebug = none := by kernel_rfl
theorem laidOut0 : laidOutB Tryd.prog = true := by kernel_rfl
theorem gTab : Tryd.prog.globalNamed "loop.example/g00226/impl.roundWords" = some 0 := by kernel_rfl
theorem tTab : (Tryd.prog.globals[0]?).map (·.type) = some 191 := by kernel_rfl

/-- The door's own heap meets the condition. -/
theorem door_met (os : Os) (args : Array Value) : laidMetH Tryd.prog Rows.fnExactCertOkRow.laid ((World.doorLaid Tryd.prog 400 os).forCall (fun _ _ => 0) ⟨#[], args, []⟩).memory :=
  laidMetH_of_parts3 (fuel := 8) (laidMet_of_run' 8 (by kernel_rfl) (by kernel_rfl)) (by kernel_rfl) (by kernel_rfl)

/-- What the condition gives the walks: the round words' cells. -/
theorem tab_of {W : World} (h : laidMetH Tryd.prog Rows.fnExactCertOkRow.laid W) : Tab W := by
  rw [MakeChecks.laidMetH_plain _ _ _ (by kernel_rfl)] at h
  have hT : Lib.TabIs Tryd.prog W "loop.example/g00226/impl.roundWords" .u32 (kL.map fun x => num x) := Lib.tabIs_of_head (rest := []) gTab tTab Tryd.underlying191 Tryd.underlying142 (by kernel_rfl) (by kernel_rfl) h
  have hc : ∀ i, i < 64 → W.cell? ⟨0, i, none⟩ = some (.int .u32 (num (kL.getD i 0))) := fun i hi => by
    have hl : i < kL.length := hi
    have := hT.cell gTab i (by rw [List.length_map]; exact hl)
    rw [this]
    simp [List.getD, hl]
  exact ⟨block_lt_of_cell (hc 0 (by omega)), hc⟩

set_option maxRecDepth 100000 in
set_option maxHeartbeats 8000000 in
theorem walk (ak : Option Addr) (ck : Nat) (ks : List (List UInt8)) (n : Int) (root : List UInt8) (a : Option Addr) (cb : Nat) (vs : List VoteV) (w : World) (hks : IsStrs w ak ks) (hkl : ks.length ≤ 9223372036854775807) (hkm : ∀ l ∈ ks, l.length ≤ 9223372036854775807) (hr : root.length ≤ 9223372036854775807) (hs : IsVotes w a vs) (hvl : vs.length ≤ 9223372036854775807) (hvm : ∀ v ∈ vs, bigV v) (hT : Tab w) :
    Calls Tryd.prog 6 #[.slice ak ks.length ck, .agg #[.int .i64 n, .string ⟨root.toArray⟩, .slice a vs.length cb]] w fun e w' => e = .returned (.bool true) ∧ Below w.heap.size w w' := by
  have HT : Hid (Tab w) := hT
  clear hT
  have Bb : Below w.heap.size w (w.alloc (.cells #[.int .i64 n, .string ⟨root.toArray⟩, .slice a vs.length cb] 53)) := (Below.refl _ _).alloc (Nat.le_refl _) _
  have KZ := szS_gen ak ck ks 1048576 (w.alloc (.cells #[.int .i64 n, .string ⟨root.toArray⟩, .slice a vs.length cb] 53)) (by omega) hkl hkm (strs_later hks Bb)
  have HS : Hid (∀ W, Below w.heap.size w W → IsVotes W a vs ∧ IsStrs W ak ks) := fun W hW => ⟨hs.later hW, hks.later hW⟩
  have KY := fun L hL => szCert_gen n root a cb vs L (w.alloc (.cells #[.int .i64 n, .string ⟨root.toArray⟩, .slice a vs.length cb] 53)) hL hr hvl hvm (hs.later Bb)
  have hblk := heap_alloc_new w (.cells #[.int .i64 n, .string ⟨root.toArray⟩, .slice a vs.length cb] 53)
  clear hs hks hvm hkm
  go_enter Tryd.func6, Tryd.ntmps6
  go_wp2_with fail
  refine KZ.mono ?_
  rintro e w1 ⟨he, rfl⟩
  clear KZ
  rcases he with rfl | ⟨hbk, k, hk, hkk, rfl⟩
  · go_wp2
    go_ret
    exact ⟨rfl, Bb⟩
  · have KYn := KY k (by omega)
    obtain ⟨c0, c1, c2, _⟩ := tri_cells hblk
    clear KY
    go_wp2_with fail
    refine KYn.mono ?_
    rintro e w1 ⟨he, b1⟩
    have B1 := Bb.trans (b1.mono (by simp))
    have k1 := (b1.block w.heap.size (by simp)).trans hblk
    have n1 : w.heap.size < w1.heap.size := by have := b1.size; simp at this; omega
    clear KYn b1 hblk c0 c1 c2
    rcases he with rfl | ⟨hbig, k', hk', hkk', rfl⟩
    · go_wp2
      go_ret
      exact ⟨rfl, B1⟩
    · have hlr : root.length ≤ 1048576 := by omega
      have hlv : vs.length ≤ 1048576 := by omega
      have hlk : ks.length ≤ 1048576 := by omega
      have hmk : ∀ l ∈ ks, l.length ≤ 1048576 := fun l hl => by obtain ⟨j, hj, rfl⟩ := List.getElem_of_mem hl; have := each_le ks j hj; omega
      have hmv : ∀ v ∈ vs, smallV v ∧ (∀ l ∈ v.os, l.length ≤ 1048576) ∧ (∀ l ∈ v.ps, l.length ≤ 1048576) := fun v hv => by
        obtain ⟨q, hq, rfl⟩ := List.getElem_of_mem hv
        have h1 := sizeVs_at vs q hq
        simp only [sizeV] at h1
        refine ⟨⟨by omega, by omega⟩, fun l hl => ?_, fun l hl => ?_⟩
        · obtain ⟨j, hj, rfl⟩ := List.getElem_of_mem hl; have := each_le vs[q].os j hj; omega
        · obtain ⟨j, hj, rfl⟩ := List.getElem_of_mem hl; have := each_le vs[q].ps j hj; omega
      have hms : Hid (∀ v ∈ vs, smallV v) := fun v hv => (hmv v hv).1
      obtain ⟨vb, hvb⟩ : ∃ vb, vb = certOk ks n root vs := ⟨_, rfl⟩
      have HR1 : Hid (∀ p cp q cq W, IsStrs W p ks → IsVotes W q vs → Calls Tryd.prog 27 #[.slice p ks.length cp, .agg #[.int .i64 n, .string ⟨root.toArray⟩, .slice q vs.length cq]] W fun e w' => e = .returned (.bool vb) ∧ Below W.heap.size W w') := fun p cp q cq W h0 h1 => by rw [hvb]; exact spec_certOk p cp ks n root q cq vs W hlk hmk hlr hlv hmv h0 h1
      have HR2 : Hid (∀ p cp q cq W, IsStrs W p ks → IsVotes W q vs → Tab W → Calls Tryd.prog 29 #[.slice p ks.length cp, .agg #[.int .i64 n, .string ⟨root.toArray⟩, .slice q vs.length cq]] W fun e w' => e = .returned (.bool vb) ∧ Below W.heap.size W w') := fun p cp q cq W h0 h1 h2 => by rw [hvb]; exact impl_certOk p cp ks n root q cq vs W hlk hmk hlr hlv hmv h0 h1 h2
      have HTK : Hid (∀ W, Below w.heap.size w W → Calls Tryd.prog 22 #[.slice ak ks.length ck] W fun e w' => e = .returned (.slice (some ⟨W.heap.size, 0, none⟩) ks.length ks.length) ∧ w'.ownsRow W.heap.size 9 1 (.slice (some ⟨W.heap.size, 0, none⟩) ks.length ks.length) ks.length (scells ks) ∧ Below W.heap.size W w') := fun W hW => toS_any ak ck ks W hlk (HS.out W hW).2
      have HTV : Hid (∀ W, Below w.heap.size w W → Calls Tryd.prog 28 #[.agg #[.int .i64 n, .string ⟨root.toArray⟩, .slice a vs.length cb]] W fun e w' => ∃ g : Nat, e = .returned (.agg #[.int .i64 n, .string ⟨root.toArray⟩, .slice (some ⟨g, 0, none⟩) vs.length vs.length]) ∧ IsVotes w' (some ⟨g, 0, none⟩) vs ∧ Below W.heap.size W w') := fun W hW => toCert_any n root a cb vs W hlv hms.out (HS.out W hW).1
      have S1 : Hid (w1.cell? ⟨w.heap.size, 0, none⟩ = some (.int .i64 n) ∧ w1.cell? ⟨w.heap.size, 1, none⟩ = some (.string ⟨root.toArray⟩) ∧ w1.cell? ⟨w.heap.size, 2, none⟩ = some (.slice a vs.length cb)) := by obtain ⟨c0, c1, c2, _⟩ := tri_cells k1; exact ⟨c0, c1, c2⟩
      clear hvb hmv hmk hbig HS hbk hkk hkk' k1 hkl hvl hr
      go_wp2_with fail
      have B1d : Below w.heap.size w w1.drew := ⟨B1.os, B1.tape, B1.output, B1.size, B1.block⟩
      go_region_held3 (fun w' => w'.cell? ⟨w.heap.size, 0, none⟩ = some (.int .i64 n) ∧ w'.cell? ⟨w.heap.size, 1, none⟩ = some (.string ⟨root.toArray⟩) ∧ w'.cell? ⟨w.heap.size, 2, none⟩ = some (.slice a vs.length cb))
        (first | exact S4.out | exact S3.out | exact S2.out | exact S1.out)
        (first
          | (go_at_call 27
             refine (HR1.out _ _ _ _ v3 J3.out.1 J3.out.2).mono ?_
             rintro e v4 ⟨rfl, b4⟩
             have B4 := B3.trans (b4.mono B3.size)
             have n4 : w.heap.size < v4.heap.size := Nat.lt_of_lt_of_le n3 b4.size
             have S4 : Hid (v4.cell? ⟨w.heap.size, 0, none⟩ = some (.int .i64 n) ∧ v4.cell? ⟨w.heap.size, 1, none⟩ = some (.string ⟨root.toArray⟩) ∧ v4.cell? ⟨w.heap.size, 2, none⟩ = some (.slice a vs.length cb)) := ⟨(b4.cell (p := ⟨w.heap.size, 0, none⟩) n3).trans S3.out.1, (b4.cell (p := ⟨w.heap.size, 1, none⟩) n3).trans S3.out.2.1, (b4.cell (p := ⟨w.heap.size, 2, none⟩) n3).trans S3.out.2.2⟩
             clear b4)
          | (go_at_call 28
             refine (HTV.out v2 B2).mono ?_
             rintro e v3 ⟨g1, rfl, i3, b3⟩
             have B3 := B2.trans (b3.mono B2.size)
             have n3 : w.heap.size < v3.heap.size := Nat.lt_of_lt_of_le n2 b3.size
             have S3 : Hid (v3.cell? ⟨w.heap.size, 0, none⟩ = some (.int .i64 n) ∧ v3.cell? ⟨w.heap.size, 1, none⟩ = some (.string ⟨root.toArray⟩) ∧ v3.cell? ⟨w.heap.size, 2, none⟩ = some (.slice a vs.length cb)) := ⟨(b3.cell (p := ⟨w.heap.size, 0, none⟩) n2).trans S2.out.1, (b3.cell (p := ⟨w.heap.size, 1, none⟩) n2).trans S2.out.2.1, (b3.cell (p := ⟨w.heap.size, 2, none⟩) n2).trans S2.out.2.2⟩
             have J3 : Hid (IsStrs v3 (some ⟨w1.heap.size, 0, none⟩) ks ∧ IsVotes v3 (some ⟨g1, 0, none⟩) vs) := ⟨strs_later J2.out b3, i3⟩
             clear b3 i3)
          | (go_at_call 22
             refine (HTK.out w1.drew B1d).mono ?_
             rintro e v2 ⟨rfl, o2, b2'⟩
             have b2 : Below w1.heap.size w1 v2 := ⟨b2'.os, b2'.tape, b2'.output, b2'.size, b2'.block⟩
             have B2 := B1.trans (b2.mono B1.size)
             have n2 : w.heap.size < v2.heap.size := Nat.lt_of_lt_of_le n1 b2.size
             have S2 : Hid (v2.cell? ⟨w.heap.size, 0, none⟩ = some (.int .i64 n) ∧ v2.cell? ⟨w.heap.size, 1, none⟩ = some (.string ⟨root.toArray⟩) ∧ v2.cell? ⟨w.heap.size, 2, none⟩ = some (.slice a vs.length cb)) := ⟨(b2.cell (p := ⟨w.heap.size, 0, none⟩) n1).trans S1.out.1, (b2.cell (p := ⟨w.heap.size, 1, none⟩) n1).trans S1.out.2.1, (b2.cell (p := ⟨w.heap.size, 2, none⟩) n1).trans S1.out.2.2⟩
             have J2 : Hid (IsStrs v2 (some ⟨w1.heap.size, 0, none⟩) ks) := (isStrs_own o2).2.2
             clear b2 b2' o2))
      all_goals
        obtain ⟨c0, c1, c2⟩ := S4.out
        go_wp2_with fail
        refine (HTK.out v4 B4).mono ?_
        rintro e v5 ⟨rfl, o5, b5⟩
        have B5 := B4.trans (b5.mono B4.size)
        have n5 : w.heap.size < v5.heap.size := Nat.lt_of_lt_of_le n4 b5.size
        have S5 : Hid (v5.cell? ⟨w.heap.size, 0, none⟩ = some (.int .i64 n) ∧ v5.cell? ⟨w.heap.size, 1, none⟩ = some (.string ⟨root.toArray⟩) ∧ v5.cell? ⟨w.heap.size, 2, none⟩ = some (.slice a vs.length cb)) := ⟨(b5.cell (p := ⟨w.heap.size, 0, none⟩) n4).trans S4.out.1, (b5.cell (p := ⟨w.heap.size, 1, none⟩) n4).trans S4.out.2.1, (b5.cell (p := ⟨w.heap.size, 2, none⟩) n4).trans S4.out.2.2⟩
        have J5 : Hid (IsStrs v5 (some ⟨v4.heap.size, 0, none⟩) ks) := (isStrs_own o5).2.2
        clear b5 o5 c0 c1 c2 S3 S2 S1 J3 J2 S4
        obtain ⟨c0, c1, c2⟩ := S5.out
        go_wp2_with fail
        refine (HTV.out v5 B5).mono ?_
        rintro e v6 ⟨g3, rfl, i6, b6⟩
        have B6 := B5.trans (b6.mono B5.size)
        have n6 : w.heap.size < v6.heap.size := Nat.lt_of_lt_of_le n5 b6.size
        have Ba : Below v6.heap.size v6 (v6.alloc (.cells #[.int .i64 n, .string ⟨root.toArray⟩, .slice (some ⟨g3, 0, none⟩) vs.length vs.length] 58)) := (Below.refl _ _).alloc (Nat.le_refl _) _
        have B7 : Below w.heap.size w (v6.alloc (.cells #[.int .i64 n, .string ⟨root.toArray⟩, .slice (some ⟨g3, 0, none⟩) vs.length vs.length] 58)) := B6.trans (Ba.mono B6.size)
        have J7 : Hid (IsStrs (v6.alloc (.cells #[.int .i64 n, .string ⟨root.toArray⟩, .slice (some ⟨g3, 0, none⟩) vs.length vs.length] 58)) (some ⟨v4.heap.size, 0, none⟩) ks ∧ IsVotes (v6.alloc (.cells #[.int .i64 n, .string ⟨root.toArray⟩, .slice (some ⟨g3, 0, none⟩) vs.length vs.length] 58)) (some ⟨g3, 0, none⟩) vs) := ⟨strs_later (strs_later J5.out b6) Ba, i6.later Ba⟩
        have x7 := heap_alloc_new v6 (.cells #[.int .i64 n, .string ⟨root.toArray⟩, .slice (some ⟨g3, 0, none⟩) vs.length vs.length] 58)
        have S7 : Hid ((v6.alloc (.cells #[.int .i64 n, .string ⟨root.toArray⟩, .slice (some ⟨g3, 0, none⟩) vs.length vs.length] 58)).cell? ⟨w.heap.size, 0, none⟩ = some (.int .i64 n) ∧ (v6.alloc (.cells #[.int .i64 n, .string ⟨root.toArray⟩, .slice (some ⟨g3, 0, none⟩) vs.length vs.length] 58)).cell? ⟨w.heap.size, 1, none⟩ = some (.string ⟨root.toArray⟩) ∧ (v6.alloc (.cells #[.int .i64 n, .string ⟨root.toArray⟩, .slice (some ⟨g3, 0, none⟩) vs.length vs.length] 58)).cell? ⟨w.heap.size, 2, none⟩ = some (.slice a vs.length cb) ∧ (v6.alloc (.cells #[.int .i64 n, .string ⟨root.toArray⟩, .slice (some ⟨g3, 0, none⟩) vs.length vs.length] 58)).cell? ⟨v6.heap.size, 0, none⟩ = some (.int .i64 n) ∧ (v6.alloc (.cells #[.int .i64 n, .string ⟨root.toArray⟩, .slice (some ⟨g3, 0, none⟩) vs.length vs.length] 58)).cell? ⟨v6.heap.size, 1, none⟩ = some (.string ⟨root.toArray⟩) ∧ (v6.alloc (.cells #[.int .i64 n, .string ⟨root.toArray⟩, .slice (some ⟨g3, 0, none⟩) vs.length vs.length] 58)).cell? ⟨v6.heap.size, 2, none⟩ = some (.slice (some ⟨g3, 0, none⟩) vs.length vs.length)) := by
          obtain ⟨y0, y1, y2, _⟩ := tri_cells x7
          exact ⟨(Ba.cell (p := ⟨w.heap.size, 0, none⟩) n6).trans ((b6.cell (p := ⟨w.heap.size, 0, none⟩) n5).trans S5.out.1), (Ba.cell (p := ⟨w.heap.size, 1, none⟩) n6).trans ((b6.cell (p := ⟨w.heap.size, 1, none⟩) n5).trans S5.out.2.1), (Ba.cell (p := ⟨w.heap.size, 2, none⟩) n6).trans ((b6.cell (p := ⟨w.heap.size, 2, none⟩) n5).trans S5.out.2.2), y0, y1, y2⟩
        clear b6 i6 c0 c1 c2 S5 J5 x7 Ba
        obtain ⟨c0, c1, c2, y0, y1, y2⟩ := S7.out
        go_wp2_with fail
        refine (HR2.out _ _ _ _ _ J7.out.1 J7.out.2 (HT.out.later B7)).mono ?_
        rintro e v8 ⟨rfl, b8⟩
        have B8 := B7.trans (b8.mono B7.size)
        have n7 : w.heap.size < (v6.alloc (.cells #[.int .i64 n, .string ⟨root.toArray⟩, .slice (some ⟨g3, 0, none⟩) vs.length vs.length] 58)).heap.size := by simp; omega
        have n7x : v6.heap.size < (v6.alloc (.cells #[.int .i64 n, .string ⟨root.toArray⟩, .slice (some ⟨g3, 0, none⟩) vs.length vs.length] 58)).heap.size := by simp
        have n8 : w.heap.size < v8.heap.size := Nat.lt_of_lt_of_le n7 b8.size
        have n8x : v6.heap.size < v8.heap.size := Nat.lt_of_lt_of_le n7x b8.size
        have S8 : Hid (v8.cell? ⟨w.heap.size, 0, none⟩ = some (.int .i64 n) ∧ v8.cell? ⟨w.heap.size, 1, none⟩ = some (.string ⟨root.toArray⟩) ∧ v8.cell? ⟨w.heap.size, 2, none⟩ = some (.slice a vs.length cb) ∧ v8.cell? ⟨v6.heap.size, 0, none⟩ = some (.int .i64 n) ∧ v8.cell? ⟨v6.heap.size, 1, none⟩ = some (.string ⟨root.toArray⟩) ∧ v8.cell? ⟨v6.heap.size, 2, none⟩ = some (.slice (some ⟨g3, 0, none⟩) vs.length vs.length)) := ⟨(b8.cell (p := ⟨w.heap.size, 0, none⟩) n7).trans S7.out.1, (b8.cell (p := ⟨w.heap.size, 1, none⟩) n7).trans S7.out.2.1, (b8.cell (p := ⟨w.heap.size, 2, none⟩) n7).trans S7.out.2.2.1, (b8.cell (p := ⟨v6.heap.size, 0, none⟩) n7x).trans S7.out.2.2.2.1, (b8.cell (p := ⟨v6.heap.size, 1, none⟩) n7x).trans S7.out.2.2.2.2.1, (b8.cell (p := ⟨v6.heap.size, 2, none⟩) n7x).trans S7.out.2.2.2.2.2⟩
        have J8 : Hid (IsStrs v8 (some ⟨v4.heap.size, 0, none⟩) ks ∧ IsVotes v8 (some ⟨g3, 0, none⟩) vs) := ⟨strs_later J7.out.1 b8, J7.out.2.later b8⟩
        clear b8 c0 c1 c2 y0 y1 y2 S7 J7 n7 n7x
        go_wp2_with fail
        refine (HTK.out v8 B8).mono ?_
        rintro e v9 ⟨rfl, o9, b9⟩
        have B9 := B8.trans (b9.mono B8.size)
        have n9 : w.heap.size < v9.heap.size := Nat.lt_of_lt_of_le n8 b9.size
        have n9x : v6.heap.size < v9.heap.size := Nat.lt_of_lt_of_le n8x b9.size
        have S9 : Hid (v9.cell? ⟨w.heap.size, 0, none⟩ = some (.int .i64 n) ∧ v9.cell? ⟨w.heap.size, 1, none⟩ = some (.string ⟨root.toArray⟩) ∧ v9.cell? ⟨w.heap.size, 2, none⟩ = some (.slice a vs.length cb) ∧ v9.cell? ⟨v6.heap.size, 0, none⟩ = some (.int .i64 n) ∧ v9.cell? ⟨v6.heap.size, 1, none⟩ = some (.string ⟨root.toArray⟩) ∧ v9.cell? ⟨v6.heap.size, 2, none⟩ = some (.slice (some ⟨g3, 0, none⟩) vs.length vs.length)) := ⟨(b9.cell (p := ⟨w.heap.size, 0, none⟩) n8).trans S8.out.1, (b9.cell (p := ⟨w.heap.size, 1, none⟩) n8).trans S8.out.2.1, (b9.cell (p := ⟨w.heap.size, 2, none⟩) n8).trans S8.out.2.2.1, (b9.cell (p := ⟨v6.heap.size, 0, none⟩) n8x).trans S8.out.2.2.2.1, (b9.cell (p := ⟨v6.heap.size, 1, none⟩) n8x).trans S8.out.2.2.2.2.1, (b9.cell (p := ⟨v6.heap.size, 2, none⟩) n8x).trans S8.out.2.2.2.2.2⟩
        have J9 : Hid (IsStrs v9 (some ⟨v4.heap.size, 0, none⟩) ks ∧ IsStrs v9 (some ⟨v8.heap.size, 0, none⟩) ks ∧ IsVotes v9 (some ⟨g3, 0, none⟩) vs) := ⟨strs_later J8.out.1 b9, (isStrs_own o9).2.2, J8.out.2.later b9⟩
        clear b9 o9 S8 J8
        go_wp2_with fail
        refine (eqS_is ks _ _ _ _ v9 (by omega) J9.out.1 J9.out.2.1).mono ?_
        rintro e v10 ⟨rfl, q, rfl⟩
        have B10 : Below w.heap.size w (v9.drewN q) := ⟨B9.os, B9.tape, B9.output, B9.size, B9.block⟩
        have SZ : Hid ((v9.drewN q).cell? ⟨w.heap.size, 0, none⟩ = some (.int .i64 n) ∧ (v9.drewN q).cell? ⟨w.heap.size, 1, none⟩ = some (.string ⟨root.toArray⟩) ∧ (v9.drewN q).cell? ⟨w.heap.size, 2, none⟩ = some (.slice a vs.length cb) ∧ (v9.drewN q).cell? ⟨v6.heap.size, 0, none⟩ = some (.int .i64 n) ∧ (v9.drewN q).cell? ⟨v6.heap.size, 1, none⟩ = some (.string ⟨root.toArray⟩) ∧ (v9.drewN q).cell? ⟨v6.heap.size, 2, none⟩ = some (.slice (some ⟨g3, 0, none⟩) vs.length vs.length)) := S9.out
        have E9 : Below v9.heap.size v9 (v9.drewN q) := ⟨rfl, rfl, rfl, Nat.le_refl _, fun _ _ => rfl⟩
        have JA : Hid (IsVotes (v9.drewN q) (some ⟨g3, 0, none⟩) vs) := J9.out.2.2.later E9
        have m9 : w.heap.size < (v9.drewN q).heap.size := n9
        have m9x : v6.heap.size < (v9.drewN q).heap.size := n9x
        obtain ⟨va, hva⟩ : ∃ va, va = v9.drewN q := ⟨_, rfl⟩
        rw [← hva] at B10 SZ JA m9 m9x ⊢
        clear hva S9 J9 E9
        have Bad : Below w.heap.size w va.drew := ⟨B10.os, B10.tape, B10.output, B10.size, B10.block⟩
        go_wp2_with fail
        go_region_held3 (fun w' => w'.cell? ⟨w.heap.size, 0, none⟩ = some (.int .i64 n) ∧ w'.cell? ⟨w.heap.size, 1, none⟩ = some (.string ⟨root.toArray⟩) ∧ w'.cell? ⟨w.heap.size, 2, none⟩ = some (.slice a vs.length cb) ∧ w'.cell? ⟨v6.heap.size, 0, none⟩ = some (.int .i64 n) ∧ w'.cell? ⟨v6.heap.size, 1, none⟩ = some (.string ⟨root.toArray⟩) ∧ w'.cell? ⟨v6.heap.size, 2, none⟩ = some (.slice (some ⟨g3, 0, none⟩) vs.length vs.length))
          (first | exact SC.out | exact SB.out | exact SZ.out)
          (first
            | (go_at_call 30
               refine (eqCert_is n root (some ⟨g3, 0, none⟩) (some ⟨g5, 0, none⟩) vs.length vs.length vs vc (by omega) hms.out JB.out.1 JB.out.2).mono ?_
               rintro e vd ⟨rfl, bd⟩
               have BD := BC.trans (bd.mono BC.size)
               have SC : Hid (vd.cell? ⟨w.heap.size, 0, none⟩ = some (.int .i64 n) ∧ vd.cell? ⟨w.heap.size, 1, none⟩ = some (.string ⟨root.toArray⟩) ∧ vd.cell? ⟨w.heap.size, 2, none⟩ = some (.slice a vs.length cb) ∧ vd.cell? ⟨v6.heap.size, 0, none⟩ = some (.int .i64 n) ∧ vd.cell? ⟨v6.heap.size, 1, none⟩ = some (.string ⟨root.toArray⟩) ∧ vd.cell? ⟨v6.heap.size, 2, none⟩ = some (.slice (some ⟨g3, 0, none⟩) vs.length vs.length)) := ⟨(bd.cell (p := ⟨w.heap.size, 0, none⟩) nc).trans SB.out.1, (bd.cell (p := ⟨w.heap.size, 1, none⟩) nc).trans SB.out.2.1, (bd.cell (p := ⟨w.heap.size, 2, none⟩) nc).trans SB.out.2.2.1, (bd.cell (p := ⟨v6.heap.size, 0, none⟩) ncx).trans SB.out.2.2.2.1, (bd.cell (p := ⟨v6.heap.size, 1, none⟩) ncx).trans SB.out.2.2.2.2.1, (bd.cell (p := ⟨v6.heap.size, 2, none⟩) ncx).trans SB.out.2.2.2.2.2⟩
               clear bd)
            | (go_at_call 28
               refine (HTV.out va.drew Bad).mono ?_
               rintro e vc ⟨g5, rfl, i5, bc'⟩
               have bc : Below va.heap.size va vc := ⟨bc'.os, bc'.tape, bc'.output, bc'.size, bc'.block⟩
               have BC := B10.trans (bc.mono B10.size)
               have SB : Hid (vc.cell? ⟨w.heap.size, 0, none⟩ = some (.int .i64 n) ∧ vc.cell? ⟨w.heap.size, 1, none⟩ = some (.string ⟨root.toArray⟩) ∧ vc.cell? ⟨w.heap.size, 2, none⟩ = some (.slice a vs.length cb) ∧ vc.cell? ⟨v6.heap.size, 0, none⟩ = some (.int .i64 n) ∧ vc.cell? ⟨v6.heap.size, 1, none⟩ = some (.string ⟨root.toArray⟩) ∧ vc.cell? ⟨v6.heap.size, 2, none⟩ = some (.slice (some ⟨g3, 0, none⟩) vs.length vs.length)) := ⟨(bc.cell (p := ⟨w.heap.size, 0, none⟩) m9).trans SZ.out.1, (bc.cell (p := ⟨w.heap.size, 1, none⟩) m9).trans SZ.out.2.1, (bc.cell (p := ⟨w.heap.size, 2, none⟩) m9).trans SZ.out.2.2.1, (bc.cell (p := ⟨v6.heap.size, 0, none⟩) m9x).trans SZ.out.2.2.2.1, (bc.cell (p := ⟨v6.heap.size, 1, none⟩) m9x).trans SZ.out.2.2.2.2.1, (bc.cell (p := ⟨v6.heap.size, 2, none⟩) m9x).trans SZ.out.2.2.2.2.2⟩
               have nc : w.heap.size < vc.heap.size := Nat.lt_of_lt_of_le m9 bc.size
               have ncx : v6.heap.size < vc.heap.size := Nat.lt_of_lt_of_le m9x bc.size
               have JB : Hid (IsVotes vc (some ⟨g3, 0, none⟩) vs ∧ IsVotes vc (some ⟨g5, 0, none⟩) vs) := ⟨JA.out.later bc, i5⟩
               clear bc bc' i5))
        all_goals
          go_wp2
          go_ret
          exact ⟨rfl, BD⟩

set_option maxRecDepth 100000 in
theorem lifted (os : Os) (started : os.Started) (H : Type) (enc : TypeId × Value → H) :
    ReturnsInHanded {} Tryd.checked os 6 .any (fun w args => (Rows.fnExactCertOkSpec.pre enc Tryd.prog Tryd.f6 [] false w args ∧ laidMetH Tryd.prog Rows.fnExactCertOkRow.laid w) ∧ sizedMet enc Tryd.prog Tryd.f6 (OpenSpec.ofChange Rows.fnExactCertOkSpec) false w args)
      (Rows.fnExactCertOkSpec.post enc Tryd.prog Tryd.f6 false true false false) := by
  refine returnsInHanded_of_change_and (C := Tryd.checked) (X := fun w _ => laidMetH Tryd.prog Rows.fnExactCertOkRow.laid w) (fun _ _ _ hh h => h.of_heap hh) own started (by kernel_rfl) Tryd.func6
    (ChangeSpec.witness_shaped (enc := enc) (C := Tryd.checked) (os := os) (X := fun w _ => laidMetH Tryd.prog Rows.fnExactCertOkRow.laid w) false (World.doorLaid Tryd.prog 400 os) #[.slice none 0 0, .agg #[.int .i64 0, .string ByteArray.empty, .slice none 0 0]] 8 rfl (World.shaped_of_RefB (by kernel_rfl) (by kernel_rfl)) (by kernel_rfl) (by kernel_rfl) (by kernel_rfl) (door_met os _)) ?_
  intro W base args ds gs before hval0 hW _ _ hL _
  have hval : ∀ (j : Nat) t v, Tryd.f6.params[j]? = some t → args[j]? = some v → Value.okWide Tryd.prog W .any base t v := hval0
  have hW' := hW
  obtain ⟨p, q, hA0, hV0, rfl, hfz, hnd⟩ := hW
  have hA : DataW.TrodAll enc Tryd.prog W 0 (fun _ => true) true Tryd.f6.params.toList args.toList ds p := hA0
  have hV : DataW.TrodVars enc Tryd.prog W (fun _ => true) ["loop.example/g00226/impl.roundWords"] gs q := hV0
  rw [Tryd.params6] at hA hval
  obtain ⟨v0, vs0, d0, ds0, p0, q0, hargs0, rfl, rfl, h0, r0⟩ := trodAll_cons hA
  obtain ⟨v1, vs1, d1, ds1, p1, q1, hargs1, rfl, rfl, h1, r1⟩ := trodAll_cons r0
  obtain ⟨rfl, rfl, rfl⟩ := trodAll_nil r1
  obtain rfl : args = #[v0, v1] := by cases args; simp_all
  have k0 := h0
  have lt0 : ∀ x ∈ p0, x.block < W.heap.size := by obtain ⟨m, hm⟩ := k0; exact DataW.trod_lt m _ _ _ hm
  obtain ⟨ak, ks, ck, rfl, hkm, hks, hkl⟩ : ∃ (a : Option Addr) (ls : List (List UInt8)) (cap : Nat), v0 = .slice a ls.length cap ∧ (∀ l ∈ ls, l.length ≤ 9223372036854775807) ∧ IsStrs W a ls ∧ ls.length ≤ 9223372036854775807 := by
    obtain ⟨a0, len0, cap0, rfl⟩ := okWide_slice Tryd.underlying29 (hval 0 29 v0 rfl rfl)
    obtain ⟨fuel, hf⟩ := h0
    exact strs_of (by simpa [Value.cells] using hf)
  have k1 := h1
  have lt1 : ∀ x ∈ p1, x.block < W.heap.size := by obtain ⟨m, hm⟩ := k1; exact DataW.trod_lt m _ _ _ hm
  obtain ⟨n, root, a, cb, vs, rfl, hr, hs, hvl, hvm⟩ := cert_of (hval 1 53 v1 rfl rfl) h1
  obtain ⟨g, t, cs, fuel, d, p', rfl, hg, ht, hvar, hd, rfl⟩ := trodVars_one hV
  obtain rfl := Option.some.inj (gTab.symm.trans hg)
  obtain rfl := Option.some.inj (tTab.symm.trans ht)
  have hT := tab_of hL
  have hltv : ∀ x ∈ p', x.block < W.heap.size := fun x hx => hW'.lt x (List.mem_append_right _ (List.mem_append_right _ hx))
  clear hA0 hV0 hval0 hA hV
  refine (walk ak ck ks n root a cb vs W hks hkl hkm hr hs hvl hvm hT).mono fun e W' ⟨he, hB⟩ => ?_
  subst he
  obtain ⟨fuel', hd'⟩ := Below.trod laidOut0 (by kernel_rfl) (of_decide_eq_true (by kernel_rfl)) (v := .agg cs) (⟨fuel, by simpa [Value.cells] using hd⟩ : DataW.Trod enc Tryd.prog W 0 (fun _ => true) true 191 (.agg cs) d p') hB hltv
  have hv' := trodVars_mk1 (enc := enc) (spare := fun b => decide (b < W.heap.size)) hg ht (var?_below hB hg hT.1 hvar) (by simpa [Value.cells] using hd')
  exact ⟨_, rfl, _, _, _, [], _, _, hW', trodAll_mk1 (shut_bool Tryd.underlying4 _), (trodAll_cons_mk (Below.trod laidOut0 (by kernel_rfl) (of_decide_eq_true (by kernel_rfl)) k0 hB lt0) (trodAll_cons_mk (Below.trod laidOut0 (by kernel_rfl) (of_decide_eq_true (by kernel_rfl)) k1 hB lt1) trodAll_mk0)), hv', hB.frame _, fun h => by cases h⟩

theorem named0 : Tryd.prog.funcNamed "loop.example/g00226/laws.FnExactCertOk" = some 6 := by kernel_rfl
theorem closed0 : joinedFacts Tryd.prog 6 Tryd.f6 Rows.fnExactCertOkSpec Rows.fnExactCertOkRow = true := by
  unfold joinedFacts
  rw [seat_may, seat_lifts, seat_make]
  kernel_rfl
theorem inst0 : Tryd.f6.isInstance Tryd.prog Rows.fnExactCertOkRow.origin Rows.fnExactCertOkRow.targs := of_decide_eq_true (by kernel_rfl)
theorem wrap0 : Tryd.f6.isWrapper Tryd.prog Rows.fnExactCertOkRow.wrapper Rows.fnExactCertOkRow.mainSum := by unfold Func.isWrapper; first | (rw [if_pos (by decide +kernel)]; kernel_rfl) | (rw [if_neg (by decide +kernel)]; exact ⟨rfl, rfl⟩)

theorem over : Rows.fnExactCertOkRow.holds Tryd.pinned (OpenSpec.ofChange Rows.fnExactCertOkSpec) :=
  OpenClaim.holds_of_wide 6 Tryd.f6 rfl rfl rfl rfl rfl rfl rfl ⟨rfl, rfl, rfl, rfl, rfl⟩ rfl rfl rfl rfl rfl named0 Tryd.func6 closed0 inst0 wrap0
    (fun os started H enc _ => lifted os started H enc)

theorem text0 : Rows.fnExactCertOkRow.wfByText (OpenSpec.ofChange Rows.fnExactCertOkSpec) = true := by kernel_rfl
theorem looks0 : false = Tryd.prog.looks [] := by kernel_rfl
theorem goes0 : false = Rows.fnExactCertOkRow.goesBy Tryd.prog := by kernel_rfl
theorem wants0 : ([29, 53].all fun u => !Tryd.prog.wantsStandIn u) = true := by kernel_rfl

theorem card : Claim7.holds Tryd.pinned (.plain (OpenSpec.ofChange Rows.fnExactCertOkSpec)) Rows.fnExactCertOkCard :=
  Claim7.holds_tied_plain_at .later [] [.data] true (true, Rows.fnExactCertOkCard.stood.harness.2) false
    over (fun _ h => by cases h) text0 (fun _ h => by cases h) fnExactCertOk_row_tie rfl ⟨rfl, rfl⟩ seat_main rfl
    (fun f fn hf hfn => by
      obtain rfl : f = 6 := Option.some.inj (named0.symm.trans hf) |>.symm
      obtain rfl : fn = Tryd.f6 := (Option.some.inj (Tryd.func6.symm.trans hfn)).symm
      exact ⟨looks0, fun j t ht => by
        rw [Tryd.params6] at ht
        have hm : t ∈ [29, 53] := by simpa using Array.mem_of_getElem? ht
        exact (show Tryd.prog.wantsStandIn t = false by simpa using List.all_eq_true.1 wants0 t hm)⟩)
    goes0

end Go.Proofs.YtajckopldkmcnaaDoor.fnExactCertOk
namespace Go.Proofs.YtajckopldkmcnaaDoor
theorem fnExactCertOk_holds : Rows.FnExactCertOkCardSaid := fnExactCertOk.card
end Go.Proofs.YtajckopldkmcnaaDoor
