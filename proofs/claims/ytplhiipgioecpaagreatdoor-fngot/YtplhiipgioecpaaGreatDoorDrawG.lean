/-
 Contracts: drawn texts and seeds, a drawn store with a root and a key.
-/
import Derived.Test.YtplhiipgioecpaaGreatDoorDrawSt
namespace Go.Proofs.YtplhiipgioecpaaGreatDoor
open Go.RowKit
set_option linter.unusedVariables false
set_option maxRecDepth 100000 in
set_option maxHeartbeats 400000 in
theorem textB_any (rd n cap : Nat) (a : Option Addr) (w : World) (hn : n ≤ 1048576) (h : Rd rd a n cap w) :
 Calls Tryz.prog 41 #[.pointer (some ⟨rd, 0, none⟩)] w fun e w' => ∃ l : List UInt8, l.length ≤ 56 ∧ e = .returned (.string ⟨l.toArray⟩) ∧ Rd rd a n cap w' ∧ w.grownBy w' (some rd) := by
 have hrd := h.lt
 have HR0 : Hid (Rd rd a n cap w) := h
 clear h
 go_enter Tryz.func41, Tryz.ntmps41
 go_wp2_with fail
 refine (below_any rd n cap 12 12 a _ rfl (by omega) (by omega) hn (HR0.out.keptNone ((Below.refl _ _).alloc (Nat.le_refl _) _))).mono ?_
 rintro e w1 ⟨k, hk, rfl, hR, hG⟩
 obtain ⟨l, hl, hc⟩ := tabB_any (m := 56) (k := k) hrd hG (by decide +kernel) hk
 have HR : Hid (Rd rd a n cap w1) := hR
 have HG : Hid (w.grownBy w1 (some rd)) := (World.grownBy_alloc w _ (some rd)).trans hG
 have hk' : (k : Int) < 12 := by omega
 clear hR hG HR0
 go_wp2
 go_ret
 exact ⟨l, hl, rfl, HR.out, HG.out⟩
set_option maxRecDepth 100000 in
set_option maxHeartbeats 400000 in
theorem seedB_any (rd n cap : Nat) (a : Option Addr) (w : World) (hn : n ≤ 1048576) (h : Rd rd a n cap w) :
 Calls Tryz.prog 19 #[.pointer (some ⟨rd, 0, none⟩)] w fun e w' => ∃ l : List UInt8, l.length ≤ 32 ∧ e = .returned (.string ⟨l.toArray⟩) ∧ Rd rd a n cap w' ∧ w.grownBy w' (some rd) := by
 have K1 := textB_any rd n cap a w hn h
 clear h
 go_enter Tryz.func19, Tryz.ntmps19
 go_wp2_with fail
 refine K1.mono ?_
 rintro e w1 ⟨t, ht, rfl, hR1, hG1⟩
 have K2 := spec_sum t w1 (by omega)
 have hl := sumL_len t
 obtain ⟨s, hs⟩ : ∃ s, s = sumL t := ⟨_, rfl⟩
 rw [← hs] at K2 hl
 have HR1 : Hid (Rd rd a n cap w1) := hR1
 have HG1 : Hid (w.grownBy w1 (some rd)) := hG1
 clear K1 hR1 hG1 hs
 go_wp2_with fail
 refine K2.mono ?_
 rintro e w2 ⟨rfl, b2⟩
 have HR2 : Hid (Rd rd a n cap w2) := HR1.out.keptNone b2
 have HG2 : Hid (w.grownBy w2 (some rd)) := grown_below HG1.out b2
 have K3 := once_any rd n cap 24 24 a w2 rfl (by omega) (by omega) hn HR2.out
 clear K2 HR1 HG1 b2 HR2
 go_wp2_with fail
 refine K3.mono ?_
 rintro e w3 ⟨t3, rfl, hR3, hG3⟩
 have HR3 : Hid (Rd rd a n cap w3) := hR3
 have HG3 : Hid (w.grownBy w3 (some rd)) := HG2.out.trans hG3
 have HSL : Hid (s.length = 32) := hl
 have hsle : (33 : Int) ≤ (s.length : Int) + 1 := by omega
 clear K3 hR3 hG3 HG2 hl
 cases t3
 · go_wp2
   go_ret
   exact ⟨s, by have := HSL.out; omega, rfl, HR3.out, HG3.out⟩
 · have K4 := below_any rd n cap 33 33 a w3 rfl (by omega) (by omega) hn HR3.out
   clear HR3
   go_wp2_with fail
   refine K4.mono ?_
   rintro e w4 ⟨y, hy, rfl, hR4, hG4⟩
   have HR4 : Hid (Rd rd a n cap w4) := hR4
   have HG4 : Hid (w.grownBy w4 (some rd)) := HG3.out.trans hG4
   have hsl := fun W => sl_to (P := Tryz.prog) Tryz.underlying9 s (y : Int) y rfl (by have := HSL.out; omega) W
   have hyl : (y : Int) ≤ (s.length : Int) := by have := HSL.out; omega
   clear K4 hR4 hG4 HG3
   go_wp2
   go_ret
   exact ⟨s.take y, by have := HSL.out; simp; omega, by simp, HR4.out, HG4.out⟩
set_option maxRecDepth 100000 in
set_option maxHeartbeats 1000000 in
theorem drawGet (n cap : Nat) (a : Option Addr) (w : World) (hn : n ≤ 1048576) (h : Code w a n) :
 Calls Tryz.prog 7 #[.slice a n cap] w fun e w' => ∃ (ps : List PairL) (a1 : Option Addr) (c1 : Nat) (rt key : List UInt8), e = .returned (.tuple #[.slice a1 ps.length c1, .string ⟨rt.toArray⟩, .string ⟨key.toArray⟩]) ∧ ps.length ≤ 3601 ∧ rt.length ≤ 1048576 ∧ key.length ≤ 5 ∧ (∀ p ∈ ps, p.1.length ≤ 1048576 ∧ p.2.length ≤ 1048576) ∧ w'.ownsRow w.heap.size 79 2 (.slice a1 ps.length c1) ps.length (pcells ps) ∧ Below w.heap.size w w' := by
 have H1 := open_any n cap a w h
 clear h
 go_enter Tryz.func7, Tryz.ntmps7
 go_wp2_with fail
 refine H1.mono ?_
 rintro e w1 ⟨rfl, hR1, b1⟩
 have HR1 : Hid (Rd w.heap.size a n cap w1) := hR1
 have hlt1 := hR1.lt
 clear hR1 H1
 go_wp2_with fail
 refine (store_any w.heap.size n cap a w1 hn HR1.out).mono ?_
 rintro e w2 ⟨v2, rt, rfl, hrt, ps, a1, c1, rfl, hpl, HPS, HO2, HR2, HG2⟩
 have hlt2 := Nat.lt_of_lt_of_le hlt1 HG2.out.size
 have B2 : Hid (Below w.heap.size w w2) := below_rd b1 HG2.out
 have K3 := once_any w.heap.size n cap 20 20 a w2 rfl (by omega) (by omega) hn HR2.out
 clear HR1 b1 HG2 HR2
 go_wp2_with fail
 refine K3.mono ?_
 rintro e w3 ⟨t, rfl, R3, G3⟩
 have B3 : Hid (Below w.heap.size w w3) := below_rd B2.out G3
 have HO3 := hidOwn (keptR HO2.out G3 (rd_far HO2.out hlt1))
 have HR3 : Hid (Rd w.heap.size a n cap w3) := R3
 clear K3 R3 G3 HO2 B2
 cases t with
 | false =>
   have K4 := key_any w.heap.size n cap a w3 hn HR3.out
   go_wp2_with fail
   refine K4.mono ?_
   rintro e w4 ⟨key, hk, rfl, R4, G4⟩
   have B4 := below_rd B3.out G4
   have HO4 := hidOwn ((keptR HO3.out G4 (rd_far HO3.out hlt1)).mono (Nat.le_of_lt hlt1))
   clear K4 R4 G4 HO3 B3 HR3
   go_wp2
   go_ret3
   exact ⟨ps, a1, c1, rt, key, rfl, hpl, hrt, hk, HPS.out, HO4.out, B4⟩
 | true =>
   have K4 := seedB_any w.heap.size n cap a w3 hn HR3.out
   go_wp2_with fail
   refine K4.mono ?_
   rintro e w4 ⟨sd, hsd, rfl, R4, G4⟩
   have B4 : Hid (Below w.heap.size w w4) := below_rd B3.out G4
   have HO4 := hidOwn (keptR HO3.out G4 (rd_far HO3.out hlt1))
   have K5 := key_any w.heap.size n cap a w4 hn R4
   clear K4 R4 G4 HO3 B3 HR3
   go_wp2_with fail
   refine K5.mono ?_
   rintro e w5 ⟨key, hk, rfl, R5, G5⟩
   have B5 := below_rd B4.out G5
   have HO5 := hidOwn ((keptR HO4.out G5 (rd_far HO4.out hlt1)).mono (Nat.le_of_lt hlt1))
   clear K5 R5 G5 HO4 B4
   go_wp2
   go_ret3
   exact ⟨ps, a1, c1, sd, key, rfl, hpl, by omega, hk, HPS.out, HO5.out, B5⟩
set_option maxRecDepth 100000 in
set_option maxHeartbeats 1000000 in
theorem drawNodesOf (n cap : Nat) (a : Option Addr) (w : World) (hn : n ≤ 1048576) (h : Code w a n) :
 Calls Tryz.prog 6 #[.slice a n cap] w fun e w' => ∃ (ps : List PairL) (g c : Nat), ps.length ≤ 9 ∧ smallP ps ∧ e = .returned (.slice (some ⟨g, 0, none⟩) ps.length c) ∧ w'.ownsRow w.heap.size 37 2 (.slice (some ⟨g, 0, none⟩) ps.length c) ps.length (pcells ps) ∧ Below w.heap.size w w' := by
 have H1 := open_any n cap a w h
 clear h
 go_enter Tryz.func6, Tryz.ntmps6
 go_wp2_with fail
 refine H1.mono ?_
 rintro e w1 ⟨rfl, hR1, b1⟩
 have HR1 : Hid (Rd w.heap.size a n cap w1) := hR1
 have hlt1 := hR1.lt
 clear hR1 H1
 go_wp2_with fail
 refine (pairs_any w.heap.size n cap 8 8 a w1 rfl (by omega) (by omega) hn HR1.out).mono ?_
 rintro e w2 ⟨ps, g, c, hpl, hsm, rfl, o2, hR2, hG2⟩
 have B2 := below_rd b1 hG2
 have HO2 := hidOwn (o2.mono (Nat.le_of_lt hlt1))
 have HSM : Hid (smallP ps) := hsm
 clear hR2 hG2 HR1 o2 hsm b1
 go_wp2
 go_ret
 exact ⟨ps, g, c, hpl, HSM.out, rfl, HO2.out, B2⟩
end Go.Proofs.YtplhiipgioecpaaGreatDoor
