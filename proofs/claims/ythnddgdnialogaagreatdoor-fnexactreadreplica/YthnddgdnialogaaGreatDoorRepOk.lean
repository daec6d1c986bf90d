/-
 Contracts: a replica that is right, and its pairs, of the program and of the model.
-/
import Derived.Test.YthnddgdnialogaaGreatDoorRepAll
import Derived.Test.YthnddgdnialogaaGreatDoorSessOk
import Derived.Test.YthnddgdnialogaaGreatDoorPairsAt
import Derived.Test.YthnddgdnialogaaGreatDoorLaidAll
namespace Go.Proofs.YthnddgdnialogaaGreatDoor
open Go.RowKit
set_option linter.unusedVariables false
def repR (ix : Int) (root : List UInt8) (ps : List PairL) (ss : List SessL) : Option (List PairL) :=
 if (0 ≤ ix ∧ ix ≤ 1000000000000) ∧ sessOk ss = true then (pairsAtR ps root).bind fun l => if rootOk l = true ∧ nodesR l = ps then some l else none else none
theorem rep_no {ix : Int} {root : List UInt8} {ps : List PairL} {ss : List SessL} (h : ¬ ((0 ≤ ix ∧ ix ≤ 1000000000000) ∧ sessOk ss = true)) : repR ix root ps ss = none := by unfold repR; rw [if_neg h]
theorem rep_none {ix : Int} {root : List UInt8} {ps : List PairL} {ss : List SessL} (h : pairsAtR ps root = none) : repR ix root ps ss = none := by unfold repR; rw [h]; split <;> rfl
theorem rep_some {ix : Int} {root : List UInt8} {ps l : List PairL} {ss : List SessL} (h : (0 ≤ ix ∧ ix ≤ 1000000000000) ∧ sessOk ss = true) (hp : pairsAtR ps root = some l) : repR ix root ps ss = if rootOk l = true ∧ nodesR l = ps then some l else none := by unfold repR; rw [if_pos h, hp]; rfl
theorem pairsAt_fit {ps : List PairL} {root : List UInt8} {l : List PairL} (h : pairsAtR ps root = some l) : l.length ≤ 60 ∧ ∀ p ∈ l, p.1.length ≤ 1048576 ∧ p.2.length ≤ 1048576 := by
 have h60 := pairsAt_len (ps := ps) (root := root)
 rw [h] at h60
 refine ⟨h60, ?_⟩
 unfold pairsAtR at h
 split at h
 · split at h
   · cases h; simp
   · cases ha : atF (findL ps) 26 root [] with
     | none => rw [ha] at h; cases h
     | some l' =>
       rw [ha] at h
       simp only [Option.bind_some] at h
       split at h
       · next hh =>
         cases h
         intro p hp
         have := atF_small _ (find_nodes ps (by assumption)) 26 root [] l ha p hp
         omega
       · cases h
 · cases h
set_option maxRecDepth 100000 in
set_option maxHeartbeats 4000000 in
theorem impl_replicaPairs (ix : Int) (root : List UInt8) (a : Option Addr) (cap : Nat) (ps : List PairL) (c : Option Addr) (cap2 : Nat) (ss : List SessL) (w : World) (hT : Tab w) (hr : root.length ≤ 1048576) (hl : ps.length ≤ 1048576) (hm : ∀ p ∈ ps, p.1.length ≤ 1048576 ∧ p.2.length ≤ 1048576) (hs : IsPairs w a ps) (hl2 : ss.length ≤ 1048576) (hs2 : IsSess w c ss) :
 Calls Tryz.prog 13 #[.agg #[.int .i64 ix, .string ⟨root.toArray⟩, .slice a ps.length cap, .slice c ss.length cap2]] w fun e w' => PAPost w (repR ix root ps ss) e w' := by
 have B0 : Below w.heap.size w (w.alloc (.cells #[.int .i64 ix, .string ⟨root.toArray⟩, .slice a ps.length cap, .slice c ss.length cap2] 31)) := (Below.refl _ _).alloc (Nat.le_refl _) _
 have H0 := heap_alloc_new w (.cells #[.int .i64 ix, .string ⟨root.toArray⟩, .slice a ps.length cap, .slice c ss.length cap2] 31)
 have HH0 : Hid (_ = _) := H0
 obtain ⟨p0, p1, p2, p3, _⟩ := rp_cells H0
 have HT : Hid (Tab w) := hT
 have HS : Hid (∀ W, Below w.heap.size w W → IsPairs W a ps) := fun W hW => hs.later hW
 have K1 := impl_areSessions c cap2 ss _ hl2 (hs2.later B0)
 have HK2 : Hid (∀ W, Tab W → Below w.heap.size w W → Calls Tryz.prog 35 #[.slice a ps.length cap, .string ⟨root.toArray⟩] W fun e w' => PAPost W (pairsAtR ps root) e w') := fun W hT hW => impl_pairsAt a cap ps root W hT hl hm (hs.later hW) hr
 have HNO : Hid (¬ ((0 ≤ ix ∧ ix ≤ 1000000000000) ∧ sessOk ss = true) → repR ix root ps ss = none) := rep_no
 have HNE : Hid (pairsAtR ps root = none → repR ix root ps ss = none) := rep_none
 have HSO : Hid (∀ l, (0 ≤ ix ∧ ix ≤ 1000000000000) ∧ sessOk ss = true → pairsAtR ps root = some l → repR ix root ps ss = if rootOk l = true ∧ nodesR l = ps then some l else none) := fun l h1 h2 => rep_some h1 h2
 have HFI : Hid (∀ l, pairsAtR ps root = some l → l.length ≤ 60 ∧ ∀ p ∈ l, p.1.length ≤ 1048576 ∧ p.2.length ≤ 1048576) := fun l h => pairsAt_fit h
 obtain ⟨rp, hrp⟩ : ∃ rp, rp = repR ix root ps ss := ⟨_, rfl⟩
 obtain ⟨ra, hra⟩ : ∃ ra, ra = pairsAtR ps root := ⟨_, rfl⟩
 obtain ⟨so, hso⟩ : ∃ so, so = sessOk ss := ⟨_, rfl⟩
 rw [← hrp] at HNO HNE HSO ⊢
 rw [← hra] at HNE HSO HK2 HFI
 rw [← hso] at HNO HSO K1
 clear hrp hra hso hs hs2 hm hT H0
 by_cases hi0 : 0 ≤ ix
 · have b0 : decide (ix < 0) = false := decide_eq_false (by omega)
   have n0 : ¬ ix < 0 := by omega
   by_cases hi1 : ix ≤ 1000000000000
   · have b1 : decide (1000000000000 < ix) = false := decide_eq_false (by omega)
     have n1 : ¬ 1000000000000 < ix := by omega
     cases so with
     | false =>
       have HN : Hid (rp = none) := HNO.out (fun h => by simp at h)
       clear HNO HNE HSO HK2 HFI HS
       go_enter Tryz.func13, Tryz.ntmps13
       go_wp2_with fail
       refine K1.mono ?_
       rintro e w1 ⟨rfl, b1'⟩
       have B1 := B0.trans (b1'.mono B0.size)
       clear b1' K1
       go_wp2
       go_ret2
       exact pa_none HN.out B1
     | true =>
       have HOK : Hid ((0 ≤ ix ∧ ix ≤ 1000000000000) ∧ true = true) := ⟨⟨hi0, hi1⟩, rfl⟩
       clear HNO
       go_enter Tryz.func13, Tryz.ntmps13
       go_wp2_with fail
       refine K1.mono ?_
       rintro e w1 ⟨rfl, b1'⟩
       have B1 := B0.trans (b1'.mono B0.size)
       have H1 : Hid (_ = _) := (b1'.block w.heap.size (by simp)).trans HH0.out
       have s1 : w.heap.size < w1.heap.size := lt_of_block H1.out
       have K2 := HK2.out w1 (HT.out.later B1) B1
       clear p0 p1 p2 p3 b1' K1 HH0 HK2
       obtain ⟨p0, p1, p2, p3, _⟩ := rp_cells H1.out
       go_wp2_with fail
       refine K2.mono ?_
       rintro e w2 ⟨a2, m2, c2, rfl, o2, b2'⟩
       have B2 := B1.trans (b2'.mono B1.size)
       have H2 : Hid (_ = _) := (b2'.block w.heap.size s1).trans H1.out
       have s2 : w.heap.size < w2.heap.size := lt_of_block H2.out
       cases ra with
       | none =>
         have HN : Hid (rp = none) := HNE.out rfl
         clear HNE HSO HFI K2 o2 b2' p0 p1 p2 p3 H1
         go_wp2
         go_ret2
         exact pa_none HN.out B2
       | some l =>
         simp only [Option.getD_some, Option.isSome_some] at o2 ⊢
         obtain ⟨rfl, _, i2⟩ := isPairs_own o2
         obtain ⟨h60, hsm⟩ := HFI.out l rfl
         have HR : Hid (rp = if rootOk l = true ∧ nodesR l = ps then some l else none) := HSO.out l HOK.out rfl
         have HO2 : Hid (w2.ownsRow w.heap.size 60 2 (.slice a2 l.length c2) l.length (pcells l)) := o2.mono B1.size
         have K3 := impl_nodesOf a2 c2 l w2 (by omega) hsm i2 (HT.out.later B2)
         have hnl := nodesR_len l
         obtain ⟨ro, hro⟩ : ∃ ro, ro = rootOk l := ⟨_, rfl⟩
         obtain ⟨ns, hns⟩ : ∃ ns, ns = nodesR l := ⟨_, rfl⟩
         rw [← hro, ← hns] at HR K3
         rw [← hns] at hnl
         clear HNE HSO HFI K2 o2 b2' p0 p1 p2 p3 H1 hro hns hsm i2 B1
         obtain ⟨p0, p1, p2, p3, _⟩ := rp_cells H2.out
         go_wp2_with fail
         refine K3.mono ?_
         rintro e w3 ⟨a3, m3, c3, rfl, o3, b3'⟩
         have B3 := B2.trans (b3'.mono B2.size)
         have H3 : Hid (_ = _) := (b3'.block w.heap.size s2).trans H2.out
         have s3 : w.heap.size < w3.heap.size := lt_of_block H3.out
         have HO3 : Hid (w3.ownsRow w.heap.size 60 2 (.slice a2 l.length c2) l.length (pcells l)) := kept2 HO2.out b3'
         obtain ⟨rfl, _, i3⟩ := isPairs_own o3
         clear K3 p0 p1 p2 p3 H2 HO2 b3' o3
         obtain ⟨p0, p1, p2, p3, _⟩ := rp_cells H3.out
         cases ro with
         | false =>
           have HN : Hid (rp = none) := HR.out.trans (if_neg (fun h => by simp at h))
           clear HR
           go_wp2
           go_ret2
           exact pa_none HN.out B3
         | true =>
           have K4 := slices_equalSt ns ps a3 a c3 cap w3 (by omega) (by omega) i3 (HS.out w3 B3)
           by_cases hnp : ns = ps
           · have HN : Hid (rp = some l) := HR.out.trans (if_pos ⟨rfl, hnp⟩)
             rw [decide_eq_true hnp] at K4
             clear HR hnp i3
             go_wp2_with fail
             refine K4.mono ?_
             rintro e w4 ⟨rfl, b4'⟩
             have B4 := B3.trans (b4'.mono B3.size)
             have HO4 : Hid (w4.ownsRow w.heap.size 60 2 (.slice a2 l.length c2) l.length (pcells l)) := kept2 HO3.out b4'
             clear K4 b4' HO3
             go_wp2
             go_ret2
             rw [HN.out]
             exact ⟨a2, _, c2, rfl, HO4.out, B4⟩
           · have HN : Hid (rp = none) := HR.out.trans (if_neg (fun h => hnp h.2))
             rw [decide_eq_false hnp] at K4
             clear HR hnp i3
             go_wp2_with fail
             refine K4.mono ?_
             rintro e w4 ⟨rfl, b4'⟩
             have B4 := B3.trans (b4'.mono B3.size)
             clear K4 b4' HO3
             go_wp2
             go_ret2
             exact pa_none HN.out B4
   · have b1 : decide (1000000000000 < ix) = true := decide_eq_true (by omega)
     have n1 : 1000000000000 < ix := by omega
     have HN : Hid (rp = none) := HNO.out (fun h => hi1 h.1.2)
     clear HNO HNE HSO HK2 HFI HS K1
     go_enter Tryz.func13, Tryz.ntmps13
     go_wp2
     go_ret2
     exact pa_none HN.out B0
 · have b0 : decide (ix < 0) = true := decide_eq_true (by omega)
   have n0 : ix < 0 := by omega
   have HN : Hid (rp = none) := HNO.out (fun h => hi0 h.1.1)
   clear HNO HNE HSO HK2 HFI HS K1
   go_enter Tryz.func13, Tryz.ntmps13
   go_wp2
   go_ret2
   exact pa_none HN.out B0
set_option maxRecDepth 100000 in
set_option maxHeartbeats 4000000 in
theorem impl_replicaOk (ix : Int) (root : List UInt8) (a : Option Addr) (cap : Nat) (ps : List PairL) (c : Option Addr) (cap2 : Nat) (ss : List SessL) (w : World) (hT : Tab w) (hr : root.length ≤ 1048576) (hl : ps.length ≤ 1048576) (hm : ∀ p ∈ ps, p.1.length ≤ 1048576 ∧ p.2.length ≤ 1048576) (hs : IsPairs w a ps) (hl2 : ss.length ≤ 1048576) (hs2 : IsSess w c ss) :
 Calls Tryz.prog 10 #[.agg #[.int .i64 ix, .string ⟨root.toArray⟩, .slice a ps.length cap, .slice c ss.length cap2]] w fun e w' => e = .returned (.bool (repR ix root ps ss).isSome) ∧ Below w.heap.size w w' := by
 have B0 : Below w.heap.size w (w.alloc (.cells #[.int .i64 ix, .string ⟨root.toArray⟩, .slice a ps.length cap, .slice c ss.length cap2] 31)) := (Below.refl _ _).alloc (Nat.le_refl _) _
 have H0 := heap_alloc_new w (.cells #[.int .i64 ix, .string ⟨root.toArray⟩, .slice a ps.length cap, .slice c ss.length cap2] 31)
 have K := impl_replicaPairs ix root a cap ps c cap2 ss _ (hT.later B0) hr hl hm (hs.later B0) hl2 (hs2.later B0)
 obtain ⟨p0, p1, p2, p3, _⟩ := rp_cells H0
 obtain ⟨rp, hrp⟩ : ∃ rp, rp = repR ix root ps ss := ⟨_, rfl⟩
 rw [← hrp] at K ⊢
 unfold PAPost at K
 clear hrp hs hs2 hm hT H0
 go_enter Tryz.func10, Tryz.ntmps10
 go_wp2_with fail
 refine K.mono ?_
 rintro e w1 ⟨a1, m1, c1, rfl, _, b1⟩
 have B1 := B0.trans (b1.mono B0.size)
 go_wp2
 go_ret
 exact ⟨rfl, B1⟩
end Go.Proofs.YthnddgdnialogaaGreatDoor
