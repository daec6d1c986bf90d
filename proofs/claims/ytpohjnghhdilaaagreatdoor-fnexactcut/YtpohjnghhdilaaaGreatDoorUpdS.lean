/-
  Contracts: Put and Cut, of the model.
-/
import Derived.Test.YtpohjnghhdilaaaGreatDoorUpd
namespace Go.Proofs.YtpohjnghhdilaaaGreatDoor
open Go.RowKit
set_option linter.unusedVariables false

set_option maxRecDepth 100000 in
set_option maxHeartbeats 2000000 in
theorem spec_l7Turn (b off cap : Nat) (ps : List PairL) (a2 : Option Addr) (c2 : Nat) (l : List PairL) (w : World) (hl : ps.length ≤ 1048576) (hm : ∀ p ∈ ps, p.1.length ≤ 1048576 ∧ p.2.length ≤ 1048576) (hs : IsPairs w (some ⟨b, off, none⟩) ps) (hl2 : l.length ≤ 1048576) (hm2 : ∀ p ∈ l, p.1.length ≤ 1048576 ∧ p.2.length ≤ 1048576) (hs2 : IsPairs w a2 l) :
    Calls Tryz.prog 63 #[.slice (some ⟨b, off, none⟩) ps.length cap, .slice a2 l.length c2] w fun e w' => UPost w (turnR ps l) e w' := by
  have K := spec_pairsOk a2 c2 l w hl2 hm2 hs2
  by_cases hpo : pairsOkL l = true
  · rw [hpo] at K
    have KM : Hid (∀ W, Below w.heap.size w W → _) := fun W hW => spec_l5Made a2 c2 l W (fit_of l hpo) (hs2.later hW)
    have HKA : Hid (∀ (g c : Nat) W, Below w.heap.size w W → IsPairs W (some ⟨g, 0, none⟩) (nodesR l) → Calls Tryz.prog 13 #[.slice (some ⟨b, off, none⟩) ps.length cap, .slice (some ⟨g, 0, none⟩) (nodesR l).length c] W fun e w' => AddPost W ps (nodesR l) e w') := fun g c W hW h => spec_storeAdd b off cap ps g 0 c (nodesR l) W hl hm (hs.later hW) (by have := nodesR_len l; omega) (nodes_small l) h
    have HR : Hid (turnR ps l = if rootOk l = true ∧ addOk ps (nodesR l) = true then some (addR ps (nodesR l), rootR l) else none) := rfl
    have e1 : rootOk l = madeOk (allL l) := by simp [rootOk, hpo]
    have e2 : nodesR l = if madeOk (allL l) then sortedL (allL l) else [] := by simp [nodesR, e1]
    have e3 : rootR l = if madeOk (allL l) then rootOr (allL l) else [] := by simp [rootR, e1]
    unfold AddPost at HKA
    rw [← e2, ← e3] at KM
    rw [e1] at HR
    obtain ⟨res, hres⟩ : ∃ res, res = turnR ps l := ⟨_, rfl⟩
    obtain ⟨ns, hns⟩ : ∃ ns, ns = nodesR l := ⟨_, rfl⟩
    obtain ⟨ro, hro⟩ : ∃ ro, ro = madeOk (allL l) := ⟨_, rfl⟩
    obtain ⟨rr, hrr⟩ : ∃ rr, rr = rootR l := ⟨_, rfl⟩
    rw [← hres] at HR ⊢
    rw [← hns, ← hro, ← hrr] at KM HR
    rw [← hns] at HKA
    obtain ⟨ao, hao⟩ : ∃ ao, ao = addOk ps ns := ⟨_, rfl⟩
    obtain ⟨ar, har⟩ : ∃ ar, ar = addR ps ns := ⟨_, rfl⟩
    rw [← hao, ← har] at HR HKA
    clear hres hns hro hrr hao har hs hm hs2 hm2 e1 e2 e3 hpo
    go_enter Tryz.func63, Tryz.ntmps63
    go_wp2_with fail
    refine K.mono ?_
    rintro e w0 ⟨rfl, b0⟩
    have K1 := KM.out w0 b0
    clear KM K
    go_wp2_with fail
    refine K1.mono ?_
    rintro e w1 ⟨a3, m3, c3, rfl, ⟨o3, hg3⟩, b1'⟩
    have b1 := b0.trans (b1'.mono b0.size)
    obtain ⟨rfl, _, i3⟩ := isPairs_own o3
    cases ro with
    | false =>
      have HN : Hid (res = none) := HR.out.trans (if_neg (fun h => by simp at h))
      clear HR o3 i3 hg3 K1
      go_wp2
      go_ret3
      exact up_none HN.out b1
    | true =>
      obtain ⟨g3, rfl⟩ := hg3 rfl
      have K2 := HKA.out g3 c3 w1 b1 i3
      clear o3 i3 HKA K1 hg3 b1' b0
      go_wp2_with fail
      refine K2.mono ?_
      rintro e w2 ⟨a4, m4, c4, rfl, o4, b2⟩
      have B2 := b1.trans (b2.mono b1.size)
      have O4 : Hid (w2.ownsRow w.heap.size 58 2 (.slice a4 m4 c4) ar.length (pcells ar)) := o4.mono b1.size
      clear K2 o4 b2
      cases ao with
      | false =>
        have HN : Hid (res = none) := HR.out.trans (if_neg (fun h => by simp at h))
        clear HR
        go_wp2
        go_ret3
        exact up_none HN.out B2
      | true =>
        have HN : Hid (res = some (ar, rr)) := HR.out.trans (if_pos (by simp))
        clear HR
        go_wp2
        go_ret3
        rw [HN.out]
        exact ⟨a4, m4, c4, rfl, O4.out, B2⟩
  · have HN : Hid (turnR ps l = none) := if_neg (fun h => by have := h.1; simp [rootOk, hpo] at this)
    have hpo' : pairsOkL l = false := by simpa using hpo
    rw [hpo'] at K
    obtain ⟨res, hres⟩ : ∃ res, res = turnR ps l := ⟨_, rfl⟩
    rw [← hres] at HN ⊢
    clear hres hs hm hs2 hm2 hpo hpo'
    go_enter Tryz.func63, Tryz.ntmps63
    go_wp2_with fail
    refine K.mono ?_
    rintro e w0 ⟨rfl, b0⟩
    go_wp2
    go_ret3
    exact up_none HN.out b0
theorem turn_no {ps l : List PairL} (h : ¬ pairsOkL l = true) : turnR ps l = none := if_neg (fun h1 => by have := h1.1; simp [rootOk, h] at this)
theorem upd_turn {ps : List PairL} {root key val : List UInt8} {l : List PairL} (h : pairsAtR ps root = some l) : updR ps root key val = turnR ps (setL l key val) := by
  unfold updR
  rw [h]
  show (if pairsOkL (setL l key val) = true then turnR ps (setL l key val) else none) = _
  split
  · rfl
  · rename_i hn; exact (turn_no hn).symm

set_option maxRecDepth 100000 in
set_option maxHeartbeats 2000000 in
theorem spec_put (b off cap : Nat) (ps : List PairL) (root key val : List UInt8) (w : World) (hl : ps.length ≤ 1048576) (hm : ∀ p ∈ ps, p.1.length ≤ 1048576 ∧ p.2.length ≤ 1048576) (hs : IsPairs w (some ⟨b, off, none⟩) ps) (hk : key.length ≤ 1048576) (hv : val.length ≤ 1048576) :
    Calls Tryz.prog 24 #[.slice (some ⟨b, off, none⟩) ps.length cap, .string ⟨root.toArray⟩, .string ⟨key.toArray⟩, .string ⟨val.toArray⟩] w fun e w' => UPost w (putR ps root key val) e w' := by
  have K := spec_pairsAt (some ⟨b, off, none⟩) cap ps root w hl hm hs
  have HS : Hid (∀ W, Below w.heap.size w W → IsPairs W (some ⟨b, off, none⟩) ps) := fun W hW => hs.later hW
  have HPO : Hid (∀ l, pairsAtR ps root = some l → pairsOkL l = true) := fun l h => pairsAt_ok h
  have HRN : Hid (pairsAtR ps root = none → putR ps root key val = none) := fun h => by
    unfold putR updR
    rw [h]
    split <;> rfl
  have HRS : Hid (val ≠ [] → ∀ l, pairsAtR ps root = some l → putR ps root key val = turnR ps (setL l key val)) := fun hg l h => by
    rw [← upd_turn h]
    exact if_neg hg
  have HRB : Hid (¬ (val ≠ []) → putR ps root key val = none) := fun hg => if_pos (Classical.not_not.1 hg)
  have HKT : Hid (∀ (g c2 : Nat) (l : List PairL) W, Below w.heap.size w W → l.length ≤ 1048576 → (∀ p ∈ l, p.1.length ≤ 1048576 ∧ p.2.length ≤ 1048576) → IsPairs W (some ⟨g, 0, none⟩) l → Calls Tryz.prog 63 #[.slice (some ⟨b, off, none⟩) ps.length cap, .slice (some ⟨g, 0, none⟩) l.length c2] W fun e w' => UPost W (turnR ps l) e w') := fun g c2 l W hW h1 h2 h3 => spec_l7Turn b off cap ps (some ⟨g, 0, none⟩) c2 l W hl hm (hs.later hW) h1 h2 h3
  unfold PAPost at K
  obtain ⟨pr, hpr⟩ : ∃ pr, pr = pairsAtR ps root := ⟨_, rfl⟩
  obtain ⟨res, hres⟩ : ∃ res, res = putR ps root key val := ⟨_, rfl⟩
  rw [← hpr] at K HPO HRN HRS
  rw [← hres] at HRN HRS HRB ⊢
  clear hpr hres hs hm
  cases pr with
  | none =>
    have HN : Hid (res = none) := HRN.out rfl
    clear HRS HRN HPO HRB
    go_enter Tryz.func24, Tryz.ntmps24
    go_wp2_with fail
    refine K.mono ?_
    rintro e w1 ⟨a1, m1, c1, rfl, o1, b1⟩
    clear o1
    go_wp2
    go_ret3
    exact up_none HN.out b1
  | some l =>
    simp only [Option.getD_some, Option.isSome_some] at K
    have hlf := fit_of l (HPO.out l rfl)
    have hlm : ∀ p ∈ l, p.1.length ≤ 1048576 ∧ p.2.length ≤ 1048576 := fun p hp => by have := hlf.2 p hp; omega
    have hl60 := hlf.1
    by_cases hg : val ≠ []
    · have HR : Hid (res = turnR ps (setL l key val)) := HRS.out hg l rfl
      have KS : Hid (∀ (a : Option Addr) (c : Nat) W, IsPairs W a l → _) := fun a c W h => l5Set_any a c l key val W (by omega) hlm hk hv h
      have hsm : ∀ p ∈ setL l key val, p.1.length ≤ 1048576 ∧ p.2.length ≤ 1048576 := fun p hp => by
        rcases setL_mem l key val p hp with h | h
        · rw [h]; exact ⟨hk, hv⟩
        · exact hlm p h
      have HSM : Hid (∀ p ∈ setL l key val, p.1.length ≤ 1048576 ∧ p.2.length ≤ 1048576) := hsm
      obtain ⟨sl, hsl⟩ : ∃ sl, sl = setL l key val := ⟨_, rfl⟩
      rw [← hsl] at HR KS HSM
      have hvb : val.isEmpty = false := by cases val with | nil => exact absurd rfl hg | cons _ _ => rfl
      clear hg
      clear hsl hsm hlm hlf HRS HRN HPO HRB
      go_enter Tryz.func24, Tryz.ntmps24
      go_wp2_with fail
      refine K.mono ?_
      rintro e w1 ⟨a1, m1, c1, rfl, o1, b1⟩
      obtain ⟨rfl, _, i1⟩ := isPairs_own o1
      have K2 := KS.out a1 c1 w1 i1
      clear o1 i1 K KS
      go_wp2_with fail
      refine K2.mono ?_
      rintro e w2 ⟨g2, c2, rfl, hl2, o2, b2⟩
      have B2 := b1.trans (b2.mono b1.size)
      have K3 := HKT.out g2 c2 sl w2 B2 (by omega) HSM.out (isPairs_own o2).2.2
      unfold UPost at K3
      obtain ⟨tr, htr⟩ : ∃ tr, tr = turnR ps sl := ⟨_, rfl⟩
      rw [← htr] at K3 HR
      clear o2 b2 K2 HKT htr HSM b1
      go_wp2_with fail
      refine K3.mono ?_
      rintro e w3 ⟨a3, m3, c3, rfl, o3, b3⟩
      have B3 := B2.trans (b3.mono B2.size)
      have O3 := hidOwn (o3.mono B2.size)
      clear o3 b3 K3
      go_wp2
      go_ret3
      rw [HR.out]
      exact ⟨a3, m3, c3, rfl, O3.out, B3⟩
    · have HN : Hid (res = none) := HRB.out hg
      obtain rfl := Classical.not_not.1 hg
      clear hg
      clear hlm hlf HRS HRN HPO HRB
      go_enter Tryz.func24, Tryz.ntmps24
      go_wp2_with fail
      refine K.mono ?_
      rintro e w1 ⟨a1, m1, c1, rfl, o1, b1⟩
      clear o1
      go_wp2
      go_ret3
      exact up_none HN.out b1

set_option maxRecDepth 100000 in
set_option maxHeartbeats 2000000 in
theorem spec_cut (b off cap : Nat) (ps : List PairL) (root key : List UInt8) (w : World) (hl : ps.length ≤ 1048576) (hm : ∀ p ∈ ps, p.1.length ≤ 1048576 ∧ p.2.length ≤ 1048576) (hs : IsPairs w (some ⟨b, off, none⟩) ps) (hk : key.length ≤ 1048576) :
    Calls Tryz.prog 26 #[.slice (some ⟨b, off, none⟩) ps.length cap, .string ⟨root.toArray⟩, .string ⟨key.toArray⟩] w fun e w' => UPost w (cutR ps root key) e w' := by
  have K := spec_pairsAt (some ⟨b, off, none⟩) cap ps root w hl hm hs
  have HS : Hid (∀ W, Below w.heap.size w W → IsPairs W (some ⟨b, off, none⟩) ps) := fun W hW => hs.later hW
  have HPO : Hid (∀ l, pairsAtR ps root = some l → pairsOkL l = true) := fun l h => pairsAt_ok h
  have hzk : (ByteArray.mk key.toArray).size = key.length := by simp [ByteArray.size]
  have HRN : Hid (pairsAtR ps root = none → cutR ps root key = none) := fun h => by
    unfold cutR updR
    rw [h]
    split <;> rfl
  have HRS : Hid (key.length ≤ 12 → ∀ l, pairsAtR ps root = some l → cutR ps root key = turnR ps (setL l key [])) := fun hg l h => by
    rw [← upd_turn h]
    exact if_pos hg
  have HRB : Hid (¬ (key.length ≤ 12) → cutR ps root key = none) := fun hg => if_neg hg
  have HKT : Hid (∀ (g c2 : Nat) (l : List PairL) W, Below w.heap.size w W → l.length ≤ 1048576 → (∀ p ∈ l, p.1.length ≤ 1048576 ∧ p.2.length ≤ 1048576) → IsPairs W (some ⟨g, 0, none⟩) l → Calls Tryz.prog 63 #[.slice (some ⟨b, off, none⟩) ps.length cap, .slice (some ⟨g, 0, none⟩) l.length c2] W fun e w' => UPost W (turnR ps l) e w') := fun g c2 l W hW h1 h2 h3 => spec_l7Turn b off cap ps (some ⟨g, 0, none⟩) c2 l W hl hm (hs.later hW) h1 h2 h3
  unfold PAPost at K
  obtain ⟨pr, hpr⟩ : ∃ pr, pr = pairsAtR ps root := ⟨_, rfl⟩
  obtain ⟨res, hres⟩ : ∃ res, res = cutR ps root key := ⟨_, rfl⟩
  rw [← hpr] at K HPO HRN HRS
  rw [← hres] at HRN HRS HRB ⊢
  clear hpr hres hs hm
  cases pr with
  | none =>
    have HN : Hid (res = none) := HRN.out rfl
    clear HRS HRN HPO HRB
    go_enter Tryz.func26, Tryz.ntmps26
    go_wp2_with fail
    refine K.mono ?_
    rintro e w1 ⟨a1, m1, c1, rfl, o1, b1⟩
    clear o1
    go_wp2
    go_ret3
    exact up_none HN.out b1
  | some l =>
    simp only [Option.getD_some, Option.isSome_some] at K
    have hlf := fit_of l (HPO.out l rfl)
    have hlm : ∀ p ∈ l, p.1.length ≤ 1048576 ∧ p.2.length ≤ 1048576 := fun p hp => by have := hlf.2 p hp; omega
    have hl60 := hlf.1
    by_cases hg : key.length ≤ 12
    · have HR : Hid (res = turnR ps (setL l key [])) := HRS.out hg l rfl
      have KS : Hid (∀ (a : Option Addr) (c : Nat) W, IsPairs W a l → _) := fun a c W h => l5Set_any a c l key [] W (by omega) hlm hk (by simp) h
      have hsm : ∀ p ∈ setL l key [], p.1.length ≤ 1048576 ∧ p.2.length ≤ 1048576 := fun p hp => by
        rcases setL_mem l key [] p hp with h | h
        · rw [h]; exact ⟨hk, (by simp)⟩
        · exact hlm p h
      have HSM : Hid (∀ p ∈ setL l key [], p.1.length ≤ 1048576 ∧ p.2.length ≤ 1048576) := hsm
      obtain ⟨sl, hsl⟩ : ∃ sl, sl = setL l key [] := ⟨_, rfl⟩
      rw [← hsl] at HR KS HSM
      have hki : (key.length : Int) ≤ 12 := by omega
      have hkd : decide ((12 : Int) < (key.length : Int)) = false := by simp; omega
      clear hsl hsm hlm hlf HRS HRN HPO HRB
      go_enter Tryz.func26, Tryz.ntmps26
      go_wp2_with fail
      refine K.mono ?_
      rintro e w1 ⟨a1, m1, c1, rfl, o1, b1⟩
      obtain ⟨rfl, _, i1⟩ := isPairs_own o1
      have K2 := KS.out a1 c1 w1 i1
      clear o1 i1 K KS
      go_wp2_with fail
      refine K2.mono ?_
      rintro e w2 ⟨g2, c2, rfl, hl2, o2, b2⟩
      have B2 := b1.trans (b2.mono b1.size)
      have K3 := HKT.out g2 c2 sl w2 B2 (by omega) HSM.out (isPairs_own o2).2.2
      unfold UPost at K3
      obtain ⟨tr, htr⟩ : ∃ tr, tr = turnR ps sl := ⟨_, rfl⟩
      rw [← htr] at K3 HR
      clear o2 b2 K2 HKT htr HSM b1
      go_wp2_with fail
      refine K3.mono ?_
      rintro e w3 ⟨a3, m3, c3, rfl, o3, b3⟩
      have B3 := B2.trans (b3.mono B2.size)
      have O3 := hidOwn (o3.mono B2.size)
      clear o3 b3 K3
      go_wp2
      go_ret3
      rw [HR.out]
      exact ⟨a3, m3, c3, rfl, O3.out, B3⟩
    · have HN : Hid (res = none) := HRB.out hg
      have hki : ¬ (key.length : Int) ≤ 12 := by omega
      have hkd : decide ((12 : Int) < (key.length : Int)) = true := by simp; omega
      clear hlm hlf HRS HRN HPO HRB
      go_enter Tryz.func26, Tryz.ntmps26
      go_wp2_with fail
      refine K.mono ?_
      rintro e w1 ⟨a1, m1, c1, rfl, o1, b1⟩
      clear o1
      go_wp2
      go_ret3
      exact up_none HN.out b1
end Go.Proofs.YtpohjnghhdilaaaGreatDoor
