/-
 Contract: Pruned, of the model.
-/
import Derived.Test.YtapmakefpmholaaDoorMathPrune
import Derived.Test.YtapmakefpmholaaDoorPairs
namespace Go.Proofs.YtapmakefpmholaaDoor
open Go.RowKit
set_option linter.unusedVariables false
set_option maxRecDepth 100000 in
set_option maxHeartbeats 4000000 in
theorem spec_pruned (a : Option Addr) (cap : Nat) (ps : List PairL) (ar : Option Addr) (cr : Nat) (rts : List Bs) (w : World) (hl : ps.length ≤ 1048576) (hm : ∀ p ∈ ps, p.1.length ≤ 1048576 ∧ p.2.length ≤ 1048576) (hs : IsPairs w a ps) (hrn : rts.length ≤ 1048576) (hrs : IsStrs w ar rts) :
 Calls Tryd.prog 6 #[.slice a ps.length cap, .slice ar rts.length cr] w fun e w' => PPost w (prunedR ps rts) e w' := by
 obtain ⟨i0, hi0, hz0, hz1, hz2⟩ := info_parts info9t
 obtain ⟨j0, hj0, hy0, hy1, hy2⟩ := info_parts infoStored
 have K := spec_storeOk a cap ps w hl hm hs
 have HNO : Hid (¬ (storeOkL ps = true ∧ rts.length ≤ 30) → prunedR ps rts = none) := pruned_no
 have HLO : Hid (∀ r ∈ rts, reachR ps r = none → prunedR ps rts = none) := fun r hr h => pruned_lost r hr h
 have HYS : Hid (storeOkL ps = true → rts.length ≤ 30 → (∀ r ∈ rts, (reachR ps r).isSome = true) → prunedR ps rts = some (ps.filter fun p => (keepR ps rts).contains p.1)) := pruned_yes
 obtain ⟨res, hres⟩ : ∃ res, res = prunedR ps rts := ⟨_, rfl⟩
 rw [← hres] at HNO HLO HYS ⊢
 clear hres
 cases hok : storeOkL ps with
 | false =>
   have HN : Hid (res = none) := HNO.out (by simp [hok])
   rw [hok] at K
   clear hs hm hrs hok HNO HLO HYS
   go_enter Tryd.func6, Tryd.ntmps6
   go_wp2_with fail
   refine K.mono ?_
   rintro e w1 ⟨rfl, b1⟩
   go_wp2
   go_ret2
   exact pp_none HN.out b1
 | true =>
   by_cases h30 : rts.length ≤ 30
   · have h400 := store_400P ps hok
     have HY : Hid ((∀ r ∈ rts, (reachR ps r).isSome = true) → res = some (ps.filter fun p => (keepR ps rts).contains p.1)) := HYS.out hok h30
     have KR : Hid (∀ root W, Below w.heap.size w W → Calls Tryd.prog 17 #[.slice a ps.length cap, .string ⟨root.toArray⟩] W fun e w' => RPostN W (reachR ps root) e w') := fun root W hW => spec_l7ReachedN a cap ps root W hl h400 hm (hs.later hW) hok
     have HS : Hid (IsPairs w a ps) := hs
     have HR : Hid (IsStrs w ar rts) := hrs
     rw [hok] at K
     have h30d : decide ((30 : Int) < (rts.length : Int)) = false := by simp; omega
     have h30i : ¬ (30 : Int) < (rts.length : Int) := by omega
     unfold RPostN at KR
     clear hs hm hrs hok HNO HYS
     go_enter Tryd.func6, Tryd.ntmps6
     go_wp2_with fail
     refine K.mono ?_
     rintro e w1 ⟨rfl, b1⟩
     have hs1 := b1.size
     have O1 : Hid ((w1.alloc (.cells #[] 9)).ownsRow w.heap.size 9 1 (.slice (some ⟨w1.heap.size, 0, none⟩) 0 0) 0 (scells [])) := World.ownsRow_lit (e := 9) (size := 1) w1 #[] 0 (base := w.heap.size) hs1 (Nat.zero_le _) rfl
     have B1 : Hid (Below w.heap.size w (w1.alloc (.cells #[] 9))) := b1.alloc hs1 _
     clear K b1
     go_wp2
     go_loopw [6, 7, 8, 9] (fun v6 v7 _ _ wr => ∃ (i g c n : Nat), i ≤ rts.length ∧ v7 = .int .i64 (i : Int) ∧ v6 = .slice (some ⟨g, 0, none⟩) n c ∧ Hid (n = (keepR ps (rts.take i)).length) ∧ n ≤ i * 400 ∧ Hid (wr.ownsRow w.heap.size 9 1 (.slice (some ⟨g, 0, none⟩) n c) n (scells (keepR ps (rts.take i)))) ∧ Hid (∀ r ∈ rts.take i, (reachR ps r).isSome = true) ∧ Hid (Below w.heap.size w wr)) (fun _ v7 _ _ _ => rts.length - (intOf v7).toNat)
     case atStart => exact ⟨0, w1.heap.size, 0, 0, Nat.zero_le _, rfl, rfl, by simp [Hid, keepR], by omega, by simpa [Hid, keepR] using O1.out, by simp [Hid], B1⟩
     case round =>
      obtain ⟨i, g, c, n, hi, rfl, rfl, HN, hn, HO, HA, HB⟩ := hrel
      have hsz := HB.out.size
      have hi9 : (0 : Int) ≤ (i : Int) := by omega
      by_cases hlt : i < rts.length
      · have hii : (i : Int) < (rts.length : Int) := by omega
        obtain ⟨bk, offk, ha4, hbk, hkc⟩ := root_atP HR.out i hlt
        have d1 := (HB.out.cell (p := ⟨bk, offk + i, none⟩) hbk).trans hkc
        have HST : Hid (keepR ps (rts.take (i + 1)) = keepR ps (rts.take i) ++ (reachR ps rts[i]).getD []) := keep_step hlt
        have HMR : Hid (rts[i] ∈ rts) := List.getElem_mem hlt
        have HA2 : Hid ((reachR ps rts[i]).isSome = true → ∀ r ∈ rts.take (i + 1), (reachR ps r).isSome = true) := fun h r hr => by
         rw [List.take_succ_eq_append_getElem hlt, List.mem_append, List.mem_singleton] at hr
         rcases hr with hr | hr
         · exact HA.out r hr
         · rw [hr]; exact h
        have hlen := reach_len (ps := ps) rts[i]
        obtain ⟨root, hroot⟩ : ∃ root, root = rts[i] := ⟨_, rfl⟩
        rw [← hroot] at d1 HST HMR HA2 hlen
        have K2 := KR.out root wr HB.out
        have HLX : Hid (reachR ps root = none → res = none) := HLO.out root HMR.out
        obtain ⟨r1, hr1⟩ : ∃ r1, r1 = reachR ps root := ⟨_, rfl⟩
        rw [← hr1] at K2 HST HA2 hlen HLX
        clear hr1 hroot hkc HA KR HMR HLO
        subst ha4
        go_wp2_with fail
        refine K2.mono ?_
        rintro e w5 ⟨a5, m5, c5, rfl, hg5, o5, b5⟩
        have B5 : Hid (Below w.heap.size w w5) := HB.out.trans (b5.mono hsz)
        cases r1 with
        | none =>
          have HNN : Hid (res = none) := HLX.out rfl
          clear o5 b5 HST HA2 HLX hg5 K2
          go_wp2
          go_ret2
          exact pp_none HNN.out B5.out
        | some l5 =>
          obtain ⟨g5, rfl⟩ := hg5 rfl
          simp only [Option.getD_some, Option.isSome_some] at o5 hlen HST ⊢
          obtain ⟨rfl, _, _⟩ := strs_own o5
          have OW5 := hidOwn (kept1 HO.out b5)
          have NEW5 : Hid (∀ j u, (scells l5)[j]? = some u → w5.cell? ((⟨g5, 0, none⟩ : Addr).add j) = some u) := by
           have := flat_partT o5 0 l5.length
           simpa [Hid] using this
          have S5 : w.heap.size ≤ w5.heap.size := B5.out.size
          have HAX := HA2.out rfl
          have HAX : Hid (∀ r ∈ rts.take (i + 1), (reachR ps r).isSome = true) := HAX
          have hsl : (scells l5).length = l5.length := by simp [scells]
          have hn30 : n ≤ 12000 := by omega
          clear o5 b5 HA2 HLX K2 hg5
          go_wp2_with (at_builtin; refine wpList_append_own _ rfl _ _ 23 rfl w.heap.size 9 i0 (.string ⟨#[]⟩) 1 16 Tryd.underlying23 hi0 hz0 hz1 hz2 rfl (by decide) (.slice (some ⟨g, 0, none⟩) n c) n _ rfl OW5.out ⟨g5, 0, none⟩ l5.length c5 (scells l5) rfl (by rw [hsl]; omega) NEW5.out (soneT l5) (by unfold maxLen; omega) (by omega) S5 ?_)
          intro v6 w6 hown6 hgrow6 hnil6
          obtain ⟨g6, c6, rfl⟩ := own_shape hown6 (by first | exact hnil6 | exact fun h => by have := hnil6.1 h; simp at this)
          have HB6 : Hid (Below w.heap.size w w6) := B5.out.grown hgrow6 S5 (fun q hq => by have := OW5.out.lt q hq; omega)
          have HO6 : Hid (w6.ownsRow w.heap.size 9 1 (.slice (some ⟨g6, 0, none⟩) (n + l5.length) c6) (n + l5.length) (scells (keepR ps (rts.take (i + 1))))) := by rw [Hid, HST.out]; simp only [scells, List.map_append]; exact hown6
          have HN6 : Hid (n + l5.length = (keepR ps (rts.take (i + 1))).length) := by rw [Hid, HST.out, List.length_append, ← HN.out]
          clear hown6 hgrow6 hnil6 NEW5 HST HN
          go_wp2
          go_roundw
          case rel => exact ⟨i + 1, g6, c6, n + l5.length, by omega, by go_num, rfl, HN6, by omega, HO6, HAX, HB6⟩
          case measure => simp [intOf]; omega
      · obtain rfl : i = rts.length := by omega
        have hii : ¬ (rts.length : Int) < (rts.length : Int) := by omega
        have ha := HA.out
        have hnn := HN.out
        have hoo := HO.out
        rw [List.take_length] at ha hnn hoo
        have HRS : Hid (res = some (ps.filter fun p => (keepR ps rts).contains p.1)) := HY.out ha
        obtain ⟨kp, hkp⟩ : ∃ kp, kp = keepR ps rts := ⟨_, rfl⟩
        rw [← hkp] at HRS hnn hoo
        subst hnn
        obtain ⟨wk, hwk⟩ : ∃ wk, wk = wr := ⟨_, rfl⟩
        rw [← hwk] at hoo HB hsz
        have HK0 := hidOwn hoo
        have HKP : Hid (∀ W, Below wk.heap.size wk W → W.ownsRow w.heap.size 9 1 (.slice (some ⟨g, 0, none⟩) kp.length c) kp.length (scells kp)) := fun W hW => kept1 HK0.out hW
        have hkl : kp.length ≤ 12000 := by omega
        have O2 : Hid ((wk.alloc (.cells #[] 41)).ownsRow wk.heap.size 41 2 (.slice (some ⟨wk.heap.size, 0, none⟩) 0 0) 0 (pcells [])) := World.ownsRow_lit (e := 41) (size := 2) wk #[] 0 (base := wk.heap.size) (Nat.le_refl _) (Nat.zero_le _) rfl
        have B2 : Hid (Below wk.heap.size wk (wk.alloc (.cells #[] 41))) := (Below.refl _ _).alloc (Nat.le_refl _) _
        clear ha hoo hkp HA HN HO HY HLO KR HK0 hn
        subst hwk
        go_wp2
        go_loopw [10, 11, 12, 13] (fun v10 v11 _ _ wq => ∃ (j g2 c2 n2 : Nat), j ≤ ps.length ∧ v11 = .int .i64 (j : Int) ∧ v10 = .slice (some ⟨g2, 0, none⟩) n2 c2 ∧ Hid (n2 = ((ps.take j).filter fun p => kp.contains p.1).length) ∧ n2 ≤ j ∧ Hid (wq.ownsRow wk.heap.size 41 2 (.slice (some ⟨g2, 0, none⟩) n2 c2) n2 (pcells ((ps.take j).filter fun p => kp.contains p.1))) ∧ Hid (Below wk.heap.size wk wq)) (fun _ v11 _ _ _ => ps.length - (intOf v11).toNat)
        case atStart => exact ⟨0, wk.heap.size, 0, 0, Nat.zero_le _, rfl, rfl, by simp [Hid], by omega, by simpa [Hid] using O2.out, B2⟩
        case round =>
         obtain ⟨j, g2, c2, n2, hj, rfl, rfl, HN2, hn2, HO2, HB2⟩ := hrel
         have hsz2 := HB2.out.size
         have hj9 : (0 : Int) ≤ (j : Int) := by omega
         by_cases hlt : j < ps.length
         · have hji : (j : Int) < (ps.length : Int) := by omega
           obtain ⟨bp, offp, hap, hbp, hp1, hp2⟩ := pair_atP HS.out j hlt
           have HC : Hid (∀ W, Below wk.heap.size wk W → W.cell? ⟨bp, offp + j * 2, none⟩ = some (.string ⟨ps[j].1.toArray⟩) ∧ W.cell? ⟨bp, offp + j * 2 + 1, none⟩ = some (.string ⟨ps[j].2.toArray⟩)) := fun W hW => by
            have hW2 := HB.out.trans (hW.mono hsz)
            exact ⟨(hW2.cell (p := ⟨bp, offp + j * 2, none⟩) hbp).trans hp1, (hW2.cell (p := ⟨bp, offp + j * 2 + 1, none⟩) hbp).trans hp2⟩
           have HF1 := filter_stepP (f := fun p => kp.contains p.1) hlt
           obtain ⟨hh, tt, hpj⟩ : ∃ hh tt, ps[j] = (hh, tt) := ⟨_, _, rfl⟩
           rw [hpj] at HC HF1
           have HF1 : Hid (_ = _) := HF1
           clear hpj hp1 hp2 hbp
           subst hap
           obtain ⟨wo, hwo⟩ : ∃ wo, wo = wr := ⟨_, rfl⟩
           rw [← hwo] at HO2 HB2 hsz2
           subst hwo
           go_wp2
           go_loopw [12, 13] (fun v12 v13 wi => ∃ (k : Nat) (od : Bool), k ≤ kp.length ∧ v13 = .int .i64 (k : Int) ∧ v12 = .bool od ∧ Hid (od = true ↔ hh ∈ kp.take k) ∧ Hid (Below wo.heap.size wo wi)) (fun _ v13 _ => kp.length - (intOf v13).toNat)
           case atStart => exact ⟨0, false, Nat.zero_le _, rfl, rfl, by simp [Hid], Below.refl _ _⟩
           case round =>
            obtain ⟨k, od, hk, rfl, rfl, HOD, HBI⟩ := hrel
            have hk9 : (0 : Int) ≤ (k : Int) := by omega
            have B3 : Hid (Below wk.heap.size wk wr) := HB2.out.trans (HBI.out.mono hsz2)
            by_cases hlk : k < kp.length
            · have hki : (k : Int) < (kp.length : Int) := by omega
              have dk : wr.cell? ⟨g, k, none⟩ = some (.string ⟨kp[k].toArray⟩) := by
               have := (HKP.out wr B3.out).cellAt k (by omega)
               rw [this]
               simp [scells, hlk]
              obtain ⟨e1, e2⟩ := HC.out wr B3.out
              have HM1 := mem_take_succ hlk hh
              obtain ⟨y, hy⟩ : ∃ y, y = kp[k] := ⟨_, rfl⟩
              rw [← hy] at dk HM1
              have SX : Hid (wr.cell? ⟨g, k, none⟩ = some (.string ⟨y.toArray⟩) ∧ wr.cell? ⟨bp, offp + j * 2, none⟩ = some (.string ⟨hh.toArray⟩)) := ⟨dk, e1⟩
              have D2 : Hid (Below wo.heap.size wo wr.drew) := ⟨HBI.out.os, HBI.out.tape, HBI.out.output, HBI.out.size, HBI.out.block⟩
              clear hy e1 e2 dk
              cases od with
              | true =>
                have H1 : Hid (true = true ↔ hh ∈ kp.take (k + 1)) := ⟨fun _ => HM1.2 (.inl (HOD.out.1 rfl)), fun _ => rfl⟩
                clear HM1 HOD
                go_wp2_with fail
                refine wp_region_held_drew (S := (fun w' => w'.cell? ⟨g, k, none⟩ = some (.string ⟨y.toArray⟩) ∧ w'.cell? ⟨bp, offp + j * 2, none⟩ = some (.string ⟨hh.toArray⟩))) (by kernel_rfl) SX.out (fun hHeld => ?_)
                refine wpAnyH_take (i := 0) (oi := { dst := some 56, op := Op.move (Operand.tmp 12), type := 4, pos := "l07_updates.go:110", after := #[], guard := none }) (v := ?vb0) rfl (by kernel_rfl) (by kernel_rfl) (by kernel_rfl) (fun _ _ _ h => h) (Or.inl ⟨by rfl, ?yb0⟩) (by assumption) ?rb0
                case yb0 => (intro w hSw; (try dsimp only at hSw); go_simp; (try with_reducible rfl))
                try simp only [Act.put, List.setIfInBounds_toArray, List.set_cons_zero, List.set_cons_succ]
                refine wpAnyH_take (i := 1) (oi := { dst := some 57, op := Op.move (Operand.tmp 56), type := 4, pos := "l07_updates.go:110", after := #[{ on := 0, ground := Ground.data }], guard := none }) (v := ?vb1) rfl (by kernel_rfl) (by kernel_rfl) (by kernel_rfl) (fun _ _ _ h => h) (Or.inl ⟨by rfl, ?yb1⟩) (by assumption) ?rb1
                case yb1 => (intro w hSw; (try dsimp only at hSw); go_simp; (try with_reducible rfl))
                try simp only [Act.put, List.setIfInBounds_toArray, List.set_cons_zero, List.set_cons_succ]
                refine wpAnyH_take (i := 2) (oi := { dst := some 58, op := Op.move (Operand.tmp 6), type := 23, pos := "l07_updates.go:110", after := #[{ on := 1, ground := Ground.guard }], guard := some (1, false) }) (v := undef) rfl (by kernel_rfl) (by kernel_rfl) (by kernel_rfl) (fun _ _ _ h => h) (Or.inr ⟨by rfl, rfl⟩) (by assumption) ?_
                try simp only [Act.put, List.setIfInBounds_toArray, List.set_cons_zero, List.set_cons_succ]
                refine wpAnyH_take (i := 3) (oi := { dst := some 59, op := Op.move (Operand.tmp 13), type := 3, pos := "l07_updates.go:110", after := #[{ on := 1, ground := Ground.guard }], guard := some (1, false) }) (v := undef) rfl (by kernel_rfl) (by kernel_rfl) (by kernel_rfl) (fun _ _ _ h => h) (Or.inr ⟨by rfl, rfl⟩) (by assumption) ?_
                try simp only [Act.put, List.setIfInBounds_toArray, List.set_cons_zero, List.set_cons_succ]
                refine wpAnyH_take (i := 4) (oi := { dst := some 60, op := Op.indexAddr 23 (Operand.tmp 58) (Operand.tmp 59), type := 0, pos := "l07_updates.go:110", after := #[{ on := 2, ground := Ground.data }, { on := 3, ground := Ground.data }, { on := 1, ground := Ground.guard }], guard := some (1, false) }) (v := undef) rfl (by kernel_rfl) (by kernel_rfl) (by kernel_rfl) (fun _ _ _ h => h) (Or.inr ⟨by rfl, rfl⟩) (by assumption) ?_
                try simp only [Act.put, List.setIfInBounds_toArray, List.set_cons_zero, List.set_cons_succ]
                refine wpAnyH_take (i := 5) (oi := { dst := some 61, op := Op.load 9 (Operand.tmp 60), type := 9, pos := "l07_updates.go:110", after := #[{ on := 4, ground := Ground.data }, { on := 1, ground := Ground.guard }], guard := some (1, false) }) (v := undef) rfl (by kernel_rfl) (by kernel_rfl) (by kernel_rfl) (fun _ _ _ h => h) (Or.inr ⟨by rfl, rfl⟩) (by assumption) ?_
                try simp only [Act.put, List.setIfInBounds_toArray, List.set_cons_zero, List.set_cons_succ]
                refine wpAnyH_take (i := 6) (oi := { dst := some 62, op := Op.move (Operand.tmp 0), type := 26, pos := "l07_updates.go:110", after := #[{ on := 1, ground := Ground.guard }], guard := some (1, false) }) (v := undef) rfl (by kernel_rfl) (by kernel_rfl) (by kernel_rfl) (fun _ _ _ h => h) (Or.inr ⟨by rfl, rfl⟩) (by assumption) ?_
                try simp only [Act.put, List.setIfInBounds_toArray, List.set_cons_zero, List.set_cons_succ]
                refine wpAnyH_take (i := 7) (oi := { dst := some 63, op := Op.move (Operand.tmp 11), type := 3, pos := "l07_updates.go:110", after := #[{ on := 1, ground := Ground.guard }], guard := some (1, false) }) (v := undef) rfl (by kernel_rfl) (by kernel_rfl) (by kernel_rfl) (fun _ _ _ h => h) (Or.inr ⟨by rfl, rfl⟩) (by assumption) ?_
                try simp only [Act.put, List.setIfInBounds_toArray, List.set_cons_zero, List.set_cons_succ]
                refine wpAnyH_take (i := 8) (oi := { dst := some 64, op := Op.indexAddr 26 (Operand.tmp 62) (Operand.tmp 63), type := 0, pos := "l07_updates.go:110", after := #[{ on := 6, ground := Ground.data }, { on := 7, ground := Ground.data }, { on := 1, ground := Ground.guard }], guard := some (1, false) }) (v := undef) rfl (by kernel_rfl) (by kernel_rfl) (by kernel_rfl) (fun _ _ _ h => h) (Or.inr ⟨by rfl, rfl⟩) (by assumption) ?_
                try simp only [Act.put, List.setIfInBounds_toArray, List.set_cons_zero, List.set_cons_succ]
                refine wpAnyH_take (i := 9) (oi := { dst := some 65, op := Op.fieldAddr 41 (Operand.tmp 64) 0, type := 0, pos := "l07_updates.go:110", after := #[{ on := 8, ground := Ground.data }, { on := 1, ground := Ground.guard }], guard := some (1, false) }) (v := undef) rfl (by kernel_rfl) (by kernel_rfl) (by kernel_rfl) (fun _ _ _ h => h) (Or.inr ⟨by rfl, rfl⟩) (by assumption) ?_
                try simp only [Act.put, List.setIfInBounds_toArray, List.set_cons_zero, List.set_cons_succ]
                refine wpAnyH_take (i := 10) (oi := { dst := some 66, op := Op.load 9 (Operand.tmp 65), type := 9, pos := "l07_updates.go:110", after := #[{ on := 9, ground := Ground.data }, { on := 1, ground := Ground.guard }], guard := some (1, false) }) (v := undef) rfl (by kernel_rfl) (by kernel_rfl) (by kernel_rfl) (fun _ _ _ h => h) (Or.inr ⟨by rfl, rfl⟩) (by assumption) ?_
                try simp only [Act.put, List.setIfInBounds_toArray, List.set_cons_zero, List.set_cons_succ]
                refine wpAnyH_take (i := 11) (oi := { dst := some 67, op := Op.binOp BinOp.eql 9 (Operand.tmp 61) (Operand.tmp 66) 9, type := 4, pos := "l07_updates.go:110", after := #[{ on := 5, ground := Ground.data }, { on := 10, ground := Ground.data }, { on := 1, ground := Ground.guard }], guard := some (1, false) }) (v := undef) rfl (by kernel_rfl) (by kernel_rfl) (by kernel_rfl) (fun _ _ _ h => h) (Or.inr ⟨by rfl, rfl⟩) (by assumption) ?_
                try simp only [Act.put, List.setIfInBounds_toArray, List.set_cons_zero, List.set_cons_succ]
                refine wpAnyH_take (i := 12) (oi := { dst := some 68, op := Op.pick (Operand.tmp 57) (Operand.const (Value.bool true)) (Operand.tmp 67), type := 4, pos := "l07_updates.go:110", after := #[{ on := 1, ground := Ground.data }, { on := 11, ground := Ground.data }], guard := none }) (v := ?vb12) rfl (by kernel_rfl) (by kernel_rfl) (by kernel_rfl) (fun _ _ _ h => h) (Or.inl ⟨by rfl, ?yb12⟩) (by assumption) ?rb12
                case yb12 => (intro w hSw; (try dsimp only at hSw); go_simp; (try with_reducible rfl))
                try simp only [Act.put, List.setIfInBounds_toArray, List.set_cons_zero, List.set_cons_succ]
                refine wpAnyH_take (i := 13) (oi := { dst := some 12, op := Op.assign (Operand.tmp 68), type := 4, pos := "l07_updates.go:110", after := #[{ on := 12, ground := Ground.data }, { on := 1, ground := Ground.chain }, { on := 0, ground := Ground.phase }, { on := 1, ground := Ground.phase }, { on := 2, ground := Ground.phase }, { on := 3, ground := Ground.phase }, { on := 4, ground := Ground.phase }, { on := 5, ground := Ground.phase }, { on := 6, ground := Ground.phase }, { on := 7, ground := Ground.phase }, { on := 8, ground := Ground.phase }, { on := 9, ground := Ground.phase }, { on := 10, ground := Ground.phase }, { on := 11, ground := Ground.phase }, { on := 12, ground := Ground.phase }], guard := none }) (v := ?vb13) rfl (by kernel_rfl) (by kernel_rfl) (by kernel_rfl) (fun _ _ _ h => h) (Or.inl ⟨by rfl, ?yb13⟩) (by assumption) ?rb13
                case yb13 => (intro w hSw; (try dsimp only at hSw); go_simp; (try with_reducible rfl))
                try simp only [Act.put, List.setIfInBounds_toArray, List.set_cons_zero, List.set_cons_succ]
                refine wpAnyH_done (by kernel_rfl) ?_ _
                go_wp2
                go_roundw
                case rel => exact ⟨k + 1, true, by omega, by go_num, rfl, (by have h9 := H1.out; simpa [Hid] using h9), D2⟩
                case measure => simp [intOf]; omega
              | false =>
                by_cases hyx : y = hh
                · have H1 : Hid (true = true ↔ hh ∈ kp.take (k + 1)) := ⟨fun _ => HM1.2 (.inr hyx), fun _ => rfl⟩
                  clear HM1 HOD
                  subst hyx
                  go_wp2_with fail
                  refine wp_region_held_drew (S := (fun w' => w'.cell? ⟨g, k, none⟩ = some (.string ⟨y.toArray⟩) ∧ w'.cell? ⟨bp, offp + j * 2, none⟩ = some (.string ⟨y.toArray⟩))) (by kernel_rfl) SX.out (fun hHeld => ?_)
                  refine wpAnyH_take (i := 0) (oi := { dst := some 56, op := Op.move (Operand.tmp 12), type := 4, pos := "l07_updates.go:110", after := #[], guard := none }) (v := ?vc0) rfl (by kernel_rfl) (by kernel_rfl) (by kernel_rfl) (fun _ _ _ h => h) (Or.inl ⟨by rfl, ?yc0⟩) (by assumption) ?rc0
                  case yc0 => (intro w hSw; (try dsimp only at hSw); go_simp; (try with_reducible rfl))
                  try simp only [Act.put, List.setIfInBounds_toArray, List.set_cons_zero, List.set_cons_succ]
                  refine wpAnyH_take (i := 1) (oi := { dst := some 57, op := Op.move (Operand.tmp 56), type := 4, pos := "l07_updates.go:110", after := #[{ on := 0, ground := Ground.data }], guard := none }) (v := ?vc1) rfl (by kernel_rfl) (by kernel_rfl) (by kernel_rfl) (fun _ _ _ h => h) (Or.inl ⟨by rfl, ?yc1⟩) (by assumption) ?rc1
                  case yc1 => (intro w hSw; (try dsimp only at hSw); go_simp; (try with_reducible rfl))
                  try simp only [Act.put, List.setIfInBounds_toArray, List.set_cons_zero, List.set_cons_succ]
                  refine wpAnyH_take (i := 2) (oi := { dst := some 58, op := Op.move (Operand.tmp 6), type := 23, pos := "l07_updates.go:110", after := #[{ on := 1, ground := Ground.guard }], guard := some (1, false) }) (v := ?vc2) rfl (by kernel_rfl) (by kernel_rfl) (by kernel_rfl) (fun _ _ _ h => h) (Or.inl ⟨by rfl, ?yc2⟩) (by assumption) ?rc2
                  case yc2 => (intro w hSw; (try dsimp only at hSw); go_simp; (try with_reducible rfl))
                  try simp only [Act.put, List.setIfInBounds_toArray, List.set_cons_zero, List.set_cons_succ]
                  refine wpAnyH_take (i := 3) (oi := { dst := some 59, op := Op.move (Operand.tmp 13), type := 3, pos := "l07_updates.go:110", after := #[{ on := 1, ground := Ground.guard }], guard := some (1, false) }) (v := ?vc3) rfl (by kernel_rfl) (by kernel_rfl) (by kernel_rfl) (fun _ _ _ h => h) (Or.inl ⟨by rfl, ?yc3⟩) (by assumption) ?rc3
                  case yc3 => (intro w hSw; (try dsimp only at hSw); go_simp; (try with_reducible rfl))
                  try simp only [Act.put, List.setIfInBounds_toArray, List.set_cons_zero, List.set_cons_succ]
                  refine wpAnyH_take (i := 4) (oi := { dst := some 60, op := Op.indexAddr 23 (Operand.tmp 58) (Operand.tmp 59), type := 0, pos := "l07_updates.go:110", after := #[{ on := 2, ground := Ground.data }, { on := 3, ground := Ground.data }, { on := 1, ground := Ground.guard }], guard := some (1, false) }) (v := ?vc4) rfl (by kernel_rfl) (by kernel_rfl) (by kernel_rfl) (fun _ _ _ h => h) (Or.inl ⟨by rfl, ?yc4⟩) (by assumption) ?rc4
                  case yc4 => (intro w hSw; (try dsimp only at hSw); go_simp; (try with_reducible rfl))
                  try simp only [Act.put, List.setIfInBounds_toArray, List.set_cons_zero, List.set_cons_succ]
                  refine wpAnyH_take (i := 5) (oi := { dst := some 61, op := Op.load 9 (Operand.tmp 60), type := 9, pos := "l07_updates.go:110", after := #[{ on := 4, ground := Ground.data }, { on := 1, ground := Ground.guard }], guard := some (1, false) }) (v := ?vc5) rfl (by kernel_rfl) (by kernel_rfl) (by kernel_rfl) (fun _ _ _ h => h) (Or.inl ⟨by rfl, ?yc5⟩) (by assumption) ?rc5
                  case yc5 => (intro w hSw; (try dsimp only at hSw); go_simp; (try with_reducible rfl))
                  try simp only [Act.put, List.setIfInBounds_toArray, List.set_cons_zero, List.set_cons_succ]
                  refine wpAnyH_take (i := 6) (oi := { dst := some 62, op := Op.move (Operand.tmp 0), type := 26, pos := "l07_updates.go:110", after := #[{ on := 1, ground := Ground.guard }], guard := some (1, false) }) (v := ?vc6) rfl (by kernel_rfl) (by kernel_rfl) (by kernel_rfl) (fun _ _ _ h => h) (Or.inl ⟨by rfl, ?yc6⟩) (by assumption) ?rc6
                  case yc6 => (intro w hSw; (try dsimp only at hSw); go_simp; (try with_reducible rfl))
                  try simp only [Act.put, List.setIfInBounds_toArray, List.set_cons_zero, List.set_cons_succ]
                  refine wpAnyH_take (i := 7) (oi := { dst := some 63, op := Op.move (Operand.tmp 11), type := 3, pos := "l07_updates.go:110", after := #[{ on := 1, ground := Ground.guard }], guard := some (1, false) }) (v := ?vc7) rfl (by kernel_rfl) (by kernel_rfl) (by kernel_rfl) (fun _ _ _ h => h) (Or.inl ⟨by rfl, ?yc7⟩) (by assumption) ?rc7
                  case yc7 => (intro w hSw; (try dsimp only at hSw); go_simp; (try with_reducible rfl))
                  try simp only [Act.put, List.setIfInBounds_toArray, List.set_cons_zero, List.set_cons_succ]
                  refine wpAnyH_take (i := 8) (oi := { dst := some 64, op := Op.indexAddr 26 (Operand.tmp 62) (Operand.tmp 63), type := 0, pos := "l07_updates.go:110", after := #[{ on := 6, ground := Ground.data }, { on := 7, ground := Ground.data }, { on := 1, ground := Ground.guard }], guard := some (1, false) }) (v := ?vc8) rfl (by kernel_rfl) (by kernel_rfl) (by kernel_rfl) (fun _ _ _ h => h) (Or.inl ⟨by rfl, ?yc8⟩) (by assumption) ?rc8
                  case yc8 => (intro w hSw; (try dsimp only at hSw); go_simp; (try with_reducible rfl))
                  try simp only [Act.put, List.setIfInBounds_toArray, List.set_cons_zero, List.set_cons_succ]
                  refine wpAnyH_take (i := 9) (oi := { dst := some 65, op := Op.fieldAddr 41 (Operand.tmp 64) 0, type := 0, pos := "l07_updates.go:110", after := #[{ on := 8, ground := Ground.data }, { on := 1, ground := Ground.guard }], guard := some (1, false) }) (v := ?vc9) rfl (by kernel_rfl) (by kernel_rfl) (by kernel_rfl) (fun _ _ _ h => h) (Or.inl ⟨by rfl, ?yc9⟩) (by assumption) ?rc9
                  case yc9 => (intro w hSw; (try dsimp only at hSw); go_simp; (try with_reducible rfl))
                  try simp only [Act.put, List.setIfInBounds_toArray, List.set_cons_zero, List.set_cons_succ]
                  refine wpAnyH_take (i := 10) (oi := { dst := some 66, op := Op.load 9 (Operand.tmp 65), type := 9, pos := "l07_updates.go:110", after := #[{ on := 9, ground := Ground.data }, { on := 1, ground := Ground.guard }], guard := some (1, false) }) (v := ?vc10) rfl (by kernel_rfl) (by kernel_rfl) (by kernel_rfl) (fun _ _ _ h => h) (Or.inl ⟨by rfl, ?yc10⟩) (by assumption) ?rc10
                  case yc10 => (intro w hSw; (try dsimp only at hSw); go_simp; (try with_reducible rfl))
                  try simp only [Act.put, List.setIfInBounds_toArray, List.set_cons_zero, List.set_cons_succ]
                  refine wpAnyH_take (i := 11) (oi := { dst := some 67, op := Op.binOp BinOp.eql 9 (Operand.tmp 61) (Operand.tmp 66) 9, type := 4, pos := "l07_updates.go:110", after := #[{ on := 5, ground := Ground.data }, { on := 10, ground := Ground.data }, { on := 1, ground := Ground.guard }], guard := some (1, false) }) (v := ?vc11) rfl (by kernel_rfl) (by kernel_rfl) (by kernel_rfl) (fun _ _ _ h => h) (Or.inl ⟨by rfl, ?yc11⟩) (by assumption) ?rc11
                  case yc11 => (intro w hSw; (try dsimp only at hSw); go_simp; (try with_reducible rfl))
                  try simp only [Act.put, List.setIfInBounds_toArray, List.set_cons_zero, List.set_cons_succ]
                  refine wpAnyH_take (i := 12) (oi := { dst := some 68, op := Op.pick (Operand.tmp 57) (Operand.const (Value.bool true)) (Operand.tmp 67), type := 4, pos := "l07_updates.go:110", after := #[{ on := 1, ground := Ground.data }, { on := 11, ground := Ground.data }], guard := none }) (v := ?vc12) rfl (by kernel_rfl) (by kernel_rfl) (by kernel_rfl) (fun _ _ _ h => h) (Or.inl ⟨by rfl, ?yc12⟩) (by assumption) ?rc12
                  case yc12 => (intro w hSw; (try dsimp only at hSw); go_simp; (try with_reducible rfl))
                  try simp only [Act.put, List.setIfInBounds_toArray, List.set_cons_zero, List.set_cons_succ]
                  refine wpAnyH_take (i := 13) (oi := { dst := some 12, op := Op.assign (Operand.tmp 68), type := 4, pos := "l07_updates.go:110", after := #[{ on := 12, ground := Ground.data }, { on := 1, ground := Ground.chain }, { on := 0, ground := Ground.phase }, { on := 1, ground := Ground.phase }, { on := 2, ground := Ground.phase }, { on := 3, ground := Ground.phase }, { on := 4, ground := Ground.phase }, { on := 5, ground := Ground.phase }, { on := 6, ground := Ground.phase }, { on := 7, ground := Ground.phase }, { on := 8, ground := Ground.phase }, { on := 9, ground := Ground.phase }, { on := 10, ground := Ground.phase }, { on := 11, ground := Ground.phase }, { on := 12, ground := Ground.phase }], guard := none }) (v := ?vc13) rfl (by kernel_rfl) (by kernel_rfl) (by kernel_rfl) (fun _ _ _ h => h) (Or.inl ⟨by rfl, ?yc13⟩) (by assumption) ?rc13
                  case yc13 => (intro w hSw; (try dsimp only at hSw); go_simp; (try with_reducible rfl))
                  try simp only [Act.put, List.setIfInBounds_toArray, List.set_cons_zero, List.set_cons_succ]
                  refine wpAnyH_done (by kernel_rfl) ?_ _
                  go_wp2
                  go_roundw
                  case rel => exact ⟨k + 1, true, by omega, by go_num, rfl, (by have h9 := H1.out; simpa [Hid] using h9), D2⟩
                  case measure => simp [intOf]; omega
                · have H1 : Hid (false = true ↔ hh ∈ kp.take (k + 1)) := ⟨fun h => absurd h (by decide), fun h => by
                   rcases HM1.1 h with h | h
                   · exact absurd (HOD.out.2 h) (by decide)
                   · exact absurd h hyx⟩
                  have hyb : (y == hh) = false := by rw [beq_eq_false_iff_ne]; exact hyx
                  clear HM1 HOD
                  go_wp2_with fail
                  refine wp_region_held_drew (S := (fun w' => w'.cell? ⟨g, k, none⟩ = some (.string ⟨y.toArray⟩) ∧ w'.cell? ⟨bp, offp + j * 2, none⟩ = some (.string ⟨hh.toArray⟩))) (by kernel_rfl) SX.out (fun hHeld => ?_)
                  refine wpAnyH_take (i := 0) (oi := { dst := some 56, op := Op.move (Operand.tmp 12), type := 4, pos := "l07_updates.go:110", after := #[], guard := none }) (v := ?vd0) rfl (by kernel_rfl) (by kernel_rfl) (by kernel_rfl) (fun _ _ _ h => h) (Or.inl ⟨by rfl, ?yd0⟩) (by assumption) ?rd0
                  case yd0 => (intro w hSw; (try dsimp only at hSw); go_simp; (try with_reducible rfl))
                  try simp only [Act.put, List.setIfInBounds_toArray, List.set_cons_zero, List.set_cons_succ]
                  refine wpAnyH_take (i := 1) (oi := { dst := some 57, op := Op.move (Operand.tmp 56), type := 4, pos := "l07_updates.go:110", after := #[{ on := 0, ground := Ground.data }], guard := none }) (v := ?vd1) rfl (by kernel_rfl) (by kernel_rfl) (by kernel_rfl) (fun _ _ _ h => h) (Or.inl ⟨by rfl, ?yd1⟩) (by assumption) ?rd1
                  case yd1 => (intro w hSw; (try dsimp only at hSw); go_simp; (try with_reducible rfl))
                  try simp only [Act.put, List.setIfInBounds_toArray, List.set_cons_zero, List.set_cons_succ]
                  refine wpAnyH_take (i := 2) (oi := { dst := some 58, op := Op.move (Operand.tmp 6), type := 23, pos := "l07_updates.go:110", after := #[{ on := 1, ground := Ground.guard }], guard := some (1, false) }) (v := ?vd2) rfl (by kernel_rfl) (by kernel_rfl) (by kernel_rfl) (fun _ _ _ h => h) (Or.inl ⟨by rfl, ?yd2⟩) (by assumption) ?rd2
                  case yd2 => (intro w hSw; (try dsimp only at hSw); go_simp; (try with_reducible rfl))
                  try simp only [Act.put, List.setIfInBounds_toArray, List.set_cons_zero, List.set_cons_succ]
                  refine wpAnyH_take (i := 3) (oi := { dst := some 59, op := Op.move (Operand.tmp 13), type := 3, pos := "l07_updates.go:110", after := #[{ on := 1, ground := Ground.guard }], guard := some (1, false) }) (v := ?vd3) rfl (by kernel_rfl) (by kernel_rfl) (by kernel_rfl) (fun _ _ _ h => h) (Or.inl ⟨by rfl, ?yd3⟩) (by assumption) ?rd3
                  case yd3 => (intro w hSw; (try dsimp only at hSw); go_simp; (try with_reducible rfl))
                  try simp only [Act.put, List.setIfInBounds_toArray, List.set_cons_zero, List.set_cons_succ]
                  refine wpAnyH_take (i := 4) (oi := { dst := some 60, op := Op.indexAddr 23 (Operand.tmp 58) (Operand.tmp 59), type := 0, pos := "l07_updates.go:110", after := #[{ on := 2, ground := Ground.data }, { on := 3, ground := Ground.data }, { on := 1, ground := Ground.guard }], guard := some (1, false) }) (v := ?vd4) rfl (by kernel_rfl) (by kernel_rfl) (by kernel_rfl) (fun _ _ _ h => h) (Or.inl ⟨by rfl, ?yd4⟩) (by assumption) ?rd4
                  case yd4 => (intro w hSw; (try dsimp only at hSw); go_simp; (try with_reducible rfl))
                  try simp only [Act.put, List.setIfInBounds_toArray, List.set_cons_zero, List.set_cons_succ]
                  refine wpAnyH_take (i := 5) (oi := { dst := some 61, op := Op.load 9 (Operand.tmp 60), type := 9, pos := "l07_updates.go:110", after := #[{ on := 4, ground := Ground.data }, { on := 1, ground := Ground.guard }], guard := some (1, false) }) (v := ?vd5) rfl (by kernel_rfl) (by kernel_rfl) (by kernel_rfl) (fun _ _ _ h => h) (Or.inl ⟨by rfl, ?yd5⟩) (by assumption) ?rd5
                  case yd5 => (intro w hSw; (try dsimp only at hSw); go_simp; (try with_reducible rfl))
                  try simp only [Act.put, List.setIfInBounds_toArray, List.set_cons_zero, List.set_cons_succ]
                  refine wpAnyH_take (i := 6) (oi := { dst := some 62, op := Op.move (Operand.tmp 0), type := 26, pos := "l07_updates.go:110", after := #[{ on := 1, ground := Ground.guard }], guard := some (1, false) }) (v := ?vd6) rfl (by kernel_rfl) (by kernel_rfl) (by kernel_rfl) (fun _ _ _ h => h) (Or.inl ⟨by rfl, ?yd6⟩) (by assumption) ?rd6
                  case yd6 => (intro w hSw; (try dsimp only at hSw); go_simp; (try with_reducible rfl))
                  try simp only [Act.put, List.setIfInBounds_toArray, List.set_cons_zero, List.set_cons_succ]
                  refine wpAnyH_take (i := 7) (oi := { dst := some 63, op := Op.move (Operand.tmp 11), type := 3, pos := "l07_updates.go:110", after := #[{ on := 1, ground := Ground.guard }], guard := some (1, false) }) (v := ?vd7) rfl (by kernel_rfl) (by kernel_rfl) (by kernel_rfl) (fun _ _ _ h => h) (Or.inl ⟨by rfl, ?yd7⟩) (by assumption) ?rd7
                  case yd7 => (intro w hSw; (try dsimp only at hSw); go_simp; (try with_reducible rfl))
                  try simp only [Act.put, List.setIfInBounds_toArray, List.set_cons_zero, List.set_cons_succ]
                  refine wpAnyH_take (i := 8) (oi := { dst := some 64, op := Op.indexAddr 26 (Operand.tmp 62) (Operand.tmp 63), type := 0, pos := "l07_updates.go:110", after := #[{ on := 6, ground := Ground.data }, { on := 7, ground := Ground.data }, { on := 1, ground := Ground.guard }], guard := some (1, false) }) (v := ?vd8) rfl (by kernel_rfl) (by kernel_rfl) (by kernel_rfl) (fun _ _ _ h => h) (Or.inl ⟨by rfl, ?yd8⟩) (by assumption) ?rd8
                  case yd8 => (intro w hSw; (try dsimp only at hSw); go_simp; (try with_reducible rfl))
                  try simp only [Act.put, List.setIfInBounds_toArray, List.set_cons_zero, List.set_cons_succ]
                  refine wpAnyH_take (i := 9) (oi := { dst := some 65, op := Op.fieldAddr 41 (Operand.tmp 64) 0, type := 0, pos := "l07_updates.go:110", after := #[{ on := 8, ground := Ground.data }, { on := 1, ground := Ground.guard }], guard := some (1, false) }) (v := ?vd9) rfl (by kernel_rfl) (by kernel_rfl) (by kernel_rfl) (fun _ _ _ h => h) (Or.inl ⟨by rfl, ?yd9⟩) (by assumption) ?rd9
                  case yd9 => (intro w hSw; (try dsimp only at hSw); go_simp; (try with_reducible rfl))
                  try simp only [Act.put, List.setIfInBounds_toArray, List.set_cons_zero, List.set_cons_succ]
                  refine wpAnyH_take (i := 10) (oi := { dst := some 66, op := Op.load 9 (Operand.tmp 65), type := 9, pos := "l07_updates.go:110", after := #[{ on := 9, ground := Ground.data }, { on := 1, ground := Ground.guard }], guard := some (1, false) }) (v := ?vd10) rfl (by kernel_rfl) (by kernel_rfl) (by kernel_rfl) (fun _ _ _ h => h) (Or.inl ⟨by rfl, ?yd10⟩) (by assumption) ?rd10
                  case yd10 => (intro w hSw; (try dsimp only at hSw); go_simp; (try with_reducible rfl))
                  try simp only [Act.put, List.setIfInBounds_toArray, List.set_cons_zero, List.set_cons_succ]
                  refine wpAnyH_take (i := 11) (oi := { dst := some 67, op := Op.binOp BinOp.eql 9 (Operand.tmp 61) (Operand.tmp 66) 9, type := 4, pos := "l07_updates.go:110", after := #[{ on := 5, ground := Ground.data }, { on := 10, ground := Ground.data }, { on := 1, ground := Ground.guard }], guard := some (1, false) }) (v := ?vd11) rfl (by kernel_rfl) (by kernel_rfl) (by kernel_rfl) (fun _ _ _ h => h) (Or.inl ⟨by rfl, ?yd11⟩) (by assumption) ?rd11
                  case yd11 => (intro w hSw; (try dsimp only at hSw); go_simp; (try with_reducible rfl))
                  try simp only [Act.put, List.setIfInBounds_toArray, List.set_cons_zero, List.set_cons_succ]
                  refine wpAnyH_take (i := 12) (oi := { dst := some 68, op := Op.pick (Operand.tmp 57) (Operand.const (Value.bool true)) (Operand.tmp 67), type := 4, pos := "l07_updates.go:110", after := #[{ on := 1, ground := Ground.data }, { on := 11, ground := Ground.data }], guard := none }) (v := ?vd12) rfl (by kernel_rfl) (by kernel_rfl) (by kernel_rfl) (fun _ _ _ h => h) (Or.inl ⟨by rfl, ?yd12⟩) (by assumption) ?rd12
                  case yd12 => (intro w hSw; (try dsimp only at hSw); go_simp; (try with_reducible rfl))
                  try simp only [Act.put, List.setIfInBounds_toArray, List.set_cons_zero, List.set_cons_succ]
                  refine wpAnyH_take (i := 13) (oi := { dst := some 12, op := Op.assign (Operand.tmp 68), type := 4, pos := "l07_updates.go:110", after := #[{ on := 12, ground := Ground.data }, { on := 1, ground := Ground.chain }, { on := 0, ground := Ground.phase }, { on := 1, ground := Ground.phase }, { on := 2, ground := Ground.phase }, { on := 3, ground := Ground.phase }, { on := 4, ground := Ground.phase }, { on := 5, ground := Ground.phase }, { on := 6, ground := Ground.phase }, { on := 7, ground := Ground.phase }, { on := 8, ground := Ground.phase }, { on := 9, ground := Ground.phase }, { on := 10, ground := Ground.phase }, { on := 11, ground := Ground.phase }, { on := 12, ground := Ground.phase }], guard := none }) (v := ?vd13) rfl (by kernel_rfl) (by kernel_rfl) (by kernel_rfl) (fun _ _ _ h => h) (Or.inl ⟨by rfl, ?yd13⟩) (by assumption) ?rd13
                  case yd13 => (intro w hSw; (try dsimp only at hSw); go_simp; (try with_reducible rfl))
                  try simp only [Act.put, List.setIfInBounds_toArray, List.set_cons_zero, List.set_cons_succ]
                  refine wpAnyH_done (by kernel_rfl) ?_ _
                  go_wp2
                  go_roundw
                  case rel => exact ⟨k + 1, false, by omega, by go_num, rfl, H1, D2⟩
                  case measure => simp [intOf]; omega
            · obtain rfl : k = kp.length := by omega
              have hki : ¬ (kp.length : Int) < (kp.length : Int) := by omega
              have hod := HOD.out
              rw [List.take_length] at hod
              have HO3 := hidOwn (kept2 HO2.out HBI.out)
              obtain ⟨e1, e2⟩ := HC.out wr B3.out
              have hs3 := B3.out.size
              clear HOD HC HO2
              cases od with
              | false =>
                have hc0 : kp.contains hh = false := by
                 cases hc : kp.contains hh with
                 | false => rfl
                 | true => exact absurd (hod.2 (by simpa using hc)) (by decide)
                have hn0 : hh ∉ kp := fun h => absurd (hod.2 h) (by decide)
                have HFX : Hid ((ps.take (j + 1)).filter (fun p => kp.contains p.1) = (ps.take j).filter fun p => kp.contains p.1) := by
                 rw [Hid, HF1.out]
                 simp [hn0]
                clear hod hc0 HF1 e1 e2 hn0
                go_wp2
                go_roundw
                case rel => exact ⟨j + 1, g2, c2, n2, by omega, by go_num, rfl, by rw [Hid, HFX.out]; exact HN2.out, by omega, by rw [Hid, HFX.out]; exact HO3.out, B3⟩
                case measure => simp [intOf]; omega
              | true =>
                have hc1 : kp.contains hh = true := by simpa using hod.1 rfl
                have HFX : Hid ((ps.take (j + 1)).filter (fun p => kp.contains p.1) = ((ps.take j).filter fun p => kp.contains p.1) ++ [(hh, tt)]) := by
                 rw [Hid, HF1.out]
                 simp [hod.1 rfl]
                clear hod hc1 HF1
                go_wp2_with (at_builtin; refine wpList_append_lies _ rfl _ _ 26 rfl wk.heap.size 41 j0 (.agg #[.string ⟨#[]⟩, .string ⟨#[]⟩]) 2 32 Tryd.underlying26 hj0 hy0 hy1 hy2 rfl (by decide) (.slice (some ⟨g2, 0, none⟩) n2 c2) n2 _ rfl (HO3.out.alloc _) ⟨wr.heap.size, 0, none⟩ 1 1 [.string ⟨hh.toArray⟩, .string ⟨tt.toArray⟩] rfl rfl (World.news_of_block (cs := #[.string ⟨hh.toArray⟩, .string ⟨tt.toArray⟩]) (t := 41) (fr := (0, 0)) (heap_alloc_new wr _)) (by simp [Value.oneCell']) (by omega) (by unfold maxLen; omega) (by omega) (by simp; omega) (wr.heap.size + 1) (by simp) ?_; intro g5 cap5 w5 hown5 hgrow5 hat5 hlt5)
                have B5 : Hid (Below wk.heap.size wk w5) := (B3.out.alloc hs3 _).grown hgrow5 (by simp; omega) (fun q hq => by have := HO3.out.lt q hq; omega)
                have HO5 : Hid (w5.ownsRow wk.heap.size 41 2 (.slice (some ⟨g5, 0, none⟩) (n2 + 1) cap5) (n2 + 1) (pcells ((ps.take (j + 1)).filter fun p => kp.contains p.1))) := by rw [Hid, HFX.out, pcells_snocP]; exact hown5
                have HN5 : Hid (n2 + 1 = ((ps.take (j + 1)).filter fun p => kp.contains p.1).length) := by rw [Hid, HFX.out, List.length_append, ← HN2.out]; rfl
                clear hown5 hgrow5 hat5 HFX HN2 e1 e2
                go_roundw
                case rel => exact ⟨j + 1, g5, cap5, n2 + 1, by omega, by go_num, rfl, HN5, by omega, HO5, B5⟩
                case measure => simp [intOf]; omega
         · obtain rfl : j = ps.length := by omega
           have hji : ¬ (ps.length : Int) < (ps.length : Int) := by omega
           have hnn := HN2.out
           have hoo := HO2.out
           rw [List.take_length] at hnn hoo
           have HOX := hidOwn (hoo.mono hsz)
           have HNN : Hid (n2 = (ps.filter fun p => kp.contains p.1).length) := hnn
           have HBX : Hid (Below w.heap.size w wr) := HB.out.trans (HB2.out.mono hsz)
           clear hoo HN2 HO2 HB2 hnn
           go_wp2
           go_ret2
           rw [HRS.out]
           exact ⟨_, _, _, rfl, by simp only [Option.getD_some]; rw [← HNN.out]; exact HOX.out, HBX.out⟩
   · have HN : Hid (res = none) := HNO.out (fun h => h30 h.2)
     rw [hok] at K
     have h30d : decide ((30 : Int) < (rts.length : Int)) = true := by simp; omega
     have h30i : (30 : Int) < (rts.length : Int) := by omega
     clear hs hm hrs hok HNO HLO HYS
     go_enter Tryd.func6, Tryd.ntmps6
     go_wp2_with fail
     refine K.mono ?_
     rintro e w1 ⟨rfl, b1⟩
     go_wp2
     go_ret2
     exact pp_none HN.out b1
end Go.Proofs.YtapmakefpmholaaDoor
