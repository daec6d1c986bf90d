/-
 Contract: Pruned, of the program.
-/
import Derived.Test.YtapmakefpmholaaDoorMathPrune
import Derived.Test.YtapmakefpmholaaDoorPairs
import Derived.Maps.OwnSet
import Derived.Maps.OwnOps
namespace Go.Proofs.YtapmakefpmholaaDoor
open Go.RowKit
set_option linter.unusedVariables false
theorem two_cellsP {w : World} {b : Nat} {u v : Value} {t : TypeId} (h : w.heap[b]? = some (.cells #[u, v] t (0, 0))) : w.cell? ⟨b, 0, none⟩ = some u ∧ w.cell? ⟨b, 1, none⟩ = some v := by
 constructor <;> simp [World.cell?, h]
set_option maxRecDepth 100000 in
set_option maxHeartbeats 4000000 in
theorem impl_pruned (a : Option Addr) (cap : Nat) (ps : List PairL) (ar : Option Addr) (cr : Nat) (rts : List Bs) (w : World) (hT : Tab w) (hl : ps.length ≤ 1048576) (hm : ∀ p ∈ ps, p.1.length ≤ 1048576 ∧ p.2.length ≤ 1048576) (hs : IsPairs w a ps) (hrn : rts.length ≤ 1048576) (hrl : ∀ r ∈ rts, r.length ≤ 1048576) (hrs : IsStrs w ar rts) :
 Calls Tryd.prog 9 #[.slice a ps.length cap, .slice ar rts.length cr] w fun e w' => PPost w (prunedR ps rts) e w' := by
 obtain ⟨j0, hj0, hy0, hy1, hy2⟩ := info_parts infoStored
 have K := impl_heldNodesV a cap ps w hT hl hm hs
 have HT : Hid (Tab w) := hT
 have HNO : Hid (¬ (storeOkL ps = true ∧ rts.length ≤ 30) → prunedR ps rts = none) := pruned_no
 have HLO : Hid (∀ r ∈ rts, reachR ps r = none → prunedR ps rts = none) := fun r hr h => pruned_lost r hr h
 have HYS : Hid (storeOkL ps = true → rts.length ≤ 30 → (∀ r ∈ rts, (reachR ps r).isSome = true) → prunedR ps rts = some (ps.filter fun p => (keepR ps rts).contains p.1)) := pruned_yes
 obtain ⟨res, hres⟩ : ∃ res, res = prunedR ps rts := ⟨_, rfl⟩
 rw [← hres] at HNO HLO HYS ⊢
 clear hres
 cases hok : storeOkL ps with
 | false =>
   have HN : Hid (res = none) := HNO.out (by simp [hok])
   rw [hok] at K
   clear hs hm hrs hrl hT hok HNO HLO HYS
   go_enter Tryd.func9, Tryd.ntmps9
   go_wp2_with fail
   refine K.mono ?_
   rintro e w1 ⟨rfl, b1⟩
   go_wp2
   go_ret2
   exact pp_none HN.out b1
 | true =>
   by_cases h30 : rts.length ≤ 30
   · have h400 := store_400P ps hok
     have HY : Hid ((∀ r ∈ rts, (reachR ps r).isSome = true) → res = some (ps.filter fun p => (keepR ps rts).contains p.1)) := HYS.out hok h30
     have H32 : Hid (∀ j (h : j < ps.length), ps[j].1.length = 32) := fun j h => by have := storeOk_len ps hok j h; rwa [keyAt_lt ps j h] at this
     have HOK : Hid (storeOkL ps = true) := hok
     have HS : Hid (IsPairs w a ps) := hs
     have HR : Hid (IsStrs w ar rts) := hrs
     have HRL : Hid (∀ r ∈ rts, r.length ≤ 1048576) := hrl
     rw [hok] at K
     have h30d : decide ((30 : Int) < (rts.length : Int)) = false := by simp; omega
     have h30i : ¬ (30 : Int) < (rts.length : Int) := by omega
     have hmm := @run_makeMap Tryd.prog
     clear hs hm hrs hrl hok hT HNO HYS
     go_enter Tryd.func9, Tryd.ntmps9
     go_wp2_with fail
     refine K.mono ?_
     rintro e w1 ⟨mb, rfl, hM, hmb, b1⟩
     have hs1 := b1.size
     have HM : Hid (HeldM w1 mb ps ps.length) := hM
     have HT1 : Hid (Tab w1) := HT.out.later b1
     have B1 : Hid (Below w.heap.size w w1) := b1
     have S1 : Hid (SeenM (w1.alloc (.map #[] 0)) w1.heap.size []) := seen_made w1
     have BA : Hid (Below w1.heap.size w1 (w1.alloc (.map #[] 0))) := (Below.refl _ _).alloc (Nat.le_refl _) _
     clear K b1 hM HT
     go_wp2
     go_loopw [10, 31] (fun _ v31 wr => ∃ (i : Nat) (out : List Bs), i ≤ rts.length ∧ v31 = .int .i64 (i : Int) ∧ Hid (SeenM wr w1.heap.size out) ∧ Hid (PrunS ps (rts.take i) out) ∧ Hid (KeptT (w1.alloc (.map #[] 0)) wr w1.heap.size)) (fun _ v31 _ => rts.length - (intOf v31).toNat)
     case atStart => exact ⟨0, [], Nat.zero_le _, rfl, S1, prun_start ps, KeptT.refl _ _⟩
     case round =>
      obtain ⟨i, out, hi, rfl, HSE, HP, HK⟩ := hrel
      have hksz := HK.out.size
      have hkz : w1.heap.size + 1 ≤ wr.heap.size := by simpa using hksz
      have BW : Hid (Below w1.heap.size w1 wr) := HK.out.belowT BA.out (Nat.le_refl _)
      have BF : Hid (Below w.heap.size w wr) := B1.out.trans (BW.out.mono hs1)
      have hi9 : (0 : Int) ≤ (i : Int) := by omega
      by_cases hlt : i < rts.length
      · have hii : (i : Int) < (rts.length : Int) := by omega
        obtain ⟨bk, offk, ha4, hbk, hkc⟩ := root_atP HR.out i hlt
        have d1 := (BF.out.cell (p := ⟨bk, offk + i, none⟩) hbk).trans hkc
        have HTK : Hid (rts.take (i + 1) = rts.take i ++ [rts[i]]) := List.take_succ_eq_append_getElem hlt
        have HMR : Hid (rts[i] ∈ rts) := List.getElem_mem hlt
        obtain ⟨root, hroot⟩ : ∃ root, root = rts[i] := ⟨_, rfl⟩
        rw [← hroot] at d1 HTK HMR
        have K2 := impl_reachG mb w1.heap.size ps root _ out w1 wr HOK.out h400 HM.out BW.out (Nat.le_refl _) HSE.out (prun_ahead HP.out root) HT1.out (HRL.out root HMR.out)
        have HLX : Hid (reachR ps root = none → res = none) := HLO.out root HMR.out
        have HPY : Hid (∀ out', ((root = emptyL ∧ out' = out) ∨ (¬ root = emptyL ∧ SrchR (kidsW ps) (thereN ps) (fun x => (x ∈ rts.take i ∧ ¬ x = emptyL) ∨ x = root) out' [])) → PrunS ps (rts.take (i + 1)) out') := fun out' h => by
         rw [HTK.out]
         rcases h with ⟨h1, rfl⟩ | ⟨h1, h2⟩
         · exact prun_empty HP.out root h1
         · exact prun_more HP.out root h1 h2
        have HPN : Hid (¬ root = emptyL ∧ ¬ AllThereR (kidsW ps) (thereN ps) (fun x => (x ∈ rts.take i ∧ ¬ x = emptyL) ∨ x = root) → res = none) := fun h => HLX.out (prun_lost HP.out root h.1 h.2)
        clear hroot hkc HMR HLX HLO HTK HP HM HT1 HSE
        subst ha4
        go_wp2_with fail
        refine K2.mono ?_
        rintro e w3 ⟨ok, rfl, hk, hy, hn⟩
        have K3 : Hid (KeptT (w1.alloc (.map #[] 0)) w3 w1.heap.size) := HK.out.next hk.os hk.tape hk.output hk.size (fun q h1 h2 => hk.block q (by omega) h2)
        have B3 : Hid (Below w.heap.size w w3) := B1.out.trans ((K3.out.belowT BA.out (Nat.le_refl _)).mono hs1)
        cases ok with
        | false =>
          have HNN : Hid (res = none) := HPN.out (hn rfl)
          clear hk hy hn K2 HPY HPN
          go_wp2
          go_ret2
          exact pp_none HNN.out B3.out
        | true =>
          obtain ⟨out', hse, hor⟩ := hy rfl
          have HPX : Hid (PrunS ps (rts.take (i + 1)) out') := HPY.out out' hor
          have SE3 : Hid (SeenM w3 w1.heap.size out') := hse
          clear hk hy hn K2 HPY HPN hse hor
          go_wp2
          go_roundw
          case rel => exact ⟨i + 1, out', by omega, by go_num, SE3, HPX, K3⟩
          case measure => simp [intOf]; omega
      · obtain rfl : i = rts.length := by omega
        have hii : ¬ (rts.length : Int) < (rts.length : Int) := by omega
        have hpp := HP.out
        rw [List.take_length] at hpp
        have HRS : Hid (res = some (ps.filter fun p => out.contains p.1)) := by
         rw [Hid, HY.out hpp.all]
         congr 2
         funext p
         rw [Bool.eq_iff_iff, List.contains_iff_mem, List.contains_iff_mem]
         exact (hpp.mem p.1).symm
        obtain ⟨wk, hwk⟩ : ∃ wk, wk = wr := ⟨_, rfl⟩
        rw [← hwk] at HSE BF hkz
        have hwz : w.heap.size ≤ wk.heap.size := BF.out.size
        clear hpp HP HY HLO HK BW hksz HM HT1
        subst hwk
        go_wp2
        go_loopw [11, 13, 14, 15, 43] (fun v11 _ _ _ v43 wq => ∃ (j c2 n2 : Nat) (a2 : Option Addr), j ≤ ps.length ∧ v43 = .int .i64 (j : Int) ∧ v11 = .slice a2 n2 c2 ∧ Hid (n2 = ((ps.take j).filter fun p => out.contains p.1).length) ∧ n2 ≤ j ∧ Hid (wq.ownsRow wk.heap.size 41 2 (.slice a2 n2 c2) n2 (pcells ((ps.take j).filter fun p => out.contains p.1))) ∧ Hid (Below wk.heap.size wk wq)) (fun _ _ _ _ v43 _ => ps.length - (intOf v43).toNat)
        case atStart => exact ⟨0, 0, 0, none, Nat.zero_le _, rfl, rfl, by simp [Hid], by omega, World.ownsRow_nil _ _ _ _, Below.refl _ _⟩
        case round =>
         obtain ⟨j, c2, n2, a2, hj, rfl, rfl, HN2, hn2, HO2, HB2⟩ := hrel
         have hsz2 := HB2.out.size
         have hj9 : (0 : Int) ≤ (j : Int) := by omega
         by_cases hlt : j < ps.length
         · have hji : (j : Int) < (ps.length : Int) := by omega
           obtain ⟨bp, offp, hap, hbp, hp1, hp2⟩ := pair_atP HS.out j hlt
           have hW2 := BF.out.trans (HB2.out.mono hwz)
           have e1 := (hW2.cell (p := ⟨bp, offp + j * 2, none⟩) hbp).trans hp1
           have e2 := (hW2.cell (p := ⟨bp, offp + j * 2 + 1, none⟩) hbp).trans hp2
           have HF1 := filter_stepP (f := fun p => out.contains p.1) hlt
           have hx32 := H32.out j hlt
           obtain ⟨hh, tt, hpj⟩ : ∃ hh tt, ps[j] = (hh, tt) := ⟨_, _, rfl⟩
           rw [hpj] at e1 e2 HF1 hx32
           have HF1 : Hid (_ = _) := HF1
           simp only at e1 e2 hx32
           clear hpj hp1 hp2 hbp hW2
           subst hap
           have KK := impl_keyOfHash hh (wr.alloc (.cells #[.string ⟨hh.toArray⟩, .string ⟨tt.toArray⟩] 41)) hx32
           obtain ⟨cs, hcs⟩ : ∃ cs, cs = (bcells hh).toArray := ⟨_, rfl⟩
           have HKR : Hid (keyOf Tryd.prog 53 (.agg cs) = some (keyLit hh)) := by rw [Hid, hcs]; exact key_reads hh hx32
           rw [← hcs] at KK
           have QN := heap_alloc_new wr (.cells #[.string ⟨hh.toArray⟩, .string ⟨tt.toArray⟩] 41)
           obtain ⟨q0, q1⟩ := two_cellsP QN
           have BA2 : Below wk.heap.size wk (wr.alloc (.cells #[.string ⟨hh.toArray⟩, .string ⟨tt.toArray⟩] 41)) := HB2.out.alloc hsz2 _
           have HA2 := hidOwn (HO2.out.alloc (.cells #[.string ⟨hh.toArray⟩, .string ⟨tt.toArray⟩] 41))
           clear hcs
           go_wp2_with fail
           refine KK.mono ?_
           rintro e w4 ⟨rfl, b4⟩
           have B4 := BA2.trans (b4.mono BA2.size)
           have hs4 : wr.heap.size + 1 ≤ w4.heap.size := by have := b4.size; simpa using this
           have SE4 : Hid (SeenM w4 w1.heap.size out) := HSE.out.later B4
           have Q4 : w4.heap[wr.heap.size]? = some (.cells #[.string ⟨hh.toArray⟩, .string ⟨tt.toArray⟩] 41 (0, 0)) := (b4.block _ (by simp)).trans QN
           have Q5 : (w4.alloc (.cells #[] 50)).heap[wr.heap.size]? = some (.cells #[.string ⟨hh.toArray⟩, .string ⟨tt.toArray⟩] 41 (0, 0)) := (Below.heap_alloc _ _ _ (lt_of_block Q4)).trans Q4
           have B5 : Hid (Below wk.heap.size wk (w4.alloc (.cells #[] 50))) := B4.alloc B4.size _
           have O5 := hidOwn ((kept2 HA2.out b4).alloc (.cells #[] 50))
           obtain ⟨z0, z1⟩ := two_cellsP Q5
           have hk4 : wk.heap.size ≤ w4.heap.size := B4.size
           clear KK QN q0 q1 BA2 HA2 b4 B4 Q4 Q5 e1 e2
           by_cases hxo : hh ∈ out
           · have HH : Hid (Maps.has (datS out) (keyLit hh) = true) := (datS_has out hh hx32 SE4.out.2).2 hxo
             have hc1 : out.contains hh = true := by simpa using hxo
             have HFX : Hid ((ps.take (j + 1)).filter (fun p => out.contains p.1) = ((ps.take j).filter fun p => out.contains p.1) ++ [(hh, tt)]) := by
              rw [Hid, HF1.out]
              simp [hxo]
             clear hc1 HF1 hxo
             go_wp2_with (first
              | (at_lookup; refine wpList_lookup_own_ok _ rfl _ _ 48 rfl 53 50 keyedH Tryd.underlying48 seR (zeroSE _) (.held ()) [] rfl w1.heap.size out.length (datS out) rfl SE4.out.1 _ (keyLit hh) rfl HKR.out ?_; intro vv qs hv; rw [HH.out]; obtain rfl := seR_inv hv; clear hv)
              | (at_builtin; refine wpList_append_lies _ rfl _ _ 26 rfl wk.heap.size 41 j0 (.agg #[.string ⟨#[]⟩, .string ⟨#[]⟩]) 2 32 Tryd.underlying26 hj0 hy0 hy1 hy2 rfl (by decide) (.slice a2 n2 c2) n2 _ rfl (O5.out.alloc _) ⟨w4.heap.size + 1, 0, none⟩ 1 1 [.string ⟨hh.toArray⟩, .string ⟨tt.toArray⟩] (by first | rfl | simp) rfl (World.news_of_block (cs := #[.string ⟨hh.toArray⟩, .string ⟨tt.toArray⟩]) (t := 41) (fr := (0, 0)) (by have := heap_alloc_new (w4.alloc (.cells #[] 50)) (.cells #[.string ⟨hh.toArray⟩, .string ⟨tt.toArray⟩] 41); simpa using this)) (by simp [Value.oneCell']) (by omega) (by unfold maxLen; omega) (by omega) (by simp; omega) (w4.heap.size + 2) (by simp) ?_; intro g5 cap5 w5 hown5 hgrow5 hat5 hlt5)
              | go_in)
             have B6 : Hid (Below wk.heap.size wk w5) := (B5.out.alloc B5.out.size _).grown hgrow5 (by simp; omega) (fun q hq => by have := O5.out.lt q hq; omega)
             have HO6 : Hid (w5.ownsRow wk.heap.size 41 2 (.slice (some ⟨g5, 0, none⟩) (n2 + 1) cap5) (n2 + 1) (pcells ((ps.take (j + 1)).filter fun p => out.contains p.1))) := by rw [Hid, HFX.out, pcells_snocP]; exact hown5
             have HN6 : Hid (n2 + 1 = ((ps.take (j + 1)).filter fun p => out.contains p.1).length) := by rw [Hid, HFX.out, List.length_append, ← HN2.out]; rfl
             clear hown5 hgrow5 hat5 HFX HN2
             go_roundw
             case rel => exact ⟨j + 1, cap5, n2 + 1, _, by omega, by go_num, rfl, HN6, by omega, HO6, B6⟩
             case measure => simp [intOf]; omega
           · have HH : Hid (Maps.has (datS out) (keyLit hh) = false) := by
              cases hq : Maps.has (datS out) (keyLit hh) with
              | false => rfl
              | true => exact absurd ((datS_has out hh hx32 SE4.out.2).1 hq) hxo
             have hc0 : out.contains hh = false := by
              cases hc : out.contains hh with
              | false => rfl
              | true => exact absurd (by simpa using hc) hxo
             have HFX : Hid ((ps.take (j + 1)).filter (fun p => out.contains p.1) = (ps.take j).filter fun p => out.contains p.1) := by
              rw [Hid, HF1.out]
              simp [hxo]
             clear hc0 HF1 hxo
             go_wp2_with (first
              | (at_lookup; refine wpList_lookup_own_ok _ rfl _ _ 48 rfl 53 50 keyedH Tryd.underlying48 seR (zeroSE _) (.held ()) [] rfl w1.heap.size out.length (datS out) rfl SE4.out.1 _ (keyLit hh) rfl HKR.out ?_; intro vv qs hv; rw [HH.out]; obtain rfl := seR_inv hv; clear hv)
              | go_in)
             go_roundw
             case rel => exact ⟨j + 1, c2, n2, a2, by omega, by go_num, rfl, by rw [Hid, HFX.out]; exact HN2.out, by omega, by rw [Hid, HFX.out]; exact O5.out, B5⟩
             case measure => simp [intOf]; omega
         · obtain rfl : j = ps.length := by omega
           have hji : ¬ (ps.length : Int) < (ps.length : Int) := by omega
           have hnn := HN2.out
           have hoo := HO2.out
           rw [List.take_length] at hnn hoo
           have HOX := hidOwn (hoo.mono hwz)
           have HNN : Hid (n2 = (ps.filter fun p => out.contains p.1).length) := hnn
           have HBX : Hid (Below w.heap.size w wr) := BF.out.trans (HB2.out.mono hwz)
           clear hoo HN2 HO2 HB2 hnn
           go_wp2
           go_ret2
           rw [HRS.out]
           exact ⟨_, _, _, rfl, by simp only [Option.getD_some]; rw [← HNN.out]; exact HOX.out, HBX.out⟩
   · have HN : Hid (res = none) := HNO.out (fun h => h30 h.2)
     rw [hok] at K
     have h30d : decide ((30 : Int) < (rts.length : Int)) = true := by simp; omega
     have h30i : (30 : Int) < (rts.length : Int) := by omega
     clear hs hm hrs hrl hT hok HNO HLO HYS
     go_enter Tryd.func9, Tryd.ntmps9
     go_wp2_with fail
     refine K.mono ?_
     rintro e w1 ⟨mb, rfl, hM, hmb, b1⟩
     go_wp2
     go_ret2
     exact pp_none HN.out b1
end Go.Proofs.YtapmakefpmholaaDoor
