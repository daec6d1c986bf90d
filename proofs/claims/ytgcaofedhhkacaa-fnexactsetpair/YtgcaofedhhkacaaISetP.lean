/-
  Contract: the program's SetPair.
-/
import Derived.Test.YtgcaofedhhkacaaMathSetE
namespace Go.Proofs.Ytgcaofedhhkacaa
open Go.RowKit
set_option linter.unusedVariables false

theorem low2 {w : World} {base e n : Nat} {a : Option Addr} {m cap : Nat} {xs : List Value} (h : w.ownsRow base e 2 (.slice a m cap) n xs) : ∀ k, (Value.slice a m cap).ownBlock = some k → base ≤ k := fun k hk => (h.lt k hk).1
theorem take_isPairs {w : World} {b off : Nat} {ps : List PairL} {p : Nat} (h : IsPairs w (some ⟨b, off, none⟩) ps) : IsPairs w (some ⟨b, off, none⟩) (ps.take p) := by
  rcases h with rfl | ⟨b', off', he, hc⟩
  · exact .inl (by simp)
  · cases he
    refine .inr ⟨b, off, rfl, fun j hj => ?_⟩
    simp at hj
    simp only [List.getElem_take]
    exact hc j (by omega)
theorem drop_isPairs {w : World} {b off : Nat} {ps : List PairL} {p : Nat} (h : IsPairs w (some ⟨b, off, none⟩) ps) : IsPairs w (some ⟨b, off + p * 2, none⟩) (ps.drop p) := by
  rcases h with rfl | ⟨b', off', he, hc⟩
  · exact .inl (by simp)
  · cases he
    refine .inr ⟨b, off + p * 2, rfl, fun j hj => ?_⟩
    simp at hj
    have := hc (p + j) (by omega)
    simp only [List.getElem_drop]
    rw [show off + p * 2 + j * 2 = off + (p + j) * 2 by omega]
    exact this

set_option maxHeartbeats 2000000 in
set_option maxRecDepth 100000 in
theorem impl_setPair (b off cp : Nat) (ps : List PairL) (k v : List UInt8) (w : World) (hl : ps.length ≤ 1048576) (hcap : ps.length ≤ cp) (hm : ∀ p ∈ ps, p.1.length ≤ 1048576 ∧ p.2.length ≤ 1048576) (hkl : k.length ≤ 1048576) (hvl : v.length ≤ 1048576) (hs : IsPairs w (some ⟨b, off, none⟩) ps) :
    Calls Try.prog 22 #[.slice (some ⟨b, off, none⟩) ps.length cp, .string ⟨k.toArray⟩, .string ⟨v.toArray⟩] w fun e w' => ∃ (a' : Option Addr) (m cap : Nat), e = .returned (.tuple #[.slice a' m cap, .bool (setOk ps k v)]) ∧ w'.ownsRow w.heap.size 68 2 (.slice a' m cap) (setR ps k v).length (pcells (setR ps k v)) ∧ Below w.heap.size w w' := by
  obtain ⟨i0, hi0, hz0, hz1, hz2⟩ := info_parts infoPair
  have K1 := impl_pairsOk (some ⟨b, off, none⟩) cp ps w hl hm hs
  have HD : Hid (setOk ps k v = (pairsOkL ps && pairsOkL (setL ps k v)) ∧ setR ps k v = if setOk ps k v = true then setL ps k v else []) := ⟨rfl, rfl⟩
  obtain ⟨r, hr⟩ : ∃ r, r = setR ps k v := ⟨_, rfl⟩
  obtain ⟨ok, hok⟩ : ∃ ok, ok = setOk ps k v := ⟨_, rfl⟩
  rw [← hok, ← hr] at HD
  rw [← hr, ← hok]
  clear hr hok
  cases hp1 : pairsOkL ps with
  | false =>
    rw [hp1] at K1 HD
    have e1 : ok = false := by rw [HD.out.1]; rfl
    subst e1
    have e2 : r = [] := by rw [HD.out.2]; rfl
    subst e2
    clear hs hm hp1
    go_enter Try.func22, Try.ntmps22
    go_wp2_with fail
    refine K1.mono ?_
    rintro e w1 ⟨rfl, b1⟩
    go_wp2
    go_ret2
    exact ⟨none, 0, 0, rfl, World.ownsRow_nil _ _ _ _, b1⟩
  | true =>
    rw [hp1] at K1 HD
    have hn := (pairsOk_of ps hp1).1
    have hrs := rising_of ps hp1
    have HIS : Hid (∀ W, Below w.heap.size w W → IsPairs W (some ⟨b, off, none⟩) ps) := fun W hW => hs.later hW
    have HK2 : Hid (∀ W, IsPairs W (some ⟨b, off, none⟩) ps → Calls Try.prog 47 #[.slice (some ⟨b, off, none⟩) ps.length cp, .string ⟨k.toArray⟩, .func (.func 48) #[] #[]] W fun e w' => ∃ p : Nat, placeIs ps k p ∧ e = .returned (.tuple #[.int .i64 (p : Int), .bool (decide (p < ps.length ∧ keyAt ps p = k))]) ∧ Below W.heap.size W w') := fun W hW => search_any b off cp ps k W hn hrs hW
    have HMM : Hid (∀ p ∈ setL ps k v, p.1.length ≤ 1048576 ∧ p.2.length ≤ 1048576) := fun p hp => by
      rcases setL_mem ps k v p hp with h | h
      · rw [h]; exact ⟨hkl, hvl⟩
      · exact hm p h
    have HSL : Hid (∀ p, placeIs ps k p → setL ps k v = putL ps k v p) := fun p hp => setL_put ps k v p hrs hp
    clear hs hm hp1 hrs
    go_enter Try.func22, Try.ntmps22
    go_wp2_with fail
    refine K1.mono ?_
    rintro e w1 ⟨rfl, b1⟩
    go_wp2_with fail
    refine (HK2.out w1 (HIS.out w1 b1)).mono ?_
    rintro e w2 ⟨p, hpl, rfl, b2⟩
    have B2 := b1.trans (b2.mono b1.size)
    have hp0 : p ≤ ps.length := hpl.1
    have hpc : (p : Int) ≤ (cp : Int) := by omega
    have hpl' : (p : Int) ≤ (ps.length : Int) := by omega
    have hp00 : (0 : Int) ≤ (p : Int) := by omega
    have HEQ : Hid (setL ps k v = putL ps k v p) := HSL.out p hpl
    clear K1 HK2 b2 HSL hpl
    by_cases hf : p < ps.length ∧ keyAt ps p = k
    · have HSK : Hid (skipN ps k p = p + 1) := by rw [Hid, skipN, if_pos hf]
      have hf1 : p < ps.length := hf.1
      have hfd : decide (p < ps.length ∧ keyAt ps p = k) = true := decide_eq_true hf
      have hfi : (p : Int) < (ps.length : Int) := by omega
      have hp1c : (p : Int) + 1 ≤ (cp : Int) := by omega
      have hp1l : (p : Int) + 1 ≤ (ps.length : Int) := by omega
      by_cases hc : cp = p + 1
      · have IB : Hid (∀ W, Below w.heap.size w W → IsPairs W (some ⟨b, off, none⟩) (ps.drop (p + 1))) := fun W hW => .inl (List.drop_eq_nil_of_le (by omega))
        have K3 := clone_any b off (p + 1) (ps.take p) w2 (by simp; omega) (take_isPairs (HIS.out w2 B2))
        rw [List.length_take, Nat.min_eq_left hp0] at K3
        go_wp2_with fail
        refine K3.mono ?_
        rintro e w3 ⟨a3, m3, c3, rfl, o3, b3⟩
        have B3 := B2.trans (b3.mono B2.size)
        have O3 := hidOwn (o3.mono B2.size)
        have lowO3 := low2 O3.out
        have F3 := isPairs_flat (IB.out w3 B3)
        clear K3 o3 b3
        by_cases hv : v = []
        · have hve : v.isEmpty = true := by rw [hv]; rfl
          go_wp2_with (at_builtin; refine wpList_append_own _ rfl _ _ 37 rfl w.heap.size 68 i0 (.agg #[.string ⟨#[]⟩, .string ⟨#[]⟩]) 2 32 Try.underlying37 hi0 hz0 hz1 hz2 rfl (by decide) (.slice a3 m3 c3) p _ rfl O3.out ⟨b, off, none⟩ (ps.length - (p + 1)) 0 (pcells (ps.drop (p + 1))) rfl (by rw [pcells_length, List.length_drop]) F3 (pcells_one _) (by unfold maxLen; omega) (by omega) (B3.size) ?_; intro v5 w5 hown5 hgrow5 hnil5; obtain ⟨a5, m5, c5, rfl⟩ := own_slice2 hown5; have B5 : Below w.heap.size w w5 := B3.grown hgrow5 (B3.size) lowO3; have O5 := hidOwn hown5; clear hown5 hgrow5 hnil5)
          have hlen : (putL ps k v p).length = p + (ps.length - (p + 1)) := by rw [putL, insL, if_pos hv, HSK.out, List.length_append, List.length_append, List.length_take, List.length_drop, Nat.min_eq_left hp0]; rfl
          have OP : Hid (w5.ownsRow w.heap.size 68 2 (.slice a5 m5 c5) (putL ps k v p).length (pcells (putL ps k v p))) := by
            rw [Hid, hlen, putL, insL, if_pos hv, pcells_app, pcells_app, HSK.out]
            simpa [pcells] using O5.out
          rw [← HEQ.out] at OP
          obtain ⟨e5, _, i5⟩ := isPairs_own OP.out
          subst e5
          have K6 := impl_pairsOk a5 c5 (setL ps k v) w5 (by rw [HEQ.out, hlen]; omega) HMM.out i5
          obtain ⟨L, hL⟩ : ∃ L, L = setL ps k v := ⟨_, rfl⟩
          rw [← hL] at OP K6 HD ⊢
          obtain ⟨p2, hp2⟩ : ∃ p2, p2 = pairsOkL L := ⟨_, rfl⟩
          rw [← hp2] at K6 HD
          clear hp2 hL HEQ hlen O5 i5
          go_wp2_with fail
          refine K6.mono ?_
          rintro e w6 ⟨rfl, b6⟩
          have B6 := B5.trans (b6.mono B5.size)
          have O6 := hidOwn (kept2 OP.out b6)
          clear K6 b6 OP
          cases p2
          · have e1 : ok = false := by rw [HD.out.1]; rfl
            subst e1
            have e2 : r = [] := by rw [HD.out.2]; rfl
            subst e2
            go_wp2
            go_ret2
            exact ⟨none, 0, 0, rfl, World.ownsRow_nil _ _ _ _, B6⟩
          · have e1 : ok = true := by rw [HD.out.1]; rfl
            subst e1
            have e2 : r = L := by rw [HD.out.2]; rfl
            subst e2
            go_wp2
            go_ret2
            exact ⟨_, _, _, rfl, O6.out, B6⟩
        · have hve : v.isEmpty = false := by cases v with | nil => exact absurd rfl hv | cons _ _ => rfl
          go_wp2_with (first | (at_builtin; refine wpList_append_own _ rfl _ _ 37 rfl w.heap.size 68 i0 (.agg #[.string ⟨#[]⟩, .string ⟨#[]⟩]) 2 32 Try.underlying37 hi0 hz0 hz1 hz2 rfl (by decide) (.slice a4 m4 c4) (p + 1) _ rfl O4.out ⟨b, off, none⟩ (ps.length - (p + 1)) 0 (pcells (ps.drop (p + 1))) rfl (by rw [pcells_length, List.length_drop]) F4 (pcells_one _) (by unfold maxLen; omega) (by omega) (B4.size) ?_; intro v5 w5 hown5 hgrow5 hnil5; obtain ⟨a5, m5, c5, rfl⟩ := own_slice2 hown5; have B5 : Below w.heap.size w w5 := B4.grown hgrow5 (B4.size) lowO4; have O5 := hidOwn hown5; clear hown5 hgrow5 hnil5) | (at_builtin; refine wpList_append_own _ rfl _ _ 37 rfl w.heap.size 68 i0 (.agg #[.string ⟨#[]⟩, .string ⟨#[]⟩]) 2 32 Try.underlying37 hi0 hz0 hz1 hz2 rfl (by decide) (.slice a3 m3 c3) p _ rfl (O3.out.alloc _) ⟨w3.heap.size, 0, none⟩ 1 1 [.string ⟨k.toArray⟩, .string ⟨v.toArray⟩] rfl rfl (World.news_of_block (cs := #[.string ⟨k.toArray⟩, .string ⟨v.toArray⟩]) (t := 68) (fr := (0, 0)) (heap_alloc_new w3 _)) (by simp [Value.oneCell']) (by unfold maxLen; omega) (by omega) (Nat.le_trans B3.size (by simp)) ?_; intro v4 w4 hown4 hgrow4 hnil4; obtain ⟨a4, m4, c4, rfl⟩ := own_slice2 hown4; have B4 : Below w.heap.size w w4 := (B3.alloc B3.size _).grown hgrow4 (Nat.le_trans B3.size (by simp)) (fun k hk => (lowO3 k hk)); have O4 := hidOwn hown4; have F4 := isPairs_flat (IB.out w4 B4); have lowO4 := low2 hown4; clear hown4 hgrow4 hnil4))
          have hlen : (putL ps k v p).length = p + 1 + (ps.length - (p + 1)) := by rw [putL, insL, if_neg hv, HSK.out, List.length_append, List.length_append, List.length_take, List.length_drop, Nat.min_eq_left hp0]; rfl
          have OP : Hid (w5.ownsRow w.heap.size 68 2 (.slice a5 m5 c5) (putL ps k v p).length (pcells (putL ps k v p))) := by
            rw [Hid, hlen, putL, insL, if_neg hv, pcells_app, pcells_app, HSK.out]
            simpa [pcells] using O5.out
          rw [← HEQ.out] at OP
          obtain ⟨e5, _, i5⟩ := isPairs_own OP.out
          subst e5
          have K6 := impl_pairsOk a5 c5 (setL ps k v) w5 (by rw [HEQ.out, hlen]; omega) HMM.out i5
          obtain ⟨L, hL⟩ : ∃ L, L = setL ps k v := ⟨_, rfl⟩
          rw [← hL] at OP K6 HD ⊢
          obtain ⟨p2, hp2⟩ : ∃ p2, p2 = pairsOkL L := ⟨_, rfl⟩
          rw [← hp2] at K6 HD
          clear hp2 hL HEQ hlen O5 i5
          go_wp2_with fail
          refine K6.mono ?_
          rintro e w6 ⟨rfl, b6⟩
          have B6 := B5.trans (b6.mono B5.size)
          have O6 := hidOwn (kept2 OP.out b6)
          clear K6 b6 OP
          cases p2
          · have e1 : ok = false := by rw [HD.out.1]; rfl
            subst e1
            have e2 : r = [] := by rw [HD.out.2]; rfl
            subst e2
            go_wp2
            go_ret2
            exact ⟨none, 0, 0, rfl, World.ownsRow_nil _ _ _ _, B6⟩
          · have e1 : ok = true := by rw [HD.out.1]; rfl
            subst e1
            have e2 : r = L := by rw [HD.out.2]; rfl
            subst e2
            go_wp2
            go_ret2
            exact ⟨_, _, _, rfl, O6.out, B6⟩
      · have IB : Hid (∀ W, Below w.heap.size w W → IsPairs W (some ⟨b, off + (p + 1) * 2, none⟩) (ps.drop (p + 1))) := fun W hW => drop_isPairs (HIS.out W hW)
        have K3 := clone_any b off cp (ps.take p) w2 (by simp; omega) (take_isPairs (HIS.out w2 B2))
        rw [List.length_take, Nat.min_eq_left hp0] at K3
        go_wp2_with fail
        refine K3.mono ?_
        rintro e w3 ⟨a3, m3, c3, rfl, o3, b3⟩
        have B3 := B2.trans (b3.mono B2.size)
        have O3 := hidOwn (o3.mono B2.size)
        have lowO3 := low2 O3.out
        have F3 := isPairs_flat (IB.out w3 B3)
        clear K3 o3 b3
        by_cases hv : v = []
        · have hve : v.isEmpty = true := by rw [hv]; rfl
          go_wp2_with (at_builtin; refine wpList_append_own _ rfl _ _ 37 rfl w.heap.size 68 i0 (.agg #[.string ⟨#[]⟩, .string ⟨#[]⟩]) 2 32 Try.underlying37 hi0 hz0 hz1 hz2 rfl (by decide) (.slice a3 m3 c3) p _ rfl O3.out ⟨b, off + (p + 1) * 2, none⟩ (ps.length - (p + 1)) (cp - (p + 1)) (pcells (ps.drop (p + 1))) rfl (by rw [pcells_length, List.length_drop]) F3 (pcells_one _) (by unfold maxLen; omega) (by omega) (B3.size) ?_; intro v5 w5 hown5 hgrow5 hnil5; obtain ⟨a5, m5, c5, rfl⟩ := own_slice2 hown5; have B5 : Below w.heap.size w w5 := B3.grown hgrow5 (B3.size) lowO3; have O5 := hidOwn hown5; clear hown5 hgrow5 hnil5)
          have hlen : (putL ps k v p).length = p + (ps.length - (p + 1)) := by rw [putL, insL, if_pos hv, HSK.out, List.length_append, List.length_append, List.length_take, List.length_drop, Nat.min_eq_left hp0]; rfl
          have OP : Hid (w5.ownsRow w.heap.size 68 2 (.slice a5 m5 c5) (putL ps k v p).length (pcells (putL ps k v p))) := by
            rw [Hid, hlen, putL, insL, if_pos hv, pcells_app, pcells_app, HSK.out]
            simpa [pcells] using O5.out
          rw [← HEQ.out] at OP
          obtain ⟨e5, _, i5⟩ := isPairs_own OP.out
          subst e5
          have K6 := impl_pairsOk a5 c5 (setL ps k v) w5 (by rw [HEQ.out, hlen]; omega) HMM.out i5
          obtain ⟨L, hL⟩ : ∃ L, L = setL ps k v := ⟨_, rfl⟩
          rw [← hL] at OP K6 HD ⊢
          obtain ⟨p2, hp2⟩ : ∃ p2, p2 = pairsOkL L := ⟨_, rfl⟩
          rw [← hp2] at K6 HD
          clear hp2 hL HEQ hlen O5 i5
          go_wp2_with fail
          refine K6.mono ?_
          rintro e w6 ⟨rfl, b6⟩
          have B6 := B5.trans (b6.mono B5.size)
          have O6 := hidOwn (kept2 OP.out b6)
          clear K6 b6 OP
          cases p2
          · have e1 : ok = false := by rw [HD.out.1]; rfl
            subst e1
            have e2 : r = [] := by rw [HD.out.2]; rfl
            subst e2
            go_wp2
            go_ret2
            exact ⟨none, 0, 0, rfl, World.ownsRow_nil _ _ _ _, B6⟩
          · have e1 : ok = true := by rw [HD.out.1]; rfl
            subst e1
            have e2 : r = L := by rw [HD.out.2]; rfl
            subst e2
            go_wp2
            go_ret2
            exact ⟨_, _, _, rfl, O6.out, B6⟩
        · have hve : v.isEmpty = false := by cases v with | nil => exact absurd rfl hv | cons _ _ => rfl
          go_wp2_with (first | (at_builtin; refine wpList_append_own _ rfl _ _ 37 rfl w.heap.size 68 i0 (.agg #[.string ⟨#[]⟩, .string ⟨#[]⟩]) 2 32 Try.underlying37 hi0 hz0 hz1 hz2 rfl (by decide) (.slice a4 m4 c4) (p + 1) _ rfl O4.out ⟨b, off + (p + 1) * 2, none⟩ (ps.length - (p + 1)) (cp - (p + 1)) (pcells (ps.drop (p + 1))) rfl (by rw [pcells_length, List.length_drop]) F4 (pcells_one _) (by unfold maxLen; omega) (by omega) (B4.size) ?_; intro v5 w5 hown5 hgrow5 hnil5; obtain ⟨a5, m5, c5, rfl⟩ := own_slice2 hown5; have B5 : Below w.heap.size w w5 := B4.grown hgrow5 (B4.size) lowO4; have O5 := hidOwn hown5; clear hown5 hgrow5 hnil5) | (at_builtin; refine wpList_append_own _ rfl _ _ 37 rfl w.heap.size 68 i0 (.agg #[.string ⟨#[]⟩, .string ⟨#[]⟩]) 2 32 Try.underlying37 hi0 hz0 hz1 hz2 rfl (by decide) (.slice a3 m3 c3) p _ rfl (O3.out.alloc _) ⟨w3.heap.size, 0, none⟩ 1 1 [.string ⟨k.toArray⟩, .string ⟨v.toArray⟩] rfl rfl (World.news_of_block (cs := #[.string ⟨k.toArray⟩, .string ⟨v.toArray⟩]) (t := 68) (fr := (0, 0)) (heap_alloc_new w3 _)) (by simp [Value.oneCell']) (by unfold maxLen; omega) (by omega) (Nat.le_trans B3.size (by simp)) ?_; intro v4 w4 hown4 hgrow4 hnil4; obtain ⟨a4, m4, c4, rfl⟩ := own_slice2 hown4; have B4 : Below w.heap.size w w4 := (B3.alloc B3.size _).grown hgrow4 (Nat.le_trans B3.size (by simp)) (fun k hk => (lowO3 k hk)); have O4 := hidOwn hown4; have F4 := isPairs_flat (IB.out w4 B4); have lowO4 := low2 hown4; clear hown4 hgrow4 hnil4))
          have hlen : (putL ps k v p).length = p + 1 + (ps.length - (p + 1)) := by rw [putL, insL, if_neg hv, HSK.out, List.length_append, List.length_append, List.length_take, List.length_drop, Nat.min_eq_left hp0]; rfl
          have OP : Hid (w5.ownsRow w.heap.size 68 2 (.slice a5 m5 c5) (putL ps k v p).length (pcells (putL ps k v p))) := by
            rw [Hid, hlen, putL, insL, if_neg hv, pcells_app, pcells_app, HSK.out]
            simpa [pcells] using O5.out
          rw [← HEQ.out] at OP
          obtain ⟨e5, _, i5⟩ := isPairs_own OP.out
          subst e5
          have K6 := impl_pairsOk a5 c5 (setL ps k v) w5 (by rw [HEQ.out, hlen]; omega) HMM.out i5
          obtain ⟨L, hL⟩ : ∃ L, L = setL ps k v := ⟨_, rfl⟩
          rw [← hL] at OP K6 HD ⊢
          obtain ⟨p2, hp2⟩ : ∃ p2, p2 = pairsOkL L := ⟨_, rfl⟩
          rw [← hp2] at K6 HD
          clear hp2 hL HEQ hlen O5 i5
          go_wp2_with fail
          refine K6.mono ?_
          rintro e w6 ⟨rfl, b6⟩
          have B6 := B5.trans (b6.mono B5.size)
          have O6 := hidOwn (kept2 OP.out b6)
          clear K6 b6 OP
          cases p2
          · have e1 : ok = false := by rw [HD.out.1]; rfl
            subst e1
            have e2 : r = [] := by rw [HD.out.2]; rfl
            subst e2
            go_wp2
            go_ret2
            exact ⟨none, 0, 0, rfl, World.ownsRow_nil _ _ _ _, B6⟩
          · have e1 : ok = true := by rw [HD.out.1]; rfl
            subst e1
            have e2 : r = L := by rw [HD.out.2]; rfl
            subst e2
            go_wp2
            go_ret2
            exact ⟨_, _, _, rfl, O6.out, B6⟩
    · have HSK : Hid (skipN ps k p = p) := by rw [Hid, skipN, if_neg hf]
      have hfd : decide (p < ps.length ∧ keyAt ps p = k) = false := decide_eq_false hf
      have hfb : (decide (p < ps.length) && decide (keyAt ps p = k)) = false := by rw [← Bool.decide_and]; exact hfd
      by_cases hc : cp = p
      · have IB : Hid (∀ W, Below w.heap.size w W → IsPairs W (some ⟨b, off, none⟩) (ps.drop p)) := fun W hW => .inl (List.drop_eq_nil_of_le (by omega))
        have K3 := clone_any b off p (ps.take p) w2 (by simp; omega) (take_isPairs (HIS.out w2 B2))
        rw [List.length_take, Nat.min_eq_left hp0] at K3
        go_wp2_with fail
        refine K3.mono ?_
        rintro e w3 ⟨a3, m3, c3, rfl, o3, b3⟩
        have B3 := B2.trans (b3.mono B2.size)
        have O3 := hidOwn (o3.mono B2.size)
        have lowO3 := low2 O3.out
        have F3 := isPairs_flat (IB.out w3 B3)
        clear K3 o3 b3
        by_cases hv : v = []
        · have hve : v.isEmpty = true := by rw [hv]; rfl
          go_wp2_with (at_builtin; refine wpList_append_own _ rfl _ _ 37 rfl w.heap.size 68 i0 (.agg #[.string ⟨#[]⟩, .string ⟨#[]⟩]) 2 32 Try.underlying37 hi0 hz0 hz1 hz2 rfl (by decide) (.slice a3 m3 c3) p _ rfl O3.out ⟨b, off, none⟩ (ps.length - p) 0 (pcells (ps.drop p)) rfl (by rw [pcells_length, List.length_drop]) F3 (pcells_one _) (by unfold maxLen; omega) (by omega) (B3.size) ?_; intro v5 w5 hown5 hgrow5 hnil5; obtain ⟨a5, m5, c5, rfl⟩ := own_slice2 hown5; have B5 : Below w.heap.size w w5 := B3.grown hgrow5 (B3.size) lowO3; have O5 := hidOwn hown5; clear hown5 hgrow5 hnil5)
          have hlen : (putL ps k v p).length = p + (ps.length - p) := by rw [putL, insL, if_pos hv, HSK.out, List.length_append, List.length_append, List.length_take, List.length_drop, Nat.min_eq_left hp0]; rfl
          have OP : Hid (w5.ownsRow w.heap.size 68 2 (.slice a5 m5 c5) (putL ps k v p).length (pcells (putL ps k v p))) := by
            rw [Hid, hlen, putL, insL, if_pos hv, pcells_app, pcells_app, HSK.out]
            simpa [pcells] using O5.out
          rw [← HEQ.out] at OP
          obtain ⟨e5, _, i5⟩ := isPairs_own OP.out
          subst e5
          have K6 := impl_pairsOk a5 c5 (setL ps k v) w5 (by rw [HEQ.out, hlen]; omega) HMM.out i5
          obtain ⟨L, hL⟩ : ∃ L, L = setL ps k v := ⟨_, rfl⟩
          rw [← hL] at OP K6 HD ⊢
          obtain ⟨p2, hp2⟩ : ∃ p2, p2 = pairsOkL L := ⟨_, rfl⟩
          rw [← hp2] at K6 HD
          clear hp2 hL HEQ hlen O5 i5
          go_wp2_with fail
          refine K6.mono ?_
          rintro e w6 ⟨rfl, b6⟩
          have B6 := B5.trans (b6.mono B5.size)
          have O6 := hidOwn (kept2 OP.out b6)
          clear K6 b6 OP
          cases p2
          · have e1 : ok = false := by rw [HD.out.1]; rfl
            subst e1
            have e2 : r = [] := by rw [HD.out.2]; rfl
            subst e2
            go_wp2
            go_ret2
            exact ⟨none, 0, 0, rfl, World.ownsRow_nil _ _ _ _, B6⟩
          · have e1 : ok = true := by rw [HD.out.1]; rfl
            subst e1
            have e2 : r = L := by rw [HD.out.2]; rfl
            subst e2
            go_wp2
            go_ret2
            exact ⟨_, _, _, rfl, O6.out, B6⟩
        · have hve : v.isEmpty = false := by cases v with | nil => exact absurd rfl hv | cons _ _ => rfl
          go_wp2_with (first | (at_builtin; refine wpList_append_own _ rfl _ _ 37 rfl w.heap.size 68 i0 (.agg #[.string ⟨#[]⟩, .string ⟨#[]⟩]) 2 32 Try.underlying37 hi0 hz0 hz1 hz2 rfl (by decide) (.slice a4 m4 c4) (p + 1) _ rfl O4.out ⟨b, off, none⟩ (ps.length - p) 0 (pcells (ps.drop p)) rfl (by rw [pcells_length, List.length_drop]) F4 (pcells_one _) (by unfold maxLen; omega) (by omega) (B4.size) ?_; intro v5 w5 hown5 hgrow5 hnil5; obtain ⟨a5, m5, c5, rfl⟩ := own_slice2 hown5; have B5 : Below w.heap.size w w5 := B4.grown hgrow5 (B4.size) lowO4; have O5 := hidOwn hown5; clear hown5 hgrow5 hnil5) | (at_builtin; refine wpList_append_own _ rfl _ _ 37 rfl w.heap.size 68 i0 (.agg #[.string ⟨#[]⟩, .string ⟨#[]⟩]) 2 32 Try.underlying37 hi0 hz0 hz1 hz2 rfl (by decide) (.slice a3 m3 c3) p _ rfl (O3.out.alloc _) ⟨w3.heap.size, 0, none⟩ 1 1 [.string ⟨k.toArray⟩, .string ⟨v.toArray⟩] rfl rfl (World.news_of_block (cs := #[.string ⟨k.toArray⟩, .string ⟨v.toArray⟩]) (t := 68) (fr := (0, 0)) (heap_alloc_new w3 _)) (by simp [Value.oneCell']) (by unfold maxLen; omega) (by omega) (Nat.le_trans B3.size (by simp)) ?_; intro v4 w4 hown4 hgrow4 hnil4; obtain ⟨a4, m4, c4, rfl⟩ := own_slice2 hown4; have B4 : Below w.heap.size w w4 := (B3.alloc B3.size _).grown hgrow4 (Nat.le_trans B3.size (by simp)) (fun k hk => (lowO3 k hk)); have O4 := hidOwn hown4; have F4 := isPairs_flat (IB.out w4 B4); have lowO4 := low2 hown4; clear hown4 hgrow4 hnil4))
          have hlen : (putL ps k v p).length = p + 1 + (ps.length - p) := by rw [putL, insL, if_neg hv, HSK.out, List.length_append, List.length_append, List.length_take, List.length_drop, Nat.min_eq_left hp0]; rfl
          have OP : Hid (w5.ownsRow w.heap.size 68 2 (.slice a5 m5 c5) (putL ps k v p).length (pcells (putL ps k v p))) := by
            rw [Hid, hlen, putL, insL, if_neg hv, pcells_app, pcells_app, HSK.out]
            simpa [pcells] using O5.out
          rw [← HEQ.out] at OP
          obtain ⟨e5, _, i5⟩ := isPairs_own OP.out
          subst e5
          have K6 := impl_pairsOk a5 c5 (setL ps k v) w5 (by rw [HEQ.out, hlen]; omega) HMM.out i5
          obtain ⟨L, hL⟩ : ∃ L, L = setL ps k v := ⟨_, rfl⟩
          rw [← hL] at OP K6 HD ⊢
          obtain ⟨p2, hp2⟩ : ∃ p2, p2 = pairsOkL L := ⟨_, rfl⟩
          rw [← hp2] at K6 HD
          clear hp2 hL HEQ hlen O5 i5
          go_wp2_with fail
          refine K6.mono ?_
          rintro e w6 ⟨rfl, b6⟩
          have B6 := B5.trans (b6.mono B5.size)
          have O6 := hidOwn (kept2 OP.out b6)
          clear K6 b6 OP
          cases p2
          · have e1 : ok = false := by rw [HD.out.1]; rfl
            subst e1
            have e2 : r = [] := by rw [HD.out.2]; rfl
            subst e2
            go_wp2
            go_ret2
            exact ⟨none, 0, 0, rfl, World.ownsRow_nil _ _ _ _, B6⟩
          · have e1 : ok = true := by rw [HD.out.1]; rfl
            subst e1
            have e2 : r = L := by rw [HD.out.2]; rfl
            subst e2
            go_wp2
            go_ret2
            exact ⟨_, _, _, rfl, O6.out, B6⟩
      · have IB : Hid (∀ W, Below w.heap.size w W → IsPairs W (some ⟨b, off + p * 2, none⟩) (ps.drop p)) := fun W hW => drop_isPairs (HIS.out W hW)
        have K3 := clone_any b off cp (ps.take p) w2 (by simp; omega) (take_isPairs (HIS.out w2 B2))
        rw [List.length_take, Nat.min_eq_left hp0] at K3
        go_wp2_with fail
        refine K3.mono ?_
        rintro e w3 ⟨a3, m3, c3, rfl, o3, b3⟩
        have B3 := B2.trans (b3.mono B2.size)
        have O3 := hidOwn (o3.mono B2.size)
        have lowO3 := low2 O3.out
        have F3 := isPairs_flat (IB.out w3 B3)
        clear K3 o3 b3
        by_cases hv : v = []
        · have hve : v.isEmpty = true := by rw [hv]; rfl
          go_wp2_with (at_builtin; refine wpList_append_own _ rfl _ _ 37 rfl w.heap.size 68 i0 (.agg #[.string ⟨#[]⟩, .string ⟨#[]⟩]) 2 32 Try.underlying37 hi0 hz0 hz1 hz2 rfl (by decide) (.slice a3 m3 c3) p _ rfl O3.out ⟨b, off + p * 2, none⟩ (ps.length - p) (cp - p) (pcells (ps.drop p)) rfl (by rw [pcells_length, List.length_drop]) F3 (pcells_one _) (by unfold maxLen; omega) (by omega) (B3.size) ?_; intro v5 w5 hown5 hgrow5 hnil5; obtain ⟨a5, m5, c5, rfl⟩ := own_slice2 hown5; have B5 : Below w.heap.size w w5 := B3.grown hgrow5 (B3.size) lowO3; have O5 := hidOwn hown5; clear hown5 hgrow5 hnil5)
          have hlen : (putL ps k v p).length = p + (ps.length - p) := by rw [putL, insL, if_pos hv, HSK.out, List.length_append, List.length_append, List.length_take, List.length_drop, Nat.min_eq_left hp0]; rfl
          have OP : Hid (w5.ownsRow w.heap.size 68 2 (.slice a5 m5 c5) (putL ps k v p).length (pcells (putL ps k v p))) := by
            rw [Hid, hlen, putL, insL, if_pos hv, pcells_app, pcells_app, HSK.out]
            simpa [pcells] using O5.out
          rw [← HEQ.out] at OP
          obtain ⟨e5, _, i5⟩ := isPairs_own OP.out
          subst e5
          have K6 := impl_pairsOk a5 c5 (setL ps k v) w5 (by rw [HEQ.out, hlen]; omega) HMM.out i5
          obtain ⟨L, hL⟩ : ∃ L, L = setL ps k v := ⟨_, rfl⟩
          rw [← hL] at OP K6 HD ⊢
          obtain ⟨p2, hp2⟩ : ∃ p2, p2 = pairsOkL L := ⟨_, rfl⟩
          rw [← hp2] at K6 HD
          clear hp2 hL HEQ hlen O5 i5
          go_wp2_with fail
          refine K6.mono ?_
          rintro e w6 ⟨rfl, b6⟩
          have B6 := B5.trans (b6.mono B5.size)
          have O6 := hidOwn (kept2 OP.out b6)
          clear K6 b6 OP
          cases p2
          · have e1 : ok = false := by rw [HD.out.1]; rfl
            subst e1
            have e2 : r = [] := by rw [HD.out.2]; rfl
            subst e2
            go_wp2
            go_ret2
            exact ⟨none, 0, 0, rfl, World.ownsRow_nil _ _ _ _, B6⟩
          · have e1 : ok = true := by rw [HD.out.1]; rfl
            subst e1
            have e2 : r = L := by rw [HD.out.2]; rfl
            subst e2
            go_wp2
            go_ret2
            exact ⟨_, _, _, rfl, O6.out, B6⟩
        · have hve : v.isEmpty = false := by cases v with | nil => exact absurd rfl hv | cons _ _ => rfl
          go_wp2_with (first | (at_builtin; refine wpList_append_own _ rfl _ _ 37 rfl w.heap.size 68 i0 (.agg #[.string ⟨#[]⟩, .string ⟨#[]⟩]) 2 32 Try.underlying37 hi0 hz0 hz1 hz2 rfl (by decide) (.slice a4 m4 c4) (p + 1) _ rfl O4.out ⟨b, off + p * 2, none⟩ (ps.length - p) (cp - p) (pcells (ps.drop p)) rfl (by rw [pcells_length, List.length_drop]) F4 (pcells_one _) (by unfold maxLen; omega) (by omega) (B4.size) ?_; intro v5 w5 hown5 hgrow5 hnil5; obtain ⟨a5, m5, c5, rfl⟩ := own_slice2 hown5; have B5 : Below w.heap.size w w5 := B4.grown hgrow5 (B4.size) lowO4; have O5 := hidOwn hown5; clear hown5 hgrow5 hnil5) | (at_builtin; refine wpList_append_own _ rfl _ _ 37 rfl w.heap.size 68 i0 (.agg #[.string ⟨#[]⟩, .string ⟨#[]⟩]) 2 32 Try.underlying37 hi0 hz0 hz1 hz2 rfl (by decide) (.slice a3 m3 c3) p _ rfl (O3.out.alloc _) ⟨w3.heap.size, 0, none⟩ 1 1 [.string ⟨k.toArray⟩, .string ⟨v.toArray⟩] rfl rfl (World.news_of_block (cs := #[.string ⟨k.toArray⟩, .string ⟨v.toArray⟩]) (t := 68) (fr := (0, 0)) (heap_alloc_new w3 _)) (by simp [Value.oneCell']) (by unfold maxLen; omega) (by omega) (Nat.le_trans B3.size (by simp)) ?_; intro v4 w4 hown4 hgrow4 hnil4; obtain ⟨a4, m4, c4, rfl⟩ := own_slice2 hown4; have B4 : Below w.heap.size w w4 := (B3.alloc B3.size _).grown hgrow4 (Nat.le_trans B3.size (by simp)) (fun k hk => (lowO3 k hk)); have O4 := hidOwn hown4; have F4 := isPairs_flat (IB.out w4 B4); have lowO4 := low2 hown4; clear hown4 hgrow4 hnil4))
          have hlen : (putL ps k v p).length = p + 1 + (ps.length - p) := by rw [putL, insL, if_neg hv, HSK.out, List.length_append, List.length_append, List.length_take, List.length_drop, Nat.min_eq_left hp0]; rfl
          have OP : Hid (w5.ownsRow w.heap.size 68 2 (.slice a5 m5 c5) (putL ps k v p).length (pcells (putL ps k v p))) := by
            rw [Hid, hlen, putL, insL, if_neg hv, pcells_app, pcells_app, HSK.out]
            simpa [pcells] using O5.out
          rw [← HEQ.out] at OP
          obtain ⟨e5, _, i5⟩ := isPairs_own OP.out
          subst e5
          have K6 := impl_pairsOk a5 c5 (setL ps k v) w5 (by rw [HEQ.out, hlen]; omega) HMM.out i5
          obtain ⟨L, hL⟩ : ∃ L, L = setL ps k v := ⟨_, rfl⟩
          rw [← hL] at OP K6 HD ⊢
          obtain ⟨p2, hp2⟩ : ∃ p2, p2 = pairsOkL L := ⟨_, rfl⟩
          rw [← hp2] at K6 HD
          clear hp2 hL HEQ hlen O5 i5
          go_wp2_with fail
          refine K6.mono ?_
          rintro e w6 ⟨rfl, b6⟩
          have B6 := B5.trans (b6.mono B5.size)
          have O6 := hidOwn (kept2 OP.out b6)
          clear K6 b6 OP
          cases p2
          · have e1 : ok = false := by rw [HD.out.1]; rfl
            subst e1
            have e2 : r = [] := by rw [HD.out.2]; rfl
            subst e2
            go_wp2
            go_ret2
            exact ⟨none, 0, 0, rfl, World.ownsRow_nil _ _ _ _, B6⟩
          · have e1 : ok = true := by rw [HD.out.1]; rfl
            subst e1
            have e2 : r = L := by rw [HD.out.2]; rfl
            subst e2
            go_wp2
            go_ret2
            exact ⟨_, _, _, rfl, O6.out, B6⟩
end Go.Proofs.Ytgcaofedhhkacaa
