/-
  Contract: the draw of a root, a text and a signature.
-/
import Derived.Test.YtddjpfgkjijmoaaDoorDrawV
import Derived.Test.YtddjpfgkjijmoaaDoorSVer
import Derived.Test.YtddjpfgkjijmoaaDoorIVer
namespace Go.Proofs.YtddjpfgkjijmoaaDoor
open Go.RowKit
set_option linter.unusedVariables false

/-- Two strings and a row in cells as results. -/
theorem results_ssc {P : Program} {fn : Func} {r1 r2 p : Tmp} {ty : TypeId} (h : fn.results = #[.tmp r1, .tmp r2, .cell p ty]) (tmps : Array Value) (w : World) (g : Nat) (t : TypeId) (cs : Array Value) (d : TypeDesc)
    (hp : tmps.getD p undef = .pointer (some ⟨g, 0, none⟩)) (hg : w.heap[g]? = some (.cells cs t (0, 0))) (hu : P.underlying ty = some d) (hd : (match d with | .struct _ | .array _ _ => true | _ => false) = true) (hi : (P.info? ty).map (·.size) = some cs.size) (v1 : Value) (h1 : tmps.getD r1 undef = v1) (v2 : Value) (h2 : tmps.getD r2 undef = v2) :
    (results fn tmps).run P w = .ok (.tuple #[v1, v2, .agg cs]) w := by
  subst h1 h2
  have hp' : tmps[p]?.getD undef = .pointer (some ⟨g, 0, none⟩) := by simpa using hp
  simp [results, h, hp', asAddr, run_loadVar_row w g t ty cs (0, 0) d hg hu hd hi]
theorem rootIsS_some (msg : List UInt8) (i : Int) (os ps : List (List UInt8)) : ∃ r ok, RootIsS msg i os ps r ok := by
  by_cases h : sigOkS i os ps
  · obtain ⟨k, hk⟩ := Int.eq_ofNat_of_zero_le h.2.1.1
    obtain ⟨p, q, hpq⟩ : ∃ p q, ps = [p, q] := by
      match ps, h.2.2.1 with
      | [p, q], _ => exact ⟨p, q, rfl⟩
    exact ⟨_, true, .inl ⟨rfl, h, k, p, q, by have := h.2.1.2; omega, hk, hpq, rfl⟩⟩
  · exact ⟨[], false, .inr ⟨rfl, rfl, h⟩⟩
theorem isStrs_set3 {w : World} {a : Option Addr} {ls : List (List UInt8)} {b : Nat} (h : IsStrs w a ls) (hb : ∀ k off, a = some ⟨k, off, none⟩ → ls ≠ [] → k ≠ b) (x y z : Value) : IsStrs (((w.setCell ⟨b, 0, none⟩ x).setCell ⟨b, 1, none⟩ y).setCell ⟨b, 2, none⟩ z).drew a ls := by
  by_cases he : ls = []
  · exact .inl he
  · rcases h with h | ⟨k, off, h1, h2⟩
    · exact .inl h
    · exact .inr ⟨k, off, h1, fun j hj => (show (((w.setCell ⟨b, 0, none⟩ x).setCell ⟨b, 1, none⟩ y).setCell ⟨b, 2, none⟩ z).cell? ⟨k, off + j, none⟩ = _ from trio_set_cell (by simpa using hb k off h1 he)).trans (h2 j hj)⟩

set_option maxRecDepth 100000 in
set_option maxHeartbeats 4000000 in
theorem drawVerify (n cap : Nat) (a : Option Addr) (w : World) (hn : n ≤ 1048576) (h : Code w a n) :
    Calls Tryd.prog 18 #[.slice a n cap] w fun e w' => ∃ (root msg : List UInt8) (i : Int) (a1 : Option Addr) (c1 : Nat) (a2 : Option Addr) (c2 : Nat) (os ps : List (List UInt8)), e = .returned (.tuple #[.string ⟨root.toArray⟩, .string ⟨msg.toArray⟩, .agg #[.int .i64 i, .slice a1 os.length c1, .slice a2 ps.length c2]]) ∧ msg.length ≤ 56 ∧ os.length ≤ 19 ∧ ps.length ≤ 2 ∧ (∀ l ∈ os, l.length ≤ 32) ∧ (∀ l ∈ ps, l.length ≤ 32) ∧ IsStrs w' a1 os ∧ IsStrs w' a2 ps ∧ Below w.heap.size w w' := by
  have Ba : Below w.heap.size w (w.alloc (.cells #[.int .i64 0, .slice none 0 0, .slice none 0 0] 30)) := (Below.refl w.heap.size w).alloc (Nat.le_refl _) _
  have sa : (w.alloc (.cells #[.int .i64 0, .slice none 0 0, .slice none 0 0] 30)).heap.size = w.heap.size + 1 := by simp
  have z0 := heap_alloc_new w (.cells #[.int .i64 0, .slice none 0 0, .slice none 0 0] 30)
  have H1 := open_any n cap a _ (h.later Ba)
  clear h
  go_enter Tryd.func18, Tryd.ntmps18
  go_wp2_with fail
  refine H1.mono ?_
  rintro e w1 ⟨rfl, hR, hb⟩
  rw [sa] at hR
  have s1 : w.heap.size + 1 < w1.heap.size := hR.lt
  have z1 := (hb.block w.heap.size (by simp)).trans z0
  have B1 := Ba.trans (hb.mono (by simp))
  have H2 := text_any (w.heap.size + 1) n cap a w1 hn hR
  clear H1 hR hb z0
  go_wp2_with fail
  refine H2.mono ?_
  rintro e w2 ⟨msg, hml, rfl, hR2, hG2⟩
  have s2 := hG2.size
  have z2 := (hG2.block w.heap.size (by omega) (by simp)).trans z1
  have B2 : Below w.heap.size w w2 := B1.grown hG2 (by omega) (fun k hk => by simp at hk; omega)
  have H3 := signature_any (w.heap.size + 1) n cap a msg w2 hn (by omega) hR2
  clear H2 hG2 hR2 z1 B1
  go_wp2_with fail
  refine H3.mono ?_
  rintro e w3 ⟨i, a1, m1, c1, a2, m2, c2, os, ps, rfl, lo, lp, hso, hsp, o1, o2, hR3, hG3⟩
  obtain ⟨e1, _, _⟩ := isStrs_own o1
  obtain ⟨e2, _, _⟩ := isStrs_own o2
  subst e1 e2
  have s3 := hG3.size
  have z3 := (hG3.block w.heap.size (by omega) (by simp)).trans z2
  have B3 : Below w.heap.size w w3 := B2.grown hG3 (by omega) (fun k hk => by simp at hk; omega)
  have up1 : ∀ k, (Value.slice a1 os.length c1).ownBlock = some k → w2.heap.size ≤ k ∧ k < w3.heap.size := fun k hk => o1.lt k hk
  have up2 : ∀ k, (Value.slice a2 ps.length c2).ownBlock = some k → w2.heap.size ≤ k ∧ k < w3.heap.size := fun k hk => o2.lt k hk
  have HUP : Hid ((∀ k off, a1 = some ⟨k, off, none⟩ → os ≠ [] → k ≠ w.heap.size) ∧ ∀ k off, a2 = some ⟨k, off, none⟩ → ps ≠ [] → k ≠ w.heap.size) := ⟨fun k off h1 _ => by have := up1 k (by rw [h1]; rfl); omega, fun k off h1 _ => by have := up2 k (by rw [h1]; rfl); omega⟩
  have HSO : Hid (∀ l ∈ os, l.length ≤ 32) := hso
  have HSP : Hid (∀ l ∈ ps, l.length ≤ 32) := hsp
  have ba : Below w3.heap.size w3 (w3.alloc (.cells #[.int .i64 i, .slice a1 os.length c1, .slice a2 ps.length c2] 30)) := (Below.refl _ _).alloc (Nat.le_refl _) _
  have ya := heap_alloc_new w3 (.cells #[.int .i64 i, .slice a1 os.length c1, .slice a2 ps.length c2] 30)
  obtain ⟨r, ok, hr⟩ := rootIsS_some msg i os ps
  have K4 := spec_root_any msg i a1 a2 c1 c2 os ps (w3.alloc (.cells #[.int .i64 i, .slice a1 os.length c1, .slice a2 ps.length c2] 30)) (by omega) (by omega) (fun l hl => by have := hso l hl; omega) (by omega) (fun l hl => by have := hsp l hl; omega) (isStrs_own (keptO o1 ba)).2.2 (isStrs_own (keptO o2 ba)).2.2 r ok hr
  have R3a := hR3.keptNone ba
  have HA : Hid ((w3.alloc (.cells #[.int .i64 i, .slice a1 os.length c1, .slice a2 ps.length c2] 30)).ownsRow w2.heap.size 9 1 (.slice a1 os.length c1) os.length (scells os) ∧ (w3.alloc (.cells #[.int .i64 i, .slice a1 os.length c1, .slice a2 ps.length c2] 30)).ownsRow w2.heap.size 9 1 (.slice a2 ps.length c2) ps.length (scells ps)) := ⟨keptO o1 ba, keptO o2 ba⟩
  clear H3 hG3 hso hsp o1 o2 hR3 z2 B2 hr
  go_wp2_with fail
  refine K4.mono ?_
  rintro e w4 ⟨rfl, b4⟩
  have s4 : w3.heap.size + 1 ≤ w4.heap.size := by have := b4.size; simp at this; exact this
  have R4 := R3a.keptNone b4
  have B4 : Below w.heap.size w w4 := (B3.alloc B3.size _).trans (b4.mono (by simp; omega))
  have z4 := (b4.block w.heap.size (by simp; omega)).trans ((ba.block w.heap.size (by omega)).trans z3)
  have y4 := (b4.block w3.heap.size (by simp)).trans ya
  have CAR : Hid (∀ w', w4.grownBy w' (some (w.heap.size + 1)) → w'.heap[w.heap.size]? = some (.cells #[.int .i64 0, .slice none 0 0, .slice none 0 0] 30 (0, 0)) ∧ w'.heap[w3.heap.size]? = some (.cells #[.int .i64 i, .slice a1 os.length c1, .slice a2 ps.length c2] 30 (0, 0)) ∧ w'.ownsRow w2.heap.size 9 1 (.slice a1 os.length c1) os.length (scells os) ∧ w'.ownsRow w2.heap.size 9 1 (.slice a2 ps.length c2) ps.length (scells ps) ∧ Below w.heap.size w w') := fun w' hG =>
    ⟨(hG.block _ (by omega) (by simp)).trans z4, (hG.block _ (by omega) (by simp; omega)).trans y4,
      (keptO HA.out.1 b4).kept hG (by cases hv : (Value.slice a1 os.length c1).ownBlock with | none => exact .inl rfl | some k => exact .inr (fun e => by have := up1 k hv; simp at e; omega)),
      (keptO HA.out.2 b4).kept hG (by cases hv : (Value.slice a2 ps.length c2).ownBlock with | none => exact .inl rfl | some k => exact .inr (fun e => by have := up2 k hv; simp at e; omega)),
      B4.grown hG (by omega) (fun k hk => by simp at hk; omega)⟩
  have K5 := once_any (w.heap.size + 1) n cap 4 4 a w4 rfl (by omega) (by omega) hn R4
  clear K4 b4 ba ya z3 z4 y4 R3a R4 up1 up2 HA B3 B4
  go_wp2_with fail
  refine K5.mono ?_
  rintro e w5 ⟨t, rfl, hR5, hG5⟩
  clear K5
  cases t
  · have K7 := once_any (w.heap.size + 1) n cap 4 4 a w5 rfl (by omega) (by omega) hn hR5
    have HG5 : Hid (w4.grownBy w5 (some (w.heap.size + 1))) := hG5
    clear hG5 hR5
    go_wp2_with fail
    refine K7.mono ?_
    rintro e w7 ⟨t, rfl, hR7, hG7⟩
    have G7 : w4.grownBy w7 (some (w.heap.size + 1)) := HG5.out.trans hG7
    clear K7
    cases t
    · clear hR7
      have C := CAR.out w7 G7
      obtain ⟨r0, r1, r2, rf⟩ := trio_cells C.1
      have rf0 := rf 0
      have rf1 := rf 1
      have rf2 := rf 2
      obtain ⟨q0, q1, q2, _⟩ := trio_cells C.2.1
      have ne : w3.heap.size ≠ w.heap.size := by omega
      have HC2 : Hid (w7.heap[w.heap.size]? = some (.cells #[.int .i64 0, .slice none 0 0, .slice none 0 0] 30 (0, 0)) ∧ IsStrs w7 a1 os ∧ IsStrs w7 a2 ps ∧ Below w.heap.size w w7) := ⟨C.1, (isStrs_own C.2.2.1).2.2, (isStrs_own C.2.2.2.1).2.2, C.2.2.2.2⟩
      clear rf C
      go_wp2_with fail
      go_region
      go_wp2
      obtain ⟨wf, hwf⟩ : ∃ wf, wf = (((w7.setCell ⟨w.heap.size, 0, none⟩ (.int .i64 i)).setCell ⟨w.heap.size, 1, none⟩ (.slice a1 os.length c1)).setCell ⟨w.heap.size, 2, none⟩ (.slice a2 ps.length c2)).drew := ⟨_, rfl⟩
      have F : wf.heap[w.heap.size]? = some (.cells #[.int .i64 i, .slice a1 os.length c1, .slice a2 ps.length c2] 30 (0, 0)) := by rw [hwf]; exact trio_set (j := 2) (trio_set (j := 1) (trio_set (j := 0) HC2.out.1))
      have BF : Below w.heap.size w wf := by rw [hwf]; exact below_drewI (((HC2.out.2.2.2.setCell (p := ⟨w.heap.size, 0, none⟩) (Nat.le_refl _) _).setCell (p := ⟨w.heap.size, 1, none⟩) (Nat.le_refl _) _).setCell (p := ⟨w.heap.size, 2, none⟩) (Nat.le_refl _) _)
      have I1 : IsStrs wf a1 os := by rw [hwf]; exact isStrs_set3 HC2.out.2.1 (fun b off h1 h2 => HUP.out.1 b off h1 h2) _ _ _
      have I2 : IsStrs wf a2 ps := by rw [hwf]; exact isStrs_set3 HC2.out.2.2.1 (fun b off h1 h2 => HUP.out.2 b off h1 h2) _ _ _
      rw [← hwf]
      clear hwf
      exact bodyPost_ret (v := .tuple #[.string ⟨r.toArray⟩, .string ⟨msg.toArray⟩, .agg #[.int .i64 i, .slice a1 os.length c1, .slice a2 ps.length c2]]) (results_ssc rfl _ _ w.heap.size 30 _ _ rfl F Tryd.underlying30 rfl (by kernel_rfl) (.string ⟨r.toArray⟩) (by rfl) (.string ⟨msg.toArray⟩) (by rfl)) rfl ⟨_, _, i, a1, c1, a2, c2, os, ps, rfl, hml, lo, lp, HSO.out, HSP.out, I1, I2, BF⟩
    · have K8 := text_any (w.heap.size + 1) n cap a w7 hn hR7
      have HG7 : Hid (w4.grownBy w7 (some (w.heap.size + 1))) := G7
      clear hG7 hR7 G7
      go_wp2_with fail
      refine K8.mono ?_
      rintro e w8 ⟨m8, hm8, rfl, hR8, hG8⟩
      have G8 : w4.grownBy w8 (some (w.heap.size + 1)) := HG7.out.trans hG8
      clear K8 hR8 hG8
      have C := CAR.out w8 G8
      obtain ⟨r0, r1, r2, rf⟩ := trio_cells C.1
      have rf0 := rf 0
      have rf1 := rf 1
      have rf2 := rf 2
      obtain ⟨q0, q1, q2, _⟩ := trio_cells C.2.1
      have ne : w3.heap.size ≠ w.heap.size := by omega
      have HC2 : Hid (w8.heap[w.heap.size]? = some (.cells #[.int .i64 0, .slice none 0 0, .slice none 0 0] 30 (0, 0)) ∧ IsStrs w8 a1 os ∧ IsStrs w8 a2 ps ∧ Below w.heap.size w w8) := ⟨C.1, (isStrs_own C.2.2.1).2.2, (isStrs_own C.2.2.2.1).2.2, C.2.2.2.2⟩
      clear rf C
      go_wp2_with fail
      go_region
      go_wp2
      obtain ⟨wf, hwf⟩ : ∃ wf, wf = (((w8.setCell ⟨w.heap.size, 0, none⟩ (.int .i64 i)).setCell ⟨w.heap.size, 1, none⟩ (.slice a1 os.length c1)).setCell ⟨w.heap.size, 2, none⟩ (.slice a2 ps.length c2)).drew := ⟨_, rfl⟩
      have F : wf.heap[w.heap.size]? = some (.cells #[.int .i64 i, .slice a1 os.length c1, .slice a2 ps.length c2] 30 (0, 0)) := by rw [hwf]; exact trio_set (j := 2) (trio_set (j := 1) (trio_set (j := 0) HC2.out.1))
      have BF : Below w.heap.size w wf := by rw [hwf]; exact below_drewI (((HC2.out.2.2.2.setCell (p := ⟨w.heap.size, 0, none⟩) (Nat.le_refl _) _).setCell (p := ⟨w.heap.size, 1, none⟩) (Nat.le_refl _) _).setCell (p := ⟨w.heap.size, 2, none⟩) (Nat.le_refl _) _)
      have I1 : IsStrs wf a1 os := by rw [hwf]; exact isStrs_set3 HC2.out.2.1 (fun b off h1 h2 => HUP.out.1 b off h1 h2) _ _ _
      have I2 : IsStrs wf a2 ps := by rw [hwf]; exact isStrs_set3 HC2.out.2.2.1 (fun b off h1 h2 => HUP.out.2 b off h1 h2) _ _ _
      rw [← hwf]
      clear hwf
      exact bodyPost_ret (v := .tuple #[.string ⟨r.toArray⟩, .string ⟨m8.toArray⟩, .agg #[.int .i64 i, .slice a1 os.length c1, .slice a2 ps.length c2]]) (results_ssc rfl _ _ w.heap.size 30 _ _ rfl F Tryd.underlying30 rfl (by kernel_rfl) (.string ⟨r.toArray⟩) (by rfl) (.string ⟨m8.toArray⟩) (by rfl)) rfl ⟨_, _, i, a1, c1, a2, c2, os, ps, rfl, hm8, lo, lp, HSO.out, HSP.out, I1, I2, BF⟩
  · have K6 := seed_any (w.heap.size + 1) n cap a w5 hn hR5
    have HG5 : Hid (w4.grownBy w5 (some (w.heap.size + 1))) := hG5
    clear hG5 hR5
    go_wp2_with fail
    refine K6.mono ?_
    rintro e w6 ⟨r6, hr6, rfl, hR6, hG6⟩
    have K7 := once_any (w.heap.size + 1) n cap 4 4 a w6 rfl (by omega) (by omega) hn hR6
    have HG6 : Hid (w4.grownBy w6 (some (w.heap.size + 1))) := HG5.out.trans hG6
    clear hG6 hR6 K6
    go_wp2_with fail
    refine K7.mono ?_
    rintro e w7 ⟨t, rfl, hR7, hG7⟩
    have G7 : w4.grownBy w7 (some (w.heap.size + 1)) := HG6.out.trans hG7
    clear K7
    cases t
    · clear hR7
      have C := CAR.out w7 G7
      obtain ⟨r0, r1, r2, rf⟩ := trio_cells C.1
      have rf0 := rf 0
      have rf1 := rf 1
      have rf2 := rf 2
      obtain ⟨q0, q1, q2, _⟩ := trio_cells C.2.1
      have ne : w3.heap.size ≠ w.heap.size := by omega
      have HC2 : Hid (w7.heap[w.heap.size]? = some (.cells #[.int .i64 0, .slice none 0 0, .slice none 0 0] 30 (0, 0)) ∧ IsStrs w7 a1 os ∧ IsStrs w7 a2 ps ∧ Below w.heap.size w w7) := ⟨C.1, (isStrs_own C.2.2.1).2.2, (isStrs_own C.2.2.2.1).2.2, C.2.2.2.2⟩
      clear rf C
      go_wp2_with fail
      go_region
      go_wp2
      obtain ⟨wf, hwf⟩ : ∃ wf, wf = (((w7.setCell ⟨w.heap.size, 0, none⟩ (.int .i64 i)).setCell ⟨w.heap.size, 1, none⟩ (.slice a1 os.length c1)).setCell ⟨w.heap.size, 2, none⟩ (.slice a2 ps.length c2)).drew := ⟨_, rfl⟩
      have F : wf.heap[w.heap.size]? = some (.cells #[.int .i64 i, .slice a1 os.length c1, .slice a2 ps.length c2] 30 (0, 0)) := by rw [hwf]; exact trio_set (j := 2) (trio_set (j := 1) (trio_set (j := 0) HC2.out.1))
      have BF : Below w.heap.size w wf := by rw [hwf]; exact below_drewI (((HC2.out.2.2.2.setCell (p := ⟨w.heap.size, 0, none⟩) (Nat.le_refl _) _).setCell (p := ⟨w.heap.size, 1, none⟩) (Nat.le_refl _) _).setCell (p := ⟨w.heap.size, 2, none⟩) (Nat.le_refl _) _)
      have I1 : IsStrs wf a1 os := by rw [hwf]; exact isStrs_set3 HC2.out.2.1 (fun b off h1 h2 => HUP.out.1 b off h1 h2) _ _ _
      have I2 : IsStrs wf a2 ps := by rw [hwf]; exact isStrs_set3 HC2.out.2.2.1 (fun b off h1 h2 => HUP.out.2 b off h1 h2) _ _ _
      rw [← hwf]
      clear hwf
      exact bodyPost_ret (v := .tuple #[.string ⟨r6.toArray⟩, .string ⟨msg.toArray⟩, .agg #[.int .i64 i, .slice a1 os.length c1, .slice a2 ps.length c2]]) (results_ssc rfl _ _ w.heap.size 30 _ _ rfl F Tryd.underlying30 rfl (by kernel_rfl) (.string ⟨r6.toArray⟩) (by rfl) (.string ⟨msg.toArray⟩) (by rfl)) rfl ⟨_, _, i, a1, c1, a2, c2, os, ps, rfl, hml, lo, lp, HSO.out, HSP.out, I1, I2, BF⟩
    · have K8 := text_any (w.heap.size + 1) n cap a w7 hn hR7
      have HG7 : Hid (w4.grownBy w7 (some (w.heap.size + 1))) := G7
      clear hG7 hR7 G7
      go_wp2_with fail
      refine K8.mono ?_
      rintro e w8 ⟨m8, hm8, rfl, hR8, hG8⟩
      have G8 : w4.grownBy w8 (some (w.heap.size + 1)) := HG7.out.trans hG8
      clear K8 hR8 hG8
      have C := CAR.out w8 G8
      obtain ⟨r0, r1, r2, rf⟩ := trio_cells C.1
      have rf0 := rf 0
      have rf1 := rf 1
      have rf2 := rf 2
      obtain ⟨q0, q1, q2, _⟩ := trio_cells C.2.1
      have ne : w3.heap.size ≠ w.heap.size := by omega
      have HC2 : Hid (w8.heap[w.heap.size]? = some (.cells #[.int .i64 0, .slice none 0 0, .slice none 0 0] 30 (0, 0)) ∧ IsStrs w8 a1 os ∧ IsStrs w8 a2 ps ∧ Below w.heap.size w w8) := ⟨C.1, (isStrs_own C.2.2.1).2.2, (isStrs_own C.2.2.2.1).2.2, C.2.2.2.2⟩
      clear rf C
      go_wp2_with fail
      go_region
      go_wp2
      obtain ⟨wf, hwf⟩ : ∃ wf, wf = (((w8.setCell ⟨w.heap.size, 0, none⟩ (.int .i64 i)).setCell ⟨w.heap.size, 1, none⟩ (.slice a1 os.length c1)).setCell ⟨w.heap.size, 2, none⟩ (.slice a2 ps.length c2)).drew := ⟨_, rfl⟩
      have F : wf.heap[w.heap.size]? = some (.cells #[.int .i64 i, .slice a1 os.length c1, .slice a2 ps.length c2] 30 (0, 0)) := by rw [hwf]; exact trio_set (j := 2) (trio_set (j := 1) (trio_set (j := 0) HC2.out.1))
      have BF : Below w.heap.size w wf := by rw [hwf]; exact below_drewI (((HC2.out.2.2.2.setCell (p := ⟨w.heap.size, 0, none⟩) (Nat.le_refl _) _).setCell (p := ⟨w.heap.size, 1, none⟩) (Nat.le_refl _) _).setCell (p := ⟨w.heap.size, 2, none⟩) (Nat.le_refl _) _)
      have I1 : IsStrs wf a1 os := by rw [hwf]; exact isStrs_set3 HC2.out.2.1 (fun b off h1 h2 => HUP.out.1 b off h1 h2) _ _ _
      have I2 : IsStrs wf a2 ps := by rw [hwf]; exact isStrs_set3 HC2.out.2.2.1 (fun b off h1 h2 => HUP.out.2 b off h1 h2) _ _ _
      rw [← hwf]
      clear hwf
      exact bodyPost_ret (v := .tuple #[.string ⟨r6.toArray⟩, .string ⟨m8.toArray⟩, .agg #[.int .i64 i, .slice a1 os.length c1, .slice a2 ps.length c2]]) (results_ssc rfl _ _ w.heap.size 30 _ _ rfl F Tryd.underlying30 rfl (by kernel_rfl) (.string ⟨r6.toArray⟩) (by rfl) (.string ⟨m8.toArray⟩) (by rfl)) rfl ⟨_, _, i, a1, c1, a2, c2, os, ps, rfl, hm8, lo, lp, HSO.out, HSP.out, I1, I2, BF⟩
end Go.Proofs.YtddjpfgkjijmoaaDoor
