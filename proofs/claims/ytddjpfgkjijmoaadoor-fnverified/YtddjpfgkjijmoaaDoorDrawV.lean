/-
  Contracts: the draws of signatures.
-/
import Derived.Test.YtddjpfgkjijmoaaDoorDrawN
import Derived.Test.YtddjpfgkjijmoaaDoorNextR
namespace Go.Proofs.YtddjpfgkjijmoaaDoor
open Go.RowKit
set_option linter.unusedVariables false

theorem sig_fin {rd n cap br : Nat} {a : Option Addr} {w W : World} {p q r : Value} {t : TypeId} (hR : Rd rd a n cap W) (hG : w.grownBy W (some rd)) (hz : W.heap[br]? = some (.cells #[p, q, r] t (0, 0))) (hbr : w.heap.size ≤ br) (hrd : rd < w.heap.size) (hc : ∀ cb off, a = some ⟨cb, off, none⟩ → n ≠ 0 → cb < w.heap.size) (x y z : Value) :
    (((W.setCell ⟨br, 0, none⟩ x).setCell ⟨br, 1, none⟩ y).setCell ⟨br, 2, none⟩ z).heap[br]? = some (.cells #[x, y, z] t (0, 0)) ∧ Rd rd a n cap (((W.setCell ⟨br, 0, none⟩ x).setCell ⟨br, 1, none⟩ y).setCell ⟨br, 2, none⟩ z) ∧ w.grownBy (((W.setCell ⟨br, 0, none⟩ x).setCell ⟨br, 1, none⟩ y).setCell ⟨br, 2, none⟩ z) (some rd) ∧ (∀ {b e n : Nat} {v : Value} {xs : List Value}, W.ownsRow b e 1 v n xs → (∀ k, v.ownBlock = some k → k ≠ br) → (((W.setCell ⟨br, 0, none⟩ x).setCell ⟨br, 1, none⟩ y).setCell ⟨br, 2, none⟩ z).ownsRow b e 1 v n xs) := by
  refine ⟨trio_set (j := 2) (trio_set (j := 1) (trio_set (j := 0) hz)), ?_, ?_, ?_⟩
  · exact rd_set (rd_set (rd_set hR (by simp; omega) (fun cb off h1 h2 => by have := hc cb off h1 h2; simp; omega) _) (by simp; omega) (fun cb off h1 h2 => by have := hc cb off h1 h2; simp; omega) _) (by simp; omega) (fun cb off h1 h2 => by have := hc cb off h1 h2; simp; omega) _
  · exact grown_new (grown_new (grown_new hG (by simpa using hbr) _) (by simpa using hbr) _) (by simpa using hbr) _
  · intro b e n v xs h hv
    have hne : v.ownBlock ≠ some br := fun e => hv br e rfl
    exact ownsRow_setCell_other (ownsRow_setCell_other (ownsRow_setCell_other h (by simpa using hne) _) (by simpa using hne) _) (by simpa using hne) _
theorem scells_set (ls : List (List UInt8)) (k : Nat) (l : List UInt8) : (scells ls).set k (.string ⟨l.toArray⟩) = scells (ls.set k l) := by simp [scells, List.map_set]
theorem set_short (ls : List (List UInt8)) (k : Nat) (l : List UInt8) (hl : l.length ≤ 32) (h : ∀ x ∈ ls, x.length ≤ 32) : ∀ x ∈ ls.set k l, x.length ≤ 32 := fun x hx => by
  rcases List.mem_or_eq_of_mem_set hx with h' | h'
  · exact h x h'
  · rw [h']; exact hl
theorem sig_short (s msg : List UInt8) (i : Nat) (hs : s.length = 32) : ∀ l ∈ sigL (leafL s i) msg 19, l.length ≤ 32 := fun l hl => by rw [sigL_32 _ _ (leafL_len s i hs) 19 l hl]; omega
theorem path_short (seed : List UInt8) (i : Nat) (hs : seed.length = 32) (hi : i < 4) : ∀ l ∈ pathL seed i, l.length ≤ 32 := by
  have k := fun j => keyL_len seed j hs
  match i, hi with
  | 0, _ => simp only [pathL, List.mem_cons, List.not_mem_nil, or_false]; rintro l (h | h) <;> rw [h]; rw [k 1]; omega; rw [nodeL_len _ _ (k 2) (k 3)]; omega
  | 1, _ => simp only [pathL, List.mem_cons, List.not_mem_nil, or_false]; rintro l (h | h) <;> rw [h]; rw [k 0]; omega; rw [nodeL_len _ _ (k 2) (k 3)]; omega
  | 2, _ => simp only [pathL, List.mem_cons, List.not_mem_nil, or_false]; rintro l (h | h) <;> rw [h]; rw [k 3]; omega; rw [nodeL_len _ _ (k 0) (k 1)]; omega
  | 3, _ => simp only [pathL, List.mem_cons, List.not_mem_nil, or_false]; rintro l (h | h) <;> rw [h]; rw [k 2]; omega; rw [nodeL_len _ _ (k 0) (k 1)]; omega
/-- What the model's SignNext leaves, as far as the draws want it. -/
theorem snext_short (s msg : List UInt8) (u : Int) (w : World) (hl : s.length ≤ 1048576) (hm : msg.length ≤ 1048576) :
    ∃ (us ix : Int) (ok : Bool) (os ps : List (List UInt8)), ((os.length = 19 ∧ ps.length = 2) ∨ (os = [] ∧ ps = [])) ∧ (∀ l ∈ os, l.length ≤ 32) ∧ (∀ l ∈ ps, l.length ≤ 32) ∧
    Calls Tryd.prog 11 #[.agg #[.string ⟨s.toArray⟩, .int .i64 u], .string ⟨msg.toArray⟩] w fun e w' => ∃ a1 m1 c1 a2 m2 c2, e = .returned (.tuple #[.agg #[.string ⟨s.toArray⟩, .int .i64 us], .agg #[.int .i64 ix, .slice a1 m1 c1, .slice a2 m2 c2], .bool ok]) ∧ w'.ownsRow w.heap.size 9 1 (.slice a1 m1 c1) os.length (scells os) ∧ w'.ownsRow w.heap.size 9 1 (.slice a2 m2 c2) ps.length (scells ps) ∧ Below w.heap.size w w' := by
  by_cases h : s.length = 32 ∧ 0 ≤ u ∧ u ≤ 3
  · obtain ⟨i, rfl⟩ := Int.eq_ofNat_of_zero_le h.2.1
    refine ⟨(i : Int) + 1, (i : Int), true, sigL (leafL s i) msg 19, pathL s i, .inl ⟨sigL_length (leafL s i) msg 19, pathL_length s i⟩, sig_short s msg i h.1, path_short s i h.1 (by omega), ?_⟩
    rw [sigL_length, pathL_length]
    refine (spec_next s msg i w h.1 (by omega) hm).mono ?_
    rintro e w1 ⟨g, c, k, d, rfl, o1, o2, b1⟩
    exact ⟨_, _, _, _, _, _, rfl, o1, o2, b1⟩
  · refine ⟨u, 0, false, [], [], .inr ⟨rfl, rfl⟩, by simp, by simp, ?_⟩
    refine (spec_next_no s msg u w hl h).mono ?_
    rintro e w1 ⟨rfl, b1⟩
    exact ⟨none, 0, 0, none, 0, 0, rfl, own_nil _ _ _, own_nil _ _ _, b1⟩
theorem own_after {W : World} {b e j k : Nat} {ls : List (List UInt8)} {l : List UInt8} {v : Value} (h : W.ownsRow b e 1 v ls.length (scells ls)) (hs : ∀ x ∈ ls, x.length ≤ 32) (hl : l.length ≤ 32) :
    ∃ ls' : List (List UInt8), ls'.length = ls.length ∧ (∀ x ∈ ls', x.length ≤ 32) ∧ (W.setCell ⟨k, j, none⟩ (.string ⟨l.toArray⟩)).ownsRow b e 1 v ls.length (scells ls') := by
  by_cases hv : v.ownBlock = some k
  · rcases own_cases h with ⟨rfl, _, _⟩ | ⟨g, cap, rfl, _⟩
    · simp [Value.ownBlock] at hv
    · simp [Value.ownBlock] at hv
      subst hv
      have := (h.stored j (.string ⟨l.toArray⟩)).1
      rw [scells_set] at this
      exact ⟨ls.set j l, by simp, set_short ls j l hl hs, this⟩
  · exact ⟨ls, rfl, hs, ownsRow_setCell_other h (by simpa using hv) _⟩

set_option maxRecDepth 100000 in
set_option maxHeartbeats 4000000 in
theorem signature_any (rd n cap : Nat) (a : Option Addr) (msg : List UInt8) (w : World) (hn : n ≤ 1048576) (hm : msg.length ≤ 1048576) (h : Rd rd a n cap w) :
    Calls Tryd.prog 46 #[.pointer (some ⟨rd, 0, none⟩), .string ⟨msg.toArray⟩] w fun e w' => ∃ (i : Int) (a1 : Option Addr) (m1 c1 : Nat) (a2 : Option Addr) (m2 c2 : Nat) (os ps : List (List UInt8)), e = .returned (.agg #[.int .i64 i, .slice a1 m1 c1, .slice a2 m2 c2]) ∧ os.length ≤ 19 ∧ ps.length ≤ 2 ∧ (∀ l ∈ os, l.length ≤ 32) ∧ (∀ l ∈ ps, l.length ≤ 32) ∧ w'.ownsRow w.heap.size 9 1 (.slice a1 m1 c1) os.length (scells os) ∧ w'.ownsRow w.heap.size 9 1 (.slice a2 m2 c2) ps.length (scells ps) ∧ Rd rd a n cap w' ∧ w.grownBy w' (some rd) := by
  have hrd := h.lt
  have HC : Hid (∀ cb off, a = some ⟨cb, off, none⟩ → n ≠ 0 → cb < w.heap.size) := h.code
  have hR0 := h.keptNone ((Below.refl w.heap.size w).alloc (Nat.le_refl _) (.cells #[.int .i64 0, .slice none 0 0, .slice none 0 0] 30))
  have K1 := signer_any rd n cap a _ hn hR0
  have z0 := heap_alloc_new w (.cells #[.int .i64 0, .slice none 0 0, .slice none 0 0] 30)
  clear h hR0
  go_enter Tryd.func46, Tryd.ntmps46
  go_wp2_with fail
  refine K1.mono ?_
  rintro e w1 ⟨s, u, hs, rfl, hR1, hG1⟩
  have s1 : w.heap.size < w1.heap.size := by have := hG1.size; simp at this; omega
  have G1 : w.grownBy w1 (some rd) := (World.grownBy_alloc w _ (some rd)).trans hG1
  have z1 := (hG1.block w.heap.size (by simp) (by simp; omega)).trans z0
  obtain ⟨us, ix, ok, os, ps, hlen, hso, hsp, K2⟩ := snext_short s msg u w1 (by omega) hm
  have HSO : Hid (∀ l ∈ os, l.length ≤ 32) := hso
  have HSP : Hid (∀ l ∈ ps, l.length ≤ 32) := hsp
  clear K1 hG1 z0 hso hsp
  go_wp2_with fail
  refine K2.mono ?_
  rintro e w2 ⟨a1, m1, c1, a2, m2, c2, rfl, o1, o2, b2⟩
  have s2 := b2.size
  have up1 : ∀ k, (Value.slice a1 m1 c1).ownBlock = some k → w1.heap.size ≤ k ∧ k < w2.heap.size := fun k hk => o1.lt k hk
  have up2 : ∀ k, (Value.slice a2 m2 c2).ownBlock = some k → w1.heap.size ≤ k ∧ k < w2.heap.size := fun k hk => o2.lt k hk
  have hr1 := isStrs_own o1
  have hr2 := isStrs_own o2
  have e1 : m1 = os.length := hr1.1
  have e2 : m2 = ps.length := hr2.1
  subst e1 e2
  obtain ⟨wa, hwa⟩ : ∃ wa, wa = (w2.alloc (.cells #[.string ⟨s.toArray⟩, .int .i64 us] 25)).alloc (.cells #[.int .i64 ix, .slice a1 os.length c1, .slice a2 ps.length c2] 30) := ⟨_, rfl⟩
  have ba : Below w2.heap.size w2 wa := by rw [hwa]; exact ((Below.refl _ _).alloc (Nat.le_refl _) _).alloc (by simp) _
  have sa : wa.heap.size = w2.heap.size + 2 := by rw [hwa]; simp
  have za : wa.heap[w.heap.size]? = some (.cells #[.int .i64 0, .slice none 0 0, .slice none 0 0] 30 (0, 0)) := (ba.block _ (by omega)).trans ((b2.block _ (by omega)).trans z1)
  have ya : wa.heap[w2.heap.size + 1]? = some (.cells #[.int .i64 ix, .slice a1 os.length c1, .slice a2 ps.length c2] 30 (0, 0)) := by rw [hwa]; exact new_at _ (by simp) _
  have Ga : w.grownBy wa (some rd) := grown_more G1 (row' := none) (w2 := wa) ⟨ba.os.trans b2.os, ba.tape.trans b2.tape, ba.output.trans b2.output, by omega, fun k hk _ => (ba.block k (by omega)).trans (b2.block k hk)⟩ (by simp)
  have Ra : Rd rd a n cap wa := (hR1.keptNone b2).keptNone ba
  have Oa1 := hidOwn (keptO o1 ba)
  have Oa2 := hidOwn (keptO o2 ba)
  have K3 := below_any rd n cap 10 10 a wa rfl (by omega) (by omega) hn Ra
  rw [hwa] at K3
  clear K2 z1 G1 hR1 o1 o2 b2 Ra hr1 hr2
  go_wp2_with fail
  refine K3.mono ?_
  rintro e w3 ⟨y, hy, rfl, hR3, hG3⟩
  rw [← hwa] at hG3
  have s3 := hG3.size
  have G3 : w.grownBy w3 (some rd) := grown_more Ga hG3 (by simp)
  have z3 := (hG3.block w.heap.size (by omega) (by simp; omega)).trans za
  have y3 := (hG3.block (w2.heap.size + 1) (by omega) (by simp; omega)).trans ya
  have O31 := hidOwn (Oa1.out.kept hG3 (by cases hv : (Value.slice a1 os.length c1).ownBlock with | none => exact .inl rfl | some k => exact .inr (fun e => by have := up1 k hv; simp at e; omega)))
  have O32 := hidOwn (Oa2.out.kept hG3 (by cases hv : (Value.slice a2 ps.length c2).ownBlock with | none => exact .inl rfl | some k => exact .inr (fun e => by have := up2 k hv; simp at e; omega)))
  have HR3 : Hid (Rd rd a n cap w3) := hR3
  have HG3 : Hid (w.grownBy w3 (some rd)) := G3
  have HZ3 : Hid (w3.heap[w.heap.size]? = some (.cells #[.int .i64 0, .slice none 0 0, .slice none 0 0] 30 (0, 0)) ∧ w3.heap[w2.heap.size + 1]? = some (.cells #[.int .i64 ix, .slice a1 os.length c1, .slice a2 ps.length c2] 30 (0, 0))) := ⟨z3, y3⟩
  have sw3 : w2.heap.size + 2 ≤ w3.heap.size := by omega
  have HUP : Hid ((∀ k, (Value.slice a1 os.length c1).ownBlock = some k → w1.heap.size ≤ k ∧ k < w2.heap.size) ∧ ∀ k, (Value.slice a2 ps.length c2).ownBlock = some k → w1.heap.size ≤ k ∧ k < w2.heap.size) := ⟨up1, up2⟩
  have HLEN : Hid ((os.length = 19 ∧ ps.length = 2) ∨ (os = [] ∧ ps = [])) := hlen
  clear K3 hG3 hR3 G3 z3 y3 za ya Ga Oa1 Oa2 hwa ba up1 up2 hlen
  -- the end: the signature in its block goes out
  have fin : ∀ (W : World) (i : Int) (os' ps' : List (List UInt8)), os'.length = os.length → ps'.length = ps.length → (∀ l ∈ os', l.length ≤ 32) → (∀ l ∈ ps', l.length ≤ 32) → Rd rd a n cap W → w.grownBy W (some rd) → W.heap[w.heap.size]? = some (.cells #[.int .i64 0, .slice none 0 0, .slice none 0 0] 30 (0, 0)) → W.ownsRow w1.heap.size 9 1 (.slice a1 os.length c1) os.length (scells os') → W.ownsRow w1.heap.size 9 1 (.slice a2 ps.length c2) ps.length (scells ps') →
      (((W.setCell ⟨w.heap.size, 0, none⟩ (.int .i64 i)).setCell ⟨w.heap.size, 1, none⟩ (.slice a1 os.length c1)).setCell ⟨w.heap.size, 2, none⟩ (.slice a2 ps.length c2)).heap[w.heap.size]? = some (.cells #[.int .i64 i, .slice a1 os.length c1, .slice a2 ps.length c2] 30 (0, 0)) ∧
      ∃ (i' : Int) (a1' : Option Addr) (m1' c1' : Nat) (a2' : Option Addr) (m2' c2' : Nat) (os2 ps2 : List (List UInt8)), Ending.returned (.agg #[.int .i64 i, .slice a1 os.length c1, .slice a2 ps.length c2]) = .returned (.agg #[.int .i64 i', .slice a1' m1' c1', .slice a2' m2' c2']) ∧ os2.length ≤ 19 ∧ ps2.length ≤ 2 ∧ (∀ l ∈ os2, l.length ≤ 32) ∧ (∀ l ∈ ps2, l.length ≤ 32) ∧ (((W.setCell ⟨w.heap.size, 0, none⟩ (.int .i64 i)).setCell ⟨w.heap.size, 1, none⟩ (.slice a1 os.length c1)).setCell ⟨w.heap.size, 2, none⟩ (.slice a2 ps.length c2)).ownsRow w.heap.size 9 1 (.slice a1' m1' c1') os2.length (scells os2) ∧ (((W.setCell ⟨w.heap.size, 0, none⟩ (.int .i64 i)).setCell ⟨w.heap.size, 1, none⟩ (.slice a1 os.length c1)).setCell ⟨w.heap.size, 2, none⟩ (.slice a2 ps.length c2)).ownsRow w.heap.size 9 1 (.slice a2' m2' c2') ps2.length (scells ps2) ∧ Rd rd a n cap (((W.setCell ⟨w.heap.size, 0, none⟩ (.int .i64 i)).setCell ⟨w.heap.size, 1, none⟩ (.slice a1 os.length c1)).setCell ⟨w.heap.size, 2, none⟩ (.slice a2 ps.length c2)) ∧ w.grownBy (((W.setCell ⟨w.heap.size, 0, none⟩ (.int .i64 i)).setCell ⟨w.heap.size, 1, none⟩ (.slice a1 os.length c1)).setCell ⟨w.heap.size, 2, none⟩ (.slice a2 ps.length c2)) (some rd) := by
    intro W i os' ps' h1 h2 h3 h4 hR hG hz ho hp
    obtain ⟨f1, f2, f3, f4⟩ := sig_fin hR hG hz (Nat.le_refl _) hrd HC.out (.int .i64 i) (.slice a1 os.length c1) (.slice a2 ps.length c2)
    have hl := HLEN.out
    refine ⟨f1, i, a1, os.length, c1, a2, ps.length, c2, os', ps', rfl, ?_, ?_, h3, h4, ?_, ?_, f2, f3⟩
    · rcases hl with h | h
      · omega
      · rw [h1, h.1]; simp
    · rcases hl with h | h
      · omega
      · rw [h2, h.2]; simp
    · rw [h1]; exact (f4 ho (fun k hk => by have := HUP.out.1 k hk; omega)).mono (by omega)
    · rw [h2]; exact (f4 hp (fun k hk => by have := HUP.out.2 k hk; omega)).mono (by omega)
  have HF : Hid _ := fin
  clear fin
  have CAR : Hid (∀ w', w3.grownBy w' (some rd) → w'.heap[w.heap.size]? = some (.cells #[.int .i64 0, .slice none 0 0, .slice none 0 0] 30 (0, 0)) ∧ w'.heap[w2.heap.size + 1]? = some (.cells #[.int .i64 ix, .slice a1 os.length c1, .slice a2 ps.length c2] 30 (0, 0)) ∧ w'.ownsRow w1.heap.size 9 1 (.slice a1 os.length c1) os.length (scells os) ∧ w'.ownsRow w1.heap.size 9 1 (.slice a2 ps.length c2) ps.length (scells ps) ∧ w.grownBy w' (some rd)) := fun w' hG =>
    ⟨(hG.block _ (by omega) (by simp; omega)).trans HZ3.out.1, (hG.block _ (by omega) (by simp; omega)).trans HZ3.out.2,
      O31.out.kept hG (by cases hv : (Value.slice a1 os.length c1).ownBlock with | none => exact .inl rfl | some k => exact .inr (fun e => by have := HUP.out.1 k hv; simp at e; omega)),
      O32.out.kept hG (by cases hv : (Value.slice a2 ps.length c2).ownBlock with | none => exact .inl rfl | some k => exact .inr (fun e => by have := HUP.out.2 k hv; simp at e; omega)),
      grown_more HG3.out hG (by simp)⟩
  by_cases y0 : y = 0
  · subst y0
    have K4 := off_any rd n cap 3 3 a w3 rfl (by omega) hn HR3.out
    obtain ⟨_, _, _, pf⟩ := trio_cells HZ3.out.2
    go_wp2_with fail
    refine K4.mono ?_
    rintro e w4 ⟨x, rfl, hR4, hG4⟩
    have C4 := CAR.out w4 hG4
    have y5 := trio_set (j := 0) (y := .int .i64 x) C4.2.1
    have z5 : (w4.setCell ⟨w2.heap.size + 1, 0, none⟩ (.int .i64 x)).heap[w.heap.size]? = some (.cells #[.int .i64 0, .slice none 0 0, .slice none 0 0] 30 (0, 0)) := (Below.heap_setCell _ _ _ _ (by simp; omega)).trans C4.1
    have o51 : (w4.setCell ⟨w2.heap.size + 1, 0, none⟩ (.int .i64 x)).ownsRow w1.heap.size 9 1 (.slice a1 os.length c1) os.length (scells os) := ownsRow_setCell_other C4.2.2.1 (fun e => by have := HUP.out.1 _ e; simp at this; omega) _
    have o52 : (w4.setCell ⟨w2.heap.size + 1, 0, none⟩ (.int .i64 x)).ownsRow w1.heap.size 9 1 (.slice a2 ps.length c2) ps.length (scells ps) := ownsRow_setCell_other C4.2.2.2.1 (fun e => by have := HUP.out.2 _ e; simp at this; omega) _
    have H5 : Hid (Rd rd a n cap (w4.setCell ⟨w2.heap.size + 1, 0, none⟩ (.int .i64 x)) ∧ w.grownBy (w4.setCell ⟨w2.heap.size + 1, 0, none⟩ (.int .i64 x)) (some rd) ∧ (w4.setCell ⟨w2.heap.size + 1, 0, none⟩ (.int .i64 x)).heap[w.heap.size]? = some (.cells #[.int .i64 0, .slice none 0 0, .slice none 0 0] 30 (0, 0)) ∧ (w4.setCell ⟨w2.heap.size + 1, 0, none⟩ (.int .i64 x)).ownsRow w1.heap.size 9 1 (.slice a1 os.length c1) os.length (scells os) ∧ (w4.setCell ⟨w2.heap.size + 1, 0, none⟩ (.int .i64 x)).ownsRow w1.heap.size 9 1 (.slice a2 ps.length c2) ps.length (scells ps)) := ⟨rd_set hR4 (by simp; omega) (fun cb off h1 h2 => by have := HC.out cb off h1 h2; simp; omega) _, grown_new C4.2.2.2.2 (by simp; omega) _, z5, o51, o52⟩
    obtain ⟨u0, u1, u2, uf⟩ := trio_cells C4.2.1
    have uf0 := uf 0
    have ne : w2.heap.size + 1 ≠ w.heap.size := by omega
    obtain ⟨r0, r1, r2, rf⟩ := trio_cells z5
    have rf0 := rf 0
    have rf1 := rf 1
    have rf2 := rf 2
    obtain ⟨q0, q1, q2, qf⟩ := trio_cells y5
    clear K4 hG4 hR4 C4 uf rf qf y5 z5 pf o51 o52
    go_wp2
    obtain ⟨F1, F2⟩ := HF.out _ x os ps rfl rfl HSO.out HSP.out H5.out.1 H5.out.2.1 H5.out.2.2.1 H5.out.2.2.2.1 H5.out.2.2.2.2
    exact bodyPost_ret (v := .agg #[.int .i64 x, .slice a1 os.length c1, .slice a2 ps.length c2]) (results_cell_row rfl _ _ w.heap.size 30 _ (0, 0) _ rfl F1 Tryd.underlying30 rfl (by kernel_rfl)) rfl F2
  · have y0' : ((y : Int) == 0) = false := by simp only [beq_eq_false_iff_ne, ne_eq]; omega
    by_cases y1 : y = 1
    · subst y1
      rcases HLEN.out with ⟨hl1, hl2⟩ | ⟨hl1, hl2⟩
      · have HL1 : Hid (os.length = 19) := hl1
        have HL2 : Hid (ps.length = 2) := hl2
        clear hl1 hl2
        obtain ⟨_, gg, hgg⟩ := own_some O32.out (by have := HL2.out; omega)
        have hup := HUP.out.2 gg (by rw [hgg]; simp [Value.ownBlock])
        have K4 := below_any rd n cap 2 (ps.length : Int) a w3.drew (by have := HL2.out; omega) (by omega) (by omega) hn (HR3.out.keptNone ⟨rfl, rfl, rfl, Nat.le_refl _, fun _ _ => rfl⟩)
        obtain ⟨_, p3b, p3c, _⟩ := trio_cells HZ3.out.2
        have hpos : (0 : Int) < (ps.length : Int) := by have := HL2.out; omega
        have neb : gg ≠ w2.heap.size + 1 := by omega
        have ne : w2.heap.size + 1 ≠ w.heap.size := by omega
        go_wp2_with fail
        go_region_held3 (fun w' => w'.cell? ⟨w2.heap.size + 1, 2, none⟩ = some (.slice a2 ps.length c2))
          (first | assumption | (with_reducible exact (World.cell?_of_block (Below.heap_setCell _ _ _ _ (by simp; omega))).trans (by assumption)) | go_keep)
          (first
            | (go_at_call 49
               refine K5.mono ?_
               rintro e w5 ⟨ll, hll, rfl, hR5, hG5⟩
               have G5 : w3.grownBy w5 (some rd) := grown_more G4 hG5 (by simp)
               have d5 := (CAR.out w5 G5).2.1
               obtain ⟨_, e5b, e5c, _⟩ := trio_cells d5
               have o5 := (CAR.out w5 G5).2.2.2.1
               have hcell : ∃ o, w5.cell? ⟨gg, yy, none⟩ = some o := (by rw [hgg] at o5; rw [o5.cellAt yy (by have := HL2.out; omega)]; exact ⟨_, List.getElem?_eq_getElem (by rw [scells_length]; have := HL2.out; omega)⟩)
               obtain ⟨oo, hoo⟩ := hcell
               have hfr : w5.frozen? ⟨gg, yy, none⟩ = false := (by rw [hgg] at o5; exact o5.frozenAt yy)
               have H5 : Hid (Rd rd a n cap w5 ∧ w3.grownBy w5 (some rd)) := ⟨hR5, G5⟩
               clear o5 d5 hR5 hG5 G5)
            | (go_at_call 56
               refine K4.mono ?_
               rintro e w4 ⟨yy, hyy, rfl, hR4, hG4⟩
               have G4 : w3.grownBy w4 (some rd) := ⟨hG4.os, hG4.tape, hG4.output, hG4.size, hG4.block⟩
               obtain ⟨_, e4b, e4c, _⟩ := trio_cells (CAR.out w4 G4).2.1
               have K5 := seed_any rd n cap a w4 hn hR4
               have hyi : (yy : Int) < (ps.length : Int) := (by have := HL2.out; omega)
               have hy0 : (0 : Int) ≤ (yy : Int) := (by omega)
               clear hR4 hG4))
        all_goals
          have C5 := CAR.out w5 H5.out.2
          obtain ⟨os', hos1, hos2, hos3⟩ := own_after (k := gg) (j := yy) (l := ll) C5.2.2.1 HSO.out hll
          obtain ⟨ps', hps1, hps2, hps3⟩ := own_after (k := gg) (j := yy) (l := ll) C5.2.2.2.1 HSP.out hll
          have R6 : Rd rd a n cap (w5.setCell ⟨gg, yy, none⟩ (.string ⟨ll.toArray⟩)) := rd_set H5.out.1 (by simp; omega) (fun cb off h1 h2 => by have := HC.out cb off h1 h2; simp; omega) _
          have G6 : w.grownBy (w5.setCell ⟨gg, yy, none⟩ (.string ⟨ll.toArray⟩)) (some rd) := grown_new C5.2.2.2.2 (by simp; omega) _
          have z6 : (w5.setCell ⟨gg, yy, none⟩ (.string ⟨ll.toArray⟩)).heap[w.heap.size]? = some (.cells #[.int .i64 0, .slice none 0 0, .slice none 0 0] 30 (0, 0)) := (Below.heap_setCell _ _ _ _ (by simp; omega)).trans C5.1
          have y6 : (w5.setCell ⟨gg, yy, none⟩ (.string ⟨ll.toArray⟩)).heap[w2.heap.size + 1]? = some (.cells #[.int .i64 ix, .slice a1 os.length c1, .slice a2 ps.length c2] 30 (0, 0)) := (Below.heap_setCell _ _ _ _ (by simp; omega)).trans C5.2.1
          have H6 : Hid (Rd rd a n cap (w5.setCell ⟨gg, yy, none⟩ (.string ⟨ll.toArray⟩)) ∧ w.grownBy (w5.setCell ⟨gg, yy, none⟩ (.string ⟨ll.toArray⟩)) (some rd) ∧ (w5.setCell ⟨gg, yy, none⟩ (.string ⟨ll.toArray⟩)).heap[w.heap.size]? = some (.cells #[.int .i64 0, .slice none 0 0, .slice none 0 0] 30 (0, 0)) ∧ (w5.setCell ⟨gg, yy, none⟩ (.string ⟨ll.toArray⟩)).ownsRow w1.heap.size 9 1 (.slice a1 os.length c1) os.length (scells os') ∧ (w5.setCell ⟨gg, yy, none⟩ (.string ⟨ll.toArray⟩)).ownsRow w1.heap.size 9 1 (.slice a2 ps.length c2) ps.length (scells ps')) := ⟨R6, G6, z6, hos3, hps3⟩
          have HQ : Hid ((∀ l ∈ os', l.length ≤ 32) ∧ ∀ l ∈ ps', l.length ≤ 32) := ⟨hos2, hps2⟩
          obtain ⟨r0, r1, r2, rf⟩ := trio_cells z6
          have rf0 := rf 0
          have rf1 := rf 1
          have rf2 := rf 2
          obtain ⟨q0, q1, q2, qf⟩ := trio_cells y6
          clear rf qf C5 hos2 hos3 hps2 hps3 R6 G6 z6 y6 K4 K5
          go_wp2
          rw [← hgg]
          obtain ⟨F1, F2⟩ := HF.out _ ix os' ps' hos1 hps1 HQ.out.1 HQ.out.2 H6.out.1 H6.out.2.1 H6.out.2.2.1 H6.out.2.2.2.1 H6.out.2.2.2.2
          exact bodyPost_ret (v := .agg #[.int .i64 ix, .slice a1 os.length c1, .slice a2 ps.length c2]) (results_cell_row rfl _ _ w.heap.size 30 _ (0, 0) _ rfl F1 Tryd.underlying30 rfl (by kernel_rfl)) rfl F2
      · have HE1 : Hid (os = [] ∧ ps = []) := ⟨hl1, hl2⟩
        have hp0 : ¬ (0 : Int) < (ps.length : Int) := by rw [hl2]; simp
        clear hl1 hl2
        obtain ⟨r0, r1, r2, rf⟩ := trio_cells HZ3.out.1
        have rf0 := rf 0
        have rf1 := rf 1
        have rf2 := rf 2
        obtain ⟨q0, q1, q2, qf⟩ := trio_cells HZ3.out.2
        clear rf qf
        have ne : w2.heap.size + 1 ≠ w.heap.size := by omega
        go_wp2
        obtain ⟨F1, F2⟩ := HF.out w3 ix os ps rfl rfl HSO.out HSP.out HR3.out HG3.out HZ3.out.1 O31.out O32.out
        exact bodyPost_ret (v := .agg #[.int .i64 ix, .slice a1 os.length c1, .slice a2 ps.length c2]) (results_cell_row rfl _ _ w.heap.size 30 _ (0, 0) _ rfl F1 Tryd.underlying30 rfl (by kernel_rfl)) rfl F2
    · have y1' : ((y : Int) == 1) = false := by simp only [beq_eq_false_iff_ne, ne_eq]; omega
      by_cases y2 : y = 2
      · subst y2
        rcases HLEN.out with ⟨hl1, hl2⟩ | ⟨hl1, hl2⟩
        · have HL1 : Hid (os.length = 19) := hl1
          have HL2 : Hid (ps.length = 2) := hl2
          clear hl1 hl2
          obtain ⟨_, gg, hgg⟩ := own_some O31.out (by have := HL1.out; omega)
          have hup := HUP.out.1 gg (by rw [hgg]; simp [Value.ownBlock])
          have K4 := below_any rd n cap 19 (os.length : Int) a w3.drew (by have := HL1.out; omega) (by omega) (by omega) hn (HR3.out.keptNone ⟨rfl, rfl, rfl, Nat.le_refl _, fun _ _ => rfl⟩)
          obtain ⟨_, p3b, p3c, _⟩ := trio_cells HZ3.out.2
          have hpos : (0 : Int) < (os.length : Int) := by have := HL1.out; omega
          have neb : gg ≠ w2.heap.size + 1 := by omega
          have ne : w2.heap.size + 1 ≠ w.heap.size := by omega
          go_wp2_with fail
          go_region_held3 (fun w' => w'.cell? ⟨w2.heap.size + 1, 1, none⟩ = some (.slice a1 os.length c1))
            (first | assumption | (with_reducible exact (World.cell?_of_block (Below.heap_setCell _ _ _ _ (by simp; omega))).trans (by assumption)) | go_keep)
            (first
              | (go_at_call 49
                 refine K5.mono ?_
                 rintro e w5 ⟨ll, hll, rfl, hR5, hG5⟩
                 have G5 : w3.grownBy w5 (some rd) := grown_more G4 hG5 (by simp)
                 have d5 := (CAR.out w5 G5).2.1
                 obtain ⟨_, e5b, e5c, _⟩ := trio_cells d5
                 have o5 := (CAR.out w5 G5).2.2.1
                 have hcell : ∃ o, w5.cell? ⟨gg, yy, none⟩ = some o := (by rw [hgg] at o5; rw [o5.cellAt yy (by have := HL1.out; omega)]; exact ⟨_, List.getElem?_eq_getElem (by rw [scells_length]; have := HL1.out; omega)⟩)
                 obtain ⟨oo, hoo⟩ := hcell
                 have hfr : w5.frozen? ⟨gg, yy, none⟩ = false := (by rw [hgg] at o5; exact o5.frozenAt yy)
                 have H5 : Hid (Rd rd a n cap w5 ∧ w3.grownBy w5 (some rd)) := ⟨hR5, G5⟩
                 clear o5 d5 hR5 hG5 G5)
              | (go_at_call 56
                 refine K4.mono ?_
                 rintro e w4 ⟨yy, hyy, rfl, hR4, hG4⟩
                 have G4 : w3.grownBy w4 (some rd) := ⟨hG4.os, hG4.tape, hG4.output, hG4.size, hG4.block⟩
                 obtain ⟨_, e4b, e4c, _⟩ := trio_cells (CAR.out w4 G4).2.1
                 have K5 := seed_any rd n cap a w4 hn hR4
                 have hyi : (yy : Int) < (os.length : Int) := (by have := HL1.out; omega)
                 have hy0 : (0 : Int) ≤ (yy : Int) := (by omega)
                 clear hR4 hG4))
          all_goals
            have C5 := CAR.out w5 H5.out.2
            obtain ⟨os', hos1, hos2, hos3⟩ := own_after (k := gg) (j := yy) (l := ll) C5.2.2.1 HSO.out hll
            obtain ⟨ps', hps1, hps2, hps3⟩ := own_after (k := gg) (j := yy) (l := ll) C5.2.2.2.1 HSP.out hll
            have R6 : Rd rd a n cap (w5.setCell ⟨gg, yy, none⟩ (.string ⟨ll.toArray⟩)) := rd_set H5.out.1 (by simp; omega) (fun cb off h1 h2 => by have := HC.out cb off h1 h2; simp; omega) _
            have G6 : w.grownBy (w5.setCell ⟨gg, yy, none⟩ (.string ⟨ll.toArray⟩)) (some rd) := grown_new C5.2.2.2.2 (by simp; omega) _
            have z6 : (w5.setCell ⟨gg, yy, none⟩ (.string ⟨ll.toArray⟩)).heap[w.heap.size]? = some (.cells #[.int .i64 0, .slice none 0 0, .slice none 0 0] 30 (0, 0)) := (Below.heap_setCell _ _ _ _ (by simp; omega)).trans C5.1
            have y6 : (w5.setCell ⟨gg, yy, none⟩ (.string ⟨ll.toArray⟩)).heap[w2.heap.size + 1]? = some (.cells #[.int .i64 ix, .slice a1 os.length c1, .slice a2 ps.length c2] 30 (0, 0)) := (Below.heap_setCell _ _ _ _ (by simp; omega)).trans C5.2.1
            have H6 : Hid (Rd rd a n cap (w5.setCell ⟨gg, yy, none⟩ (.string ⟨ll.toArray⟩)) ∧ w.grownBy (w5.setCell ⟨gg, yy, none⟩ (.string ⟨ll.toArray⟩)) (some rd) ∧ (w5.setCell ⟨gg, yy, none⟩ (.string ⟨ll.toArray⟩)).heap[w.heap.size]? = some (.cells #[.int .i64 0, .slice none 0 0, .slice none 0 0] 30 (0, 0)) ∧ (w5.setCell ⟨gg, yy, none⟩ (.string ⟨ll.toArray⟩)).ownsRow w1.heap.size 9 1 (.slice a1 os.length c1) os.length (scells os') ∧ (w5.setCell ⟨gg, yy, none⟩ (.string ⟨ll.toArray⟩)).ownsRow w1.heap.size 9 1 (.slice a2 ps.length c2) ps.length (scells ps')) := ⟨R6, G6, z6, hos3, hps3⟩
            have HQ : Hid ((∀ l ∈ os', l.length ≤ 32) ∧ ∀ l ∈ ps', l.length ≤ 32) := ⟨hos2, hps2⟩
            obtain ⟨r0, r1, r2, rf⟩ := trio_cells z6
            have rf0 := rf 0
            have rf1 := rf 1
            have rf2 := rf 2
            obtain ⟨q0, q1, q2, qf⟩ := trio_cells y6
            clear rf qf C5 hos2 hos3 hps2 hps3 R6 G6 z6 y6 K4 K5
            go_wp2
            rw [← hgg]
            obtain ⟨F1, F2⟩ := HF.out _ ix os' ps' hos1 hps1 HQ.out.1 HQ.out.2 H6.out.1 H6.out.2.1 H6.out.2.2.1 H6.out.2.2.2.1 H6.out.2.2.2.2
            exact bodyPost_ret (v := .agg #[.int .i64 ix, .slice a1 os.length c1, .slice a2 ps.length c2]) (results_cell_row rfl _ _ w.heap.size 30 _ (0, 0) _ rfl F1 Tryd.underlying30 rfl (by kernel_rfl)) rfl F2
        · have HE1 : Hid (os = [] ∧ ps = []) := ⟨hl1, hl2⟩
          have hp0 : ¬ (0 : Int) < (os.length : Int) := by rw [hl1]; simp
          clear hl1 hl2
          obtain ⟨r0, r1, r2, rf⟩ := trio_cells HZ3.out.1
          have rf0 := rf 0
          have rf1 := rf 1
          have rf2 := rf 2
          obtain ⟨q0, q1, q2, qf⟩ := trio_cells HZ3.out.2
          clear rf qf
          have ne : w2.heap.size + 1 ≠ w.heap.size := by omega
          go_wp2
          obtain ⟨F1, F2⟩ := HF.out w3 ix os ps rfl rfl HSO.out HSP.out HR3.out HG3.out HZ3.out.1 O31.out O32.out
          exact bodyPost_ret (v := .agg #[.int .i64 ix, .slice a1 os.length c1, .slice a2 ps.length c2]) (results_cell_row rfl _ _ w.heap.size 30 _ (0, 0) _ rfl F1 Tryd.underlying30 rfl (by kernel_rfl)) rfl F2
      · have y2' : ((y : Int) == 2) = false := by simp only [beq_eq_false_iff_ne, ne_eq]; omega
        obtain ⟨r0, r1, r2, rf⟩ := trio_cells HZ3.out.1
        have rf0 := rf 0
        have rf1 := rf 1
        have rf2 := rf 2
        obtain ⟨q0, q1, q2, qf⟩ := trio_cells HZ3.out.2
        clear rf qf
        have ne : w2.heap.size + 1 ≠ w.heap.size := by omega
        go_wp2
        obtain ⟨F1, F2⟩ := HF.out w3 ix os ps rfl rfl HSO.out HSP.out HR3.out HG3.out HZ3.out.1 O31.out O32.out
        exact bodyPost_ret (v := .agg #[.int .i64 ix, .slice a1 os.length c1, .slice a2 ps.length c2]) (results_cell_row rfl _ _ w.heap.size 30 _ (0, 0) _ rfl F1 Tryd.underlying30 rfl (by kernel_rfl)) rfl F2
end Go.Proofs.YtddjpfgkjijmoaaDoor
