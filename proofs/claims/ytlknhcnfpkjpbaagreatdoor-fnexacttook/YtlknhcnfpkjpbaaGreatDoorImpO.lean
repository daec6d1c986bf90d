/-
  Contracts: imports: their sizes and copies (the laws' helpers), ImportOk and Imported of both sides (written by mkimpo.py).
-/
import Derived.Test.YtlknhcnfpkjpbaaGreatDoorImp
import Derived.Test.YtlknhcnfpkjpbaaGreatDoorLaidAll
import Derived.Test.YtlknhcnfpkjpbaaGreatDoorOpen5
import Derived.Lib.SmallJoins
namespace Go.Proofs.YtlknhcnfpkjpbaaGreatDoor
open Go.ChangeShapes Go.WideShapes Go.ChangeAt Go.RowKit
set_option linter.unusedVariables false

set_option maxRecDepth 100000 in
set_option maxHeartbeats 400000 in
theorem szPairS_gen (L : Nat) (hL : L ≤ 1048576) (a : Option Addr) (cap : Nat) (ps : List PairL) (w : World) (hl : ps.length ≤ 9223372036854775807) (hm : ∀ p ∈ ps, p.1.length ≤ 9223372036854775807 ∧ p.2.length ≤ 9223372036854775807) (hs : IsPairs w a ps) :
    Calls Tryz.prog 34 #[.slice a ps.length cap, .int .i64 (L : Int)] w fun e w' => (e = .returned (.int .i64 (-1)) ∨ (ps.length + sizeP ps ≤ L ∧ ∃ n : Nat, n ≤ L ∧ e = .returned (.int .i64 (n : Int)))) ∧ Below w.heap.size w w' := by
  by_cases hb : ps.length ≤ L
  · rcases hs with rfl | ⟨b, off, rfl, hc⟩
    · go_enter Tryz.func34, Tryz.ntmps34
      go_wp2
      refine wp_loop_rounds 1 ?_
      rw [rounds_succ]
      go_wp2
      go_ret
      exact ⟨.inr ⟨by simp [sizeP], L, Nat.le_refl _, rfl⟩, Below.refl _ _⟩
    · have hm' : ∀ j (h : j < ps.length), ps[j].1.length ≤ 9223372036854775807 ∧ ps[j].2.length ≤ 9223372036854775807 := fun j h => hm _ (List.getElem_mem _)
      clear hm
      go_enter Tryz.func34, Tryz.ntmps34
      go_wp2
      go_loopw [1, 5] (fun v i wr => ∃ j q : Nat, j ≤ ps.length ∧ i = .int .i64 (j : Int) ∧ v = .int .i64 (q : Int) ∧ q + ps.length + sizeP (ps.take j) = L ∧ Below w.heap.size w wr) (fun _ i _ => ps.length - (intOf i).toNat)
      case atStart => exact ⟨0, L - ps.length, Nat.zero_le _, rfl, by simp; omega, by simp [sizeP]; omega, Below.refl _ _⟩
      case round =>
        obtain ⟨j, q, hj, rfl, rfl, hq, hbel⟩ := hrel
        have hsz := hbel.size
        by_cases hlt : j < ps.length
        · have c1 := (hbel.cell (p := ⟨b, off + j * 2, none⟩) (World.block_lt_of_cell? w _ (hc j hlt).1)).trans (hc j hlt).1
          have c2 := (hbel.cell (p := ⟨b, off + j * 2 + 1, none⟩) (World.block_lt_of_cell? w _ (hc j hlt).2)).trans (hc j hlt).2
          have m1 := hm' j hlt
          have HS : Hid (sizeP (ps.take (j + 1)) = sizeP (ps.take j) + (ps[j].1.length + ps[j].2.length)) := sizeP_snoc ps j hlt
          have hj0 : (0 : Int) ≤ (j : Int) := by omega
          have hj1 : (j : Int) < (ps.length : Int) := by omega
          have hqs : q ≤ 1048576 := by omega
          have HQ : Hid (q + ps.length + sizeP (ps.take j) = L) := hq
          obtain ⟨x, hx⟩ : ∃ x, x = ps[j].1 := ⟨_, rfl⟩
          obtain ⟨y, hy⟩ : ∃ y, y = ps[j].2 := ⟨_, rfl⟩
          rw [← hx] at c1 m1 HS
          rw [← hy] at c2 m1 HS
          have K := fun W => szPair_any x y q W hqs m1.1 m1.2
          clear hc hm' hx hy hq m1
          go_wp2_with fail
          refine (K _).mono ?_
          rintro e w1 ⟨he, b1⟩
          have B1 := hbel.trans (b1.mono hsz)
          clear K b1 hbel
          rcases he with ⟨hn, rfl⟩ | ⟨hn, rfl⟩
          · go_wp2
            go_ret
            exact ⟨.inl rfl, B1⟩
          · go_wp2
            go_roundw
            case rel => exact ⟨j + 1, _, by omega, by go_num, rfl, by have := HS.out; have := HQ.out; omega, B1⟩
            case measure => simp [intOf]; omega
        · have hjl : j = ps.length := by omega
          subst hjl
          have HQ : Hid (ps.length + sizeP ps ≤ L) := by rw [Hid]; rw [List.take_length] at hq; omega
          have HQL : Hid (q ≤ L) := by rw [Hid]; omega
          clear hq
          go_wp2
          go_ret
          exact ⟨.inr ⟨HQ.out, q, HQL.out, rfl⟩, hbel⟩
  · have hb' : ¬ (ps.length : Int) ≤ L := by omega
    clear hs hm
    go_enter Tryz.func34, Tryz.ntmps34
    go_wp2
    go_ret
    exact ⟨.inl rfl, Below.refl _ _⟩

set_option maxRecDepth 100000 in
theorem import_of {H : Type} {enc : TypeId × Value → H} {W : World} {r : Reach} {b0 : Nat} {v : Value} {d : DataW H} {p : List MemPlace} (hv : Value.okWide Tryz.prog W r b0 24 v) (h : DataW.Trod enc Tryz.prog W 0 (fun _ => true) true 24 v d p) :
    ∃ (root : List UInt8) (a : Option Addr) (cap : Nat) (ps : List PairL) (dn : Bool), v = .agg #[.string ⟨root.toArray⟩, .slice a ps.length cap, .bool dn] ∧ root.length ≤ 9223372036854775807 ∧ (∀ p ∈ ps, p.1.length ≤ 9223372036854775807 ∧ p.2.length ≤ 9223372036854775807) ∧ IsPairs W a ps ∧ ps.length ≤ 9223372036854775807 := by
  obtain ⟨u0, u1, u2, y0, y1, y2, n, rfl, _, _, t0, t1, t2⟩ := Go.Joins.open_agg3 Tryz.underlying24 (by kernel_rfl) (by kernel_rfl) hv h
  obtain ⟨s0, hs0, _, w0⟩ := DataW.trod_string Tryz.underlying9 t0
  obtain ⟨a, ps, cap, rfl, m2, i2, l2⟩ := pairs_of t1
  obtain ⟨b, hb, _⟩ := DataW.trod_bool Tryz.underlying4 t2
  simp at hs0 hb
  subst hs0 hb
  unfold maxLen at w0
  exact ⟨s0.data.toList, a, cap, ps, b, by simp, by simp only [Array.length_toList]; exact w0, m2, i2, l2⟩

set_option maxRecDepth 100000 in
set_option maxHeartbeats 1000000 in
theorem szImport_any (L : Nat) (hL : L ≤ 1048576) (r : List UInt8) (a : Option Addr) (cap : Nat) (ps : List PairL) (d : Bool) (w : World) (hr : r.length ≤ 9223372036854775807) (hl : ps.length ≤ 9223372036854775807) (hm : ∀ p ∈ ps, p.1.length ≤ 9223372036854775807 ∧ p.2.length ≤ 9223372036854775807) (hs : IsPairs w a ps) :
    Calls Tryz.prog 6 #[.agg #[.string ⟨r.toArray⟩, .slice a ps.length cap, .bool d], .int .i64 (L : Int)] w fun e w' => (e = .returned (.int .i64 (-1)) ∨ (r.length + ps.length + sizeP ps ≤ L ∧ ∃ n : Nat, n ≤ L ∧ e = .returned (.int .i64 (n : Int)))) ∧ Below w.heap.size w w' := by
  have hz : (ByteArray.mk r.toArray).size = r.length := by simp [ByteArray.size]
  have B0 : Below w.heap.size w (w.alloc (.cells #[.string ⟨r.toArray⟩, .slice a ps.length cap, .bool d] 24)) := (Below.refl _ _).alloc (Nat.le_refl _) _
  obtain ⟨p0, p1, p2, _⟩ := im_cells (heap_alloc_new w (.cells #[.string ⟨r.toArray⟩, .slice a ps.length cap, .bool d] 24))
  by_cases hb : r.length ≤ L
  · obtain ⟨m, hm2⟩ : ∃ m, m = L - r.length := ⟨_, rfl⟩
    have K := szPairS_gen m (by omega) a cap ps _ hl hm (hs.later B0)
    have hsub : (L : Int) - (r.length : Int) = (m : Int) := by omega
    have HM : Hid (m + r.length = L) := by rw [Hid]; omega
    clear hs hm hm2
    go_enter Tryz.func6, Tryz.ntmps6
    go_wp2_with fail
    refine K.mono ?_
    rintro e w1 ⟨he, b1⟩
    have B1 := B0.trans (b1.mono B0.size)
    rcases he with rfl | ⟨hsz, n, hn, rfl⟩
    · go_wp2
      go_ret
      exact ⟨.inl rfl, B1⟩
    · have HS : Hid (r.length + ps.length + sizeP ps ≤ L ∧ n ≤ L) := by have := HM.out; exact ⟨by omega, by omega⟩
      clear hsz hn K
      go_wp2
      go_ret
      exact ⟨.inr ⟨HS.out.1, n, HS.out.2, rfl⟩, B1⟩
  · have hb' : ¬ (r.length : Int) ≤ (L : Int) := by omega
    clear hs hm
    go_enter Tryz.func6, Tryz.ntmps6
    go_wp2
    go_ret
    exact ⟨.inl rfl, B0⟩

set_option maxRecDepth 100000 in
set_option maxHeartbeats 2000000 in
theorem toImport_any (r : List UInt8) (a : Option Addr) (cap : Nat) (ps : List PairL) (d : Bool) (w : World) (hl : ps.length ≤ 1048576) (hs : IsPairs w a ps) :
    Calls Tryz.prog 9 #[.agg #[.string ⟨r.toArray⟩, .slice a ps.length cap, .bool d]] w fun e w' => e = .returned (.agg #[.string ⟨r.toArray⟩, (.slice (some ⟨w.heap.size + 3, 0, none⟩) ps.length ps.length), .bool d]) ∧ w'.ownsRow w.heap.size 70 2 (.slice (some ⟨w.heap.size + 3, 0, none⟩) ps.length ps.length) ps.length (pcells ps) ∧ Below w.heap.size w w' := by
  obtain ⟨wa, hwa⟩ : ∃ wa, wa = ((w.alloc (.cells #[.string ⟨r.toArray⟩, .slice a ps.length cap, .bool d] 24)).alloc (.cells #[.string ⟨#[]⟩, .slice none 0 0, .bool false] 31)).alloc (.cells #[.string ⟨r.toArray⟩, .slice none 0 0, .bool false] 31) := ⟨_, rfl⟩
  have Ba : Below w.heap.size w wa := by rw [hwa]; exact (((Below.refl _ _).alloc (Nat.le_refl _) _).alloc (by simp) _).alloc (by simp; omega) _
  have sa : wa.heap.size = w.heap.size + 3 := by rw [hwa]; simp
  have a0 : wa.heap[w.heap.size]? = some (.cells #[.string ⟨r.toArray⟩, .slice a ps.length cap, .bool d] 24 (0, 0)) := by rw [hwa, Below.heap_alloc _ _ _ (by simp; omega), Below.heap_alloc _ _ _ (by simp)]; exact heap_alloc_new w _
  have a1 : wa.heap[w.heap.size + 1]? = some (.cells #[.string ⟨#[]⟩, .slice none 0 0, .bool false] 31 (0, 0)) := by
    rw [hwa, Below.heap_alloc _ _ _ (by simp)]
    have := heap_alloc_new (w.alloc (.cells #[.string ⟨r.toArray⟩, .slice a ps.length cap, .bool d] 24)) (.cells #[.string ⟨#[]⟩, .slice none 0 0, .bool false] 31)
    simpa using this
  have a2 : wa.heap[w.heap.size + 2]? = some (.cells #[.string ⟨r.toArray⟩, .slice none 0 0, .bool false] 31 (0, 0)) := by
    rw [hwa]
    have := heap_alloc_new ((w.alloc (.cells #[.string ⟨r.toArray⟩, .slice a ps.length cap, .bool d] 24)).alloc (.cells #[.string ⟨#[]⟩, .slice none 0 0, .bool false] 31)) (.cells #[.string ⟨r.toArray⟩, .slice none 0 0, .bool false] 31)
    rw [show ((w.alloc (.cells #[.string ⟨r.toArray⟩, .slice a ps.length cap, .bool d] 24)).alloc (.cells #[.string ⟨#[]⟩, .slice none 0 0, .bool false] 31)).heap.size = w.heap.size + 2 by simp] at this
    exact this
  have K1 := toPairS_any a cap ps wa hl (hs.later Ba)
  rw [sa] at K1
  rw [hwa] at K1
  clear hs
  go_enter Tryz.func9, Tryz.ntmps9
  go_wp2_with fail
  refine K1.mono ?_
  rintro e w1 ⟨rfl, o1, b1⟩
  rw [← hwa] at b1
  clear K1 hwa
  have hb1 : Below wa.heap.size wa w1 := by rw [sa]; exact b1
  have B1 := Ba.trans (hb1.mono (by omega))
  have e0 := (hb1.block (w.heap.size) (by omega)).trans a0
  have e1 := (hb1.block (w.heap.size + 1) (by omega)).trans a1
  have e2 := (hb1.block (w.heap.size + 2) (by omega)).trans a2
  have O1 := hidOwn o1
  have s1 : w.heap.size + 3 < w1.heap.size := by have := own_lt o1; omega
  obtain ⟨_, _, p2, _⟩ := im_cells e0
  obtain ⟨r0, r1, r2, rf⟩ := im_cells e2
  obtain ⟨q0, q1, q2, qf⟩ := im_cells e1
  have rf1 := rf 1
  have rf2 := rf 2
  have qf0 := qf 0
  have qf1 := qf 1
  have qf2 := qf 2
  clear a0 a1 a2 b1 hb1 Ba rf qf o1 sa
  have k1 : (w1.setCell ⟨w.heap.size + 1 + 1, 1, none⟩ (.slice (some ⟨w.heap.size + 3, 0, none⟩) ps.length ps.length)).heap[w.heap.size + 1]? = _ := (Below.heap_setCell _ _ _ _ (by simp)).trans e1
  have k2 : ((w1.setCell ⟨w.heap.size + 1 + 1, 1, none⟩ (.slice (some ⟨w.heap.size + 3, 0, none⟩) ps.length ps.length)).setCell ⟨w.heap.size + 1 + 1, 2, none⟩ (.bool d)).heap[w.heap.size + 1]? = _ := (Below.heap_setCell _ _ _ _ (by simp)).trans k1
  have y2 := im_set (j := 0) (y := .string ⟨r.toArray⟩) k2
  have y3 := im_set (j := 1) (y := (.slice (some ⟨w.heap.size + 3, 0, none⟩) ps.length ps.length)) y2
  have y4 := im_set (j := 2) (y := .bool d) y3
  have HY : Hid (_ = _) := y4
  have HR : Hid ((((((w1.setCell ⟨w.heap.size + 1 + 1, 1, none⟩ (.slice (some ⟨w.heap.size + 3, 0, none⟩) ps.length ps.length)).setCell ⟨w.heap.size + 1 + 1, 2, none⟩ (.bool d)).setCell ⟨w.heap.size + 1, 0, none⟩ (.string ⟨r.toArray⟩)).setCell ⟨w.heap.size + 1, 1, none⟩ (.slice (some ⟨w.heap.size + 3, 0, none⟩) ps.length ps.length)).setCell ⟨w.heap.size + 1, 2, none⟩ (.bool d)).ownsRow w.heap.size 70 2 (.slice (some ⟨w.heap.size + 3, 0, none⟩) ps.length ps.length) ps.length (pcells ps)) :=
    ownsRow_setCell_other (ownsRow_setCell_other (ownsRow_setCell_other (ownsRow_setCell_other (ownsRow_setCell_other (O1.out.mono (by omega)) (by simp [Value.ownBlock]) _) (by simp [Value.ownBlock]) _) (by simp [Value.ownBlock]) _) (by simp [Value.ownBlock]) _) (by simp [Value.ownBlock]) _
  have HBB : Hid (Below w.heap.size w (((((w1.setCell ⟨w.heap.size + 1 + 1, 1, none⟩ (.slice (some ⟨w.heap.size + 3, 0, none⟩) ps.length ps.length)).setCell ⟨w.heap.size + 1 + 1, 2, none⟩ (.bool d)).setCell ⟨w.heap.size + 1, 0, none⟩ (.string ⟨r.toArray⟩)).setCell ⟨w.heap.size + 1, 1, none⟩ (.slice (some ⟨w.heap.size + 3, 0, none⟩) ps.length ps.length)).setCell ⟨w.heap.size + 1, 2, none⟩ (.bool d))) :=
    ((((B1.setCell (by simp; omega) _).setCell (by simp; omega) _).setCell (by simp) _).setCell (by simp) _).setCell (by simp) _
  clear e0 e1 e2 k1 k2 y2 y3 y4
  go_wp2
  exact bodyPost_ret (v := .agg #[.string ⟨r.toArray⟩, (.slice (some ⟨w.heap.size + 3, 0, none⟩) ps.length ps.length), .bool d]) (results_cell_row rfl _ _ (w.heap.size + 1) 31 _ (0, 0) _ rfl HY.out Tryz.underlying31 rfl (by kernel_rfl)) rfl ⟨rfl, HR.out, HBB.out⟩

/-- What is asked of an import. -/
def importB (r : List UInt8) (ps : List PairL) (d : Bool) : Bool := decide (r.length = 32) && (pairsOkL ps && (!d || (rootOk ps && decide (rootR ps = r))))

set_option maxRecDepth 100000 in
set_option maxHeartbeats 1000000 in
theorem impl_areOfRoot (a : Option Addr) (cp : Nat) (ps : List PairL) (r : List UInt8) (w : World) (hl : ps.length ≤ 1048576) (hm : ∀ p ∈ ps, p.1.length ≤ 1048576 ∧ p.2.length ≤ 1048576) (hs : IsPairs w a ps) (hT : Tab w) :
    Calls Tryz.prog 42 #[.slice a ps.length cp, .string ⟨r.toArray⟩] w fun e w' => e = .returned (.bool (rootOk ps && decide (rootR ps = r))) ∧ Below w.heap.size w w' := by
  have K := impl_rootOf a cp ps w hl hm hs hT
  obtain ⟨q, hq⟩ : ∃ q, q = rootR ps := ⟨_, rfl⟩
  obtain ⟨ok, hok⟩ : ∃ ok, ok = rootOk ps := ⟨_, rfl⟩
  rw [← hq, ← hok] at K ⊢
  clear hs hm hT hq hok
  by_cases he : q = r
  · have hd : decide (q = r) = true := by simpa using he
    rw [hd]
    subst he
    clear hd
    cases ok
    all_goals
      go_enter Tryz.func42, Tryz.ntmps42
      go_wp2_with fail
      refine K.mono ?_
      rintro e w1 ⟨rfl, b1⟩
      go_wp2
      go_ret
      exact ⟨rfl, b1⟩
  · have hd : decide (q = r) = false := by simpa using he
    have hb : (q == r) = false := by rw [beq_eq_false_iff_ne]; exact he
    rw [hd]
    clear hd he
    cases ok
    all_goals
      go_enter Tryz.func42, Tryz.ntmps42
      go_wp2_with fail
      refine K.mono ?_
      rintro e w1 ⟨rfl, b1⟩
      go_wp2
      go_ret
      exact ⟨rfl, b1⟩

set_option maxRecDepth 100000 in
set_option maxHeartbeats 1000000 in
theorem impl_importOk (r : List UInt8) (a : Option Addr) (cp : Nat) (ps : List PairL) (d : Bool) (w : World) (hr : r.length ≤ 1048576) (hl : ps.length ≤ 1048576) (hm : ∀ p ∈ ps, p.1.length ≤ 1048576 ∧ p.2.length ≤ 1048576) (hs : IsPairs w a ps) (hT : Tab w) :
    Calls Tryz.prog 22 #[.agg #[.string ⟨r.toArray⟩, .slice a ps.length cp, .bool d]] w fun e w' => e = .returned (.bool (importB r ps d)) ∧ Below w.heap.size w w' := by
  have hz : (ByteArray.mk r.toArray).size = r.length := by simp [ByteArray.size]
  have B0 : Below w.heap.size w (w.alloc (.cells #[.string ⟨r.toArray⟩, .slice a ps.length cp, .bool d] 31)) := (Below.refl _ _).alloc (Nat.le_refl _) _
  have H0 := heap_alloc_new w (.cells #[.string ⟨r.toArray⟩, .slice a ps.length cp, .bool d] 31)
  obtain ⟨p0, p1, p2, _⟩ := im_cells H0
  have HH0 : Hid (_ = _) := H0
  have HT : Hid (Tab w) := hT
  have HS : Hid (∀ W, Below w.heap.size w W → IsPairs W a ps) := fun W hW => hs.later hW
  have K1 := impl_pairsOk a cp ps _ hl hm (hs.later B0)
  have HK2 : Hid (∀ W, IsPairs W a ps → Tab W → _) := fun W h hT => impl_areOfRoot a cp ps r W hl hm h hT
  clear hs hm hT H0
  by_cases h32 : r.length = 32
  · have h32' : (r.length : Int) = 32 := by omega
    have h32b : ((r.length : Int) != 32) = false := by rw [bne_eq_false_iff_eq]; exact h32'
    have HI : Hid (importB r ps d = (pairsOkL ps && (!d || (rootOk ps && decide (rootR ps = r))))) := by rw [Hid, importB, decide_eq_true h32]; rfl
    obtain ⟨po, hpo⟩ : ∃ po, po = pairsOkL ps := ⟨_, rfl⟩
    obtain ⟨ro, hro⟩ : ∃ ro, ro = (rootOk ps && decide (rootR ps = r)) := ⟨_, rfl⟩
    rw [← hpo, ← hro] at HI
    rw [← hpo] at K1
    rw [← hro] at HK2
    rw [HI.out]
    clear HI h32 hpo hro
    cases po with
    | false =>
      go_enter Tryz.func22, Tryz.ntmps22
      go_wp2_with fail
      refine K1.mono ?_
      rintro e w1 ⟨rfl, b1⟩
      have B1 := B0.trans (b1.mono B0.size)
      go_wp2
      go_ret
      exact ⟨rfl, B1⟩
    | true =>
      cases d with
      | false =>
        go_enter Tryz.func22, Tryz.ntmps22
        go_wp2_with fail
        refine K1.mono ?_
        rintro e w1 ⟨rfl, b1⟩
        have B1 := B0.trans (b1.mono B0.size)
        obtain ⟨q0, q1, q2, _⟩ := im_cells ((b1.block w.heap.size (by simp)).trans HH0.out)
        clear p0 p1 p2 b1
        go_wp2
        go_ret
        exact ⟨rfl, B1⟩
      | true =>
        go_enter Tryz.func22, Tryz.ntmps22
        go_wp2_with fail
        refine K1.mono ?_
        rintro e w1 ⟨rfl, b1⟩
        have B1 := B0.trans (b1.mono B0.size)
        obtain ⟨q0, q1, q2, _⟩ := im_cells ((b1.block w.heap.size (by simp)).trans HH0.out)
        have K2 := HK2.out w1 (HS.out w1 B1) (HT.out.later B1)
        clear p0 p1 p2 b1
        go_wp2_with fail
        refine K2.mono ?_
        rintro e w2 ⟨rfl, b2⟩
        have B2 := B1.trans (b2.mono B1.size)
        go_wp2
        go_ret
        exact ⟨rfl, B2⟩
  · have h32' : ¬ (r.length : Int) = 32 := by omega
    have h32b : ((r.length : Int) != 32) = true := by rw [bne_iff_ne]; exact h32'
    have HI : Hid (importB r ps d = false) := by rw [Hid, importB, decide_eq_false h32]; rfl
    rw [HI.out]
    clear HI h32 K1
    go_enter Tryz.func22, Tryz.ntmps22
    go_wp2
    go_ret
    exact ⟨rfl, B0⟩

set_option maxRecDepth 100000 in
set_option maxHeartbeats 1000000 in
theorem spec_importOk (r : List UInt8) (a : Option Addr) (cp : Nat) (ps : List PairL) (d : Bool) (w : World) (hr : r.length ≤ 1048576) (hl : ps.length ≤ 1048576) (hm : ∀ p ∈ ps, p.1.length ≤ 1048576 ∧ p.2.length ≤ 1048576) (hs : IsPairs w a ps) :
    Calls Tryz.prog 19 #[.agg #[.string ⟨r.toArray⟩, .slice a ps.length cp, .bool d]] w fun e w' => e = .returned (.bool (importB r ps d)) ∧ Below w.heap.size w w' := by
  have hz : (ByteArray.mk r.toArray).size = r.length := by simp [ByteArray.size]
  have B0 : Below w.heap.size w (w.alloc (.cells #[.string ⟨r.toArray⟩, .slice a ps.length cp, .bool d] 31)) := (Below.refl _ _).alloc (Nat.le_refl _) _
  have H0 := heap_alloc_new w (.cells #[.string ⟨r.toArray⟩, .slice a ps.length cp, .bool d] 31)
  obtain ⟨p0, p1, p2, _⟩ := im_cells H0
  have HH0 : Hid (_ = _) := H0
  have HS : Hid (∀ W, Below w.heap.size w W → IsPairs W a ps) := fun W hW => hs.later hW
  have K1 := spec_pairsOk a cp ps _ hl hm (hs.later B0)
  have HK2 : Hid (∀ W, IsPairs W a ps → _) := fun W h => spec_rootOf a cp ps W hl hm h
  clear hs hm H0
  by_cases h32 : r.length = 32
  · have h32' : (r.length : Int) = 32 := by omega
    have h32b : ((r.length : Int) != 32) = false := by rw [bne_eq_false_iff_eq]; exact h32'
    have HI : Hid (importB r ps d = (pairsOkL ps && (!d || (rootOk ps && decide (rootR ps = r))))) := by rw [Hid, importB, decide_eq_true h32]; rfl
    obtain ⟨po, hpo⟩ : ∃ po, po = pairsOkL ps := ⟨_, rfl⟩
    obtain ⟨ro, hro⟩ : ∃ ro, ro = rootOk ps := ⟨_, rfl⟩
    obtain ⟨rr, hrr⟩ : ∃ rr, rr = rootR ps := ⟨_, rfl⟩
    rw [← hpo, ← hro, ← hrr] at HI
    rw [← hpo] at K1
    rw [← hro, ← hrr] at HK2
    rw [HI.out]
    clear HI h32 hpo hro hrr
    cases po with
    | false =>
      go_enter Tryz.func19, Tryz.ntmps19
      go_wp2_with fail
      refine K1.mono ?_
      rintro e w1 ⟨rfl, b1⟩
      have B1 := B0.trans (b1.mono B0.size)
      go_wp2
      go_ret
      exact ⟨rfl, B1⟩
    | true =>
      have fin : ∀ z : Bool, decide (rr = r) = z → Calls Tryz.prog 19 #[.agg #[.string ⟨r.toArray⟩, .slice a ps.length cp, .bool d]] w fun e w' => e = .returned (.bool (true && (!d || (ro && z)))) ∧ Below w.heap.size w w' := by
        intro z hz9
        have hzb : (rr == r) = z := by
          rw [← hz9]
          by_cases h : rr = r
          · simp [h]
          · simp [h]
        clear hz9
        cases d <;> cases ro <;> cases z
        all_goals
          go_enter Tryz.func19, Tryz.ntmps19
          go_wp2_with fail
          refine K1.mono ?_
          rintro e w1 ⟨rfl, b1⟩
          have B1 := B0.trans (b1.mono B0.size)
          have H1 := (b1.block w.heap.size (by simp)).trans HH0.out
          have HH1 : Hid (_ = _) := H1
          obtain ⟨q0, q1, q2, _⟩ := im_cells H1
          have K2 := HK2.out w1 (HS.out w1 B1)
          have hl1 : w.heap.size < w1.heap.size := lt_of_block H1
          clear p0 p1 p2 b1 H1
          go_wp2_with fail
          refine K2.mono ?_
          rintro e w2 ⟨rfl, b2⟩
          have B2 := B1.trans (b2.mono B1.size)
          obtain ⟨t0, t1, t2, _⟩ := im_cells ((b2.block w.heap.size hl1).trans HH1.out)
          clear q0 q1 q2 b2
          go_wp2
          go_ret
          exact ⟨rfl, B2⟩
      exact fin _ rfl
  · have h32' : ¬ (r.length : Int) = 32 := by omega
    have h32b : ((r.length : Int) != 32) = true := by rw [bne_iff_ne]; exact h32'
    have HI : Hid (importB r ps d = false) := by rw [Hid, importB, decide_eq_false h32]; rfl
    rw [HI.out]
    clear HI h32 K1
    go_enter Tryz.func19, Tryz.ntmps19
    go_wp2
    go_ret
    exact ⟨rfl, B0⟩
end Go.Proofs.YtlknhcnfpkjpbaaGreatDoor
