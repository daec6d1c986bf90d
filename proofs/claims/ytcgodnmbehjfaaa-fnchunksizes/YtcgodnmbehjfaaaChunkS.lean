/-
  Contracts of the laws' own helpers on rows of chunks: equal rows, marks laid, marks held.
-/
import Derived.Test.YtcgodnmbehjfaaaMathCh
import Derived.Test.YtcgodnmbehjfaaaImp
import Derived.Deep.RegionHeld3
namespace Go.Proofs.Ytcgodnmbehjfaaa
open Go.RowKit
set_option linter.unusedVariables false

theorem OwnC.slice {w : World} {lo e2 : Nat} {v : Value} {cs : List ChL} {vs : List Value} (h : OwnC w lo e2 v cs vs) : (v = .slice none 0 0 ∧ cs = []) ∨ ∃ g cap, v = .slice (some ⟨g, 0, none⟩) cs.length cap ∧ lo ≤ g ∧ g < w.heap.size := by
  rcases h.row.2 with ⟨rfl, h0⟩ | ⟨g, cap, cur, rfl, hb, hg, _⟩
  · exact .inl ⟨rfl, List.length_eq_zero_iff.1 h0⟩
  · exact .inr ⟨g, cap, rfl, hb, lt_of_block hg⟩
theorem OwnC.cells {w : World} {lo e2 g n cap : Nat} {cs : List ChL} {vs : List Value} (h : OwnC w lo e2 (.slice (some ⟨g, 0, none⟩) n cap) cs vs) {j : Nat} {c : ChL} {u : Value} (hc : cs[j]? = some c) (hu : vs[j]? = some u) :
    w.cell? ⟨g, j * 3, none⟩ = some (.bool c.1) ∧ w.cell? ⟨g, j * 3 + 1, none⟩ = some (.bool c.2.1) ∧ w.cell? ⟨g, j * 3 + 2, none⟩ = some u := by
  have hj := (List.getElem?_eq_some_iff.1 hc).1
  have := ccells_at cs vs j c u hc hu
  have r := h.row
  rcases r.2 with ⟨e, h0⟩ | ⟨g', cap', cur, e, hb, hg, _⟩
  · cases e
  · cases e
    exact ⟨(r.cellAt (j * 3) (by omega)).trans this.1, (r.cellAt (j * 3 + 1) (by omega)).trans this.2.1, (r.cellAt (j * 3 + 2) (by omega)).trans this.2.2⟩
theorem OwnC.kids {w : World} {lo e2 : Nat} {v : Value} {cs : List ChL} {vs : List Value} (h : OwnC w lo e2 v cs vs) {j : Nat} (hj : j < cs.length) : ∃ c u, cs[j]? = some c ∧ vs[j]? = some u ∧ ∃ a cap, u = .slice a c.2.2.length cap ∧ IsPairs w a c.2.2 ∧ w.ownsRow lo 53 2 (.slice a c.2.2.length cap) c.2.2.length (pcells c.2.2) := by
  have hv : j < vs.length := by rw [h.len]; exact hj
  have k := h.kid j cs[j] vs[j] (List.getElem?_eq_getElem hj) (List.getElem?_eq_getElem hv)
  obtain ⟨a, m, cap, e⟩ := own_slice2 k
  rw [e] at k
  obtain ⟨rfl, _, i⟩ := isPairs_own k
  exact ⟨cs[j], vs[j], List.getElem?_eq_getElem hj, List.getElem?_eq_getElem hv, a, cap, e, i, k⟩

theorem OwnC.kidAt {w : World} {lo e2 g n cap : Nat} {cs : List ChL} {vs : List Value} {j : Nat} {c : ChL} {u : Value} (x y : Value) (hn : n = cs.length) (h : OwnC w lo e2 (.slice (some ⟨g, 0, none⟩) n cap) cs vs) (hc : cs[j]? = some c) (hu : vs[j]? = some u) : ((w.setCell ⟨g, j * 3, none⟩ x).setCell ⟨g, j * 3 + 1, none⟩ y).ownsRow lo 53 2 u c.2.2.length (pcells c.2.2) := by
  subst hn
  have s1 := h.row.stored (j * 3) x
  have s2 := s1.1.stored (j * 3 + 1) y
  exact kept_row (h.kid j c u hc hu) (s1.2.trans s2.2) (fun k hk => h.far j u k hu hk)
theorem mod3 (q : Nat) : ((q : Int) % 3 == 0) = decide (q % 3 = 0) ∧ (((q : Int) + 1) % 3 == 0) = decide ((q + 1) % 3 = 0) := by
  constructor <;> (rw [Bool.eq_iff_iff]; simp; omega)

set_option maxRecDepth 100000 in
theorem eqChunk_same (f d : Bool) (ps : List PairL) (a c : Option Addr) (n m : Nat) (w : World) (hl : ps.length ≤ 16777216) (hu : IsPairs w a ps) (hv : IsPairs w c ps) :
    Calls Try.prog 31 #[.agg #[.bool f, .bool d, .slice a ps.length n], .agg #[.bool f, .bool d, .slice c ps.length m]] w fun e w' => e = .returned (.bool true) ∧ Below w.heap.size w w' := by
  have B0 : Below w.heap.size w ((w.alloc (.cells #[.bool f, .bool d, .slice a ps.length n] 46)).alloc (.cells #[.bool f, .bool d, .slice c ps.length m] 46)) := ((Below.refl _ _).alloc (Nat.le_refl _) _).alloc (by simp) _
  have K := eqPairS_same ps a c n m ((w.alloc (.cells #[.bool f, .bool d, .slice a ps.length n] 46)).alloc (.cells #[.bool f, .bool d, .slice c ps.length m] 46)) hl (hu.later B0) (hv.later B0)
  have H1 : Hid (((w.alloc (.cells #[.bool f, .bool d, .slice a ps.length n] 46)).alloc (.cells #[.bool f, .bool d, .slice c ps.length m] 46)).heap[w.heap.size]? = some (.cells #[.bool f, .bool d, .slice a ps.length n] 46 (0, 0))) := by
    rw [Hid, Below.heap_alloc _ _ _ (by simp)]; exact heap_alloc_new _ _
  have H2 : Hid (((w.alloc (.cells #[.bool f, .bool d, .slice a ps.length n] 46)).alloc (.cells #[.bool f, .bool d, .slice c ps.length m] 46)).heap[w.heap.size + 1]? = some (.cells #[.bool f, .bool d, .slice c ps.length m] 46 (0, 0))) := by
    have := heap_alloc_new (w.alloc (.cells #[.bool f, .bool d, .slice a ps.length n] 46)) (.cells #[.bool f, .bool d, .slice c ps.length m] 46)
    rw [Hid]; simpa using this
  obtain ⟨p0, p1, p2, _⟩ := im_cells H1.out
  obtain ⟨q0, q1, q2, _⟩ := im_cells H2.out
  clear hu hv
  go_enter Try.func31, Try.ntmps31
  go_wp2_with fail
  refine K.mono ?_
  rintro e w1 ⟨rfl, b1⟩
  have B1 := B0.trans (b1.mono B0.size)
  clear K b1 H1 H2 B0 p0 p1 p2 q0 q1 q2
  go_wp2
  go_ret
  exact ⟨rfl, B1⟩

set_option maxRecDepth 100000 in
set_option maxHeartbeats 400000 in
theorem eqChunkS_same (cs : List ChL) (v x : Value) (vs xs : List Value) (l1 l2 e1 e2 : Nat) (w : World) (hl : cs.length ≤ 1000000) (hm : ∀ c ∈ cs, c.2.2.length ≤ 1000000) (hu : OwnC w l1 e1 v cs vs) (hv : OwnC w l2 e2 x cs xs) :
    Calls Try.prog 15 #[v, x] w fun e w' => e = .returned (.bool true) ∧ Below w.heap.size w w' := by
  rcases hu.slice with ⟨rfl, rfl⟩ | ⟨b, n, rfl, _, hb⟩
  · have hx : ∃ a m, x = .slice a 0 m := by
      rcases hv.slice with ⟨rfl, _⟩ | ⟨d, m, rfl, _, hd⟩
      · exact ⟨_, _, rfl⟩
      · exact ⟨_, _, rfl⟩
    obtain ⟨a, m, rfl⟩ := hx
    clear hu hv
    go_enter Try.func15, Try.ntmps15
    go_wp2
    refine wp_loop_rounds 1 ?_
    rw [rounds_succ]
    go_wp2
    go_ret
    exact ⟨rfl, Below.refl _ _⟩
  · rcases hv.slice with ⟨rfl, rfl⟩ | ⟨d, m, rfl, _, hd⟩
    · clear hu hv
      go_enter Try.func15, Try.ntmps15
      go_wp2
      refine wp_loop_rounds 1 ?_
      rw [rounds_succ]
      go_wp2
      go_ret
      exact ⟨rfl, Below.refl _ _⟩
    · have HU : Hid (∀ W, Below w.heap.size w W → OwnC W l1 e1 (.slice (some ⟨b, 0, none⟩) cs.length n) cs vs) := fun W h => hu.later h
      have HV : Hid (∀ W, Below w.heap.size w W → OwnC W l2 e2 (.slice (some ⟨d, 0, none⟩) cs.length m) cs xs) := fun W h => hv.later h
      have HM : Hid (∀ c ∈ cs, c.2.2.length ≤ 1000000) := hm
      clear hu hv hm
      go_enter Try.func15, Try.ntmps15
      go_wp2
      go_loopw [5] (fun i wr => ∃ j : Nat, j ≤ cs.length ∧ i = .int .i64 (j : Int) ∧ Below w.heap.size w wr) (fun i _ => cs.length - (intOf i).toNat)
      case atStart => exact ⟨0, Nat.zero_le _, rfl, Below.refl _ _⟩
      case round =>
        obtain ⟨j, hj, rfl, hbel⟩ := hrel
        have hsz := hbel.size
        by_cases hlt : j < cs.length
        · have ou := HU.out wr hbel
          have ov := HV.out wr hbel
          obtain ⟨⟨f, q, ps⟩, u, hc, hu, a1, cp1, rfl, i1, _⟩ := ou.kids hlt
          obtain ⟨c', u', hc', hu', a2, cp2, rfl, i2, _⟩ := ov.kids hlt
          rw [hc] at hc'
          cases hc'
          obtain ⟨c1, c2, c3⟩ := ou.cells hc hu
          obtain ⟨d1, d2, d3⟩ := ov.cells hc hu'
          have hpl : ps.length ≤ 1000000 := HM.out _ (List.mem_of_getElem? hc)
          simp only at c1 c2 c3 d1 d2 d3 i1 i2
          have hj0 : (0 : Int) ≤ (j : Int) := by omega
          have hj1 : (j : Int) < (cs.length : Int) := by omega
          have hbr : b < wr.heap.size := by omega
          have hdr : d < wr.heap.size := by omega
          have K := fun W (hW : Below wr.heap.size wr W) => eqChunk_same f q ps a1 a2 cp1 cp2 W (by omega) (i1.later hW) (i2.later hW)
          have HK : Hid (Calls Try.prog 31 #[.agg #[.bool f, .bool q, .slice a1 ps.length cp1], .agg #[.bool f, .bool q, .slice a2 ps.length cp2]] wr.drew fun e w' => e = .returned (.bool true) ∧ Below wr.drew.heap.size wr.drew w') := K wr.drew ⟨rfl, rfl, rfl, Nat.le_refl _, fun _ _ => rfl⟩
          clear ou ov hc hu hu' K i1 i2
          go_wp2_with fail
          go_region_held3 (fun w' => w'.cell? ⟨b, j * 3, none⟩ = some (.bool f) ∧ w'.cell? ⟨b, j * 3 + 1, none⟩ = some (.bool q) ∧ w'.cell? ⟨b, j * 3 + 2, none⟩ = some (.slice a1 ps.length cp1) ∧ w'.cell? ⟨d, j * 3, none⟩ = some (.bool f) ∧ w'.cell? ⟨d, j * 3 + 1, none⟩ = some (.bool q) ∧ w'.cell? ⟨d, j * 3 + 2, none⟩ = some (.slice a2 ps.length cp2))
            (first | (exact ⟨by assumption, by assumption, by assumption, by assumption, by assumption, by assumption⟩) | go_keep)
            ((go_at_call 31
              refine HK.out.mono ?_
              rintro e w1 ⟨rfl, b1'⟩
              have b1 : Below wr.heap.size wr w1 := ⟨b1'.os, b1'.tape, b1'.output, b1'.size, b1'.block⟩
              have x1 := (b1.cell (p := ⟨b, j * 3, none⟩) hbr).trans c1
              have x2 := (b1.cell (p := ⟨b, j * 3 + 1, none⟩) hbr).trans c2
              have x3 := (b1.cell (p := ⟨b, j * 3 + 2, none⟩) hbr).trans c3
              have y1 := (b1.cell (p := ⟨d, j * 3, none⟩) hdr).trans d1
              have y2 := (b1.cell (p := ⟨d, j * 3 + 1, none⟩) hdr).trans d2
              have y3 := (b1.cell (p := ⟨d, j * 3 + 2, none⟩) hdr).trans d3
              have B1 := hbel.trans (b1.mono hsz)))
          all_goals
            clear HK
            go_wp2
            go_roundw
            case rel => exact ⟨j + 1, by omega, by go_num, B1⟩
            case measure => simp [intOf]; omega
        · go_wp2
          go_ret
          exact ⟨rfl, hbel⟩

set_option maxRecDepth 100000 in
set_option maxHeartbeats 1000000 in
theorem markChunkS_any (cs : List ChL) (v : Value) (vs : List Value) (lo e2 k : Nat) (w : World) (hl : cs.length ≤ 1000000) (hk : 0 < k) (hk2 : endC k cs ≤ 4000000) (hv : OwnC w lo e2 v cs vs) :
    Calls Try.prog 18 #[v, .int .i64 k] w fun e w' => e = .returned (.int .i64 ((endC k cs : Nat) : Int)) ∧ OwnC w' lo e2 v (marksC k cs) vs ∧ Below lo w w' := by
  rcases hv.slice with ⟨rfl, rfl⟩ | ⟨g, cap, rfl, hg1, hg2⟩
  · go_enter Try.func18, Try.ntmps18
    go_wp2
    refine wp_loop_rounds 1 ?_
    rw [rounds_succ]
    go_wp2
    go_ret
    exact ⟨rfl, hv, Below.refl _ _⟩
  · have HLEN : Hid (∀ j, (markedC k j cs).length = cs.length) := fun j => markedC_length k j cs
    have HTK : Hid (∀ j, endC k (cs.take j) ≤ 4000000 ∧ k ≤ endC k (cs.take j)) := fun j => ⟨Nat.le_trans (endC_take k cs j) hk2, endC_le _ _⟩
    go_enter Try.func18, Try.ntmps18
    go_wp2
    go_loopw [1, 5] (fun mm i wr => ∃ j : Nat, j ≤ cs.length ∧ i = .int .i64 (j : Int) ∧ mm = .int .i64 ((endC k (cs.take j) : Nat) : Int) ∧ Hid (OwnC wr lo e2 (.slice (some ⟨g, 0, none⟩) cs.length cap) (markedC k j cs) vs) ∧ Below lo w wr) (fun _ i _ => cs.length - (intOf i).toNat)
    case atStart => exact ⟨0, Nat.zero_le _, rfl, rfl, by rw [markedC_zero]; exact hv, Below.refl _ _⟩
    case round =>
      obtain ⟨j, hj, rfl, rfl, HO, hbel⟩ := hrel
      clear hv
      by_cases hlt : j < cs.length
      · have hj1 : (j : Int) < (cs.length : Int) := by omega
        have hj0 : (0 : Int) ≤ (j : Int) := by omega
        obtain ⟨c, hc⟩ : ∃ c, cs[j]? = some c := ⟨_, List.getElem?_eq_getElem hlt⟩
        have hcm := markedC_at k cs j c hc
        obtain ⟨c', u, hc', hu, a1, cp1, hue, i1, o1⟩ := HO.out.kids (j := j) (by rw [HLEN.out]; exact hlt)
        rw [hcm] at hc'
        cases hc'
        obtain ⟨q, hq⟩ : ∃ q, q = endC k (cs.take j) := ⟨_, rfl⟩
        have hql := HTK.out j
        have HSTEP : Hid ((markedC k j cs).set j (mark1 q c) = markedC k (j + 1) cs) := by rw [Hid, hq]; exact markedC_step k cs j c hc
        have HEND : Hid (endC k (cs.take (j + 1)) = q + 2 + 2 * c.2.2.length) := by rw [Hid, hq]; exact endC_step k cs j c hc
        have hql2 := (HTK.out (j + 1)).1
        rw [HEND.out] at hql2
        rw [← hq] at hql ⊢
        obtain ⟨c1, c2, c3⟩ := HO.out.cells hcm hu
        subst hue
        clear o1 i1 hq hc
        have rw0 := HO.out.row
        rw [HLEN.out] at rw0
        have fz := rw0.frozenAt
        clear rw0
        have K := fun W h => markPairS_any c.2.2 a1 c.2.2.length cp1 lo (q + 2) W (by omega) (by omega) (by omega) h
        have hq1 : (q : Int) ≤ 100000000 := by omega
        have hq0 : (0 : Int) ≤ (q : Int) := by omega
        have f1 := fz (j * 3)
        have f2 := fz (j * 3 + 1)
        clear fz
        have HOK : Hid (((wr.setCell ⟨g, j * 3, none⟩ (.bool ((q : Int) % 3 == 0))).setCell ⟨g, j * 3 + 1, none⟩ (.bool (((q : Int) + 1) % 3 == 0))).ownsRow lo 53 2 (.slice a1 c.2.2.length cp1) c.2.2.length (pcells c.2.2)) := HO.out.kidAt _ _ (HLEN.out j).symm hcm hu
        have HFIN : Hid (∀ w2, ((wr.setCell ⟨g, j * 3, none⟩ (.bool ((q : Int) % 3 == 0))).setCell ⟨g, j * 3 + 1, none⟩ (.bool (((q : Int) + 1) % 3 == 0))).grownBy w2 (Value.slice a1 c.2.2.length cp1).ownBlock → w2.ownsRow lo 53 2 (.slice a1 c.2.2.length cp1) c.2.2.length (pcells (marksP (q + 2) c.2.2.length)) → OwnC w2 lo e2 (.slice (some ⟨g, 0, none⟩) cs.length cap) (markedC k (j + 1) cs) vs ∧ Below lo w w2) := by
          intro w2 h1 h2
          have := HO.out.marked (HLEN.out j).symm hcm hu (marksP_length (q + 2) c.2.2.length) h1 h2
          rw [(mod3 q).1, (mod3 q).2] at this
          have e := HSTEP.out
          rw [mark1] at e
          rw [e] at this
          exact ⟨this.1, ⟨this.2.os.trans hbel.os, this.2.tape.trans hbel.tape, this.2.output.trans hbel.output, Nat.le_trans hbel.size this.2.size, fun i hi => (this.2.block i hi).trans (hbel.block i hi)⟩⟩
        have HQ : Hid (((q + 2 : Nat) : Int) = (q : Int) + 1 + 1) := by rw [Hid]; omega
        have KK := K _ HOK.out
        rw [HQ.out] at KK
        obtain ⟨n0, hn0⟩ : ∃ n0, n0 = c.2.2.length := ⟨_, rfl⟩
        rw [← hn0] at KK HFIN hu c3 HEND hql2
        clear K HOK HSTEP HO hcm hu hn0
        go_wp2_with fail
        refine KK.mono ?_
        rintro e w2 ⟨rfl, o2, g2⟩
        obtain ⟨F1, F2⟩ := HFIN.out w2 g2 o2
        have HF1 : Hid (OwnC w2 lo e2 (.slice (some ⟨g, 0, none⟩) cs.length cap) (markedC k (j + 1) cs) vs) := F1
        clear KK o2 g2 F1 HFIN c1 c2 c3 f1 f2
        go_wp2
        go_roundw
        case rel => exact ⟨j + 1, by omega, by go_num, by have := HEND.out; congr 1; omega, HF1, F2⟩
        case measure => simp [intOf]; omega
      · have hjl : j = cs.length := by omega
        subst hjl
        have h0 := HO.out
        rw [markedC_all] at h0
        rw [List.take_length]
        have H0 : Hid (OwnC wr lo e2 (.slice (some ⟨g, 0, none⟩) cs.length cap) (marksC k cs) vs) := h0
        clear HO h0
        go_wp2
        go_ret
        exact ⟨rfl, H0.out, hbel⟩

set_option maxRecDepth 100000 in
set_option maxHeartbeats 1000000 in
theorem heldChunkS_any (cs : List ChL) (v : Value) (vs : List Value) (lo e2 k : Nat) (w : World) (hl : cs.length ≤ 1000000) (hk : 0 < k) (hk2 : endC k cs ≤ 4000000) (hv : OwnC w lo e2 v (marksC k cs) vs) :
    Calls Try.prog 19 #[v, .int .i64 k] w fun e w' => e = .returned (.int .i64 ((endC k cs : Nat) : Int)) ∧ Below w.heap.size w w' := by
  rcases hv.slice with ⟨rfl, h0⟩ | ⟨g, cap, rfl, hg1, hg2⟩
  · have hcs : cs = [] := by have := marksC_length k cs; rw [h0] at this; exact List.length_eq_zero_iff.1 this.symm
    subst hcs
    clear hv
    go_enter Try.func19, Try.ntmps19
    go_wp2
    refine wp_loop_rounds 1 ?_
    rw [rounds_succ]
    go_wp2
    go_ret
    exact ⟨rfl, Below.refl _ _⟩
  · have HLEN : Hid ((marksC k cs).length = cs.length) := marksC_length k cs
    have HTK : Hid (∀ j, endC k (cs.take j) ≤ 4000000 ∧ k ≤ endC k (cs.take j)) := fun j => ⟨Nat.le_trans (endC_take k cs j) hk2, endC_le _ _⟩
    have HV : Hid (∀ W, Below w.heap.size w W → OwnC W lo e2 (.slice (some ⟨g, 0, none⟩) cs.length cap) (marksC k cs) vs) := fun W h => by have := hv.later h; rw [HLEN.out] at this; exact this
    rw [HLEN.out]
    clear hv
    go_enter Try.func19, Try.ntmps19
    go_wp2
    go_loopw [1, 5] (fun mm i wr => ∃ j : Nat, j ≤ cs.length ∧ i = .int .i64 (j : Int) ∧ mm = .int .i64 ((endC k (cs.take j) : Nat) : Int) ∧ Below w.heap.size w wr) (fun _ i _ => cs.length - (intOf i).toNat)
    case atStart => exact ⟨0, Nat.zero_le _, rfl, rfl, Below.refl _ _⟩
    case round =>
      obtain ⟨j, hj, rfl, rfl, hbel⟩ := hrel
      by_cases hlt : j < cs.length
      · have hj1 : (j : Int) < (cs.length : Int) := by omega
        have hj0 : (0 : Int) ≤ (j : Int) := by omega
        have ov := HV.out wr hbel
        obtain ⟨c, hc⟩ : ∃ c, cs[j]? = some c := ⟨_, List.getElem?_eq_getElem hlt⟩
        have hcm := marksC_at k cs j c hc
        obtain ⟨c', u, hc', hu, a1, cp1, hue, i1, o1⟩ := ov.kids (j := j) (by rw [HLEN.out]; exact hlt)
        rw [hcm] at hc'
        cases hc'
        have HEND : Hid (endC k (cs.take (j + 1)) = endC k (cs.take j) + 2 + 2 * c.2.2.length) := endC_step k cs j c hc
        have hql := HTK.out j
        have hql2 := (HTK.out (j + 1)).1
        rw [HEND.out] at hql2
        obtain ⟨c1, c2, c3⟩ := ov.cells hcm hu
        subst hue
        obtain ⟨q, hq⟩ : ∃ q, q = endC k (cs.take j) := ⟨_, rfl⟩
        rw [← hq] at hql hql2 HEND c1 c2 c3 o1 ⊢
        simp only [mark1, marksP_length] at c1 c2 c3 o1
        rw [← (mod3 q).1] at c1
        rw [← (mod3 q).2] at c2
        have K := fun W (hW : Below wr.heap.size wr W) => heldPairS_any c.2.2.length a1 c.2.2.length cp1 lo (q + 2) W (by omega) (by omega) (by omega) (kept_new o1 hW)
        have HQ : Hid (((q + 2 : Nat) : Int) = (q : Int) + 1 + 1) := by rw [Hid]; omega
        rw [HQ.out] at K
        obtain ⟨n0, hn0⟩ : ∃ n0, n0 = c.2.2.length := ⟨_, rfl⟩
        rw [← hn0] at K c3 HEND hql2
        have hq1 : (q : Int) ≤ 100000000 := by omega
        have hq0 : (0 : Int) ≤ (q : Int) := by omega
        have hq2 : ¬ (q : Int) + 1 + 1 + 2 * (n0 : Int) < 0 := by omega
        clear o1 i1 hq hc ov hcm hu hn0
        go_wp2_with fail
        refine (K _ (Below.refl _ _)).mono ?_
        rintro e w2 ⟨rfl, g2⟩
        have B2 := hbel.trans ((below_of_grown g2).mono hbel.size)
        clear K g2 c1 c2 c3
        go_wp2
        go_roundw
        case rel => exact ⟨j + 1, by omega, by go_num, by have := HEND.out; congr 1; omega, B2⟩
        case measure => simp [intOf]; omega
      · have hjl : j = cs.length := by omega
        subst hjl
        rw [List.take_length]
        go_wp2
        go_ret
        exact ⟨rfl, hbel⟩
end Go.Proofs.Ytcgodnmbehjfaaa
