/-
  Contract: what is read as a batch, of the program (written by mkireadb.py).
-/
import Derived.Test.YtcfflfpdoihpmaaIRows
namespace Go.Proofs.Ytcfflfpdoihpmaa
open Go.RowKit
set_option linter.unusedVariables false

theorem results_csB {P : Program} {fn : Func} {p r : Tmp} {ty : TypeId} (h : fn.results = #[.cell p ty, .tmp r]) (tmps : Array Value) (w : World) (g : Nat) (t : TypeId) (cs : Array Value) (d : TypeDesc)
    (hp : tmps.getD p undef = .pointer (some ⟨g, 0, none⟩)) (hg : w.heap[g]? = some (.cells cs t (0, 0))) (hu : P.underlying ty = some d) (hd : (match d with | .struct _ | .array _ _ => true | _ => false) = true) (hi : (P.info? ty).map (·.size) = some cs.size) (vb : Value) (hb : tmps.getD r undef = vb) :
    (results fn tmps).run P w = .ok (.tuple #[.agg cs, vb]) w := by
  subst hb
  have hp' : tmps[p]?.getD undef = .pointer (some ⟨g, 0, none⟩) := by simpa using hp
  simp [results, h, hp', asAddr, run_loadVar_row w g t ty cs (0, 0) d hg hu hd hi]
theorem tri_setB {w : World} {b : Nat} {u v x : Value} {t : TypeId} (z0 z1 z2 : Value) (h : w.heap[b]? = some (.cells #[u, v, x] t (0, 0))) : (((w.setCell ⟨b, 0, none⟩ z0).setCell ⟨b, 1, none⟩ z1).setCell ⟨b, 2, none⟩ z2).heap[b]? = some (.cells #[z0, z1, z2] t (0, 0)) :=
  bat_set (j := 2) (bat_set (j := 1) (bat_set (j := 0) h))
theorem triS_below {B b : Nat} {w0 w : World} (h : Below B w0 w) (hb : B ≤ b) (z0 z1 z2 : Value) : Below B w0 (((w.setCell ⟨b, 0, none⟩ z0).setCell ⟨b, 1, none⟩ z1).setCell ⟨b, 2, none⟩ z2) := ((h.setCell hb _).setCell hb _).setCell hb _
theorem tri_own {w : World} {b base e s n : Nat} {v : Value} {xs : List Value} (h : w.ownsRow base e s v n xs) (hv : v.ownBlock ≠ some b) (z0 z1 z2 : Value) : (((w.setCell ⟨b, 0, none⟩ z0).setCell ⟨b, 1, none⟩ z1).setCell ⟨b, 2, none⟩ z2).ownsRow base e s v n xs :=
  ownsRow_setCell_other (ownsRow_setCell_other (ownsRow_setCell_other h hv _) hv _) hv _
/-- What is told of a batch that is read. -/
def RBPost (w : World) (o : Option BatL) (e : Ending) (w' : World) : Prop :=
  ∃ (a : Option Addr) (m c : Nat), e = .returned (.tuple #[.agg #[.int .i64 ((o.getD zeroB).1 : Int), .int .i64 ((o.getD zeroB).2.1 : Int), .slice a m c], .bool o.isSome]) ∧ w'.ownsRow w.heap.size 83 3 (.slice a m c) (o.getD zeroB).2.2.length (ocells (o.getD zeroB).2.2) ∧ Below w.heap.size w w'

theorem infoO : (Try.prog.info? 83).map (fun i => (i.zero, i.size, i.bytes)) = some (some (.agg #[.string ⟨#[]⟩, .string ⟨#[]⟩, .bool false]), 3, 40) := by kernel_rfl

set_option maxRecDepth 100000 in
set_option maxHeartbeats 2000000 in
theorem impl_readBatch (s : List UInt8) (w : World) (hl : s.length ≤ 1048576) :
    Calls Try.prog 30 #[.string ⟨s.toArray⟩] w fun e w' => RBPost w (readBatch s) e w' := by
  obtain ⟨i0, hi0, hz0, hz1, hz2⟩ := info_parts infoO
  have B0 : Below w.heap.size w (w.alloc (.cells #[.int .i64 0, .int .i64 0, .slice none 0 0] 44)) := (Below.refl _ _).alloc (Nat.le_refl _) _
  have HQ : Hid ((w.alloc (.cells #[.int .i64 0, .int .i64 0, .slice none 0 0] 44)).heap[w.heap.size]? = some (.cells #[.int .i64 0, .int .i64 0, .slice none 0 0] 44 (0, 0))) := heap_alloc_new w _
  have BX : Hid (Below w.heap.size w (w.alloc (.cells #[.int .i64 0, .int .i64 0, .slice none 0 0] 44))) := B0
  have HL : Hid (w.heap.size < (w.alloc (.cells #[.int .i64 0, .int .i64 0, .slice none 0 0] 44)).heap.size) := by rw [Hid]; simp
  have K := impl_rows s (w.alloc (.cells #[.int .i64 0, .int .i64 0, .slice none 0 0] 44)) hl
  obtain ⟨o, ho⟩ : ∃ o, o = readBatch s := ⟨_, rfl⟩
  rw [← ho]
  cases hr : rowsL s with
  | none =>
    rw [hr] at K
    have HZ : Hid (o = none) := by rw [Hid, ho]; simp only [readBatch, hr]
    clear hr ho B0
    go_enter Try.func30, Try.ntmps30
    go_wp2_with fail
    refine K.mono ?_
    rintro e w1 ⟨rfl, b1⟩
    have B1 := BX.out.trans (b1.mono BX.out.size)
    have Q1 := (b1.block w.heap.size HL.out).trans HQ.out
    obtain ⟨q0, q1, q2, qf⟩ := bat_cells Q1
    have qf0 := qf 0
    have qf1 := qf 1
    have qf2 := qf 2
    have Q1h : Hid (w1.heap[w.heap.size]? = some (.cells #[.int .i64 0, .int .i64 0, .slice none 0 0] 44 (0, 0))) := Q1
    clear qf b1 K Q1
    go_wp2
    exact bodyPost_ret (v := .tuple #[.agg #[.int .i64 0, .int .i64 0, .slice none 0 0], .bool false]) (results_csB rfl _ _ w.heap.size 44 _ _ rfl (tri_setB (.int .i64 0) (.int .i64 0) (.slice none 0 0) Q1h.out) Try.underlying44 rfl (by kernel_rfl) (.bool false) rfl) rfl (by rw [HZ.out]; exact ⟨none, 0, 0, rfl, World.ownsRow_nil _ _ _ _, triS_below B1 (Nat.le_refl _) _ _ _⟩)
  | some rs =>
    rw [hr] at K
    obtain ⟨h1, hrl, hrm⟩ := rows_small s rs hr
    cases rs with
    | nil => simp at h1
    | cons r rs =>
      obtain ⟨x0, y0⟩ := r
      have HO : Hid (o = batOf (numL x0) (numL y0) (opsR rs)) := by rw [Hid, ho]; simp only [readBatch, hr, readRows]
      have hx0 := (hrm (x0, y0) (by simp)).1
      have hy0 := (hrm (x0, y0) (by simp)).2
      have HM : Hid (∀ p ∈ opsR rs, p.1.length ≤ 1048576 ∧ p.2.1.length ≤ 1048576) := fun p hp => by
        simp only [opsR, List.mem_map] at hp
        obtain ⟨q, hq, rfl⟩ := hp
        have := hrm q (by simp [hq])
        exact ⟨by simp only; omega, by simp only; omega⟩
      have KN := fun W => impl_numbersOfRow x0 y0 W (by simp only at hx0; omega) (by simp only at hy0; omega)
      have hrl' : rs.length ≤ 1048576 := by simp at hrl; omega
      have hlen : ((x0, y0) :: rs).length = rs.length + 1 := rfl
      rw [show RowsPost (w.alloc (.cells #[.int .i64 0, .int .i64 0, .slice none 0 0] 44)) (some ((x0, y0) :: rs)) = fun e w' => ∃ g c : Nat, e = .returned (.tuple #[.slice (some ⟨g, 0, none⟩) (rs.length + 1) c, .bool true]) ∧ w'.ownsRow (w.alloc (.cells #[.int .i64 0, .int .i64 0, .slice none 0 0] 44)).heap.size 90 2 (.slice (some ⟨g, 0, none⟩) (rs.length + 1) c) (rs.length + 1) (pcells ((x0, y0) :: rs)) ∧ Below (w.alloc (.cells #[.int .i64 0, .int .i64 0, .slice none 0 0] 44)).heap.size (w.alloc (.cells #[.int .i64 0, .int .i64 0, .slice none 0 0] 44)) w' from rfl] at K
      obtain ⟨nx, hnx⟩ : ∃ nx, nx = numL x0 := ⟨_, rfl⟩
      obtain ⟨ny, hny⟩ : ∃ ny, ny = numL y0 := ⟨_, rfl⟩
      rw [← hnx, ← hny] at KN HO
      clear hr ho B0 h1 hrm hrl hx0 hy0 hlen hnx hny
      by_cases hn : nx.isSome = true ∧ ny.isSome = true
      · obtain ⟨c, rfl⟩ := Option.isSome_iff_exists.1 hn.1
        obtain ⟨n, rfl⟩ := Option.isSome_iff_exists.1 hn.2
        clear hn
        have HOK : Hid (batchOk c n (opsR rs) = true → o = some (c, n, opsR rs)) := fun h => by rw [HO.out]; simp only [batOf, h]; rfl
        have HNO : Hid (batchOk c n (opsR rs) = false → o = none) := fun h => by rw [HO.out]; simp only [batOf, h]; rfl
        clear HO
        go_enter Try.func30, Try.ntmps30
        go_wp2_with fail
        refine K.mono ?_
        rintro e w1 ⟨g, c1, rfl, o1, b1⟩
        have B1 := BX.out.trans (b1.mono BX.out.size)
        have Q1 : Hid (w1.heap[w.heap.size]? = some (.cells #[.int .i64 0, .int .i64 0, .slice none 0 0] 44 (0, 0))) := (b1.block w.heap.size HL.out).trans HQ.out
        have L1 : Hid (w.heap.size < w1.heap.size) := Nat.lt_of_lt_of_le HL.out b1.size
        have hcap : rs.length + 1 ≤ c1 := by
          rcases o1.2 with ⟨h', h0⟩ | ⟨g', cap', cur, h', hb, hg, hc, _⟩
          · cases h'
          · cases h'; exact hc
        have hc1m : c1 ≤ 9223372036854775807 := by
          rcases o1.2 with ⟨h', h0⟩ | ⟨g', cap', cur, h', hb, hg, hc, hm, _⟩
          · cases h'
          · cases h'; unfold maxLen at hm; omega
        have I1 := (isPairs_own o1).2.2
        have H1C : Hid (∀ j (h : j < rs.length + 1), w1.cell? ⟨g, j * 2, none⟩ = some (.string ⟨(((x0, y0) :: rs)[j]).1.toArray⟩) ∧ w1.cell? ⟨g, j * 2 + 1, none⟩ = some (.string ⟨(((x0, y0) :: rs)[j]).2.toArray⟩)) := fun j h => by
          rcases I1 with h' | ⟨b', off', h', hc⟩
          · simp at h'
          · cases h'; have := hc j (by simpa using h); simpa using this
        have e0 : w1.cell? ⟨g, 0, none⟩ = some (.string ⟨x0.toArray⟩) := (H1C.out 0 (by omega)).1
        have e1 : w1.cell? ⟨g, 1, none⟩ = some (.string ⟨y0.toArray⟩) := (H1C.out 0 (by omega)).2
        have hpos : (0 : Int) < ((rs.length + 1 : Nat) : Int) := by omega
        clear b1 K o1 I1
        go_wp2_with fail
        refine (KN _).mono ?_
        rintro e w2 ⟨rfl, b2⟩
        simp only [numsV]
        have B2 := B1.trans (b2.mono B1.size)
        have Q2 : Hid (w2.heap[w.heap.size]? = some (.cells #[.int .i64 0, .int .i64 0, .slice none 0 0] 44 (0, 0))) := (b2.block w.heap.size L1.out).trans Q1.out
        have L2 : Hid (w.heap.size < w2.heap.size) := Nat.lt_of_lt_of_le L1.out b2.size
        have H2C : Hid (∀ j (h : j < rs.length), w2.cell? ⟨g, 2 + j * 2, none⟩ = some (.string ⟨rs[j].1.toArray⟩) ∧ w2.cell? ⟨g, 2 + j * 2 + 1, none⟩ = some (.string ⟨rs[j].2.toArray⟩)) := fun j h => by
          have h1 := H1C.out (j + 1) (by omega)
          rw [show (j + 1) * 2 = 2 + j * 2 by omega] at h1
          exact ⟨(b2.cell (p := ⟨g, 2 + j * 2, none⟩) (World.block_lt_of_cell? w1 _ h1.1)).trans h1.1, (b2.cell (p := ⟨g, 2 + j * 2 + 1, none⟩) (World.block_lt_of_cell? w1 _ h1.2)).trans h1.2⟩
        have X3 : Hid ((w2.alloc (.cells #[.int .i64 (c : Int), .int .i64 (n : Int), .slice none 0 0] 44)).heap[w2.heap.size]? = some (.cells #[.int .i64 (c : Int), .int .i64 (n : Int), .slice none 0 0] 44 (0, 0))) := heap_alloc_new w2 _
        have Y3 : Hid (Below w2.heap.size w2 (w2.alloc (.cells #[.int .i64 (c : Int), .int .i64 (n : Int), .slice none 0 0] 44))) := (Below.refl _ _).alloc (Nat.le_refl _) _
        have hs1 : (1 : Int) ≤ ((rs.length + 1 : Nat) : Int) := by omega
        have hs2 : ((rs.length + 1 : Nat) : Int) ≤ (c1 : Int) := by omega
        clear b2 KN e0 e1 H1C
        cases rs with
        | nil =>
          have HZ : Hid (o = none) := HNO.out (by simp [opsR, batchOk])
          have HNB : Hid (batchOk c n [] = false) := by rw [Hid]; simp [batchOk]
          clear HOK HNO H2C HM
          have KB := fun W => impl_batchOk c n none 0 [] W (by simp) (by simp) (.inl rfl)
          have hs3 : ((0 : Nat) : Int) ≤ (c1 : Int) := by omega
          rw [HNB.out] at KB
          have X3c := X3.out
          obtain ⟨p0, p1, p2, pf⟩ := bat_cells X3.out
          clear pf X3c
          have B3 : Hid (Below w.heap.size w (w2.alloc (.cells #[.int .i64 (c : Int), .int .i64 (n : Int), .slice none 0 0] 44))) := B2.trans (Y3.out.mono B2.size)
          have Q3 : Hid ((w2.alloc (.cells #[.int .i64 (c : Int), .int .i64 (n : Int), .slice none 0 0] 44)).heap[w.heap.size]? = some (.cells #[.int .i64 0, .int .i64 0, .slice none 0 0] 44 (0, 0))) := (Below.heap_alloc w2 (.cells #[.int .i64 (c : Int), .int .i64 (n : Int), .slice none 0 0] 44) w.heap.size L2.out).trans Q2.out
          have L3 : Hid (w.heap.size < (w2.alloc (.cells #[.int .i64 (c : Int), .int .i64 (n : Int), .slice none 0 0] 44)).heap.size) := Nat.lt_of_lt_of_le L2.out Y3.out.size
          simp only [List.length_nil] at hpos hs1 hs2 hcap hrl' ⊢
          clear Q2 B2 X3 Y3
          go_wp2
          all_goals
            refine wp_loop_rounds 1 ?_
            rw [rounds_succ]
            go_wp2_with fail
            refine (KB _).mono ?_
            rintro e w4 ⟨rfl, b4⟩
            have B4 : Hid (Below w.heap.size w w4) := B3.out.trans (b4.mono B3.out.size)
            have Q4 : Hid (w4.heap[w.heap.size]? = some (.cells #[.int .i64 0, .int .i64 0, .slice none 0 0] 44 (0, 0))) := (b4.block w.heap.size L3.out).trans Q3.out
            obtain ⟨q0, q1, q2, qf⟩ := bat_cells Q4.out
            have qf0 := qf 0
            have qf1 := qf 1
            have qf2 := qf 2
            clear qf b4 KB p0 p1 p2
            go_wp2
            exact bodyPost_ret (v := .tuple #[.agg #[.int .i64 0, .int .i64 0, .slice none 0 0], .bool false]) (results_csB rfl _ _ w.heap.size 44 _ _ rfl (tri_setB (.int .i64 0) (.int .i64 0) (.slice none 0 0) Q4.out) Try.underlying44 rfl (by kernel_rfl) (.bool false) rfl) rfl (by rw [HZ.out]; exact ⟨none, 0, 0, rfl, World.ownsRow_nil _ _ _ _, triS_below B4.out (Nat.le_refl _) _ _ _⟩)
        | cons r1 rs1 =>
          have hc1n : ¬ c1 = 1 := by simp at hcap; omega
          obtain ⟨rs, hrs⟩ : ∃ rs, rs = r1 :: rs1 := ⟨_, rfl⟩
          rw [← hrs] at HM hrl' HOK HNO hcap hpos H2C hs1 hs2 ⊢
          clear hrs
          go_wp2
          go_loopw [10, 36] (fun _ i wr => ∃ j c2 : Nat, ∃ a2 : Option Addr, j ≤ rs.length ∧ i = .int .i64 (j : Int) ∧ Hid (wr.heap[w2.heap.size]? = some (.cells #[.int .i64 (c : Int), .int .i64 (n : Int), .slice a2 j c2] 44 (0, 0))) ∧ wr.ownsRow (w2.heap.size + 1) 83 3 (.slice a2 j c2) j (ocells (opsR (rs.take j))) ∧ Below w2.heap.size w2 wr) (fun _ i _ => rs.length - (intOf i).toNat)
          case atStart => exact ⟨0, 0, none, Nat.zero_le _, rfl, X3, World.ownsRow_nil _ _ _ _, Y3.out⟩
          case round =>
            obtain ⟨j, c2, a2, hj, rfl, HX, hown, hbel⟩ := hrel
            have hsz := hbel.size
            have hbs : w2.heap.size < wr.heap.size := lt_of_block HX.out
            by_cases hlt : j < rs.length
            · have d1 := (hbel.cell (p := ⟨g, 2 + j * 2, none⟩) (World.block_lt_of_cell? w2 _ (H2C.out j hlt).1)).trans (H2C.out j hlt).1
              have d2 := (hbel.cell (p := ⟨g, 2 + j * 2 + 1, none⟩) (World.block_lt_of_cell? w2 _ (H2C.out j hlt).2)).trans (H2C.out j hlt).2
              have hj0 : (0 : Int) ≤ (j : Int) := by omega
              have hj1 : (j : Int) < (rs.length : Int) := by omega
              have hlow : ∀ k, (Value.slice a2 j c2).ownBlock = some k → w2.heap.size + 1 ≤ k := fun k hk => (hown.lt k hk).1
              have HT : Hid (ocells (opsR (rs.take (j + 1))) = ocells (opsR (rs.take j)) ++ [.string ⟨rs[j].1.toArray⟩, .string ⟨rs[j].2.toArray⟩, .bool rs[j].2.isEmpty]) := by
                rw [Hid, opsR_take rs j hlt, ocells_app]; rfl
              obtain ⟨x, hx⟩ : ∃ x, x = rs[j].1 := ⟨_, rfl⟩
              obtain ⟨y, hy⟩ : ∃ y, y = rs[j].2 := ⟨_, rfl⟩
              rw [← hx] at d1 HT
              rw [← hy] at d2 HT
              obtain ⟨p0, p1, p2, pf⟩ := bat_cells HX.out
              have hxx : (wr.alloc (.cells #[.string ⟨x.toArray⟩, .string ⟨y.toArray⟩] 90)).cell? ⟨w2.heap.size, 2, none⟩ = some (.slice a2 j c2) := (World.cell?_alloc_lt wr _ ⟨w2.heap.size, 2, none⟩ hbs).trans p2
              have HX2 : Hid (((wr.alloc (.cells #[.string ⟨x.toArray⟩, .string ⟨y.toArray⟩] 90)).alloc (.cells #[.string ⟨x.toArray⟩, .string ⟨y.toArray⟩, .bool y.isEmpty] 83)).heap[w2.heap.size]? = some (.cells #[.int .i64 (c : Int), .int .i64 (n : Int), .slice a2 j c2] 44 (0, 0))) := by
                rw [Hid, Below.heap_alloc _ _ _ (by simp; omega), Below.heap_alloc _ _ _ hbs]; exact HX.out
              have W2 : Hid (Below w2.heap.size w2 ((wr.alloc (.cells #[.string ⟨x.toArray⟩, .string ⟨y.toArray⟩] 90)).alloc (.cells #[.string ⟨x.toArray⟩, .string ⟨y.toArray⟩, .bool y.isEmpty] 83))) := (hbel.alloc hsz _).alloc (by simp; omega) _
              have hown2 := hown.alloc (.cells #[.string ⟨x.toArray⟩, .string ⟨y.toArray⟩] 90)
              clear hx hy hown hbel p0 p1 p2 pf HX
              go_wp2_with (at_builtin; refine wpList_append_lies _ rfl _ _ 42 rfl (w2.heap.size + 1) 83 i0 (.agg #[.string ⟨#[]⟩, .string ⟨#[]⟩, .bool false]) 3 40 Try.underlying42 hi0 hz0 hz1 hz2 rfl (by decide) (.slice a2 j c2) j _ rfl (hown2.alloc _) ⟨wr.heap.size + 1, 0, none⟩ 1 1 [.string ⟨x.toArray⟩, .string ⟨y.toArray⟩, .bool y.isEmpty] rfl rfl (World.news_of_block (cs := #[.string ⟨x.toArray⟩, .string ⟨y.toArray⟩, .bool y.isEmpty]) (t := 83) (fr := (0, 0)) (by have := heap_alloc_new (wr.alloc (.cells #[.string ⟨x.toArray⟩, .string ⟨y.toArray⟩] 90)) (.cells #[.string ⟨x.toArray⟩, .string ⟨y.toArray⟩, .bool y.isEmpty] 83); simpa using this)) (by simp [Value.oneCell']) (by omega) (by unfold maxLen; omega) (by omega) (by simp; omega) (wr.heap.size + 2) (by simp) ?_; intro g2 cap2 w4 hown4 hgrow hat hlt4; have HG4 : Hid (w4.heap[w2.heap.size]? = some (.cells #[.int .i64 (c : Int), .int .i64 (n : Int), .slice a2 j c2] 44 (0, 0))) := (hgrow.block w2.heap.size (by simp; omega) (fun e => by have := hlow _ e.symm; omega)).trans HX2.out; obtain ⟨z0, z1, z2, zf⟩ := bat_cells HG4.out; have zf2 := zf 2; have B4 : Hid (Below w2.heap.size w2 w4) := W2.out.grown hgrow (by simp; omega) (fun k hk => by have := hlow k hk; omega); have HO4 : Hid (w4.ownsRow (w2.heap.size + 1) 83 3 (.slice (some ⟨g2, 0, none⟩) (j + 1) cap2) (j + 1) (ocells (opsR (rs.take (j + 1))))) := (by rw [Hid, HT.out]; exact hown4); clear hgrow hown4 hown2 zf z0 z1)
              go_roundw
              case rel => exact ⟨j + 1, cap2, some ⟨g2, 0, none⟩, by omega, by go_num, bat_set (j := 2) HG4.out, ownsRow_setCell_other HO4.out (fun e => Nat.not_succ_le_self _ (HO4.out.lt _ e).1) _, B4.out.setCell (Nat.le_refl _) _⟩
              case measure => simp [intOf]; omega
            · have hjl : j = rs.length := by omega
              subst hjl
              rw [List.take_length] at hown
              have HW := hidOwn hown
              have HB : Hid (Below w2.heap.size w2 wr) := hbel
              have HI : Hid (IsOps wr a2 (opsR rs)) := (isOps_own hown).2.2
              have KB := fun W h => impl_batchOk c n a2 c2 (opsR rs) W (by rw [opsR_length]; omega) HM.out h
              rw [opsR_length] at KB
              obtain ⟨p0, p1, p2, pf⟩ := bat_cells HX.out
              have pf0 := pf 0
              have B3 : Hid (Below w.heap.size w wr) := B2.trans (hbel.mono B2.size)
              have Q3 : Hid (wr.heap[w.heap.size]? = some (.cells #[.int .i64 0, .int .i64 0, .slice none 0 0] 44 (0, 0))) := (hbel.block w.heap.size L2.out).trans Q2.out
              have L3 : Hid (w.heap.size < wr.heap.size) := Nat.lt_of_lt_of_le L2.out hsz
              clear hown pf hbel H2C B2 Q2 X3 Y3 hlt
              cases hok : batchOk c n (opsR rs) with
              | false =>
                rw [hok] at KB
                have HZ : Hid (o = none) := HNO.out hok
                clear HOK HNO hok HM
                go_wp2_with fail
                refine (KB _ HI.out).mono ?_
                rintro e w4 ⟨rfl, b4⟩
                have B4 : Hid (Below w.heap.size w w4) := B3.out.trans (b4.mono B3.out.size)
                have Q4 : Hid (w4.heap[w.heap.size]? = some (.cells #[.int .i64 0, .int .i64 0, .slice none 0 0] 44 (0, 0))) := (b4.block w.heap.size L3.out).trans Q3.out
                obtain ⟨q0, q1, q2, qf⟩ := bat_cells Q4.out
                have qf0 := qf 0
                have qf1 := qf 1
                have qf2 := qf 2
                clear qf b4 KB p0 p1 p2 pf0
                go_wp2
                exact bodyPost_ret (v := .tuple #[.agg #[.int .i64 0, .int .i64 0, .slice none 0 0], .bool false]) (results_csB rfl _ _ w.heap.size 44 _ _ rfl (tri_setB (.int .i64 0) (.int .i64 0) (.slice none 0 0) Q4.out) Try.underlying44 rfl (by kernel_rfl) (.bool false) rfl) rfl (by rw [HZ.out]; exact ⟨none, 0, 0, rfl, World.ownsRow_nil _ _ _ _, triS_below B4.out (Nat.le_refl _) _ _ _⟩)
              | true =>
                rw [hok] at KB
                have HZ : Hid (o = some (c, n, opsR rs)) := HOK.out hok
                have HWL : Hid (w2.heap.size < wr.heap.size) := hbs
                clear HOK HNO hok HM
                go_wp2_with fail
                refine (KB _ HI.out).mono ?_
                rintro e w4 ⟨rfl, b4⟩
                have B4 : Hid (Below w.heap.size w w4) := B3.out.trans (b4.mono B3.out.size)
                have Q4 : Hid (w4.heap[w.heap.size]? = some (.cells #[.int .i64 0, .int .i64 0, .slice none 0 0] 44 (0, 0))) := (b4.block w.heap.size L3.out).trans Q3.out
                have X4 : Hid (w4.heap[w2.heap.size]? = some (.cells #[.int .i64 (c : Int), .int .i64 (n : Int), .slice a2 rs.length c2] 44 (0, 0))) := (b4.block w2.heap.size HWL.out).trans HX.out
                have W4 : Hid (w4.ownsRow (w2.heap.size + 1) 83 3 (.slice a2 rs.length c2) rs.length (ocells (opsR rs))) := kept3 HW.out b4
                obtain ⟨q0, q1, q2, qf⟩ := bat_cells Q4.out
                have qf0 := qf 0
                have qf1 := qf 1
                have qf2 := qf 2
                clear qf b4 KB p0 p1 p2 pf0
                obtain ⟨p0, p1, p2, pf⟩ := bat_cells X4.out
                clear pf
                go_wp2
                have hne : (Value.slice a2 rs.length c2).ownBlock ≠ some w.heap.size := fun e => by have := (W4.out.lt _ e).1; have := L2.out; omega
                exact bodyPost_ret (v := .tuple #[.agg #[.int .i64 (c : Int), .int .i64 (n : Int), .slice a2 rs.length c2], .bool true]) (results_csB rfl _ _ w.heap.size 44 _ _ rfl (tri_setB (.int .i64 (c : Int)) (.int .i64 (n : Int)) (.slice a2 rs.length c2) Q4.out) Try.underlying44 rfl (by kernel_rfl) (.bool true) rfl) rfl (by rw [HZ.out]; exact ⟨a2, rs.length, c2, rfl, by have h := tri_own (b := w.heap.size) (W4.out.mono (show w.heap.size ≤ w2.heap.size + 1 by have := L2.out; omega)) hne (.int .i64 (c : Int)) (.int .i64 (n : Int)) (.slice a2 rs.length c2); simpa [opsR_length] using h, triS_below B4.out (Nat.le_refl _) _ _ _⟩)
      · have HZ : Hid (o = none) := by
          rw [Hid, HO.out]
          cases nx with
          | none => exact batOf_no1 _ _
          | some c => cases ny with
            | none => rfl
            | some n => simp at hn
        have KN2 : ∀ W, Calls Try.prog 72 #[.agg #[.string ⟨x0.toArray⟩, .string ⟨y0.toArray⟩]] W fun e w' => e = .returned (.tuple #[.int .i64 0, .int .i64 0, .bool false]) ∧ Below W.heap.size W w' := fun W => by
          have := KN W
          cases nx with
          | none => cases ny <;> exact this
          | some c => cases ny with
            | none => exact this
            | some n => simp at hn
        clear HO KN hn
        go_enter Try.func30, Try.ntmps30
        go_wp2_with fail
        refine K.mono ?_
        rintro e w1 ⟨g, c1, rfl, o1, b1⟩
        have B1 := BX.out.trans (b1.mono BX.out.size)
        have Q1 : Hid (w1.heap[w.heap.size]? = some (.cells #[.int .i64 0, .int .i64 0, .slice none 0 0] 44 (0, 0))) := (b1.block w.heap.size HL.out).trans HQ.out
        have L1 : Hid (w.heap.size < w1.heap.size) := Nat.lt_of_lt_of_le HL.out b1.size
        have e0 : w1.cell? ⟨g, 0, none⟩ = some (.string ⟨x0.toArray⟩) := o1.cellAt 0 (by omega)
        have e1 : w1.cell? ⟨g, 1, none⟩ = some (.string ⟨y0.toArray⟩) := o1.cellAt 1 (by omega)
        have hpos : (0 : Int) < ((rs.length + 1 : Nat) : Int) := by omega
        clear b1 K o1
        go_wp2_with fail
        refine (KN2 _).mono ?_
        rintro e w2 ⟨rfl, b2⟩
        have B2 := B1.trans (b2.mono B1.size)
        have Q2 : Hid (w2.heap[w.heap.size]? = some (.cells #[.int .i64 0, .int .i64 0, .slice none 0 0] 44 (0, 0))) := (b2.block w.heap.size L1.out).trans Q1.out
        obtain ⟨q0, q1, q2, qf⟩ := bat_cells Q2.out
        have qf0 := qf 0
        have qf1 := qf 1
        have qf2 := qf 2
        clear qf b2 KN2 e0 e1
        go_wp2
        exact bodyPost_ret (v := .tuple #[.agg #[.int .i64 0, .int .i64 0, .slice none 0 0], .bool false]) (results_csB rfl _ _ w.heap.size 44 _ _ rfl (tri_setB (.int .i64 0) (.int .i64 0) (.slice none 0 0) Q2.out) Try.underlying44 rfl (by kernel_rfl) (.bool false) rfl) rfl (by rw [HZ.out]; exact ⟨none, 0, 0, rfl, World.ownsRow_nil _ _ _ _, triS_below B2 (Nat.le_refl _) _ _ _⟩)
end Go.Proofs.Ytcfflfpdoihpmaa
