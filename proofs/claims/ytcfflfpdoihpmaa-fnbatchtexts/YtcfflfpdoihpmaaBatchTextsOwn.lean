/-
  At every code a right batch comes back from its text, and what is read as a batch, written again, has just its bytes: FnBatchTexts answers true. No condition.
-/
import Derived.Test.YtcfflfpdoihpmaaCodeLaw
import Derived.Test.YtcfflfpdoihpmaaDrawP
import Derived.Test.YtcfflfpdoihpmaaSReadB
import Derived.Test.YtcfflfpdoihpmaaMathBB
import Derived.Test.YtcfflfpdoihpmaaSameO
import Derived.ProofKit
import Derived.OpenShut
import Derived.ShutString
import Derived.ChangeOld
import Derived.Below
namespace Go.Proofs.Ytcfflfpdoihpmaa.fnBatchTexts
open Go.ChangeShapes Go.WideShapes Go.ChangeAt Go.RowKit
open Go.ChangeMaps (open_string shut_string)
set_option linter.unusedVariables false

theorem own : ownKnob Try.prog.godebug = none := by kernel_rfl

set_option maxRecDepth 100000 in
set_option maxHeartbeats 4000000 in
theorem walk (a0 : Option Addr) (len0 cap0 : Nat) (w : World) (w0 : Code w a0 len0) :
    Calls Try.prog 8 #[.slice a0 len0 cap0] w fun e w' => e = .returned (.bool true) ∧ Below w.heap.size w w' := by
  by_cases hb : len0 ≤ 1048576
  · have HB := bigNo len0 cap0 a0 w hb
    have HC : Hid (Code w a0 len0) := w0
    clear w0
    go_enter Try.func8, Try.ntmps8
    go_wp2_with fail
    refine HB.mono ?_
    rintro e w ⟨rfl, rfl⟩
    clear HB
    have HD := drawBatch len0 cap0 a0 w hb HC.out
    go_wp2_with fail
    refine HD.mono ?_
    rintro e w1 ⟨x, y, ps, a2, c2, hpl, hsm, rfl, o1, b1⟩
    have H1 := fun W h => impl_batchText x y a2 c2 ps W (by omega) (smallO_le hsm) h
    have H2 := fun W h => spec_batchText x y a2 c2 ps W (by omega) (smallO_le hsm) h
    have H3 := fun W h => impl_batchOk x y a2 c2 ps W (by omega) (smallO_le hsm) h
    have hbl := batchB_len x y ps
    have B1 : Hid (Below w.heap.size w w1) := b1
    have Pa : Hid (Below w1.heap.size w1 (w1.alloc (.cells #[.int .i64 x, .int .i64 y, .slice a2 ps.length c2] 44))) := (Below.refl _ _).alloc (Nat.le_refl _) _
    have B1a : Hid (Below w.heap.size w (w1.alloc (.cells #[.int .i64 x, .int .i64 y, .slice a2 ps.length c2] 44))) := B1.out.trans (Pa.out.mono B1.out.size)
    have X1 : Hid ((w1.alloc (.cells #[.int .i64 x, .int .i64 y, .slice a2 ps.length c2] 44)).heap[w1.heap.size]? = some (.cells #[.int .i64 x, .int .i64 y, .slice a2 ps.length c2] 44 (0, 0))) := heap_alloc_new w1 _
    have I1 : Hid (IsOps (w1.alloc (.cells #[.int .i64 x, .int .i64 y, .slice a2 ps.length c2] 44)) a2 ps) := (isOps_own (kept3 o1 Pa.out)).2.2
    clear HD o1 b1 hsm
    cases hok : batchOk x y ps with
    | false =>
      have hs := batch_not x y ps hok
      rw [hs] at H1 H2
      rw [hok] at H3
      have J0 := fun W => impl_readBatch [] W (by simp)
      rw [batch_empty] at J0
      clear hs hok
      go_wp2_with fail
      refine (H1 _ I1.out).mono ?_
      rintro e w2 ⟨rfl, b2⟩
      have B2 : Hid (Below w.heap.size w w2) := B1a.out.trans (b2.mono B1a.out.size)
      have X2 : Hid (w2.heap[w1.heap.size]? = some (.cells #[.int .i64 x, .int .i64 y, .slice a2 ps.length c2] 44 (0, 0))) := (b2.block w1.heap.size (by simp)).trans X1.out
      have I2 : Hid (IsOps w2 a2 ps) := I1.out.later b2
      clear b2 H1 X1 I1 B1a Pa
      go_wp2_with fail
      refine (J0 _).mono ?_
      rintro e w3 ⟨a4, m4, c4, rfl, o4, b3⟩
      have B3 : Hid (Below w.heap.size w w3) := B2.out.trans (b3.mono B2.out.size)
      have X3 : Hid (w3.heap[w1.heap.size]? = some (.cells #[.int .i64 x, .int .i64 y, .slice a2 ps.length c2] 44 (0, 0))) := (b3.block w1.heap.size (lt_of_block X2.out)).trans X2.out
      have I3 : Hid (IsOps w3 a2 ps) := I2.out.later b3
      simp only [Option.getD_none, Option.isSome_none, zeroB]
      have Pb : Hid (∀ o, Below w3.heap.size w3 (w3.alloc o)) := fun o => (Below.refl _ _).alloc (Nat.le_refl _) _
      have B3a : Hid (∀ o, Below w.heap.size w (w3.alloc o)) := fun o => B3.out.trans ((Pb.out o).mono B3.out.size)
      have X3a : Hid (∀ o, (w3.alloc o).heap[w1.heap.size]? = some (.cells #[.int .i64 x, .int .i64 y, .slice a2 ps.length c2] 44 (0, 0))) := fun o => ((Pb.out o).block w1.heap.size (lt_of_block X3.out)).trans X3.out
      have xc := fun o => bat_cells (X3a.out o)
      have xc0 := fun o => (xc o).1
      have xc1 := fun o => (xc o).2.1
      have xc2 := fun o => (xc o).2.2.1
      clear b3 J0 o4 X2 I2 xc
      go_wp2_with fail
      refine (H2 _ (I3.out.later (Pb.out _))).mono ?_
      rintro e w4 ⟨rfl, b4⟩
      have B4 : Hid (Below w.heap.size w w4) := (B3a.out _).trans (b4.mono (B3a.out _).size)
      have X4 : Hid (w4.heap[w1.heap.size]? = some (.cells #[.int .i64 x, .int .i64 y, .slice a2 ps.length c2] 44 (0, 0))) := (b4.block w1.heap.size (lt_of_block (X3a.out _))).trans (X3a.out _)
      have I4 : Hid (IsOps w4 a2 ps) := (I3.out.later (Pb.out _)).later b4
      obtain ⟨u0, u1, u2, uf⟩ := bat_cells X4.out
      clear uf
      clear b4 H2 xc0 xc1 xc2 X3a I3 B3a
      go_wp2_with fail
      refine (H3 _ I4.out).mono ?_
      rintro e w5 ⟨rfl, b5⟩
      have B5 : Hid (Below w.heap.size w w5) := B4.out.trans (b5.mono B4.out.size)
      clear b5 H3 u0 u1 u2 X4 I4
      have H4 := drawReadB len0 cap0 a0 w5 hb (HC.out.later B5.out)
      go_wp2_with fail
      refine H4.mono ?_
      rintro e v1 ⟨l, hll, rfl, bv1⟩
      have D1 : Hid (Below w.heap.size w v1) := B5.out.trans (bv1.mono B5.out.size)
      have J1 := fun W => impl_readBatch l W (by omega)
      have J2 := fun W => spec_readBatch l W (by omega)
      clear H4 bv1
      cases hr : readBatch l with
      | none =>
        rw [hr] at J1 J2
        clear hr
        go_wp2_with fail
        refine (J1 _).mono ?_
        rintro e v2 ⟨a6, m6, c6, rfl, o6, bv2⟩
        have D2 : Hid (Below w.heap.size w v2) := D1.out.trans (bv2.mono D1.out.size)
        simp only [Option.getD_none, Option.isSome_none, zeroB]
        have D2a : Hid (Below w.heap.size w (v2.alloc (.cells #[.int .i64 ((0 : Nat) : Int), .int .i64 ((0 : Nat) : Int), .slice a6 m6 c6] 44))) := D2.out.alloc D2.out.size _
        clear bv2 o6 J1
        go_wp2_with fail
        refine (J2 _).mono ?_
        rintro e v3 ⟨a7, m7, c7, rfl, o7, bv3⟩
        have D3 : Hid (Below w.heap.size w v3) := D2a.out.trans (bv3.mono D2a.out.size)
        simp only [Option.getD_none, Option.isSome_none, zeroB]
        have D3a : ∀ o, Below w.heap.size w (v3.alloc o) := fun o => D3.out.alloc D3.out.size o
        clear bv3 o7 J2
        go_wp2
        go_ret
        exact ⟨rfl, D3a _⟩
      | some q =>
        obtain ⟨c, n, qs⟩ := q
        obtain ⟨hok, hback⟩ := batch_back l c n qs hr
        have hq := batchOk_of c n qs hok
        have hql : qs.length ≤ 12 := hq.2.2.2.1
        have HQM : Hid (∀ p ∈ qs, p.1.length ≤ 1048576 ∧ p.2.1.length ≤ 1048576) := fun p hp => by
          have := opOk_len p (List.all_eq_true.1 hq.2.2.2.2 p hp)
          exact ⟨by omega, by omega⟩
        have J3 := fun a c6 W h => impl_batchText (c : Int) (n : Int) a c6 qs W (by omega) HQM.out h
        rw [hback] at J3
        have HJ3 : Hid (∀ a c6 W, IsOps W a qs → Calls Try.prog 28 #[.agg #[.int .i64 (c : Int), .int .i64 (n : Int), .slice a qs.length c6]] W fun e w' => e = .returned (.string ⟨l.toArray⟩) ∧ Below W.heap.size W w') := J3
        rw [hr] at J1 J2
        clear hr hok hback hq J3
        go_wp2_with fail
        refine (J1 _).mono ?_
        rintro e v2 ⟨a6, m6, c6, rfl, o6, bv2⟩
        simp only [Option.getD_some, Option.isSome_some] at o6 ⊢
        obtain ⟨rfl, _, _⟩ := isOps_own o6
        have D2 : Hid (Below w.heap.size w v2) := D1.out.trans (bv2.mono D1.out.size)
        have Ba : Hid (Below v2.heap.size v2 (v2.alloc (.cells #[.int .i64 (c : Int), .int .i64 (n : Int), .slice a6 qs.length c6] 44))) := (Below.refl _ _).alloc (Nat.le_refl _) _
        have D2a : Hid (Below w.heap.size w (v2.alloc (.cells #[.int .i64 (c : Int), .int .i64 (n : Int), .slice a6 qs.length c6] 44))) := D2.out.trans (Ba.out.mono D2.out.size)
        have Z2 : Hid ((v2.alloc (.cells #[.int .i64 (c : Int), .int .i64 (n : Int), .slice a6 qs.length c6] 44)).heap[v2.heap.size]? = some (.cells #[.int .i64 (c : Int), .int .i64 (n : Int), .slice a6 qs.length c6] 44 (0, 0))) := heap_alloc_new v2 _
        have O6 := hidOwn (kept3 o6 Ba.out)
        clear bv2 o6 J1
        go_wp2_with fail
        refine (J2 _).mono ?_
        rintro e v3 ⟨a7, m7, c7, rfl, o7, bv3⟩
        simp only [Option.getD_some, Option.isSome_some] at o7 ⊢
        have D3 : Hid (Below w.heap.size w v3) := D2a.out.trans (bv3.mono D2a.out.size)
        have Z3 : Hid (v3.heap[v2.heap.size]? = some (.cells #[.int .i64 (c : Int), .int .i64 (n : Int), .slice a6 qs.length c6] 44 (0, 0))) := (bv3.block v2.heap.size (by simp)).trans Z2.out
        have O7 := hidOwn (kept3 O6.out bv3)
        have Bb : Hid (Below v3.heap.size v3 (v3.alloc (.cells #[.int .i64 (c : Int), .int .i64 (n : Int), .slice a7 m7 c7] 44))) := (Below.refl _ _).alloc (Nat.le_refl _) _
        have D3a : Hid (Below w.heap.size w (v3.alloc (.cells #[.int .i64 (c : Int), .int .i64 (n : Int), .slice a7 m7 c7] 44))) := D3.out.trans (Bb.out.mono D3.out.size)
        have Z3a : Hid ((v3.alloc (.cells #[.int .i64 (c : Int), .int .i64 (n : Int), .slice a7 m7 c7] 44)).heap[v2.heap.size]? = some (.cells #[.int .i64 (c : Int), .int .i64 (n : Int), .slice a6 qs.length c6] 44 (0, 0))) := (Bb.out.block v2.heap.size (lt_of_block Z3.out)).trans Z3.out
        have I7 : Hid (IsOps (v3.alloc (.cells #[.int .i64 (c : Int), .int .i64 (n : Int), .slice a7 m7 c7] 44)) (some ⟨0, 0, none⟩) [] ) := .inl rfl
        have I8 := (isOps_own (kept3 O7.out Bb.out)).2.2
        have HI8 : Hid (IsOps (v3.alloc (.cells #[.int .i64 (c : Int), .int .i64 (n : Int), .slice a7 m7 c7] 44)) a6 qs) := I8
        obtain ⟨z0, z1, z2, zf⟩ := bat_cells Z3a.out
        clear zf
        clear bv3 o7 J2 Z2 Z3 O6 O7 I7 I8
        go_wp2_with fail
        refine (HJ3.out _ _ _ HI8.out).mono ?_
        rintro e v4 ⟨rfl, bv4⟩
        have D4 : Hid (Below w.heap.size w v4) := D3a.out.trans (bv4.mono D3a.out.size)
        clear bv4 z0 z1 z2
        go_wp2
        go_ret
        exact ⟨rfl, D4.out⟩
    | true =>
      have hre := batch_fore x y ps hok
      obtain ⟨hn1, hn2, _⟩ := batchOk_of x y ps hok
      have e1 := (numOk_nat x hn1).1
      have e2 := (numOk_nat y hn2).1
      rw [hok] at H3
      obtain ⟨s, hs⟩ : ∃ s, s = batchB x y ps := ⟨_, rfl⟩
      rw [← hs] at H1 H2 hbl hre
      have J0 := fun W => impl_readBatch s W (by omega)
      rw [hre] at J0
      have HE : Hid (((x.toNat : Nat) : Int) = x ∧ ((y.toNat : Nat) : Int) = y) := ⟨e1.symm, e2.symm⟩
      clear hs hok hre hn1 hn2 e1 e2
      go_wp2_with fail
      refine (H1 _ I1.out).mono ?_
      rintro e w2 ⟨rfl, b2⟩
      have B2 : Hid (Below w.heap.size w w2) := B1a.out.trans (b2.mono B1a.out.size)
      have X2 : Hid (w2.heap[w1.heap.size]? = some (.cells #[.int .i64 x, .int .i64 y, .slice a2 ps.length c2] 44 (0, 0))) := (b2.block w1.heap.size (by simp)).trans X1.out
      have I2 : Hid (IsOps w2 a2 ps) := I1.out.later b2
      clear b2 H1 X1 I1 B1a Pa
      go_wp2_with fail
      refine (J0 _).mono ?_
      rintro e w3 ⟨a4, m4, c4, rfl, o4, b3⟩
      simp only [Option.getD_some, Option.isSome_some] at o4 ⊢
      rw [HE.out.1, HE.out.2]
      obtain ⟨rfl, _, _⟩ := isOps_own o4
      have B3 : Hid (Below w.heap.size w w3) := B2.out.trans (b3.mono B2.out.size)
      have X3 : Hid (w3.heap[w1.heap.size]? = some (.cells #[.int .i64 x, .int .i64 y, .slice a2 ps.length c2] 44 (0, 0))) := (b3.block w1.heap.size (lt_of_block X2.out)).trans X2.out
      have I3 : Hid (IsOps w3 a2 ps) := I2.out.later b3
      have Pb : Hid (Below w3.heap.size w3 (w3.alloc (.cells #[.int .i64 x, .int .i64 y, .slice a4 ps.length c4] 44))) := (Below.refl _ _).alloc (Nat.le_refl _) _
      have B3a : Hid (Below w.heap.size w (w3.alloc (.cells #[.int .i64 x, .int .i64 y, .slice a4 ps.length c4] 44))) := B3.out.trans (Pb.out.mono B3.out.size)
      have X3a : Hid ((w3.alloc (.cells #[.int .i64 x, .int .i64 y, .slice a4 ps.length c4] 44)).heap[w1.heap.size]? = some (.cells #[.int .i64 x, .int .i64 y, .slice a2 ps.length c2] 44 (0, 0))) := (Pb.out.block w1.heap.size (lt_of_block X3.out)).trans X3.out
      have Y3 : Hid ((w3.alloc (.cells #[.int .i64 x, .int .i64 y, .slice a4 ps.length c4] 44)).heap[w3.heap.size]? = some (.cells #[.int .i64 x, .int .i64 y, .slice a4 ps.length c4] 44 (0, 0))) := heap_alloc_new w3 _
      have I3a : Hid (IsOps (w3.alloc (.cells #[.int .i64 x, .int .i64 y, .slice a4 ps.length c4] 44)) a2 ps) := I3.out.later Pb.out
      have K3a : Hid (IsOps (w3.alloc (.cells #[.int .i64 x, .int .i64 y, .slice a4 ps.length c4] 44)) a4 ps) := (isOps_own (kept3 o4 Pb.out)).2.2
      obtain ⟨u0, u1, u2, uf⟩ := bat_cells X3a.out
      clear uf
      clear b3 J0 o4 X2 I2 X3 I3
      go_wp2_with fail
      refine (H2 _ I3a.out).mono ?_
      rintro e w4 ⟨rfl, b4⟩
      have B4 : Hid (Below w.heap.size w w4) := B3a.out.trans (b4.mono B3a.out.size)
      have X4 : Hid (w4.heap[w1.heap.size]? = some (.cells #[.int .i64 x, .int .i64 y, .slice a2 ps.length c2] 44 (0, 0))) := (b4.block w1.heap.size (lt_of_block X3a.out)).trans X3a.out
      have Y4 : Hid (w4.heap[w3.heap.size]? = some (.cells #[.int .i64 x, .int .i64 y, .slice a4 ps.length c4] 44 (0, 0))) := (b4.block w3.heap.size (lt_of_block Y3.out)).trans Y3.out
      have I4 : Hid (IsOps w4 a2 ps) := I3a.out.later b4
      have K4 : Hid (IsOps w4 a4 ps) := K3a.out.later b4
      clear u0 u1 u2
      obtain ⟨u0, u1, u2, uf⟩ := bat_cells X4.out
      clear uf
      clear b4 H2 X3a Y3 I3a K3a B3a
      go_wp2_with fail
      refine (H3 _ I4.out).mono ?_
      rintro e w5 ⟨rfl, b5⟩
      have B5 : Hid (Below w.heap.size w w5) := B4.out.trans (b5.mono B4.out.size)
      have X5 : Hid (w5.heap[w1.heap.size]? = some (.cells #[.int .i64 x, .int .i64 y, .slice a2 ps.length c2] 44 (0, 0))) := (b5.block w1.heap.size (lt_of_block X4.out)).trans X4.out
      have Y5 : Hid (w5.heap[w3.heap.size]? = some (.cells #[.int .i64 x, .int .i64 y, .slice a4 ps.length c4] 44 (0, 0))) := (b5.block w3.heap.size (lt_of_block Y4.out)).trans Y4.out
      have I5 : Hid (IsOps w5 a2 ps) := I4.out.later b5
      have K5 : Hid (IsOps w5 a4 ps) := K4.out.later b5
      clear u0 u1 u2
      obtain ⟨u0, u1, u2, uf⟩ := bat_cells X5.out
      clear uf
      obtain ⟨t0, t1, t2, tf⟩ := bat_cells Y5.out
      clear tf
      clear b5 H3 X4 Y4 I4 K4
      go_wp2_with fail
      refine (sameOps_same ps a4 a2 c4 c2 w5 (by omega) K5.out I5.out).mono ?_
      rintro e w6 ⟨rfl, b6⟩
      have B6 : Hid (Below w.heap.size w w6) := B5.out.trans (b6.mono B5.out.size)
      clear b6 u0 u1 u2 t0 t1 t2 X5 Y5 I5 K5
      have H4 := drawReadB len0 cap0 a0 w6 hb (HC.out.later B6.out)
      go_wp2_with fail
      refine H4.mono ?_
      rintro e v1 ⟨l, hll, rfl, bv1⟩
      have D1 : Hid (Below w.heap.size w v1) := B6.out.trans (bv1.mono B6.out.size)
      have J1 := fun W => impl_readBatch l W (by omega)
      have J2 := fun W => spec_readBatch l W (by omega)
      clear H4 bv1
      cases hr : readBatch l with
      | none =>
        rw [hr] at J1 J2
        clear hr
        go_wp2_with fail
        refine (J1 _).mono ?_
        rintro e v2 ⟨a6, m6, c6, rfl, o6, bv2⟩
        have D2 : Hid (Below w.heap.size w v2) := D1.out.trans (bv2.mono D1.out.size)
        simp only [Option.getD_none, Option.isSome_none, zeroB]
        have D2a : Hid (Below w.heap.size w (v2.alloc (.cells #[.int .i64 ((0 : Nat) : Int), .int .i64 ((0 : Nat) : Int), .slice a6 m6 c6] 44))) := D2.out.alloc D2.out.size _
        clear bv2 o6 J1
        go_wp2_with fail
        refine (J2 _).mono ?_
        rintro e v3 ⟨a7, m7, c7, rfl, o7, bv3⟩
        have D3 : Hid (Below w.heap.size w v3) := D2a.out.trans (bv3.mono D2a.out.size)
        simp only [Option.getD_none, Option.isSome_none, zeroB]
        have D3a : ∀ o, Below w.heap.size w (v3.alloc o) := fun o => D3.out.alloc D3.out.size o
        clear bv3 o7 J2
        go_wp2
        go_ret
        exact ⟨rfl, D3a _⟩
      | some q =>
        obtain ⟨c, n, qs⟩ := q
        obtain ⟨hok, hback⟩ := batch_back l c n qs hr
        have hq := batchOk_of c n qs hok
        have hql : qs.length ≤ 12 := hq.2.2.2.1
        have HQM : Hid (∀ p ∈ qs, p.1.length ≤ 1048576 ∧ p.2.1.length ≤ 1048576) := fun p hp => by
          have := opOk_len p (List.all_eq_true.1 hq.2.2.2.2 p hp)
          exact ⟨by omega, by omega⟩
        have J3 := fun a c6 W h => impl_batchText (c : Int) (n : Int) a c6 qs W (by omega) HQM.out h
        rw [hback] at J3
        have HJ3 : Hid (∀ a c6 W, IsOps W a qs → Calls Try.prog 28 #[.agg #[.int .i64 (c : Int), .int .i64 (n : Int), .slice a qs.length c6]] W fun e w' => e = .returned (.string ⟨l.toArray⟩) ∧ Below W.heap.size W w') := J3
        rw [hr] at J1 J2
        clear hr hok hback hq J3
        go_wp2_with fail
        refine (J1 _).mono ?_
        rintro e v2 ⟨a6, m6, c6, rfl, o6, bv2⟩
        simp only [Option.getD_some, Option.isSome_some] at o6 ⊢
        obtain ⟨rfl, _, _⟩ := isOps_own o6
        have D2 : Hid (Below w.heap.size w v2) := D1.out.trans (bv2.mono D1.out.size)
        have Ba : Hid (Below v2.heap.size v2 (v2.alloc (.cells #[.int .i64 (c : Int), .int .i64 (n : Int), .slice a6 qs.length c6] 44))) := (Below.refl _ _).alloc (Nat.le_refl _) _
        have D2a : Hid (Below w.heap.size w (v2.alloc (.cells #[.int .i64 (c : Int), .int .i64 (n : Int), .slice a6 qs.length c6] 44))) := D2.out.trans (Ba.out.mono D2.out.size)
        have Z2 : Hid ((v2.alloc (.cells #[.int .i64 (c : Int), .int .i64 (n : Int), .slice a6 qs.length c6] 44)).heap[v2.heap.size]? = some (.cells #[.int .i64 (c : Int), .int .i64 (n : Int), .slice a6 qs.length c6] 44 (0, 0))) := heap_alloc_new v2 _
        have O6 := hidOwn (kept3 o6 Ba.out)
        clear bv2 o6 J1
        go_wp2_with fail
        refine (J2 _).mono ?_
        rintro e v3 ⟨a7, m7, c7, rfl, o7, bv3⟩
        simp only [Option.getD_some, Option.isSome_some] at o7 ⊢
        have D3 : Hid (Below w.heap.size w v3) := D2a.out.trans (bv3.mono D2a.out.size)
        have Z3 : Hid (v3.heap[v2.heap.size]? = some (.cells #[.int .i64 (c : Int), .int .i64 (n : Int), .slice a6 qs.length c6] 44 (0, 0))) := (bv3.block v2.heap.size (by simp)).trans Z2.out
        have O7 := hidOwn (kept3 O6.out bv3)
        have Bb : Hid (Below v3.heap.size v3 (v3.alloc (.cells #[.int .i64 (c : Int), .int .i64 (n : Int), .slice a7 m7 c7] 44))) := (Below.refl _ _).alloc (Nat.le_refl _) _
        have D3a : Hid (Below w.heap.size w (v3.alloc (.cells #[.int .i64 (c : Int), .int .i64 (n : Int), .slice a7 m7 c7] 44))) := D3.out.trans (Bb.out.mono D3.out.size)
        have Z3a : Hid ((v3.alloc (.cells #[.int .i64 (c : Int), .int .i64 (n : Int), .slice a7 m7 c7] 44)).heap[v2.heap.size]? = some (.cells #[.int .i64 (c : Int), .int .i64 (n : Int), .slice a6 qs.length c6] 44 (0, 0))) := (Bb.out.block v2.heap.size (lt_of_block Z3.out)).trans Z3.out
        have I7 : Hid (IsOps (v3.alloc (.cells #[.int .i64 (c : Int), .int .i64 (n : Int), .slice a7 m7 c7] 44)) (some ⟨0, 0, none⟩) [] ) := .inl rfl
        have I8 := (isOps_own (kept3 O7.out Bb.out)).2.2
        have HI8 : Hid (IsOps (v3.alloc (.cells #[.int .i64 (c : Int), .int .i64 (n : Int), .slice a7 m7 c7] 44)) a6 qs) := I8
        obtain ⟨z0, z1, z2, zf⟩ := bat_cells Z3a.out
        clear zf
        clear bv3 o7 J2 Z2 Z3 O6 O7 I7 I8
        go_wp2_with fail
        refine (HJ3.out _ _ _ HI8.out).mono ?_
        rintro e v4 ⟨rfl, bv4⟩
        have D4 : Hid (Below w.heap.size w v4) := D3a.out.trans (bv4.mono D3a.out.size)
        clear bv4 z0 z1 z2
        go_wp2
        go_ret
        exact ⟨rfl, D4.out⟩
  · have HB := bigYes len0 cap0 a0 w hb
    clear w0
    go_enter Try.func8, Try.ntmps8
    go_wp2_with fail
    refine HB.mono ?_
    rintro e w1 ⟨rfl, rfl⟩
    go_wp2
    go_ret
    exact ⟨rfl, Below.refl _ _⟩

set_option maxRecDepth 100000 in
theorem lifted (os : Os) (started : os.Started) (H : Type) (enc : TypeId × Value → H) :
    ReturnsInHanded {} Try.checked os 8 .any (Rows.fnBatchTextsSpec.pre6 enc Try.prog Try.f8 Rows.fnBatchTextsRow.domain false) (Rows.fnBatchTextsSpec.post enc Try.prog Try.f8 false true false false) := by
  refine returnsInHanded_of_change (C := Try.checked) own started (by kernel_rfl) Try.func8
    (ChangeSpec.witness6 (enc := enc) (C := Try.checked) false ⟨#[], #[.slice none 0 0], []⟩ 8 (by kernel_rfl) (by kernel_rfl) (by kernel_rfl) (by kernel_rfl)) ?_
  intro W base args ds gs before hval0 hW hcnd _
  have hval : ∀ (j : Nat) t v, Try.f8.params[j]? = some t → args[j]? = some v → Value.okWide Try.prog W .any base t v := hval0
  have hW' := hW
  obtain ⟨p, q, hA0, hV, rfl, hfz, hnd⟩ := hW
  have hA : DataW.TrodAll enc Try.prog W 0 (fun _ => true) true Try.f8.params.toList args.toList ds p := hA0
  rw [Try.params8] at hA hval
  obtain ⟨v0, vs0, d0, ds0, p0, q0, hargs, rfl, rfl, h0, r0⟩ := trodAll_cons hA
  obtain ⟨rfl, rfl, rfl⟩ := trodAll_nil r0
  obtain rfl : args = #[v0] := by cases args; simp_all
  obtain ⟨rfl, rfl⟩ := trodVars_none hV
  obtain ⟨a0, len0, cap0, rfl⟩ := okWide_slice Try.underlying22 (hval 0 22 v0 rfl rfl)
  have k0 := h0
  have lt0 : ∀ x ∈ p0, x.block < W.heap.size := by obtain ⟨m, hm⟩ := k0; exact DataW.trod_lt m _ _ _ hm
  have w0 : Code W a0 len0 := by
    obtain ⟨fuel, hf⟩ := h0
    rcases open_ints Try.underlying22 Try.underlying5 (by kernel_rfl) hf with ⟨hcs, _⟩ | ⟨x, l, c, zs, hcs, _, hl, hm, hz, _, hcell, hwz⟩
    · simp [Value.cells] at hcs
      obtain ⟨rfl, rfl, rfl⟩ := hcs
      exact .inl rfl
    · simp [Value.cells] at hcs
      obtain ⟨rfl, rfl, rfl⟩ := hcs
      exact codeOf W x _ _ zs hl (by simpa using hz) hcell hwz
  clear hA0 hval0
  refine (walk a0 len0 cap0 W w0).mono fun e W' ⟨he, bel⟩ => ?_
  subst he
  exact ⟨_, rfl, _, _, _, [], _, [], hW', trodAll_mk1 (shut_bool Try.underlying4 _), (trodAll_cons_mk (Below.trod laidOut (by kernel_rfl) (of_decide_eq_true (by kernel_rfl)) k0 bel lt0) trodAll_mk0), rfl, bel.frame _, fun h => by cases h⟩

theorem over : Rows.fnBatchTextsRow.holds Try.pinned (OpenSpec.ofChange Rows.fnBatchTextsSpec) :=
  OpenClaim.holds_of_wide 8 Try.f8 rfl rfl rfl rfl rfl rfl rfl ⟨rfl, rfl, rfl, rfl, rfl⟩ rfl rfl rfl rfl rfl (by kernel_rfl) Try.func8 (by kernel_rfl)
    (of_decide_eq_true (by kernel_rfl)) (by unfold Func.isWrapper; first | (rw [if_pos (by decide +kernel)]; kernel_rfl) | (rw [if_neg (by decide +kernel)]; exact ⟨rfl, rfl⟩))
    (fun os started H enc _ => lifted os started H enc)

end Go.Proofs.Ytcfflfpdoihpmaa.fnBatchTexts
namespace Go.Proofs.Ytcfflfpdoihpmaa
theorem fnBatchTexts_holds : Rows.FnBatchTextsSaid := fnBatchTexts.over
end Go.Proofs.Ytcfflfpdoihpmaa
