/-
  At every text ReadBatch answers as its model: the batch whose text it is, or false; the answer owns its memory. No condition.
-/
import Derived.Test.YtcfflfpdoihpmaaSReadB
import Derived.Test.YtcfflfpdoihpmaaBatchM
import Derived.ProofKit
import Derived.OpenShut
import Derived.ShutString
import Derived.ChangeOld
import Derived.Below
namespace Go.Proofs.Ytcfflfpdoihpmaa.fnExactReadBatch
open Go.ChangeShapes Go.WideShapes Go.ChangeAt Go.RowKit
open Go.ChangeMaps (open_string shut_string)
set_option linter.unusedVariables false

theorem own : ownKnob Try.prog.godebug = none := by kernel_rfl

theorem rb_uni {w w' : World} {o : Option BatL} {e : Ending} (h : RBPost w o e w') : ∃ (a : Option Addr) (c : Nat), e = .returned (.tuple #[.agg #[.int .i64 ((o.getD zeroB).1 : Int), .int .i64 ((o.getD zeroB).2.1 : Int), .slice a (o.getD zeroB).2.2.length c], .bool o.isSome]) ∧ w'.ownsRow w.heap.size 83 3 (.slice a (o.getD zeroB).2.2.length c) (o.getD zeroB).2.2.length (ocells (o.getD zeroB).2.2) ∧ Below w.heap.size w w' := by
  obtain ⟨a, m, c, he, ho, hb⟩ := h
  have hm := (isOps_own ho).1
  subst hm
  exact ⟨a, c, he, ho, hb⟩
theorem kept_gr {w w' : World} {b e s n : Nat} {v : Value} {xs : List Value} {x : Option Nat} (h : w.ownsRow b e s v n xs) (hg : w.grownBy w' x) (hx : ∀ k, v.ownBlock = some k → x ≠ some k) : w'.ownsRow b e s v n xs :=
  h.kept hg (by cases hv : v.ownBlock with | none => exact .inl rfl | some k => exact .inr (Ne.symm (hx k hv)))
theorem ps_small (s : List UInt8) : ((readBatch s).getD zeroB).2.2.length ≤ 1000 := by
  unfold readBatch
  cases rowsL s with
  | none => simp [zeroB]
  | some rs =>
    cases rs with
    | nil => simp [readRows, zeroB]
    | cons r rs =>
      simp only [readRows]
      by_cases hl : 12 < (opsR rs).length
      · rw [batOf_long _ _ _ hl]; simp [zeroB]
      · cases numL r.1 with
        | none => rw [batOf_no1]; simp [zeroB]
        | some c => cases numL r.2 with
          | none => simp [batOf, zeroB]
          | some n => simp only [batOf]; split <;> simp [zeroB] <;> omega

set_option maxRecDepth 100000 in
set_option maxHeartbeats 2000000 in
theorem walk (a0 : ByteArray) (w0 : a0.size ≤ maxLen) (w : World) :
    Calls Try.prog 7 #[.string a0] w fun e w' => e = .returned (.bool true) ∧ Below w.heap.size w w' := by
  unfold maxLen at w0
  obtain ⟨l, rfl⟩ : ∃ l : List UInt8, a0 = ⟨l.toArray⟩ := ⟨a0.data.toList, ba_eq a0⟩
  have hz : (ByteArray.mk l.toArray).size = l.length := by simp [ByteArray.size]
  rw [hz] at w0
  clear hz
  by_cases hb : l.length ≤ 1048576
  · have hb' : (l.length : Int) ≤ 1048576 := by omega
    have hn := ps_small l
    have H1 := fun W => (spec_readBatch l W hb).mono fun e w' h => rb_uni h
    have H2 := fun W => (impl_readBatch l W hb).mono fun e w' h => rb_uni h
    obtain ⟨c, hc⟩ : ∃ c : Int, c = (((readBatch l).getD zeroB).1 : Int) := ⟨_, rfl⟩
    obtain ⟨n, hnn⟩ : ∃ n : Int, n = (((readBatch l).getD zeroB).2.1 : Int) := ⟨_, rfl⟩
    obtain ⟨ps, hps⟩ : ∃ ps, ps = ((readBatch l).getD zeroB).2.2 := ⟨_, rfl⟩
    obtain ⟨fl, hfl⟩ : ∃ fl, fl = (readBatch l).isSome := ⟨_, rfl⟩
    rw [← hc, ← hnn, ← hps, ← hfl] at H1 H2
    rw [← hps] at hn
    have HH1 : Hid (∀ W : World, Calls Try.prog 29 #[.string ⟨l.toArray⟩] W fun e w' => ∃ (a : Option Addr) (d : Nat), e = .returned (.tuple #[.agg #[.int .i64 c, .int .i64 n, .slice a ps.length d], .bool fl]) ∧ w'.ownsRow W.heap.size 83 3 (.slice a ps.length d) ps.length (ocells ps) ∧ Below W.heap.size W w') := H1
    have HH2 : Hid (∀ W : World, Calls Try.prog 30 #[.string ⟨l.toArray⟩] W fun e w' => ∃ (a : Option Addr) (d : Nat), e = .returned (.tuple #[.agg #[.int .i64 c, .int .i64 n, .slice a ps.length d], .bool fl]) ∧ w'.ownsRow W.heap.size 83 3 (.slice a ps.length d) ps.length (ocells ps) ∧ Below W.heap.size W w') := H2
    have hk0 : ¬ (1 : Int) + 3 * (ps.length : Int) < 0 := by omega
    have hkb : decide ((1 : Int) + 3 * (ps.length : Int) < 0) = false := decide_eq_false hk0
    clear hc hnn hps hfl H1 H2
    go_enter Try.func7, Try.ntmps7
    go_wp2_with fail
    refine (HH1.out _).mono ?_
    rintro e w1 ⟨a0, c0, rfl, o0, b1⟩
    have P1 : Hid (Below w1.heap.size w1 (w1.alloc (.cells #[.int .i64 c, .int .i64 n, (.slice a0 ps.length c0)] 44))) := (Below.refl _ _).alloc (Nat.le_refl _) _
    have X1 : Hid ((w1.alloc (.cells #[.int .i64 c, .int .i64 n, (.slice a0 ps.length c0)] 44)).heap[w1.heap.size]? = some (.cells #[.int .i64 c, .int .i64 n, (.slice a0 ps.length c0)] 44 (0, 0))) := heap_alloc_new w1 _
    have S1 : Hid (w1.heap.size < (w1.alloc (.cells #[.int .i64 c, .int .i64 n, (.slice a0 ps.length c0)] 44)).heap.size) := by rw [Hid]; simp
    have O0 := hidOwn (o0.alloc (.cells #[.int .i64 c, .int .i64 n, (.slice a0 ps.length c0)] 44))
    have LT0 : Hid (∀ k, (Value.slice a0 ps.length c0).ownBlock = some k → k < w1.heap.size) := fun k h => (o0.lt k h).2
    have HW1 : Hid (Below w.heap.size w (w1.alloc (.cells #[.int .i64 c, .int .i64 n, (.slice a0 ps.length c0)] 44))) := b1.trans (P1.out.mono b1.size)
    have HWS : Hid (w.heap.size ≤ w1.heap.size) := b1.size
    clear o0 b1
    go_wp2_with fail
    refine (HH2.out _).mono ?_
    rintro e w2 ⟨a1, c1, rfl, o1, b2⟩
    have E0 := hidOwn (kept3 O0.out b2)
    have X2 : Hid (w2.heap[w1.heap.size]? = some (.cells #[.int .i64 c, .int .i64 n, (.slice a0 ps.length c0)] 44 (0, 0))) := (b2.block w1.heap.size S1.out).trans X1.out
    have S2 : Hid (w1.heap.size < w2.heap.size) := Nat.lt_of_lt_of_le S1.out b2.size
    have LT1 : Hid (∀ k, (Value.slice a1 ps.length c1).ownBlock = some k → w1.heap.size < k ∧ k < w2.heap.size) := fun k h => ⟨Nat.lt_of_lt_of_le S1.out (o1.lt k h).1, (o1.lt k h).2⟩
    have HW2 : Hid (Below w.heap.size w w2) := HW1.out.trans (b2.mono HW1.out.size)
    have P2 : Hid (Below w2.heap.size w2 (w2.alloc (.cells #[.int .i64 c, .int .i64 n, (.slice a1 ps.length c1)] 44))) := (Below.refl _ _).alloc (Nat.le_refl _) _
    have Y2 : Hid ((w2.alloc (.cells #[.int .i64 c, .int .i64 n, (.slice a1 ps.length c1)] 44)).heap[w2.heap.size]? = some (.cells #[.int .i64 c, .int .i64 n, (.slice a1 ps.length c1)] 44 (0, 0))) := heap_alloc_new w2 _
    have X2a : Hid ((w2.alloc (.cells #[.int .i64 c, .int .i64 n, (.slice a1 ps.length c1)] 44)).heap[w1.heap.size]? = some (.cells #[.int .i64 c, .int .i64 n, (.slice a0 ps.length c0)] 44 (0, 0))) := (P2.out.block w1.heap.size S2.out).trans X2.out
    have S2a : Hid (w2.heap.size < (w2.alloc (.cells #[.int .i64 c, .int .i64 n, (.slice a1 ps.length c1)] 44)).heap.size) := by rw [Hid]; simp
    have E0a := hidOwn (kept3 E0.out P2.out)
    have O1a := hidOwn (kept3 o1 P2.out)
    have HW2a : Hid (Below w.heap.size w (w2.alloc (.cells #[.int .i64 c, .int .i64 n, (.slice a1 ps.length c1)] 44))) := HW2.out.trans (P2.out.mono HW2.out.size)
    obtain ⟨x0, x1, x2, xf⟩ := bat_cells X2a.out
    clear xf
    obtain ⟨y0, y1, y2, yf⟩ := bat_cells Y2.out
    clear yf
    clear o1 b2 O0 X1 S1 P1 HW1 E0 X2 HW2 P2
    go_wp2_with fail
    refine (eqBatch_same c n a1 a0 c1 c0 ps _ (by omega) (isOps_own O1a.out).2.2 (isOps_own E0a.out).2.2).mono ?_
    rintro e w3 ⟨rfl, b3⟩
    have X3 : Hid (w3.heap[w1.heap.size]? = some (.cells #[.int .i64 c, .int .i64 n, (.slice a0 ps.length c0)] 44 (0, 0))) := (b3.block w1.heap.size (Nat.lt_trans S2.out S2a.out)).trans X2a.out
    have Y3 : Hid (w3.heap[w2.heap.size]? = some (.cells #[.int .i64 c, .int .i64 n, (.slice a1 ps.length c1)] 44 (0, 0))) := (b3.block w2.heap.size S2a.out).trans Y2.out
    have S3 : Hid (w2.heap.size < w3.heap.size) := Nat.lt_of_lt_of_le S2a.out b3.size
    have E3 := hidOwn (kept3 E0a.out b3)
    have O3 := hidOwn (kept3 O1a.out b3)
    have HW3 : Hid (Below w.heap.size w w3) := HW2a.out.trans (b3.mono HW2a.out.size)
    clear b3 X2a Y2 S2a E0a O1a HW2a x0 x1 x2 y0 y1 y2
    obtain ⟨y0, y1, y2, yf⟩ := bat_cells Y3.out
    clear yf
    go_wp2_with fail
    refine (markBatch_one c n ps a1 ps.length c1 _ w3 (by omega) O3.out).mono ?_
    rintro e w4 ⟨rfl, o4, g4⟩
    have X4 : Hid (w4.heap[w1.heap.size]? = some (.cells #[.int .i64 c, .int .i64 n, (.slice a0 ps.length c0)] 44 (0, 0))) := (g4.block w1.heap.size (Nat.lt_trans S2.out S3.out) (fun e => by have := (LT1.out _ e.symm).1; omega)).trans X3.out
    have Y4 : Hid (w4.heap[w2.heap.size]? = some (.cells #[.int .i64 c, .int .i64 n, (.slice a1 ps.length c1)] 44 (0, 0))) := (g4.block w2.heap.size S3.out (fun e => by have := (LT1.out _ e.symm).2; omega)).trans Y3.out
    have S4 : Hid (w2.heap.size < w4.heap.size) := Nat.lt_of_lt_of_le S3.out g4.size
    have E4 := hidOwn (kept_gr E3.out g4 (fun k hk e => by have := LT0.out k hk; have := (LT1.out k e).1; omega))
    have O4 := hidOwn o4
    have HW4 : Hid (Below w.heap.size w w4) := HW3.out.grown g4 HW3.out.size (fun k hk => by
      have h1 := (LT1.out k hk).1
      have h2 : w.heap.size ≤ w1.heap.size := HWS.out
      omega)
    clear o4 g4 X3 Y3 S3 E3 O3 HW3 y0 y1 y2
    obtain ⟨y0, y1, y2, yf⟩ := bat_cells Y4.out
    clear yf
    go_wp2_with fail
    refine (heldBatch_one c n ps.length a1 ps.length c1 _ w4 (by omega) O4.out).mono ?_
    rintro e w5 ⟨rfl, g5⟩
    have X5 : Hid (w5.heap[w1.heap.size]? = some (.cells #[.int .i64 c, .int .i64 n, (.slice a0 ps.length c0)] 44 (0, 0))) := (g5.block w1.heap.size (Nat.lt_trans S2.out S4.out) (by simp)).trans X4.out
    have Y5 : Hid (w5.heap[w2.heap.size]? = some (.cells #[.int .i64 c, .int .i64 n, (.slice a1 ps.length c1)] 44 (0, 0))) := (g5.block w2.heap.size S4.out (by simp)).trans Y4.out
    have S5 : Hid (w2.heap.size < w5.heap.size) := Nat.lt_of_lt_of_le S4.out g5.size
    have E5 := hidOwn (kept_gr E4.out g5 (fun k hk => by simp))
    have O5 := hidOwn (kept_gr O4.out g5 (fun k hk => by simp))
    have HW5 : Hid (Below w.heap.size w w5) := HW4.out.grown g5 HW4.out.size (by simp)
    clear g5 X4 Y4 S4 E4 O4 HW4 y0 y1 y2
    go_wp2_with fail
    refine (HH2.out _).mono ?_
    rintro e w6 ⟨a2, c2, rfl, o6, b6⟩
    have P6 : Hid (Below w6.heap.size w6 (w6.alloc (.cells #[.int .i64 c, .int .i64 n, (.slice a2 ps.length c2)] 44))) := (Below.refl _ _).alloc (Nat.le_refl _) _
    have Z6 : Hid ((w6.alloc (.cells #[.int .i64 c, .int .i64 n, (.slice a2 ps.length c2)] 44)).heap[w6.heap.size]? = some (.cells #[.int .i64 c, .int .i64 n, (.slice a2 ps.length c2)] 44 (0, 0))) := heap_alloc_new w6 _
    have S6 : Hid (w2.heap.size < w6.heap.size) := Nat.lt_of_lt_of_le S5.out b6.size
    have X6 : Hid ((w6.alloc (.cells #[.int .i64 c, .int .i64 n, (.slice a2 ps.length c2)] 44)).heap[w1.heap.size]? = some (.cells #[.int .i64 c, .int .i64 n, (.slice a0 ps.length c0)] 44 (0, 0))) := (P6.out.block w1.heap.size (Nat.lt_trans S2.out S6.out)).trans ((b6.block w1.heap.size (Nat.lt_trans S2.out S5.out)).trans X5.out)
    have Y6 : Hid ((w6.alloc (.cells #[.int .i64 c, .int .i64 n, (.slice a2 ps.length c2)] 44)).heap[w2.heap.size]? = some (.cells #[.int .i64 c, .int .i64 n, (.slice a1 ps.length c1)] 44 (0, 0))) := (P6.out.block w2.heap.size S6.out).trans ((b6.block w2.heap.size S5.out).trans Y5.out)
    have E6 := hidOwn (kept3 (kept3 E5.out b6) P6.out)
    have O6 := hidOwn (kept3 (kept3 O5.out b6) P6.out)
    have N6 := hidOwn (kept3 o6 P6.out)
    have HW6 : Hid (Below w.heap.size w (w6.alloc (.cells #[.int .i64 c, .int .i64 n, (.slice a2 ps.length c2)] 44))) := (HW5.out.trans (b6.mono HW5.out.size)).trans (P6.out.mono (HW5.out.trans (b6.mono HW5.out.size)).size)
    have S6a : Hid (w2.heap.size < (w6.alloc (.cells #[.int .i64 c, .int .i64 n, (.slice a2 ps.length c2)] 44)).heap.size) := Nat.lt_of_lt_of_le S6.out P6.out.size
    obtain ⟨x0, x1, x2, xf⟩ := bat_cells X6.out
    clear xf
    obtain ⟨z0, z1, z2, zf⟩ := bat_cells Z6.out
    clear zf
    clear o6 b6 X5 Y5 S5 E5 O5 HW5 P6
    go_wp2_with fail
    refine (eqBatch_same c n a2 a0 c2 c0 ps _ (by omega) (isOps_own N6.out).2.2 (isOps_own E6.out).2.2).mono ?_
    rintro e w7 ⟨rfl, b7⟩
    have Y7 : Hid (w7.heap[w2.heap.size]? = some (.cells #[.int .i64 c, .int .i64 n, (.slice a1 ps.length c1)] 44 (0, 0))) := (b7.block w2.heap.size S6a.out).trans Y6.out
    have O7 := hidOwn (kept3 O6.out b7)
    have HW7 : Hid (Below w.heap.size w w7) := HW6.out.trans (b7.mono HW6.out.size)
    clear b7 X6 Y6 Z6 S6 E6 O6 N6 HW6 x0 x1 x2 z0 z1 z2
    obtain ⟨y0, y1, y2, yf⟩ := bat_cells Y7.out
    clear yf
    go_wp2_with fail
    refine (heldBatch_one c n ps.length a1 ps.length c1 _ w7 (by omega) O7.out).mono ?_
    rintro e w8 ⟨rfl, g8⟩
    have HW8 : Hid (Below w.heap.size w w8) := HW7.out.grown g8 HW7.out.size (by simp)
    clear g8 O7 Y7 HW7 y0 y1 y2
    go_wp2
    go_ret
    exact ⟨rfl, HW8.out⟩
  · have hb' : ¬ (l.length : Int) ≤ 1048576 := by omega
    go_enter Try.func7, Try.ntmps7
    go_wp2
    go_ret
    exact ⟨rfl, Below.refl _ _⟩

set_option maxRecDepth 100000 in
theorem lifted (os : Os) (started : os.Started) (H : Type) (enc : TypeId × Value → H) :
    ReturnsInHanded {} Try.checked os 7 .any (Rows.fnExactReadBatchSpec.pre6 enc Try.prog Try.f7 Rows.fnExactReadBatchRow.domain false) (Rows.fnExactReadBatchSpec.post enc Try.prog Try.f7 false true false false) := by
  refine returnsInHanded_of_change (C := Try.checked) own started (by kernel_rfl) Try.func7
    (ChangeSpec.witness6 (enc := enc) (C := Try.checked) false ⟨#[], #[.string ByteArray.empty], []⟩ 8 (by kernel_rfl) (by kernel_rfl) (by kernel_rfl) (by kernel_rfl)) ?_
  intro W base args ds gs before hval0 hW hcnd _
  have hval : ∀ (j : Nat) t v, Try.f7.params[j]? = some t → args[j]? = some v → Value.okWide Try.prog W .any base t v := hval0
  have hW' := hW
  obtain ⟨p, q, hA0, hV, rfl, hfz, hnd⟩ := hW
  have hA : DataW.TrodAll enc Try.prog W 0 (fun _ => true) true Try.f7.params.toList args.toList ds p := hA0
  rw [Try.params7] at hA hval
  obtain ⟨v0, vs0, d0, ds0, p0, q0, hargs, rfl, rfl, h0, r0⟩ := trodAll_cons hA
  obtain ⟨rfl, rfl, rfl⟩ := trodAll_nil r0
  obtain rfl : args = #[v0] := by cases args; simp_all
  obtain ⟨rfl, rfl⟩ := trodVars_none hV
  obtain ⟨a0, rfl, rfl, rfl, w0⟩ := open_string Try.underlying9 (hval 0 9 v0 rfl rfl) h0
  clear hA0 hval0
  simp only [List.append_nil] at hW'
  refine (walk a0 w0 W).mono fun e W' ⟨he, bel⟩ => ?_
  subst he
  exact ⟨_, rfl, _, _, _, [], _, [], hW', trodAll_mk1 (shut_bool Try.underlying4 _), (trodAll_cons_mk (shut_string Try.underlying9 w0) trodAll_mk0), rfl, bel.frame _, fun h => by cases h⟩

theorem over : Rows.fnExactReadBatchRow.holds Try.pinned (OpenSpec.ofChange Rows.fnExactReadBatchSpec) :=
  OpenClaim.holds_of_wide 7 Try.f7 rfl rfl rfl rfl rfl rfl rfl ⟨rfl, rfl, rfl, rfl, rfl⟩ rfl rfl rfl rfl rfl (by kernel_rfl) Try.func7 (by kernel_rfl)
    (of_decide_eq_true (by kernel_rfl)) (by unfold Func.isWrapper; first | (rw [if_pos (by decide +kernel)]; kernel_rfl) | (rw [if_neg (by decide +kernel)]; exact ⟨rfl, rfl⟩))
    (fun os started H enc _ => lifted os started H enc)

end Go.Proofs.Ytcfflfpdoihpmaa.fnExactReadBatch
namespace Go.Proofs.Ytcfflfpdoihpmaa
theorem fnExactReadBatch_holds : Rows.FnExactReadBatchSaid := fnExactReadBatch.over
end Go.Proofs.Ytcfflfpdoihpmaa
