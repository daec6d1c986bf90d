/-
  At every text ReadNode answers as its model: the node whose text it is, or false; the answer owns its memory. No condition.
-/
import Derived.Test.YtcfflfpdoihpmaaSReadM
import Derived.Test.YtcfflfpdoihpmaaNodeM
import Derived.ProofKit
import Derived.OpenShut
import Derived.ShutString
import Derived.ChangeOld
import Derived.Below
namespace Go.Proofs.Ytcfflfpdoihpmaa.fnExactReadNode
open Go.ChangeShapes Go.WideShapes Go.ChangeAt Go.RowKit
open Go.ChangeMaps (open_string shut_string)
set_option linter.unusedVariables false

theorem own : ownKnob Try.prog.godebug = none := by kernel_rfl

theorem rn_uni {w w' : World} {o : Option NodeL} {e : Ending} (h : ReadPost w o e w') : ∃ (a : Option Addr) (c : Nat), e = .returned (.tuple #[.agg #[.int .i64 (o.getD zeroN).k, .string ⟨(o.getD zeroN).p.toArray⟩, .slice a (o.getD zeroN).ls.length c, .string ⟨(o.getD zeroN).v.toArray⟩], .bool o.isSome]) ∧ w'.ownsRow w.heap.size 9 1 (.slice a (o.getD zeroN).ls.length c) (o.getD zeroN).ls.length (scells (o.getD zeroN).ls) ∧ Below w.heap.size w w' := by
  obtain ⟨a, m, c, he, ho, hb⟩ := h
  have hm := (strs_own ho).1
  subst hm
  exact ⟨a, c, he, ho, hb⟩
theorem kept_gr {w w' : World} {b e s n : Nat} {v : Value} {xs : List Value} {x : Option Nat} (h : w.ownsRow b e s v n xs) (hg : w.grownBy w' x) (hx : ∀ k, v.ownBlock = some k → x ≠ some k) : w'.ownsRow b e s v n xs :=
  h.kept hg (by cases hv : v.ownBlock with | none => exact .inl rfl | some k => exact .inr (Ne.symm (hx k hv)))
theorem ls_small (s : List UInt8) (hs : s.length ≤ 1048576) : ((readNode s).getD zeroN).ls.length ≤ 1048576 := by
  unfold readNode
  cases ht : textsL s with
  | none => simp [zeroN]
  | some ts =>
    have hsm := (node_small ts (textsL_each s ts ht).2).1
    simp only [keepN]
    split
    · exact hsm.2.2.1
    · simp [zeroN]

set_option maxRecDepth 100000 in
set_option maxHeartbeats 2000000 in
theorem walk (a0 : ByteArray) (w0 : a0.size ≤ maxLen) (w : World) :
    Calls Try.prog 4 #[.string a0] w fun e w' => e = .returned (.bool true) ∧ Below w.heap.size w w' := by
  unfold maxLen at w0
  obtain ⟨l, rfl⟩ : ∃ l : List UInt8, a0 = ⟨l.toArray⟩ := ⟨a0.data.toList, ba_eq a0⟩
  have hz : (ByteArray.mk l.toArray).size = l.length := by simp [ByteArray.size]
  rw [hz] at w0
  clear hz
  by_cases hb : l.length ≤ 1048576
  · have hb' : (l.length : Int) ≤ 1048576 := by omega
    have hn := ls_small l hb
    have H1 := fun W => (spec_readNode l W hb).mono fun e w' h => rn_uni h
    have H2 := fun W => (impl_readNode l W hb).mono fun e w' h => rn_uni h
    obtain ⟨c, hc⟩ : ∃ c : Int, c = ((readNode l).getD zeroN).k := ⟨_, rfl⟩
    obtain ⟨n, hnn⟩ : ∃ n, n = ((readNode l).getD zeroN).p := ⟨_, rfl⟩
    obtain ⟨ps, hps⟩ : ∃ ps, ps = ((readNode l).getD zeroN).ls := ⟨_, rfl⟩
    obtain ⟨vv, hvv⟩ : ∃ v, v = ((readNode l).getD zeroN).v := ⟨_, rfl⟩
    obtain ⟨fl, hfl⟩ : ∃ fl, fl = (readNode l).isSome := ⟨_, rfl⟩
    rw [← hc, ← hnn, ← hps, ← hvv, ← hfl] at H1 H2
    rw [← hps] at hn
    have HH1 : Hid (∀ W : World, Calls Try.prog 18 #[.string ⟨l.toArray⟩] W fun e w' => ∃ (a : Option Addr) (d : Nat), e = .returned (.tuple #[.agg #[.int .i64 c, .string ⟨n.toArray⟩, .slice a ps.length d, .string ⟨vv.toArray⟩], .bool fl]) ∧ w'.ownsRow W.heap.size 9 1 (.slice a ps.length d) ps.length (scells ps) ∧ Below W.heap.size W w') := H1
    have HH2 : Hid (∀ W : World, Calls Try.prog 15 #[.string ⟨l.toArray⟩] W fun e w' => ∃ (a : Option Addr) (d : Nat), e = .returned (.tuple #[.agg #[.int .i64 c, .string ⟨n.toArray⟩, .slice a ps.length d, .string ⟨vv.toArray⟩], .bool fl]) ∧ w'.ownsRow W.heap.size 9 1 (.slice a ps.length d) ps.length (scells ps) ∧ Below W.heap.size W w') := H2
    have hk0 : ¬ (1 : Int) + (ps.length : Int) < 0 := by omega
    have hkb : decide ((1 : Int) + (ps.length : Int) < 0) = false := decide_eq_false hk0
    clear hc hnn hps hvv hfl H1 H2
    go_enter Try.func4, Try.ntmps4
    go_wp2_with fail
    refine (HH1.out _).mono ?_
    rintro e w1 ⟨a0, c0, rfl, o0, b1⟩
    have P1 : Hid (Below w1.heap.size w1 (w1.alloc (.cells #[.int .i64 c, .string ⟨n.toArray⟩, (.slice a0 ps.length c0), .string ⟨vv.toArray⟩] 26))) := (Below.refl _ _).alloc (Nat.le_refl _) _
    have X1 : Hid ((w1.alloc (.cells #[.int .i64 c, .string ⟨n.toArray⟩, (.slice a0 ps.length c0), .string ⟨vv.toArray⟩] 26)).heap[w1.heap.size]? = some (.cells #[.int .i64 c, .string ⟨n.toArray⟩, (.slice a0 ps.length c0), .string ⟨vv.toArray⟩] 26 (0, 0))) := heap_alloc_new w1 _
    have S1 : Hid (w1.heap.size < (w1.alloc (.cells #[.int .i64 c, .string ⟨n.toArray⟩, (.slice a0 ps.length c0), .string ⟨vv.toArray⟩] 26)).heap.size) := by rw [Hid]; simp
    have O0 := hidOwn (o0.alloc (.cells #[.int .i64 c, .string ⟨n.toArray⟩, (.slice a0 ps.length c0), .string ⟨vv.toArray⟩] 26))
    have LT0 : Hid (∀ k, (Value.slice a0 ps.length c0).ownBlock = some k → k < w1.heap.size) := fun k h => (o0.lt k h).2
    have HW1 : Hid (Below w.heap.size w (w1.alloc (.cells #[.int .i64 c, .string ⟨n.toArray⟩, (.slice a0 ps.length c0), .string ⟨vv.toArray⟩] 26))) := b1.trans (P1.out.mono b1.size)
    have HWS : Hid (w.heap.size ≤ w1.heap.size) := b1.size
    clear o0 b1
    go_wp2_with fail
    refine (HH2.out _).mono ?_
    rintro e w2 ⟨a1, c1, rfl, o1, b2⟩
    have E0 := hidOwn (keptX O0.out b2)
    have X2 : Hid (w2.heap[w1.heap.size]? = some (.cells #[.int .i64 c, .string ⟨n.toArray⟩, (.slice a0 ps.length c0), .string ⟨vv.toArray⟩] 26 (0, 0))) := (b2.block w1.heap.size S1.out).trans X1.out
    have S2 : Hid (w1.heap.size < w2.heap.size) := Nat.lt_of_lt_of_le S1.out b2.size
    have LT1 : Hid (∀ k, (Value.slice a1 ps.length c1).ownBlock = some k → w1.heap.size < k ∧ k < w2.heap.size) := fun k h => ⟨Nat.lt_of_lt_of_le S1.out (o1.lt k h).1, (o1.lt k h).2⟩
    have HW2 : Hid (Below w.heap.size w w2) := HW1.out.trans (b2.mono HW1.out.size)
    have P2 : Hid (Below w2.heap.size w2 (w2.alloc (.cells #[.int .i64 c, .string ⟨n.toArray⟩, (.slice a1 ps.length c1), .string ⟨vv.toArray⟩] 26))) := (Below.refl _ _).alloc (Nat.le_refl _) _
    have Y2 : Hid ((w2.alloc (.cells #[.int .i64 c, .string ⟨n.toArray⟩, (.slice a1 ps.length c1), .string ⟨vv.toArray⟩] 26)).heap[w2.heap.size]? = some (.cells #[.int .i64 c, .string ⟨n.toArray⟩, (.slice a1 ps.length c1), .string ⟨vv.toArray⟩] 26 (0, 0))) := heap_alloc_new w2 _
    have X2a : Hid ((w2.alloc (.cells #[.int .i64 c, .string ⟨n.toArray⟩, (.slice a1 ps.length c1), .string ⟨vv.toArray⟩] 26)).heap[w1.heap.size]? = some (.cells #[.int .i64 c, .string ⟨n.toArray⟩, (.slice a0 ps.length c0), .string ⟨vv.toArray⟩] 26 (0, 0))) := (P2.out.block w1.heap.size S2.out).trans X2.out
    have S2a : Hid (w2.heap.size < (w2.alloc (.cells #[.int .i64 c, .string ⟨n.toArray⟩, (.slice a1 ps.length c1), .string ⟨vv.toArray⟩] 26)).heap.size) := by rw [Hid]; simp
    have E0a := hidOwn (keptX E0.out P2.out)
    have O1a := hidOwn (keptX o1 P2.out)
    have HW2a : Hid (Below w.heap.size w (w2.alloc (.cells #[.int .i64 c, .string ⟨n.toArray⟩, (.slice a1 ps.length c1), .string ⟨vv.toArray⟩] 26))) := HW2.out.trans (P2.out.mono HW2.out.size)
    obtain ⟨x0, x1, x2, x3, xf⟩ := quad_cells X2a.out
    clear xf
    obtain ⟨y0, y1, y2, y3, yf⟩ := quad_cells Y2.out
    clear yf
    clear o1 b2 O0 X1 S1 P1 HW1 E0 X2 HW2 P2
    go_wp2_with fail
    refine (eqNode_same c n vv (.slice a1 ps.length c1) (.slice a0 ps.length c0) _ _ ps _ (by omega) O1a.out E0a.out).mono ?_
    rintro e w3 ⟨rfl, b3⟩
    have X3 : Hid (w3.heap[w1.heap.size]? = some (.cells #[.int .i64 c, .string ⟨n.toArray⟩, (.slice a0 ps.length c0), .string ⟨vv.toArray⟩] 26 (0, 0))) := (b3.block w1.heap.size (Nat.lt_trans S2.out S2a.out)).trans X2a.out
    have Y3 : Hid (w3.heap[w2.heap.size]? = some (.cells #[.int .i64 c, .string ⟨n.toArray⟩, (.slice a1 ps.length c1), .string ⟨vv.toArray⟩] 26 (0, 0))) := (b3.block w2.heap.size S2a.out).trans Y2.out
    have S3 : Hid (w2.heap.size < w3.heap.size) := Nat.lt_of_lt_of_le S2a.out b3.size
    have E3 := hidOwn (keptX E0a.out b3)
    have O3 := hidOwn (keptX O1a.out b3)
    have HW3 : Hid (Below w.heap.size w w3) := HW2a.out.trans (b3.mono HW2a.out.size)
    clear b3 X2a Y2 S2a E0a O1a HW2a x0 x1 x2 x3 y0 y1 y2 y3
    obtain ⟨y0, y1, y2, y3, yf⟩ := quad_cells Y3.out
    clear yf
    go_wp2_with fail
    refine (markNode_one c n vv ps a1 ps.length c1 _ w3 (by omega) O3.out).mono ?_
    rintro e w4 ⟨rfl, o4, g4⟩
    have X4 : Hid (w4.heap[w1.heap.size]? = some (.cells #[.int .i64 c, .string ⟨n.toArray⟩, (.slice a0 ps.length c0), .string ⟨vv.toArray⟩] 26 (0, 0))) := (g4.block w1.heap.size (Nat.lt_trans S2.out S3.out) (fun e => by have := (LT1.out _ e.symm).1; omega)).trans X3.out
    have Y4 : Hid (w4.heap[w2.heap.size]? = some (.cells #[.int .i64 c, .string ⟨n.toArray⟩, (.slice a1 ps.length c1), .string ⟨vv.toArray⟩] 26 (0, 0))) := (g4.block w2.heap.size S3.out (fun e => by have := (LT1.out _ e.symm).2; omega)).trans Y3.out
    have S4 : Hid (w2.heap.size < w4.heap.size) := Nat.lt_of_lt_of_le S3.out g4.size
    have E4 := hidOwn (kept_gr E3.out g4 (fun k hk e => by have := LT0.out k hk; have := (LT1.out k e).1; omega))
    have O4 := hidOwn o4
    have HW4 : Hid (Below w.heap.size w w4) := HW3.out.grown g4 HW3.out.size (fun k hk => by
      have h1 := (LT1.out k hk).1
      have h2 : w.heap.size ≤ w1.heap.size := HWS.out
      omega)
    clear o4 g4 X3 Y3 S3 E3 O3 HW3 y0 y1 y2 y3
    obtain ⟨y0, y1, y2, y3, yf⟩ := quad_cells Y4.out
    clear yf
    go_wp2_with fail
    refine (heldNode_one c n vv ps.length a1 ps.length c1 _ w4 (by omega) O4.out).mono ?_
    rintro e w5 ⟨rfl, g5⟩
    have X5 : Hid (w5.heap[w1.heap.size]? = some (.cells #[.int .i64 c, .string ⟨n.toArray⟩, (.slice a0 ps.length c0), .string ⟨vv.toArray⟩] 26 (0, 0))) := (g5.block w1.heap.size (Nat.lt_trans S2.out S4.out) (by simp)).trans X4.out
    have Y5 : Hid (w5.heap[w2.heap.size]? = some (.cells #[.int .i64 c, .string ⟨n.toArray⟩, (.slice a1 ps.length c1), .string ⟨vv.toArray⟩] 26 (0, 0))) := (g5.block w2.heap.size S4.out (by simp)).trans Y4.out
    have S5 : Hid (w2.heap.size < w5.heap.size) := Nat.lt_of_lt_of_le S4.out g5.size
    have E5 := hidOwn (kept_gr E4.out g5 (fun k hk => by simp))
    have O5 := hidOwn (kept_gr O4.out g5 (fun k hk => by simp))
    have HW5 : Hid (Below w.heap.size w w5) := HW4.out.grown g5 HW4.out.size (by simp)
    clear g5 X4 Y4 S4 E4 O4 HW4 y0 y1 y2 y3
    go_wp2_with fail
    refine (HH2.out _).mono ?_
    rintro e w6 ⟨a2, c2, rfl, o6, b6⟩
    have P6 : Hid (Below w6.heap.size w6 (w6.alloc (.cells #[.int .i64 c, .string ⟨n.toArray⟩, (.slice a2 ps.length c2), .string ⟨vv.toArray⟩] 26))) := (Below.refl _ _).alloc (Nat.le_refl _) _
    have Z6 : Hid ((w6.alloc (.cells #[.int .i64 c, .string ⟨n.toArray⟩, (.slice a2 ps.length c2), .string ⟨vv.toArray⟩] 26)).heap[w6.heap.size]? = some (.cells #[.int .i64 c, .string ⟨n.toArray⟩, (.slice a2 ps.length c2), .string ⟨vv.toArray⟩] 26 (0, 0))) := heap_alloc_new w6 _
    have S6 : Hid (w2.heap.size < w6.heap.size) := Nat.lt_of_lt_of_le S5.out b6.size
    have X6 : Hid ((w6.alloc (.cells #[.int .i64 c, .string ⟨n.toArray⟩, (.slice a2 ps.length c2), .string ⟨vv.toArray⟩] 26)).heap[w1.heap.size]? = some (.cells #[.int .i64 c, .string ⟨n.toArray⟩, (.slice a0 ps.length c0), .string ⟨vv.toArray⟩] 26 (0, 0))) := (P6.out.block w1.heap.size (Nat.lt_trans S2.out S6.out)).trans ((b6.block w1.heap.size (Nat.lt_trans S2.out S5.out)).trans X5.out)
    have Y6 : Hid ((w6.alloc (.cells #[.int .i64 c, .string ⟨n.toArray⟩, (.slice a2 ps.length c2), .string ⟨vv.toArray⟩] 26)).heap[w2.heap.size]? = some (.cells #[.int .i64 c, .string ⟨n.toArray⟩, (.slice a1 ps.length c1), .string ⟨vv.toArray⟩] 26 (0, 0))) := (P6.out.block w2.heap.size S6.out).trans ((b6.block w2.heap.size S5.out).trans Y5.out)
    have E6 := hidOwn (keptX (keptX E5.out b6) P6.out)
    have O6 := hidOwn (keptX (keptX O5.out b6) P6.out)
    have N6 := hidOwn (keptX o6 P6.out)
    have HW6 : Hid (Below w.heap.size w (w6.alloc (.cells #[.int .i64 c, .string ⟨n.toArray⟩, (.slice a2 ps.length c2), .string ⟨vv.toArray⟩] 26))) := (HW5.out.trans (b6.mono HW5.out.size)).trans (P6.out.mono (HW5.out.trans (b6.mono HW5.out.size)).size)
    have S6a : Hid (w2.heap.size < (w6.alloc (.cells #[.int .i64 c, .string ⟨n.toArray⟩, (.slice a2 ps.length c2), .string ⟨vv.toArray⟩] 26)).heap.size) := Nat.lt_of_lt_of_le S6.out P6.out.size
    obtain ⟨x0, x1, x2, x3, xf⟩ := quad_cells X6.out
    clear xf
    obtain ⟨z0, z1, z2, z3, zf⟩ := quad_cells Z6.out
    clear zf
    clear o6 b6 X5 Y5 S5 E5 O5 HW5 P6
    go_wp2_with fail
    refine (eqNode_same c n vv (.slice a2 ps.length c2) (.slice a0 ps.length c0) _ _ ps _ (by omega) N6.out E6.out).mono ?_
    rintro e w7 ⟨rfl, b7⟩
    have Y7 : Hid (w7.heap[w2.heap.size]? = some (.cells #[.int .i64 c, .string ⟨n.toArray⟩, (.slice a1 ps.length c1), .string ⟨vv.toArray⟩] 26 (0, 0))) := (b7.block w2.heap.size S6a.out).trans Y6.out
    have O7 := hidOwn (keptX O6.out b7)
    have HW7 : Hid (Below w.heap.size w w7) := HW6.out.trans (b7.mono HW6.out.size)
    clear b7 X6 Y6 Z6 S6 E6 O6 N6 HW6 x0 x1 x2 x3 z0 z1 z2 z3
    obtain ⟨y0, y1, y2, y3, yf⟩ := quad_cells Y7.out
    clear yf
    go_wp2_with fail
    refine (heldNode_one c n vv ps.length a1 ps.length c1 _ w7 (by omega) O7.out).mono ?_
    rintro e w8 ⟨rfl, g8⟩
    have HW8 : Hid (Below w.heap.size w w8) := HW7.out.grown g8 HW7.out.size (by simp)
    clear g8 O7 Y7 HW7 y0 y1 y2 y3
    go_wp2
    go_ret
    exact ⟨rfl, HW8.out⟩
  · have hb' : ¬ (l.length : Int) ≤ 1048576 := by omega
    go_enter Try.func4, Try.ntmps4
    go_wp2
    go_ret
    exact ⟨rfl, Below.refl _ _⟩

set_option maxRecDepth 100000 in
theorem lifted (os : Os) (started : os.Started) (H : Type) (enc : TypeId × Value → H) :
    ReturnsInHanded {} Try.checked os 4 .any (Rows.fnExactReadNodeSpec.pre6 enc Try.prog Try.f4 Rows.fnExactReadNodeRow.domain false) (Rows.fnExactReadNodeSpec.post enc Try.prog Try.f4 false true false false) := by
  refine returnsInHanded_of_change (C := Try.checked) own started (by kernel_rfl) Try.func4
    (ChangeSpec.witness6 (enc := enc) (C := Try.checked) false ⟨#[], #[.string ByteArray.empty], []⟩ 8 (by kernel_rfl) (by kernel_rfl) (by kernel_rfl) (by kernel_rfl)) ?_
  intro W base args ds gs before hval0 hW hcnd _
  have hval : ∀ (j : Nat) t v, Try.f4.params[j]? = some t → args[j]? = some v → Value.okWide Try.prog W .any base t v := hval0
  have hW' := hW
  obtain ⟨p, q, hA0, hV, rfl, hfz, hnd⟩ := hW
  have hA : DataW.TrodAll enc Try.prog W 0 (fun _ => true) true Try.f4.params.toList args.toList ds p := hA0
  rw [Try.params4] at hA hval
  obtain ⟨v0, vs0, d0, ds0, p0, q0, hargs, rfl, rfl, h0, r0⟩ := trodAll_cons hA
  obtain ⟨rfl, rfl, rfl⟩ := trodAll_nil r0
  obtain rfl : args = #[v0] := by cases args; simp_all
  obtain ⟨rfl, rfl⟩ := trodVars_none hV
  obtain ⟨a0, rfl, rfl, rfl, w0⟩ := open_string Try.underlying9 (hval 0 9 v0 rfl rfl) h0
  clear hA0 hval0
  simp only [List.append_nil] at hW'
  refine (walk a0 w0 W).mono fun e W' ⟨he, bel⟩ => ?_
  subst he
  exact ⟨_, rfl, _, _, _, [], _, [], hW', trodAll_mk1 (shut_bool Try.underlying4 _), (trodAll_cons_mk (shut_string Try.underlying9 w0) trodAll_mk0), rfl, bel.frame _, fun h => by cases h⟩

theorem over : Rows.fnExactReadNodeRow.holds Try.pinned (OpenSpec.ofChange Rows.fnExactReadNodeSpec) :=
  OpenClaim.holds_of_wide 4 Try.f4 rfl rfl rfl rfl rfl rfl rfl ⟨rfl, rfl, rfl, rfl, rfl⟩ rfl rfl rfl rfl rfl (by kernel_rfl) Try.func4 (by kernel_rfl)
    (of_decide_eq_true (by kernel_rfl)) (by unfold Func.isWrapper; first | (rw [if_pos (by decide +kernel)]; kernel_rfl) | (rw [if_neg (by decide +kernel)]; exact ⟨rfl, rfl⟩))
    (fun os started H enc _ => lifted os started H enc)

end Go.Proofs.Ytcfflfpdoihpmaa.fnExactReadNode
namespace Go.Proofs.Ytcfflfpdoihpmaa
theorem fnExactReadNode_holds : Rows.FnExactReadNodeSaid := fnExactReadNode.over
end Go.Proofs.Ytcfflfpdoihpmaa
