/-
  At every code a right node comes back from its text, and what is read as a node, written again, has just its bytes: FnNodeTexts answers true. No condition.
-/
import Derived.Test.YtniclkhnccggpaaCodeLaw
import Derived.Test.YtniclkhnccggpaaDrawNf
import Derived.Test.YtniclkhnccggpaaSReadM
import Derived.Test.YtniclkhnccggpaaINodes
import Derived.Test.YtniclkhnccggpaaSame
import Derived.Test.YtniclkhnccggpaaDrawNs
import Derived.ProofKit
import Derived.OpenShut
import Derived.ShutString
import Derived.ChangeOld
import Derived.Below
namespace Go.Proofs.Ytniclkhnccggpaa.fnNodeTexts
open Go.ChangeShapes Go.WideShapes Go.ChangeAt Go.RowKit
open Go.ChangeMaps (open_string shut_string)
set_option linter.unusedVariables false

theorem own : ownKnob Try.prog.godebug = none := by kernel_rfl

theorem node_small (k : Int) (p : List UInt8) (ls : List (List UInt8)) (v : List UInt8) (h : nodeOk k p ls v = true) : p.length ≤ 24 ∧ v.length ≤ 60 ∧ ls.length ≤ 16 ∧ ∀ l ∈ ls, l.length ≤ 32 := by
  simp only [nodeOk, headOk, Bool.and_eq_true, decide_eq_true_eq] at h
  obtain ⟨⟨hp, hn, hv⟩, hk⟩ := h
  unfold kindOk at hk
  refine ⟨hp, hv, ?_⟩
  by_cases h1 : k = 1
  · rw [if_pos h1] at hk
    simp only [Bool.and_eq_true, decide_eq_true_eq] at hk
    have e : ls = [] := List.length_eq_zero_iff.1 hk.2
    subst e
    simp
  · rw [if_neg h1] at hk
    by_cases h2 : k = 2
    · rw [if_pos h2] at hk
      simp only [Bool.and_eq_true, decide_eq_true_eq] at hk
      obtain ⟨_, _, hl, h32⟩ := hk
      obtain ⟨t, rfl⟩ : ∃ t, ls = [t] := by
        match ls, hl with
        | [t], _ => exact ⟨t, rfl⟩
      simp only [List.getD_cons_zero] at h32
      refine ⟨by simp, fun l hl => by simp at hl; rw [hl]; omega⟩
    · rw [if_neg h2] at hk
      by_cases h3 : k = 3
      · rw [if_pos h3] at hk
        simp only [branchOk, Bool.and_eq_true, decide_eq_true_eq] at hk
        obtain ⟨_, h16, hkids, _⟩ := hk
        refine ⟨by omega, fun l hl => ?_⟩
        have := List.all_eq_true.1 hkids l hl
        simp only [kidOk, Bool.or_eq_true, List.isEmpty_iff, decide_eq_true_eq] at this
        rcases this with rfl | h3
        · simp
        · omega
      · rw [if_neg h3] at hk
        cases hk
theorem keptN {w w' : World} {b e n : Nat} {v : Value} {xs : List Value} (h : w.ownsRow b e 1 v n xs) (hb : Below w.heap.size w w') : w'.ownsRow b e 1 v n xs :=
  h.kept (row := none) ⟨hb.os, hb.tape, hb.output, hb.size, fun k hk _ => hb.block k hk⟩ (by cases v.ownBlock with | none => exact .inl rfl | some k => exact .inr (by simp))

set_option maxRecDepth 100000 in
set_option maxHeartbeats 4000000 in
theorem walk (a0 : Option Addr) (len0 cap0 : Nat) (w : World) (w0 : Code w a0 len0) :
    Calls Try.prog 4 #[.slice a0 len0 cap0] w fun e w' => e = .returned (.bool true) ∧ Below w.heap.size w w' := by
  by_cases hb : len0 ≤ 1048576
  · have HB := bigNo len0 cap0 a0 w hb
    have HC : Hid (Code w a0 len0) := w0
    clear w0
    go_enter Try.func4, Try.ntmps4
    go_wp2_with fail
    refine HB.mono ?_
    rintro e w ⟨rfl, rfl⟩
    clear HB
    have HD := drawNodeT len0 cap0 a0 w hb HC.out
    go_wp2_with fail
    refine HD.mono ?_
    rintro e w1 ⟨k, p, ls, v, a2, c2, hp, hv, hl, hm, rfl, o1, b1⟩
    have HM : Hid (∀ l ∈ ls, l.length ≤ 1048576) := hm
    have H1 : Hid (∀ W, IsStrs W a2 ls → Calls Try.prog 12 #[.agg #[.int .i64 k, .string ⟨p.toArray⟩, .slice a2 ls.length c2, .string ⟨v.toArray⟩]] W fun e w' => e = .returned (.tuple #[.string ⟨(nodeB k p ls v).toArray⟩, .bool (nodeOk k p ls v)]) ∧ Below W.heap.size W w') := fun W h => impl_nodeText k p a2 c2 ls v W hp hv (by omega) hm h
    have H2 : Hid (∀ W, IsStrs W a2 ls → Calls Try.prog 13 #[.agg #[.int .i64 k, .string ⟨p.toArray⟩, .slice a2 ls.length c2, .string ⟨v.toArray⟩]] W fun e w' => e = .returned (.tuple #[.string ⟨(nodeB k p ls v).toArray⟩, .bool (nodeOk k p ls v)]) ∧ Below W.heap.size W w') := fun W h => spec_nodeText k p a2 c2 ls v W hp hv (by omega) hm h
    have hbl := nodeB_len k p ls v
    have B1 : Hid (Below w.heap.size w w1) := b1
    have Pa : Hid (Below w1.heap.size w1 (w1.alloc (.cells #[.int .i64 k, .string ⟨p.toArray⟩, .slice a2 ls.length c2, .string ⟨v.toArray⟩] 34))) := (Below.refl _ _).alloc (Nat.le_refl _) _
    have B1a : Hid (Below w.heap.size w (w1.alloc (.cells #[.int .i64 k, .string ⟨p.toArray⟩, .slice a2 ls.length c2, .string ⟨v.toArray⟩] 34))) := B1.out.trans (Pa.out.mono B1.out.size)
    have X1 : Hid ((w1.alloc (.cells #[.int .i64 k, .string ⟨p.toArray⟩, .slice a2 ls.length c2, .string ⟨v.toArray⟩] 34)).heap[w1.heap.size]? = some (.cells #[.int .i64 k, .string ⟨p.toArray⟩, .slice a2 ls.length c2, .string ⟨v.toArray⟩] 34 (0, 0))) := heap_alloc_new w1 _
    have O1 := hidOwn (keptN o1 Pa.out)
    have I1 : Hid (IsStrs (w1.alloc (.cells #[.int .i64 k, .string ⟨p.toArray⟩, .slice a2 ls.length c2, .string ⟨v.toArray⟩] 34)) a2 ls) := (strs_own O1.out).2.2
    have HF : Hid (nodeOk k p ls v = true → readNode (nodeB k p ls v) = some ⟨k, p, ls, v⟩) := node_fore k p ls v
    obtain ⟨tx, htx⟩ : ∃ tx, tx = nodeB k p ls v := ⟨_, rfl⟩
    obtain ⟨ok, hok⟩ : ∃ ok, ok = nodeOk k p ls v := ⟨_, rfl⟩
    rw [← htx, ← hok] at H1 H2
    rw [← htx] at hbl
    rw [← htx, ← hok] at HF
    clear HD o1 b1 hm htx hok
    go_wp2_with fail
    refine (H1.out _ I1.out).mono ?_
    rintro e w2 ⟨rfl, b2⟩
    have B2 : Hid (Below w.heap.size w w2) := B1a.out.trans (b2.mono B1a.out.size)
    have X2 : Hid (w2.heap[w1.heap.size]? = some (.cells #[.int .i64 k, .string ⟨p.toArray⟩, .slice a2 ls.length c2, .string ⟨v.toArray⟩] 34 (0, 0))) := (b2.block w1.heap.size (by simp)).trans X1.out
    have O2 := hidOwn (keptN O1.out b2)
    obtain ⟨t0, t1, t2, t3, _⟩ := nd_cells X2.out
    clear b2 H1 X1 I1 O1 B1a Pa
    go_wp2_with fail
    refine (H2.out _ (strs_own O2.out).2.2).mono ?_
    rintro e w3 ⟨rfl, b3⟩
    have B3 : Hid (Below w.heap.size w w3) := B2.out.trans (b3.mono B2.out.size)
    have X3 : Hid (w3.heap[w1.heap.size]? = some (.cells #[.int .i64 k, .string ⟨p.toArray⟩, .slice a2 ls.length c2, .string ⟨v.toArray⟩] 34 (0, 0))) := (b3.block w1.heap.size (lt_of_block X2.out)).trans X2.out
    have O3 := hidOwn (keptN O2.out b3)
    clear b3 H2 X2 O2 t0 t1 t2 t3
    cases ok with
    | false =>
      have H4 := drawReadNd len0 cap0 a0 w3 hb (HC.out.later B3.out)
      go_wp2_with fail
      refine H4.mono ?_
      rintro e v1 ⟨l, hll, rfl, bv1⟩
      have D1 : Hid (Below w.heap.size w v1) := B3.out.trans (bv1.mono B3.out.size)
      have J1 := impl_readNode l v1 (by omega)
      have J2 := fun W => spec_readNode l W (by omega)
      clear H4 bv1
      cases hr : readNode l with
      | none =>
        rw [hr] at J1 J2
        have J3 := fun (a : Option Addr) (c : Nat) W h => impl_nodeText 0 [] a c [] [] W (by simp) (by simp) (by simp) (by simp) h
        clear hr
        go_wp2_with fail
        refine J1.mono ?_
        rintro e v2 ⟨a6, m6, c6, rfl, o6, bv2⟩
        obtain ⟨hm6, _, i6⟩ := strs_own o6
        have I6 : Hid (IsStrs v2 a6 []) := i6
        simp only [Option.getD_none, Option.isSome_none, zeroN] at o6 hm6 ⊢
        subst hm6
        have D2 : Hid (Below w.heap.size w v2) := D1.out.trans (bv2.mono D1.out.size)
        have Ba : Hid (∀ o, Below v2.heap.size v2 (v2.alloc o)) := fun o => (Below.refl _ _).alloc (Nat.le_refl _) _
        have D2a : Hid (∀ o, Below w.heap.size w (v2.alloc o)) := fun o => D2.out.trans ((Ba.out o).mono D2.out.size)
        clear bv2 o6 J1 i6
        go_wp2_with fail
        refine (J2 _).mono ?_
        rintro e v3 ⟨a7, m7, c7, rfl, o7, bv3⟩
        simp only [Option.getD_none, Option.isSome_none, zeroN]
        have D3 : Hid (Below w.heap.size w v3) := (D2a.out _).trans (bv3.mono (D2a.out _).size)
        have E3 : Hid (Below v2.heap.size v2 v3) := (Ba.out _).trans (bv3.mono (Ba.out _).size)
        have X3 : v3.heap[v2.heap.size]? = some (.cells #[.int .i64 0, .string ⟨#[]⟩, .slice a6 0 c6, .string ⟨#[]⟩] 34 (0, 0)) := (bv3.block v2.heap.size (by simp)).trans (heap_alloc_new v2 _)
        have Bc : ∀ o, Below v3.heap.size v3 (v3.alloc o) := fun o => (Below.refl _ _).alloc (Nat.le_refl _) _
        have D4 : Hid (∀ o, Below w.heap.size w (v3.alloc o)) := fun o => D3.out.trans ((Bc o).mono D3.out.size)
        have I4 : Hid (∀ o, IsStrs (v3.alloc o) a6 []) := fun o => strs_later (strs_later I6.out E3.out) (Bc o)
        have X4 := fun o => nd_cells (((Bc o).block v2.heap.size (lt_of_block X3)).trans X3)
        have x0 := fun o => (X4 o).1
        have x1 := fun o => (X4 o).2.1
        have x2 := fun o => (X4 o).2.2.1
        have x3 := fun o => (X4 o).2.2.2.1
        clear bv3 o7 J2 X3 X4 Bc
        go_wp2_with fail
        refine (J3 a6 c6 _ (I4.out _)).mono ?_
        rintro e v5 ⟨rfl, b5⟩
        have D5 : Hid (Below w.heap.size w v5) := (D4.out _).trans (b5.mono (D4.out _).size)
        clear b5 J3 x0 x1 x2 x3
        go_wp2
        go_ret
        exact ⟨rfl, D5.out⟩
      | some q =>
        obtain ⟨qk, qp, qls, qv⟩ := q
        obtain ⟨hqo, hback⟩ := node_back l _ hr
        obtain ⟨s1, s2, s3, s4⟩ := node_small qk qp qls qv hqo
        have J3 : Hid (∀ (a : Option Addr) (c : Nat) W, IsStrs W a qls → Calls Try.prog 12 #[.agg #[.int .i64 qk, .string ⟨qp.toArray⟩, .slice a qls.length c, .string ⟨qv.toArray⟩]] W fun e w' => e = .returned (.tuple #[.string ⟨l.toArray⟩, .bool true]) ∧ Below W.heap.size W w') := fun a c W h => by
          have q := impl_nodeText qk qp a c qls qv W (by omega) (by omega) (by omega) (fun l hl => by have := s4 l hl; omega) h
          rw [hback, show nodeOk qk qp qls qv = true from hqo] at q
          exact q
        rw [hr] at J1 J2
        clear hr hqo hback s4
        go_wp2_with fail
        refine J1.mono ?_
        rintro e v2 ⟨a6, m6, c6, rfl, o6, bv2⟩
        simp only [Option.getD_some, Option.isSome_some] at o6 ⊢
        obtain ⟨hm6, _, i6⟩ := strs_own o6
        have I6 : Hid (IsStrs v2 a6 qls) := i6
        subst hm6
        have D2 : Hid (Below w.heap.size w v2) := D1.out.trans (bv2.mono D1.out.size)
        have Ba : Hid (∀ o, Below v2.heap.size v2 (v2.alloc o)) := fun o => (Below.refl _ _).alloc (Nat.le_refl _) _
        have D2a : Hid (∀ o, Below w.heap.size w (v2.alloc o)) := fun o => D2.out.trans ((Ba.out o).mono D2.out.size)
        clear bv2 o6 J1 i6
        go_wp2_with fail
        refine (J2 _).mono ?_
        rintro e v3 ⟨a7, m7, c7, rfl, o7, bv3⟩
        simp only [Option.getD_some, Option.isSome_some]
        have D3 : Hid (Below w.heap.size w v3) := (D2a.out _).trans (bv3.mono (D2a.out _).size)
        have E3 : Hid (Below v2.heap.size v2 v3) := (Ba.out _).trans (bv3.mono (Ba.out _).size)
        have X3 : v3.heap[v2.heap.size]? = some (.cells #[.int .i64 qk, .string ⟨qp.toArray⟩, .slice a6 qls.length c6, .string ⟨qv.toArray⟩] 34 (0, 0)) := (bv3.block v2.heap.size (by simp)).trans (heap_alloc_new v2 _)
        have Bc : ∀ o, Below v3.heap.size v3 (v3.alloc o) := fun o => (Below.refl _ _).alloc (Nat.le_refl _) _
        have D4 : Hid (∀ o, Below w.heap.size w (v3.alloc o)) := fun o => D3.out.trans ((Bc o).mono D3.out.size)
        have I4 : Hid (∀ o, IsStrs (v3.alloc o) a6 qls) := fun o => strs_later (strs_later I6.out E3.out) (Bc o)
        have X4 := fun o => nd_cells (((Bc o).block v2.heap.size (lt_of_block X3)).trans X3)
        have x0 := fun o => (X4 o).1
        have x1 := fun o => (X4 o).2.1
        have x2 := fun o => (X4 o).2.2.1
        have x3 := fun o => (X4 o).2.2.2.1
        clear bv3 o7 J2 X3 X4 Bc
        go_wp2_with fail
        refine (J3.out a6 c6 _ (I4.out _)).mono ?_
        rintro e v5 ⟨rfl, b5⟩
        have D5 : Hid (Below w.heap.size w v5) := (D4.out _).trans (b5.mono (D4.out _).size)
        clear b5 J3 x0 x1 x2 x3
        go_wp2
        go_ret
        exact ⟨rfl, D5.out⟩
    | true =>
      have K5 := impl_readNode tx w3 (by omega)
      rw [HF.out rfl] at K5
      go_wp2_with fail
      refine K5.mono ?_
      rintro e w4 ⟨a4, m4, c4, rfl, o4, b4⟩
      simp only [Option.getD_some, Option.isSome_some] at o4 ⊢
      have B4 : Hid (Below w.heap.size w w4) := B3.out.trans (b4.mono B3.out.size)
      have X4 : Hid (w4.heap[w1.heap.size]? = some (.cells #[.int .i64 k, .string ⟨p.toArray⟩, .slice a2 ls.length c2, .string ⟨v.toArray⟩] 34 (0, 0))) := (b4.block w1.heap.size (lt_of_block X3.out)).trans X3.out
      have O4 := hidOwn (keptN O3.out b4)
      have Q4 := hidOwn o4
      have Pb : Hid (Below w4.heap.size w4 (w4.alloc (.cells #[.int .i64 k, .string ⟨p.toArray⟩, .slice a4 m4 c4, .string ⟨v.toArray⟩] 34))) := (Below.refl _ _).alloc (Nat.le_refl _) _
      have B5 : Hid (Below w.heap.size w (w4.alloc (.cells #[.int .i64 k, .string ⟨p.toArray⟩, .slice a4 m4 c4, .string ⟨v.toArray⟩] 34))) := B4.out.trans (Pb.out.mono B4.out.size)
      have X5 : (w4.alloc (.cells #[.int .i64 k, .string ⟨p.toArray⟩, .slice a4 m4 c4, .string ⟨v.toArray⟩] 34)).heap[w1.heap.size]? = some (.cells #[.int .i64 k, .string ⟨p.toArray⟩, .slice a2 ls.length c2, .string ⟨v.toArray⟩] 34 (0, 0)) := (Pb.out.block w1.heap.size (lt_of_block X4.out)).trans X4.out
      have O5 := hidOwn (keptN O4.out Pb.out)
      have Q5 := hidOwn (keptN Q4.out Pb.out)
      obtain ⟨t0, t1, t2, t3, _⟩ := nd_cells X5
      clear b4 o4 K5 X3 X4 X5 O3 O4 Q4 Pb
      go_wp2_with fail
      refine (sameT_same ls _ _ _ _ _ (by omega) Q5.out O5.out).mono ?_
      rintro e w6 ⟨rfl, q, rfl⟩
      have B6 : Hid (Below w.heap.size w ((w4.alloc (.cells #[.int .i64 k, .string ⟨p.toArray⟩, .slice a4 m4 c4, .string ⟨v.toArray⟩] 34)).drewN q)) := ⟨B5.out.os, B5.out.tape, B5.out.output, B5.out.size, B5.out.block⟩
      obtain ⟨w7, hw7⟩ : ∃ w7, w7 = (w4.alloc (.cells #[.int .i64 k, .string ⟨p.toArray⟩, .slice a4 m4 c4, .string ⟨v.toArray⟩] 34)).drewN q := ⟨_, rfl⟩
      rw [← hw7] at B6 ⊢
      clear hw7 B5 O5 Q5 t0 t1 t2 t3
      have H4 := drawReadNd len0 cap0 a0 w7 hb (HC.out.later B6.out)
      go_wp2_with fail
      refine H4.mono ?_
      rintro e v1 ⟨l, hll, rfl, bv1⟩
      have D1 : Hid (Below w.heap.size w v1) := B6.out.trans (bv1.mono B6.out.size)
      have J1 := impl_readNode l v1 (by omega)
      have J2 := fun W => spec_readNode l W (by omega)
      clear H4 bv1
      cases hr : readNode l with
      | none =>
        rw [hr] at J1 J2
        have J3 := fun (a : Option Addr) (c : Nat) W h => impl_nodeText 0 [] a c [] [] W (by simp) (by simp) (by simp) (by simp) h
        clear hr
        go_wp2_with fail
        refine J1.mono ?_
        rintro e v2 ⟨a6, m6, c6, rfl, o6, bv2⟩
        obtain ⟨hm6, _, i6⟩ := strs_own o6
        have I6 : Hid (IsStrs v2 a6 []) := i6
        simp only [Option.getD_none, Option.isSome_none, zeroN] at o6 hm6 ⊢
        subst hm6
        have D2 : Hid (Below w.heap.size w v2) := D1.out.trans (bv2.mono D1.out.size)
        have Ba : Hid (∀ o, Below v2.heap.size v2 (v2.alloc o)) := fun o => (Below.refl _ _).alloc (Nat.le_refl _) _
        have D2a : Hid (∀ o, Below w.heap.size w (v2.alloc o)) := fun o => D2.out.trans ((Ba.out o).mono D2.out.size)
        clear bv2 o6 J1 i6
        go_wp2_with fail
        refine (J2 _).mono ?_
        rintro e v3 ⟨a7, m7, c7, rfl, o7, bv3⟩
        simp only [Option.getD_none, Option.isSome_none, zeroN]
        have D3 : Hid (Below w.heap.size w v3) := (D2a.out _).trans (bv3.mono (D2a.out _).size)
        have E3 : Hid (Below v2.heap.size v2 v3) := (Ba.out _).trans (bv3.mono (Ba.out _).size)
        have X3 : v3.heap[v2.heap.size]? = some (.cells #[.int .i64 0, .string ⟨#[]⟩, .slice a6 0 c6, .string ⟨#[]⟩] 34 (0, 0)) := (bv3.block v2.heap.size (by simp)).trans (heap_alloc_new v2 _)
        have Bc : ∀ o, Below v3.heap.size v3 (v3.alloc o) := fun o => (Below.refl _ _).alloc (Nat.le_refl _) _
        have D4 : Hid (∀ o, Below w.heap.size w (v3.alloc o)) := fun o => D3.out.trans ((Bc o).mono D3.out.size)
        have I4 : Hid (∀ o, IsStrs (v3.alloc o) a6 []) := fun o => strs_later (strs_later I6.out E3.out) (Bc o)
        have X4 := fun o => nd_cells (((Bc o).block v2.heap.size (lt_of_block X3)).trans X3)
        have x0 := fun o => (X4 o).1
        have x1 := fun o => (X4 o).2.1
        have x2 := fun o => (X4 o).2.2.1
        have x3 := fun o => (X4 o).2.2.2.1
        clear bv3 o7 J2 X3 X4 Bc
        go_wp2_with fail
        refine (J3 a6 c6 _ (I4.out _)).mono ?_
        rintro e v5 ⟨rfl, b5⟩
        have D5 : Hid (Below w.heap.size w v5) := (D4.out _).trans (b5.mono (D4.out _).size)
        clear b5 J3 x0 x1 x2 x3
        go_wp2
        go_ret
        exact ⟨rfl, D5.out⟩
      | some q =>
        obtain ⟨qk, qp, qls, qv⟩ := q
        obtain ⟨hqo, hback⟩ := node_back l _ hr
        obtain ⟨s1, s2, s3, s4⟩ := node_small qk qp qls qv hqo
        have J3 : Hid (∀ (a : Option Addr) (c : Nat) W, IsStrs W a qls → Calls Try.prog 12 #[.agg #[.int .i64 qk, .string ⟨qp.toArray⟩, .slice a qls.length c, .string ⟨qv.toArray⟩]] W fun e w' => e = .returned (.tuple #[.string ⟨l.toArray⟩, .bool true]) ∧ Below W.heap.size W w') := fun a c W h => by
          have q := impl_nodeText qk qp a c qls qv W (by omega) (by omega) (by omega) (fun l hl => by have := s4 l hl; omega) h
          rw [hback, show nodeOk qk qp qls qv = true from hqo] at q
          exact q
        rw [hr] at J1 J2
        clear hr hqo hback s4
        go_wp2_with fail
        refine J1.mono ?_
        rintro e v2 ⟨a6, m6, c6, rfl, o6, bv2⟩
        simp only [Option.getD_some, Option.isSome_some] at o6 ⊢
        obtain ⟨hm6, _, i6⟩ := strs_own o6
        have I6 : Hid (IsStrs v2 a6 qls) := i6
        subst hm6
        have D2 : Hid (Below w.heap.size w v2) := D1.out.trans (bv2.mono D1.out.size)
        have Ba : Hid (∀ o, Below v2.heap.size v2 (v2.alloc o)) := fun o => (Below.refl _ _).alloc (Nat.le_refl _) _
        have D2a : Hid (∀ o, Below w.heap.size w (v2.alloc o)) := fun o => D2.out.trans ((Ba.out o).mono D2.out.size)
        clear bv2 o6 J1 i6
        go_wp2_with fail
        refine (J2 _).mono ?_
        rintro e v3 ⟨a7, m7, c7, rfl, o7, bv3⟩
        simp only [Option.getD_some, Option.isSome_some]
        have D3 : Hid (Below w.heap.size w v3) := (D2a.out _).trans (bv3.mono (D2a.out _).size)
        have E3 : Hid (Below v2.heap.size v2 v3) := (Ba.out _).trans (bv3.mono (Ba.out _).size)
        have X3 : v3.heap[v2.heap.size]? = some (.cells #[.int .i64 qk, .string ⟨qp.toArray⟩, .slice a6 qls.length c6, .string ⟨qv.toArray⟩] 34 (0, 0)) := (bv3.block v2.heap.size (by simp)).trans (heap_alloc_new v2 _)
        have Bc : ∀ o, Below v3.heap.size v3 (v3.alloc o) := fun o => (Below.refl _ _).alloc (Nat.le_refl _) _
        have D4 : Hid (∀ o, Below w.heap.size w (v3.alloc o)) := fun o => D3.out.trans ((Bc o).mono D3.out.size)
        have I4 : Hid (∀ o, IsStrs (v3.alloc o) a6 qls) := fun o => strs_later (strs_later I6.out E3.out) (Bc o)
        have X4 := fun o => nd_cells (((Bc o).block v2.heap.size (lt_of_block X3)).trans X3)
        have x0 := fun o => (X4 o).1
        have x1 := fun o => (X4 o).2.1
        have x2 := fun o => (X4 o).2.2.1
        have x3 := fun o => (X4 o).2.2.2.1
        clear bv3 o7 J2 X3 X4 Bc
        go_wp2_with fail
        refine (J3.out a6 c6 _ (I4.out _)).mono ?_
        rintro e v5 ⟨rfl, b5⟩
        have D5 : Hid (Below w.heap.size w v5) := (D4.out _).trans (b5.mono (D4.out _).size)
        clear b5 J3 x0 x1 x2 x3
        go_wp2
        go_ret
        exact ⟨rfl, D5.out⟩
  · have HB := bigYes len0 cap0 a0 w hb
    clear w0
    go_enter Try.func4, Try.ntmps4
    go_wp2_with fail
    refine HB.mono ?_
    rintro e w1 ⟨rfl, rfl⟩
    clear HB
    go_wp2
    go_ret
    exact ⟨rfl, Below.refl _ _⟩

set_option maxRecDepth 100000 in
theorem lifted (os : Os) (started : os.Started) (H : Type) (enc : TypeId × Value → H) :
    ReturnsInHanded {} Try.checked os 4 .any (Rows.fnNodeTextsSpec.pre6 enc Try.prog Try.f4 Rows.fnNodeTextsRow.domain false) (Rows.fnNodeTextsSpec.post enc Try.prog Try.f4 false true false false) := by
  refine returnsInHanded_of_change (C := Try.checked) own started (by kernel_rfl) Try.func4
    (ChangeSpec.witness6 (enc := enc) (C := Try.checked) false ⟨#[], #[.slice none 0 0], []⟩ 8 (by kernel_rfl) (by kernel_rfl) (by kernel_rfl) (by kernel_rfl)) ?_
  intro W base args ds gs before hval0 hW hcnd _
  have hval : ∀ (j : Nat) t v, Try.f4.params[j]? = some t → args[j]? = some v → Value.okWide Try.prog W .any base t v := hval0
  have hW' := hW
  obtain ⟨p, q, hA0, hV, rfl, hfz, hnd⟩ := hW
  have hA : DataW.TrodAll enc Try.prog W 0 (fun _ => true) true Try.f4.params.toList args.toList ds p := hA0
  rw [Try.params4] at hA hval
  obtain ⟨v0, vs0, d0, ds0, p0, q0, hargs, rfl, rfl, h0, r0⟩ := trodAll_cons hA
  obtain ⟨rfl, rfl, rfl⟩ := trodAll_nil r0
  obtain rfl : args = #[v0] := by cases args; simp_all
  obtain ⟨rfl, rfl⟩ := trodVars_none hV
  obtain ⟨a0, len0, cap0, rfl⟩ := okWide_slice Try.underlying31 (hval 0 31 v0 rfl rfl)
  have k0 := h0
  have lt0 : ∀ x ∈ p0, x.block < W.heap.size := by obtain ⟨m, hm⟩ := k0; exact DataW.trod_lt m _ _ _ hm
  have w0 : Code W a0 len0 := by
    obtain ⟨fuel, hf⟩ := h0
    rcases open_ints Try.underlying31 Try.underlying5 (by kernel_rfl) hf with ⟨hcs, _⟩ | ⟨x, l, c, zs, hcs, _, hl, hm, hz, _, hcell, hwz⟩
    · simp [Value.cells] at hcs
      obtain ⟨rfl, rfl, rfl⟩ := hcs
      exact .inl rfl
    · simp [Value.cells] at hcs
      obtain ⟨rfl, rfl, rfl⟩ := hcs
      exact codeOf W x _ _ zs hl (by simpa using hz) hcell hwz
  clear hA0 hval0
  refine (walk a0 len0 cap0 W w0).mono fun e W' ⟨he, bel⟩ => ?_
  subst he
  exact ⟨_, rfl, _, _, _, [], _, [], hW', trodAll_mk1 (shut_bool Try.underlying4 _), (trodAll_cons_mk (Below.trod laidOut (by kernel_rfl) (of_decide_eq_true (by kernel_rfl)) k0 bel lt0) trodAll_mk0), rfl, bel.frame _, fun h => by cases h⟩

theorem over : Rows.fnNodeTextsRow.holds Try.pinned (OpenSpec.ofChange Rows.fnNodeTextsSpec) :=
  OpenClaim.holds_of_wide 4 Try.f4 rfl rfl rfl rfl rfl rfl rfl ⟨rfl, rfl, rfl, rfl, rfl⟩ rfl rfl rfl rfl rfl (by kernel_rfl) Try.func4 (by kernel_rfl)
    (of_decide_eq_true (by kernel_rfl)) (by unfold Func.isWrapper; first | (rw [if_pos (by decide +kernel)]; kernel_rfl) | (rw [if_neg (by decide +kernel)]; exact ⟨rfl, rfl⟩))
    (fun os started H enc _ => lifted os started H enc)

end Go.Proofs.Ytniclkhnccggpaa.fnNodeTexts
namespace Go.Proofs.Ytniclkhnccggpaa
theorem fnNodeTexts_holds : Rows.FnNodeTextsSaid := fnNodeTexts.over
end Go.Proofs.Ytniclkhnccggpaa
