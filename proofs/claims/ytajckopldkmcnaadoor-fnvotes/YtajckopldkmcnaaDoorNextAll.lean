/-
  Texts that are laid as one: INext, NextNo, NextL.
-/
import Derived.Test.YtajckopldkmcnaaDoorISig
import Derived.Test.YtajckopldkmcnaaDoorILaw4
import Derived.Test.YtajckopldkmcnaaDoorSOk
namespace Go.Proofs.YtajckopldkmcnaaDoor
open Go.RowKit
set_option linter.unusedVariables false

set_option maxRecDepth 100000 in
set_option maxHeartbeats 2000000 in
theorem impl_next2 (seed msg : List UInt8) (i : Nat) (w : World) (hs : seed.length = 32) (hi : i < 4) (hl : msg.length ≤ 1048576) (hT : Tab w) :
    Calls Tryd.prog 47 #[.agg #[.string ⟨seed.toArray⟩, .int .i64 (i : Int)], .string ⟨msg.toArray⟩] w fun e w' => ∃ g c k d : Nat, e = .returned (.tuple #[.agg #[.string ⟨seed.toArray⟩, .int .i64 ((i : Int) + 1)], .agg #[.int .i64 (i : Int), .slice (some ⟨g, 0, none⟩) 19 c, .slice (some ⟨k, 0, none⟩) 2 d], .bool true]) ∧ g < k ∧ w'.ownsRow w.heap.size 9 1 (.slice (some ⟨g, 0, none⟩) 19 c) 19 (scells (sigL (leafL seed i) msg 19)) ∧ w'.ownsRow w.heap.size 9 1 (.slice (some ⟨k, 0, none⟩) 2 d) 2 (scells (pathL seed i)) ∧ Below w.heap.size w w' := by
  obtain ⟨wa, hwa⟩ : ∃ wa, wa = ((w.alloc (.cells #[.string ⟨seed.toArray⟩, .int .i64 (i : Int)] 28)).alloc (.cells #[.string ⟨#[]⟩, .int .i64 0] 28)).alloc (.cells #[.int .i64 0, .slice none 0 0, .slice none 0 0] 31) := ⟨_, rfl⟩
  have Ba : Below w.heap.size w wa := by rw [hwa]; exact (((Below.refl _ _).alloc (Nat.le_refl _) _).alloc (by simp) _).alloc (by simp; omega) _
  have sa : wa.heap.size = w.heap.size + 3 := by rw [hwa]; simp
  have a0 : wa.heap[w.heap.size]? = some (.cells #[.string ⟨seed.toArray⟩, .int .i64 (i : Int)] 28 (0, 0)) := by rw [hwa, Below.heap_alloc _ _ _ (by simp; omega), Below.heap_alloc _ _ _ (by simp)]; exact heap_alloc_new w _
  have a1 : wa.heap[w.heap.size + 1]? = some (.cells #[.string ⟨#[]⟩, .int .i64 0] 28 (0, 0)) := by rw [hwa, Below.heap_alloc _ _ _ (by simp)]; exact new_at _ (by simp) _
  have a2 : wa.heap[w.heap.size + 2]? = some (.cells #[.int .i64 0, .slice none 0 0, .slice none 0 0] 31 (0, 0)) := by rw [hwa]; exact new_at _ (by simp) _
  have K1 := impl_ok seed (i : Int) true wa (by omega) (by simp [hs]; omega)
  have HK2 : Hid (∀ W, Below w.heap.size w W → Calls Tryd.prog 88 #[.string ⟨seed.toArray⟩, .int .i64 (i : Int)] W fun e w' => e = .returned (.tuple #[.string ⟨(leafL seed i).toArray⟩, .bool true]) ∧ Below W.heap.size W w') := fun W hW => impl_leaf seed i W hs (by omega) (hT.later hW)
  have HK3 : Hid (∀ W, Below w.heap.size w W → Calls Tryd.prog 89 #[.string ⟨(leafL seed i).toArray⟩, .string ⟨msg.toArray⟩] W fun e w' => ∃ g cap : Nat, e = .returned (.tuple #[.slice (some ⟨g, 0, none⟩) 19 cap, .bool true]) ∧ w'.ownsRow W.heap.size 9 1 (.slice (some ⟨g, 0, none⟩) 19 cap) 19 (scells (sigL (leafL seed i) msg 19)) ∧ Below W.heap.size W w') := fun W hW => impl_sign (leafL seed i) msg W (leafL_len seed i hs) hl (hT.later hW)
  have HK4 : Hid (∀ W, Below w.heap.size w W → _) := fun W hW => keyTree_any seed W hs (hT.later hW)
  have HK5 : Hid (∀ g0 c0 g1 c1 g2 c2 b W, _ → _ → _) := fun g0 c0 g1 c1 g2 c2 b W => keyPath_any seed i hi g0 c0 g1 c1 g2 c2 b W
  obtain ⟨lf, hlf⟩ : ∃ lf, lf = leafL seed i := ⟨_, rfl⟩
  obtain ⟨sg, hsg⟩ : ∃ sg, sg = sigL (leafL seed i) msg 19 := ⟨_, rfl⟩
  obtain ⟨pt, hpt⟩ : ∃ pt, pt = pathL seed i := ⟨_, rfl⟩
  obtain ⟨L0, hL0⟩ : ∃ L, L = level0 seed := ⟨_, rfl⟩
  obtain ⟨L1, hL1⟩ : ∃ L, L = level1 seed := ⟨_, rfl⟩
  obtain ⟨rt, hrt⟩ : ∃ L, L = rootL seed := ⟨_, rfl⟩
  rw [← hsg, ← hlf] at HK3
  rw [← hlf] at HK2
  rw [← hL0, ← hL1, ← hrt] at HK4
  rw [← hL0, ← hL1, ← hpt] at HK5
  rw [← hsg, ← hpt]
  rw [hwa] at K1
  have hi4 : ¬ (i : Int) = 4 := by omega
  clear hlf hsg hpt hL0 hL1 hrt hT
  go_enter Tryd.func47, Tryd.ntmps47
  go_wp2_with fail
  refine K1.mono ?_
  rintro e w1 ⟨rfl, b1⟩
  rw [← hwa] at b1
  clear K1 hwa
  have B1 := Ba.trans (b1.mono (by omega))
  have n1 := b1.size
  have p1 := (b1.block _ (by omega)).trans a0
  obtain ⟨p1a, p1b, _⟩ := duo_row p1
  go_wp2_with fail
  refine (HK2.out _ B1).mono ?_
  rintro e w2 ⟨rfl, b2⟩
  have B2 := B1.trans (b2.mono B1.size)
  have n2 := b2.size
  clear HK2 p1a p1b
  go_wp2_with fail
  refine (HK3.out _ B2).mono ?_
  rintro e w3 ⟨g, c, rfl, o3, b3⟩
  have B3 := B2.trans (b3.mono B2.size)
  have n3 := b3.size
  have z0 := (b3.block _ (by omega)).trans ((b2.block _ (by omega)).trans p1)
  have z1 := (b3.block _ (by omega)).trans ((b2.block _ (by omega)).trans ((b1.block _ (by omega)).trans a1))
  have z2 := (b3.block _ (by omega)).trans ((b2.block _ (by omega)).trans ((b1.block _ (by omega)).trans a2))
  have O3 := hidOwn (o3.mono B2.size)
  have hg3 := own_base o3
  have lg3 := own_lt o3
  have HZ : Hid (w3.heap[w.heap.size]? = some (.cells #[.string ⟨seed.toArray⟩, .int .i64 (i : Int)] 28 (0, 0)) ∧ w3.heap[w.heap.size + 1]? = some (.cells #[.string ⟨#[]⟩, .int .i64 0] 28 (0, 0)) ∧ w3.heap[w.heap.size + 2]? = some (.cells #[.int .i64 0, .slice none 0 0, .slice none 0 0] 31 (0, 0))) := ⟨z0, z1, z2⟩
  have sw3 : w.heap.size + 3 ≤ w3.heap.size := by omega
  obtain ⟨p3a, p3b, _⟩ := duo_row z0
  clear HK3 o3 b3 b2 b1 p1 a0 a1 a2 z0 z1 z2 B2 B1 Ba
  have K4 := HK4.out w3.drew (below_drewI B3)
  have K4A := HK4.out (w3.alloc (.cells #[.int .i64 0, .slice none 0 0, .slice none 0 0] 31)).drew (below_drewI (B3.alloc B3.size _))
  go_wp2_with fail
  go_cut [11] from 36 (fun v wx => ∃ bs k d : Nat, v = .pointer (some ⟨bs, 0, none⟩) ∧ Hid (wx.heap[bs]? = some (.cells #[.int .i64 (i : Int), .slice (some ⟨g, 0, none⟩) 19 c, .slice (some ⟨k, 0, none⟩) 2 d] 31 (0, 0))) ∧ Hid (w3.heap.size ≤ bs ∧ w3.heap.size ≤ k) ∧ Hid (Below w3.heap.size w3 wx) ∧ Hid (wx.ownsRow w3.heap.size 9 1 (.slice (some ⟨k, 0, none⟩) 2 d) 2 (scells pt)))
  case first =>
    go_region_held3 (fun w' => w'.cell? ⟨w.heap.size, 0, none⟩ = some (.string ⟨seed.toArray⟩) ∧ w'.cell? ⟨w.heap.size, 1, none⟩ = some (.int .i64 (i : Int)))
      (first | (exact ⟨by assumption, by assumption⟩) | (with_reducible exact ⟨(trio_set_cell (by simp; omega)).trans (by assumption), (trio_set_cell (by simp; omega)).trans (by assumption)⟩) | go_keep)
      (first
        | (go_at_call 90
           with_reducible refine (HK5.out g0 c0 g1 c1 g2 c2 _ wA l0A l1A).mono ?_
           rintro e w5 ⟨k, d, rfl, o5, b5⟩
           have s5 : wA.heap.size ≤ w5.heap.size := b5.size
           have q5a := (b5.cell (p := ⟨w.heap.size, 0, none⟩) (by simp; omega)).trans q4a
           have q5b := (b5.cell (p := ⟨w.heap.size, 1, none⟩) (by simp; omega)).trans q4b
           have HN : Hid (Below w3.heap.size w3 w5 ∧ w5.heap[w3.heap.size]? = some (.cells #[.int .i64 0, .slice none 0 0, .slice none 0 0] 31) ∧ wA.heap.size ≤ k ∧ w3.heap.size < wA.heap.size) := ⟨b4.trans (b5.mono s4), (b5.block _ s4').trans hzA, own_base o5, s4'⟩
           have O5 := hidOwn o5
           obtain ⟨y0, y1, y2, yf⟩ := trio_cells HN.out.2.1
           have yf0 := yf 0
           have yf1 := yf 1
           have yf2 := yf 2
           clear o5 b5 yf)
        | (go_at_call 90
           with_reducible refine (HK5.out g0 c0 g1 c1 g2 c2 _ (w4.alloc (.cells #[.int .i64 0, .slice none 0 0, .slice none 0 0] 31)) (l0.alloc _) (l1.alloc _)).mono ?_
           rintro e w5 ⟨k, d, rfl, o5, b5⟩
           have s5 : w4.heap.size < w5.heap.size := by have := b5.size; simp at this; omega
           have q5a := (b5.cell (p := ⟨w.heap.size, 0, none⟩) (by simp; omega)).trans ((World.cell?_alloc_lt _ _ _ (by simp; omega)).trans q4a)
           have q5b := (b5.cell (p := ⟨w.heap.size, 1, none⟩) (by simp; omega)).trans ((World.cell?_alloc_lt _ _ _ (by simp; omega)).trans q4b)
           have HN : Hid (Below w3.heap.size w3 w5 ∧ w5.heap[w4.heap.size]? = some (.cells #[.int .i64 0, .slice none 0 0, .slice none 0 0] 31) ∧ w4.heap.size < k ∧ w3.heap.size ≤ w4.heap.size) := ⟨(b4.alloc s4 _).trans (b5.mono (by simp; omega)), (b5.block _ (by simp)).trans (heap_alloc_new w4 _), by have := own_base o5; simp at this; omega, s4⟩
           have O5 := hidOwn o5
           obtain ⟨y0, y1, y2, yf⟩ := trio_cells HN.out.2.1
           have yf0 := yf 0
           have yf1 := yf 1
           have yf2 := yf 2
           clear o5 b5 yf)
        | (go_at_call 90
           with_reducible refine (HK5.out g0 c0 g1 c1 g2 c2 _ w4 l0 l1).mono ?_
           rintro e w5 ⟨k, d, rfl, o5, b5⟩
           have s5 : w4.heap.size ≤ w5.heap.size := b5.size
           have q5a := (b5.cell (p := ⟨w.heap.size, 0, none⟩) (by simp; omega)).trans q4a
           have q5b := (b5.cell (p := ⟨w.heap.size, 1, none⟩) (by simp; omega)).trans q4b
           have HC : Hid (Below w3.heap.size w3 w5 ∧ w4.heap.size ≤ k ∧ w3.heap.size ≤ w4.heap.size ∧ k < w5.heap.size) := ⟨b4.trans (b5.mono s4), own_base o5, s4, own_lt o5⟩
           have O5 := hidOwn o5
           clear o5 b5)
        | (go_at_call 65
           with_reducible refine K4A.mono ?_
           rintro e wA ⟨g0, c0, g1, c1, g2, c2, rfl, l0A, l1A, l2A, b4'⟩
           obtain ⟨s4', b4, hzA⟩ := below_alloc_drew b4'
           have s4 : w3.heap.size ≤ wA.heap.size := Nat.le_of_lt s4'
           have q4a := (b4.cell (p := ⟨w.heap.size, 0, none⟩) (by simp; omega)).trans p3a
           have q4b := (b4.cell (p := ⟨w.heap.size, 1, none⟩) (by simp; omega)).trans p3b)
        | (go_at_call 65
           with_reducible refine K4.mono ?_
           rintro e w4 ⟨g0, c0, g1, c1, g2, c2, rfl, l0, l1, l2, b4'⟩
           have b4 : Below w3.heap.size w3 w4 := ⟨b4'.os, b4'.tape, b4'.output, b4'.size, b4'.block⟩
           have s4 : w3.heap.size ≤ w4.heap.size := b4.size
           have q4a := (b4.cell (p := ⟨w.heap.size, 0, none⟩) (by simp; omega)).trans p3a
           have q4b := (b4.cell (p := ⟨w.heap.size, 1, none⟩) (by simp; omega)).trans p3b))
    all_goals go_wp2_with fail
    · go_meet
      case rel =>
        have hc := HC.out
        exact ⟨w5.heap.size, k, d, rfl, heap_alloc_new w5 _, ⟨by omega, by omega⟩, hc.1.alloc hc.1.size _, (O5.out.alloc _).mono (by omega)⟩
    · go_meet
      case rel =>
        have hn := HN.out
        have ts := trio_store (base := w4.heap.size + 1) hn.2.1 hn.2.2.2 hn.1 (by simpa using O5.out) (by omega) (.int .i64 (i : Int)) (.slice (some ⟨g, 0, none⟩) 19 c) (.slice (some ⟨k, 0, none⟩) 2 d)
        exact ⟨w4.heap.size, k, d, rfl, ts.1, ⟨by omega, by omega⟩, ts.2.1, ts.2.2.mono (by omega)⟩
    · go_meet
      case rel =>
        have hn := HN.out
        have ts := trio_store hn.2.1 (Nat.le_refl _) hn.1 O5.out (by omega) (.int .i64 (i : Int)) (.slice (some ⟨g, 0, none⟩) 19 c) (.slice (some ⟨k, 0, none⟩) 2 d)
        exact ⟨w3.heap.size, k, d, rfl, ts.1, ⟨by omega, by omega⟩, ts.2.1, ts.2.2.mono (by omega)⟩
  case rest =>
    obtain ⟨bs, k, d, rfl, HS, HB, HW, HO⟩ := hcut
    have hbb := HB.out
    have BW := HW.out
    have z0 := (BW.block _ (by omega)).trans HZ.out.1
    have z1 := (BW.block _ (by omega)).trans HZ.out.2.1
    have z2 := (BW.block _ (by omega)).trans HZ.out.2.2
    obtain ⟨s0, s1, sf⟩ := duo_row z0
    obtain ⟨r0, r1, rf⟩ := duo_row z1
    obtain ⟨t0, t1, t2, tf⟩ := trio_cells z2
    obtain ⟨v0, v1, v2, _⟩ := trio_cells HS.out
    have rf0 := rf 0
    have rf1 := rf 1
    have tf0 := tf 0
    have tf1 := tf 1
    have tf2 := tf 2
    have hiw : IntKind.i64.wrap ((i : Int) + 1) = (i : Int) + 1 := i64_wrap_small _ (by omega) (by omega)
    have ne1 : bs ≠ w.heap.size := by omega
    have ne2 : bs ≠ w.heap.size + 1 := by omega
    have ne3 : bs ≠ w.heap.size + 1 + 1 := by omega
    have HZ2 : Hid (wc.heap[w.heap.size + 1]? = some (.cells #[.string ⟨#[]⟩, .int .i64 0] 28 (0, 0)) ∧ wc.heap[w.heap.size + 2]? = some (.cells #[.int .i64 0, .slice none 0 0, .slice none 0 0] 31 (0, 0))) := ⟨z1, z2⟩
    clear K4 K4A HK4 HK5 z0 z1 z2 rf tf p3a p3b
    go_wp2_with fail
    go_region
    go_wp2
    have eu := duo_set (j := 1) (y := .int .i64 ((i : Int) + 1)) (duo_set (j := 0) (y := .string ⟨seed.toArray⟩) HZ2.out.1)
    have BS := (((B3.trans (BW.mono B3.size)).setCell (p := ⟨w.heap.size + 1, 0, none⟩) (by simp) (.string ⟨seed.toArray⟩)).setCell (p := ⟨w.heap.size + 1, 1, none⟩) (by simp) (.int .i64 ((i : Int) + 1)))
    have hz2 : ((wc.setCell ⟨w.heap.size + 1, 0, none⟩ (.string ⟨seed.toArray⟩)).setCell ⟨w.heap.size + 1, 1, none⟩ (.int .i64 ((i : Int) + 1))).heap[w.heap.size + 1 + 1]? = _ := (Below.heap_setCell _ _ _ _ (by simp)).trans ((Below.heap_setCell _ _ _ _ (by simp)).trans HZ2.out.2)
    have hgk := (O3.out.kept (w' := wc) (row := none) ⟨BW.os, BW.tape, BW.output, BW.size, fun j hj _ => BW.block j hj⟩ (.inr (by simp [Value.ownBlock])))
    have two : ∀ {q m a base : Nat} {xs : List Value}, wc.ownsRow base 9 1 (.slice (some ⟨q, 0, none⟩) m a) m xs → w.heap.size + 2 < q → ((wc.setCell ⟨w.heap.size + 1, 0, none⟩ (.string ⟨seed.toArray⟩)).setCell ⟨w.heap.size + 1, 1, none⟩ (.int .i64 ((i : Int) + 1))).ownsRow base 9 1 (.slice (some ⟨q, 0, none⟩) m a) m xs := fun h hq => ownsRow_setCell_other (ownsRow_setCell_other h (by simp [Value.ownBlock]; omega) _) (by simp [Value.ownBlock]; omega) _
    have hgb := own_base hgk
    have ts := trio_store hz2 (by omega : w.heap.size ≤ w.heap.size + 1 + 1) BS (two hgk (by omega)) (by omega) (.int .i64 (i : Int)) (.slice (some ⟨g, 0, none⟩) 19 c) (.slice (some ⟨k, 0, none⟩) 2 d)
    have tk := trio_store hz2 (by omega : w.heap.size ≤ w.heap.size + 1 + 1) BS (two HO.out (by omega)) (by omega) (.int .i64 (i : Int)) (.slice (some ⟨g, 0, none⟩) 19 c) (.slice (some ⟨k, 0, none⟩) 2 d)
    have eu2 := (Below.heap_setCell _ ⟨w.heap.size + 1 + 1, 2, none⟩ (.slice (some ⟨k, 0, none⟩) 2 d) (w.heap.size + 1) (by simp)).trans ((Below.heap_setCell _ ⟨w.heap.size + 1 + 1, 1, none⟩ (.slice (some ⟨g, 0, none⟩) 19 c) (w.heap.size + 1) (by simp)).trans ((Below.heap_setCell _ ⟨w.heap.size + 1 + 1, 0, none⟩ (.int .i64 (i : Int)) (w.heap.size + 1) (by simp)).trans eu))
    obtain ⟨wf, hwf⟩ : ∃ wf, wf = (((((wc.setCell ⟨w.heap.size + 1, 0, none⟩ (.string ⟨seed.toArray⟩)).setCell ⟨w.heap.size + 1, 1, none⟩ (.int .i64 ((i : Int) + 1))).setCell ⟨w.heap.size + 1 + 1, 0, none⟩ (.int .i64 (i : Int))).setCell ⟨w.heap.size + 1 + 1, 1, none⟩ (.slice (some ⟨g, 0, none⟩) 19 c)).setCell ⟨w.heap.size + 1 + 1, 2, none⟩ (.slice (some ⟨k, 0, none⟩) 2 d)).drew := ⟨_, rfl⟩
    have F1 : wf.heap[w.heap.size + 1]? = some (.cells #[.string ⟨seed.toArray⟩, .int .i64 ((i : Int) + 1)] 28 (0, 0)) := by rw [hwf]; exact eu2
    have F2 : wf.heap[w.heap.size + 1 + 1]? = some (.cells #[.int .i64 (i : Int), .slice (some ⟨g, 0, none⟩) 19 c, .slice (some ⟨k, 0, none⟩) 2 d] 31 (0, 0)) := by rw [hwf]; exact ts.1
    have F3 : wf.ownsRow w.heap.size 9 1 (.slice (some ⟨g, 0, none⟩) 19 c) 19 (scells sg) := by rw [hwf]; exact ts.2.2.drew
    have F4 : wf.ownsRow w.heap.size 9 1 (.slice (some ⟨k, 0, none⟩) 2 d) 2 (scells pt) := by rw [hwf]; exact (tk.2.2.mono B3.size).drew
    have F5 : Below w.heap.size w wf := by rw [hwf]; exact below_drewI ts.2.1
    rw [← hwf]
    clear hwf eu2 ts tk eu hz2 BS two hgk
    exact bodyPost_ret (v := .tuple #[.agg #[.string ⟨seed.toArray⟩, .int .i64 ((i : Int) + 1)], .agg #[.int .i64 (i : Int), .slice (some ⟨g, 0, none⟩) 19 c, .slice (some ⟨k, 0, none⟩) 2 d], .bool true]) (results_ccb rfl _ _ (w.heap.size + 1) (w.heap.size + 1 + 1) 28 31 _ _ _ _ rfl F1 Tryd.underlying28 rfl (by kernel_rfl) rfl F2 Tryd.underlying31 rfl (by kernel_rfl) _ rfl) rfl ⟨g, c, k, d, rfl, by omega, F3, F4, F5⟩
end Go.Proofs.YtajckopldkmcnaaDoor
namespace Go.Proofs.YtajckopldkmcnaaDoor
open Go.RowKit
set_option linter.unusedVariables false

theorem no_store (sd us : Value) (w w1 : World) {ts tg : TypeId} {a b x y z : Value} (h1 : w1.heap[w.heap.size + 1]? = some (.cells #[a, b] ts (0, 0))) (h2 : w1.heap[w.heap.size + 2]? = some (.cells #[x, y, z] tg (0, 0))) (hB : Below w.heap.size w w1) :
    (((((w1.setCell ⟨w.heap.size + 1, 0, none⟩ sd).setCell ⟨w.heap.size + 1, 1, none⟩ us).setCell ⟨w.heap.size + 1 + 1, 0, none⟩ (.int .i64 0)).setCell ⟨w.heap.size + 1 + 1, 1, none⟩ (.slice none 0 0)).setCell ⟨w.heap.size + 1 + 1, 2, none⟩ (.slice none 0 0)).heap[w.heap.size + 1]? = some (.cells #[sd, us] ts (0, 0)) ∧
    (((((w1.setCell ⟨w.heap.size + 1, 0, none⟩ sd).setCell ⟨w.heap.size + 1, 1, none⟩ us).setCell ⟨w.heap.size + 1 + 1, 0, none⟩ (.int .i64 0)).setCell ⟨w.heap.size + 1 + 1, 1, none⟩ (.slice none 0 0)).setCell ⟨w.heap.size + 1 + 1, 2, none⟩ (.slice none 0 0)).heap[w.heap.size + 1 + 1]? = some (.cells #[.int .i64 0, .slice none 0 0, .slice none 0 0] tg (0, 0)) ∧
    Below w.heap.size w (((((w1.setCell ⟨w.heap.size + 1, 0, none⟩ sd).setCell ⟨w.heap.size + 1, 1, none⟩ us).setCell ⟨w.heap.size + 1 + 1, 0, none⟩ (.int .i64 0)).setCell ⟨w.heap.size + 1 + 1, 1, none⟩ (.slice none 0 0)).setCell ⟨w.heap.size + 1 + 1, 2, none⟩ (.slice none 0 0)) :=
  ⟨(Below.heap_setCell _ _ _ _ (by simp)).trans ((Below.heap_setCell _ _ _ _ (by simp)).trans ((Below.heap_setCell _ _ _ _ (by simp)).trans (duo_set (j := 1) (duo_set (j := 0) h1)))),
    trio_set (j := 2) (trio_set (j := 1) (trio_set (j := 0) ((Below.heap_setCell _ _ _ _ (by simp)).trans ((Below.heap_setCell _ _ _ _ (by simp)).trans h2)))),
    ((((hB.setCell (by simp) _).setCell (by simp) _).setCell (by simp; omega) _).setCell (by simp; omega) _).setCell (by simp; omega) _⟩

set_option maxRecDepth 100000 in
set_option maxHeartbeats 1000000 in
theorem impl_next_no (seed msg : List UInt8) (n : Int) (w : World) (hl : seed.length ≤ 1048576) (hno : ¬ (seed.length = 32 ∧ 0 ≤ n ∧ n ≤ 3)) :
    Calls Tryd.prog 47 #[.agg #[.string ⟨seed.toArray⟩, .int .i64 n], .string ⟨msg.toArray⟩] w fun e w' => e = .returned (.tuple #[.agg #[.string ⟨seed.toArray⟩, .int .i64 n], .agg #[.int .i64 0, .slice none 0 0, .slice none 0 0], .bool false]) ∧ Below w.heap.size w w' := by
  obtain ⟨wa, hwa⟩ : ∃ wa, wa = ((w.alloc (.cells #[.string ⟨seed.toArray⟩, .int .i64 n] 28)).alloc (.cells #[.string ⟨#[]⟩, .int .i64 0] 28)).alloc (.cells #[.int .i64 0, .slice none 0 0, .slice none 0 0] 31) := ⟨_, rfl⟩
  have Ba : Below w.heap.size w wa := by rw [hwa]; exact (((Below.refl _ _).alloc (Nat.le_refl _) _).alloc (by simp) _).alloc (by simp; omega) _
  have sa : wa.heap.size = w.heap.size + 3 := by rw [hwa]; simp
  have a0 : wa.heap[w.heap.size]? = some (.cells #[.string ⟨seed.toArray⟩, .int .i64 n] 28 (0, 0)) := by rw [hwa, Below.heap_alloc _ _ _ (by simp; omega), Below.heap_alloc _ _ _ (by simp)]; exact heap_alloc_new w _
  have a1 : wa.heap[w.heap.size + 1]? = some (.cells #[.string ⟨#[]⟩, .int .i64 0] 28 (0, 0)) := by rw [hwa, Below.heap_alloc _ _ _ (by simp)]; exact new_at _ (by simp) _
  have a2 : wa.heap[w.heap.size + 2]? = some (.cells #[.int .i64 0, .slice none 0 0, .slice none 0 0] 31 (0, 0)) := by rw [hwa]; exact new_at _ (by simp) _
  by_cases h4 : n = 4 ∧ seed.length = 32
  · obtain ⟨rfl, hs⟩ := h4
    clear hno
    have K1 := impl_ok seed 4 true wa hl (by simp [hs])
    rw [hwa] at K1
    go_enter Tryd.func47, Tryd.ntmps47
    go_wp2_with fail
    refine K1.mono ?_
    rintro e w1 ⟨rfl, b1⟩
    rw [← hwa] at b1
    clear K1 hwa
    have B1 := Ba.trans (b1.mono (by omega))
    have s1 := b1.size
    have z0 := (b1.block _ (by omega)).trans a0
    have z1 := (b1.block _ (by omega)).trans a1
    have z2 := (b1.block _ (by omega)).trans a2
    obtain ⟨f0, f1, _⟩ := duo_row z0
    obtain ⟨r0, r1, rf⟩ := duo_row z1
    obtain ⟨t0, t1, t2, tf⟩ := trio_cells z2
    have rf0 := rf 0
    have rf1 := rf 1
    have tf0 := tf 0
    have tf1 := tf 1
    have tf2 := tf 2
    have HZ2 : Hid (w1.heap[w.heap.size + 1]? = some (.cells #[.string ⟨#[]⟩, .int .i64 0] 28 (0, 0)) ∧ w1.heap[w.heap.size + 2]? = some (.cells #[.int .i64 0, .slice none 0 0, .slice none 0 0] 31 (0, 0))) := ⟨z1, z2⟩
    clear z0 z1 z2 rf tf b1 a0 a1 a2 Ba
    go_wp2
    obtain ⟨F1, F2, F5⟩ := no_store (.string ⟨seed.toArray⟩) (.int .i64 4) w w1 HZ2.out.1 HZ2.out.2 B1
    exact bodyPost_ret (v := .tuple #[.agg #[.string ⟨seed.toArray⟩, .int .i64 4], .agg #[.int .i64 0, .slice none 0 0, .slice none 0 0], .bool false]) (results_ccb rfl _ _ (w.heap.size + 1) (w.heap.size + 1 + 1) 28 31 _ _ _ _ rfl F1 Tryd.underlying28 rfl (by kernel_rfl) rfl F2 Tryd.underlying31 rfl (by kernel_rfl) _ rfl) rfl ⟨rfl, F5⟩

  · have K1 := impl_ok seed n false wa hl (by rw [eq_comm, decide_eq_false_iff_not]; intro hh; exact hno ⟨hh.1, hh.2.1, by have : n ≠ 4 := fun e => h4 ⟨e, hh.1⟩; omega⟩)
    rw [hwa] at K1
    go_enter Tryd.func47, Tryd.ntmps47
    go_wp2_with fail
    refine K1.mono ?_
    rintro e w1 ⟨rfl, b1⟩
    rw [← hwa] at b1
    clear K1 hwa
    have B1 := Ba.trans (b1.mono (by omega))
    have s1 := b1.size
    have z0 := (b1.block _ (by omega)).trans a0
    have z1 := (b1.block _ (by omega)).trans a1
    have z2 := (b1.block _ (by omega)).trans a2
    obtain ⟨f0, f1, _⟩ := duo_row z0
    obtain ⟨r0, r1, rf⟩ := duo_row z1
    obtain ⟨t0, t1, t2, tf⟩ := trio_cells z2
    have rf0 := rf 0
    have rf1 := rf 1
    have tf0 := tf 0
    have tf1 := tf 1
    have tf2 := tf 2
    have HZ2 : Hid (w1.heap[w.heap.size + 1]? = some (.cells #[.string ⟨#[]⟩, .int .i64 0] 28 (0, 0)) ∧ w1.heap[w.heap.size + 2]? = some (.cells #[.int .i64 0, .slice none 0 0, .slice none 0 0] 31 (0, 0))) := ⟨z1, z2⟩
    clear z0 z1 z2 rf tf b1 a0 a1 a2 Ba
    go_wp2
    obtain ⟨F1, F2, F5⟩ := no_store (.string ⟨seed.toArray⟩) (.int .i64 n) w w1 HZ2.out.1 HZ2.out.2 B1
    exact bodyPost_ret (v := .tuple #[.agg #[.string ⟨seed.toArray⟩, .int .i64 n], .agg #[.int .i64 0, .slice none 0 0, .slice none 0 0], .bool false]) (results_ccb rfl _ _ (w.heap.size + 1) (w.heap.size + 1 + 1) 28 31 _ _ _ _ rfl F1 Tryd.underlying28 rfl (by kernel_rfl) rfl F2 Tryd.underlying31 rfl (by kernel_rfl) _ rfl) rfl ⟨rfl, F5⟩

set_option maxRecDepth 100000 in
set_option maxHeartbeats 1000000 in
theorem spec_next_no (seed msg : List UInt8) (n : Int) (w : World) (hl : seed.length ≤ 1048576) (hno : ¬ (seed.length = 32 ∧ 0 ≤ n ∧ n ≤ 3)) :
    Calls Tryd.prog 46 #[.agg #[.string ⟨seed.toArray⟩, .int .i64 n], .string ⟨msg.toArray⟩] w fun e w' => e = .returned (.tuple #[.agg #[.string ⟨seed.toArray⟩, .int .i64 n], .agg #[.int .i64 0, .slice none 0 0, .slice none 0 0], .bool false]) ∧ Below w.heap.size w w' := by
  obtain ⟨wa, hwa⟩ : ∃ wa, wa = ((w.alloc (.cells #[.string ⟨seed.toArray⟩, .int .i64 n] 28)).alloc (.cells #[.string ⟨#[]⟩, .int .i64 0] 28)).alloc (.cells #[.int .i64 0, .slice none 0 0, .slice none 0 0] 31) := ⟨_, rfl⟩
  have Ba : Below w.heap.size w wa := by rw [hwa]; exact (((Below.refl _ _).alloc (Nat.le_refl _) _).alloc (by simp) _).alloc (by simp; omega) _
  have sa : wa.heap.size = w.heap.size + 3 := by rw [hwa]; simp
  have a0 : wa.heap[w.heap.size]? = some (.cells #[.string ⟨seed.toArray⟩, .int .i64 n] 28 (0, 0)) := by rw [hwa, Below.heap_alloc _ _ _ (by simp; omega), Below.heap_alloc _ _ _ (by simp)]; exact heap_alloc_new w _
  have a1 : wa.heap[w.heap.size + 1]? = some (.cells #[.string ⟨#[]⟩, .int .i64 0] 28 (0, 0)) := by rw [hwa, Below.heap_alloc _ _ _ (by simp)]; exact new_at _ (by simp) _
  have a2 : wa.heap[w.heap.size + 2]? = some (.cells #[.int .i64 0, .slice none 0 0, .slice none 0 0] 31 (0, 0)) := by rw [hwa]; exact new_at _ (by simp) _
  by_cases h4 : n = 4 ∧ seed.length = 32
  · obtain ⟨rfl, hs⟩ := h4
    clear hno
    have K1 := spec_ok seed 4 true wa hl (by simp [hs])
    rw [hwa] at K1
    go_enter Tryd.func46, Tryd.ntmps46
    go_wp2_with fail
    refine K1.mono ?_
    rintro e w1 ⟨rfl, b1⟩
    rw [← hwa] at b1
    clear K1 hwa
    have B1 := Ba.trans (b1.mono (by omega))
    have s1 := b1.size
    have z0 := (b1.block _ (by omega)).trans a0
    have z1 := (b1.block _ (by omega)).trans a1
    have z2 := (b1.block _ (by omega)).trans a2
    obtain ⟨f0, f1, _⟩ := duo_row z0
    obtain ⟨r0, r1, rf⟩ := duo_row z1
    obtain ⟨t0, t1, t2, tf⟩ := trio_cells z2
    have rf0 := rf 0
    have rf1 := rf 1
    have tf0 := tf 0
    have tf1 := tf 1
    have tf2 := tf 2
    have HZ2 : Hid (w1.heap[w.heap.size + 1]? = some (.cells #[.string ⟨#[]⟩, .int .i64 0] 28 (0, 0)) ∧ w1.heap[w.heap.size + 2]? = some (.cells #[.int .i64 0, .slice none 0 0, .slice none 0 0] 31 (0, 0))) := ⟨z1, z2⟩
    clear z0 z1 z2 rf tf b1 a0 a1 a2 Ba
    go_wp2
    obtain ⟨F1, F2, F5⟩ := no_store (.string ⟨seed.toArray⟩) (.int .i64 4) w w1 HZ2.out.1 HZ2.out.2 B1
    exact bodyPost_ret (v := .tuple #[.agg #[.string ⟨seed.toArray⟩, .int .i64 4], .agg #[.int .i64 0, .slice none 0 0, .slice none 0 0], .bool false]) (results_ccb rfl _ _ (w.heap.size + 1) (w.heap.size + 1 + 1) 28 31 _ _ _ _ rfl F1 Tryd.underlying28 rfl (by kernel_rfl) rfl F2 Tryd.underlying31 rfl (by kernel_rfl) _ rfl) rfl ⟨rfl, F5⟩

  · have K1 := spec_ok seed n false wa hl (by rw [eq_comm, decide_eq_false_iff_not]; intro hh; exact hno ⟨hh.1, hh.2.1, by have : n ≠ 4 := fun e => h4 ⟨e, hh.1⟩; omega⟩)
    rw [hwa] at K1
    go_enter Tryd.func46, Tryd.ntmps46
    go_wp2_with fail
    refine K1.mono ?_
    rintro e w1 ⟨rfl, b1⟩
    rw [← hwa] at b1
    clear K1 hwa
    have B1 := Ba.trans (b1.mono (by omega))
    have s1 := b1.size
    have z0 := (b1.block _ (by omega)).trans a0
    have z1 := (b1.block _ (by omega)).trans a1
    have z2 := (b1.block _ (by omega)).trans a2
    obtain ⟨f0, f1, _⟩ := duo_row z0
    obtain ⟨r0, r1, rf⟩ := duo_row z1
    obtain ⟨t0, t1, t2, tf⟩ := trio_cells z2
    have rf0 := rf 0
    have rf1 := rf 1
    have tf0 := tf 0
    have tf1 := tf 1
    have tf2 := tf 2
    have HZ2 : Hid (w1.heap[w.heap.size + 1]? = some (.cells #[.string ⟨#[]⟩, .int .i64 0] 28 (0, 0)) ∧ w1.heap[w.heap.size + 2]? = some (.cells #[.int .i64 0, .slice none 0 0, .slice none 0 0] 31 (0, 0))) := ⟨z1, z2⟩
    clear z0 z1 z2 rf tf b1 a0 a1 a2 Ba
    go_wp2
    obtain ⟨F1, F2, F5⟩ := no_store (.string ⟨seed.toArray⟩) (.int .i64 n) w w1 HZ2.out.1 HZ2.out.2 B1
    exact bodyPost_ret (v := .tuple #[.agg #[.string ⟨seed.toArray⟩, .int .i64 n], .agg #[.int .i64 0, .slice none 0 0, .slice none 0 0], .bool false]) (results_ccb rfl _ _ (w.heap.size + 1) (w.heap.size + 1 + 1) 28 31 _ _ _ _ rfl F1 Tryd.underlying28 rfl (by kernel_rfl) rfl F2 Tryd.underlying31 rfl (by kernel_rfl) _ rfl) rfl ⟨rfl, F5⟩

end Go.Proofs.YtajckopldkmcnaaDoor
namespace Go.Proofs.YtajckopldkmcnaaDoor
open Go.RowKit
set_option linter.unusedVariables false

set_option maxRecDepth 100000 in
theorem eqSigner_same (s : List UInt8) (n : Int) (w : World) :
    Calls Tryd.prog 15 #[.agg #[.string ⟨s.toArray⟩, .int .i64 n], .agg #[.string ⟨s.toArray⟩, .int .i64 n]] w fun e w' => e = .returned (.bool true) ∧ Below w.heap.size w w' := by
  go_enter Tryd.func15, Tryd.ntmps15
  go_wp2
  go_ret
  exact ⟨rfl, ((Below.refl _ _).alloc (Nat.le_refl _) _).alloc (by simp) _⟩

/-- Two rows of one call's own that lie apart, the first one marked. -/
theorem apart_kept {w w' : World} {b e n : Nat} {u v : Value} {xs : List Value} (h : w.ownsRow b e 1 v n xs) (hg : w.grownBy w' u.ownBlock) (hne : ∀ k, u.ownBlock = some k → v.ownBlock ≠ some k) : w'.ownsRow b e 1 v n xs :=
  h.kept hg (by
    cases hv : v.ownBlock with
    | none => exact .inl rfl
    | some j => exact .inr (fun e => hne j e.symm hv))

set_option maxRecDepth 100000 in
set_option maxHeartbeats 400000 in
theorem markSig_any (i : Int) (u1 u2 : Option Addr) (m1 m2 c1 c2 : Nat) (os ps : List (List UInt8)) (b1 b2 : Nat) (w : World) (ho : os.length ≤ 1000000) (hp : ps.length ≤ 1000000) (h1 : w.ownsRow b1 9 1 (.slice u1 m1 c1) os.length (scells os)) (h2 : w.ownsRow b2 9 1 (.slice u2 m2 c2) ps.length (scells ps)) (hne : ∀ k, (Value.slice u1 m1 c1).ownBlock = some k → (Value.slice u2 m2 c2).ownBlock ≠ some k) :
    Calls Tryd.prog 49 #[.agg #[.int .i64 i, .slice u1 m1 c1, .slice u2 m2 c2], .int .i64 1] w fun e w' => e = .returned (.int .i64 (1 + (os.length : Int) + (ps.length : Int))) ∧ w'.ownsRow b1 9 1 (.slice u1 m1 c1) os.length (scells (marks 1 os.length)) ∧ w'.ownsRow b2 9 1 (.slice u2 m2 c2) ps.length (scells (marks (1 + os.length) ps.length)) ∧ (∀ k, k < w.heap.size → (Value.slice u1 m1 c1).ownBlock ≠ some k → (Value.slice u2 m2 c2).ownBlock ≠ some k → w'.heap[k]? = w.heap[k]?) ∧ w.heap.size ≤ w'.heap.size ∧ w'.os = w.os ∧ w'.tape = w.tape ∧ w'.output = w.output := by
  have HH : Hid (w.ownsRow b1 9 1 (.slice u1 m1 c1) os.length (scells os) ∧ w.ownsRow b2 9 1 (.slice u2 m2 c2) ps.length (scells ps) ∧ ∀ k, (Value.slice u1 m1 c1).ownBlock = some k → (Value.slice u2 m2 c2).ownBlock ≠ some k) := ⟨h1, h2, hne⟩
  obtain ⟨wa, hwa⟩ : ∃ wa, wa = w.alloc (.cells #[.int .i64 i, .slice u1 m1 c1, .slice u2 m2 c2] 31) := ⟨_, rfl⟩
  have Ba : Below w.heap.size w wa := by rw [hwa]; exact (Below.refl _ _).alloc (Nat.le_refl _) _
  have sa : wa.heap.size = w.heap.size + 1 := by rw [hwa]; simp
  have K1 := markS_one os (.slice u1 m1 c1) b1 wa (by omega) (keptO h1 Ba)
  have e0 : wa.heap[w.heap.size]? = some (.cells #[.int .i64 i, .slice u1 m1 c1, .slice u2 m2 c2] 31 (0, 0)) := by rw [hwa]; exact heap_alloc_new w _
  rw [hwa] at K1
  have n1 : ∀ k, (Value.slice u1 m1 c1).ownBlock = some k → k < w.heap.size := fun k hk => (h1.lt k hk).2
  have n2 : ∀ k, (Value.slice u2 m2 c2).ownBlock = some k → k < w.heap.size := fun k hk => (h2.lt k hk).2
  have HN1 : Hid (∀ k, (Value.slice u1 m1 c1).ownBlock = some k → k < w.heap.size) := n1
  have HN2 : Hid (∀ k, (Value.slice u2 m2 c2).ownBlock = some k → k < w.heap.size) := n2
  clear h1 h2 hne n1 n2
  go_enter Tryd.func49, Tryd.ntmps49
  go_wp2_with fail
  refine K1.mono ?_
  rintro e w1 ⟨rfl, o1, G1⟩
  rw [← hwa] at G1
  have p0 := (G1.block w.heap.size (by omega) (fun e => by have := HN1.out _ e.symm; omega)).trans e0
  obtain ⟨_, _, c2', _⟩ := tri_cells p0
  have q2 : w1.ownsRow b2 9 1 (.slice u2 m2 c2) ps.length (scells ps) := apart_kept (keptO HH.out.2.1 Ba) G1 HH.out.2.2
  have K2 := markS_any ps (.slice u2 m2 c2) b2 (1 + os.length) w1 (by omega) (by omega) (by omega) q2
  rw [show (((1 + os.length : Nat)) : Int) = 1 + (os.length : Int) by omega] at K2
  have O1 := hidOwn o1
  have HG1 : Hid (wa.grownBy w1 (Value.slice u1 m1 c1).ownBlock) := G1
  clear K1 hwa q2 o1 G1 p0 e0
  go_wp2_with fail
  refine K2.mono ?_
  rintro e w2 ⟨rfl, o2, G2⟩
  have s1 := HG1.out.size
  have O2 := hidOwn o2
  have HG2 : Hid (w1.grownBy w2 (Value.slice u2 m2 c2).ownBlock) := G2
  clear o2 G2 K2
  go_wp2
  go_ret
  refine ⟨rfl, apart_kept O1.out HG2.out (fun k hk hj => HH.out.2.2 k hj hk), O2.out, fun k hk h1 h2 => ?_, by have := HG2.out.size; omega, HG2.out.os.trans (HG1.out.os.trans Ba.os), HG2.out.tape.trans (HG1.out.tape.trans Ba.tape), HG2.out.output.trans (HG1.out.output.trans Ba.output)⟩
  rw [HG2.out.block k (by omega) (fun e => h2 e.symm), HG1.out.block k (by omega) (fun e => h1 e.symm)]
  exact Ba.block k hk

set_option maxRecDepth 100000 in
set_option maxHeartbeats 400000 in
theorem heldSig_any (i : Int) (u1 u2 : Option Addr) (m1 m2 c1 c2 n1 n2 : Nat) (b1 b2 : Nat) (w : World) (ho : n1 ≤ 1000000) (hp : n2 ≤ 1000000) (h1 : w.ownsRow b1 9 1 (.slice u1 m1 c1) n1 (scells (marks 1 n1))) (h2 : w.ownsRow b2 9 1 (.slice u2 m2 c2) n2 (scells (marks (1 + n1) n2))) :
    Calls Tryd.prog 50 #[.agg #[.int .i64 i, .slice u1 m1 c1, .slice u2 m2 c2], .int .i64 1] w fun e w' => e = .returned (.int .i64 (1 + (n1 : Int) + (n2 : Int))) ∧ Below w.heap.size w w' := by
  have HH : Hid (w.ownsRow b2 9 1 (.slice u2 m2 c2) n2 (scells (marks (1 + n1) n2))) := h2
  obtain ⟨wa, hwa⟩ : ∃ wa, wa = w.alloc (.cells #[.int .i64 i, .slice u1 m1 c1, .slice u2 m2 c2] 31) := ⟨_, rfl⟩
  have Ba : Below w.heap.size w wa := by rw [hwa]; exact (Below.refl _ _).alloc (Nat.le_refl _) _
  have sa : wa.heap.size = w.heap.size + 1 := by rw [hwa]; simp
  have K1 := heldS_one n1 (.slice u1 m1 c1) b1 wa (by omega) (keptO h1 Ba)
  have e0 : wa.heap[w.heap.size]? = some (.cells #[.int .i64 i, .slice u1 m1 c1, .slice u2 m2 c2] 31 (0, 0)) := by rw [hwa]; exact heap_alloc_new w _
  rw [hwa] at K1
  have hk1 : ¬ (1 : Int) + (n1 : Int) < 0 := by omega
  have hk2 : ¬ (1 : Int) + (n1 : Int) + (n2 : Int) < 0 := by omega
  clear h1 h2
  go_enter Tryd.func50, Tryd.ntmps50
  go_wp2_with fail
  refine K1.mono ?_
  rintro e w1 ⟨rfl, G1⟩
  rw [← hwa] at G1
  have b1' := below_of_grown G1
  have B1 := Ba.trans (b1'.mono (by omega))
  have p0 := (b1'.block w.heap.size (by omega)).trans e0
  obtain ⟨_, _, c2', _⟩ := tri_cells p0
  have K2 := heldS_any n2 (.slice u2 m2 c2) b2 (1 + n1) w1 (by omega) (by omega) (by omega) (keptO HH.out B1)
  rw [show (((1 + n1 : Nat)) : Int) = 1 + (n1 : Int) by omega] at K2
  clear K1 hwa G1 b1' p0 e0
  go_wp2_with fail
  refine K2.mono ?_
  rintro e w2 ⟨rfl, G2⟩
  have b2' := below_of_grown G2
  have B2 := B1.trans (b2'.mono B1.size)
  clear K2 G2 b2'
  go_wp2
  go_ret
  exact ⟨rfl, B2⟩
end Go.Proofs.YtajckopldkmcnaaDoor
