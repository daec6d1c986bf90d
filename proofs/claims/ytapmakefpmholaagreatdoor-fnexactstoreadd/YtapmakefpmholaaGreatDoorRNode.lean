/-
  Contract: the program's node of texts.
-/
import Derived.Test.YtapmakefpmholaaGreatDoorMathRN
import Derived.Test.YtapmakefpmholaaGreatDoorINodes
import Derived.Test.YtapmakefpmholaaGreatDoorLNode
namespace Go.Proofs.YtapmakefpmholaaGreatDoor
open Go.RowKit
set_option linter.unusedVariables false

theorem four_set {w : World} {b : Nat} {u0 u1 u2 u3 : Value} {t : TypeId} (z0 z1 z2 z3 : Value) (h : w.heap[b]? = some (.cells #[u0, u1, u2, u3] t (0, 0))) :
    ((((w.setCell ⟨b, 0, none⟩ z0).setCell ⟨b, 1, none⟩ z1).setCell ⟨b, 2, none⟩ z2).setCell ⟨b, 3, none⟩ z3).heap[b]? = some (.cells #[z0, z1, z2, z3] t (0, 0)) :=
  quad_set (j := 3) (z := z3) (quad_set (j := 2) (z := z2) (quad_set (j := 1) (z := z1) (quad_set (j := 0) (z := z0) h)))
theorem fourS_below {B b : Nat} {w w' : World} (h : Below B w w') (hb : B ≤ b) (z0 z1 z2 z3 : Value) : Below B w ((((w'.setCell ⟨b, 0, none⟩ z0).setCell ⟨b, 1, none⟩ z1).setCell ⟨b, 2, none⟩ z2).setCell ⟨b, 3, none⟩ z3) :=
  (((h.setCell hb _).setCell hb _).setCell hb _).setCell hb _
theorem four_own {w : World} {B e n b : Nat} {v : Value} {xs : List Value} (h : w.ownsRow B e 1 v n xs) (hb : v.ownBlock ≠ some b) (z0 z1 z2 z3 : Value) : ((((w.setCell ⟨b, 0, none⟩ z0).setCell ⟨b, 1, none⟩ z1).setCell ⟨b, 2, none⟩ z2).setCell ⟨b, 3, none⟩ z3).ownsRow B e 1 v n xs :=
  ownsRow_setCell_other (ownsRow_setCell_other (ownsRow_setCell_other (ownsRow_setCell_other h hb _) hb _) hb _) hb _
theorem strs_at {w : World} {a : Option Addr} {ls : List (List UInt8)} (h : IsStrs w a ls) (j : Nat) (hj : j < ls.length) : ∃ b off, a = some ⟨b, off, none⟩ ∧ ∀ i, i < ls.length → w.cell? ⟨b, off + i, none⟩ = some (.string ⟨(ls.getD i []).toArray⟩) := by
  rcases h with h | ⟨b, off, h, hc⟩
  · rw [h] at hj; simp at hj
  · refine ⟨b, off, h, fun i hi => ?_⟩
    rw [hc i hi, List.getD_eq_getElem?_getD, List.getElem?_eq_getElem hi]; rfl
theorem strs_take {w : World} {b off : Nat} {ls : List (List UInt8)} (h : IsStrs w (some ⟨b, off, none⟩) ls) (n : Nat) : IsStrs w (some ⟨b, off, none⟩) (ls.take n) := by
  rcases h with rfl | ⟨b', off', he, hc⟩
  · exact .inl (by simp)
  · cases he
    refine .inr ⟨b, off, rfl, fun j hj => ?_⟩
    simp at hj
    rw [hc j (by omega)]
    simp
/-- What is told of a node. -/
def NodePost (w : World) (n : NodeL) (e : Ending) (w' : World) : Prop :=
  ∃ (a : Option Addr) (m c : Nat), e = .returned (.agg #[.int .i64 n.k, .string ⟨n.p.toArray⟩, .slice a m c, .string ⟨n.v.toArray⟩]) ∧ w'.ownsRow w.heap.size 9 1 (.slice a m c) n.ls.length (scells n.ls) ∧ Below w.heap.size w w'

set_option maxRecDepth 100000 in
set_option maxHeartbeats 2000000 in
theorem nodeOf_17 (b off cap : Nat) (ts : List (List UInt8)) (w : World) (h17 : ts.length = 17) (hcap : 17 ≤ cap) (hs : IsStrs w (some ⟨b, off, none⟩) ts) (hc16 : w.cell? ⟨b, off + 16, none⟩ = some (.string ⟨(ts.getD 16 []).toArray⟩)) :
    Calls Tryz.prog 49 #[.slice (some ⟨b, off, none⟩) 17 cap] w fun e w' => NodePost w ⟨3, [], ts.take 16, ts.getD 16 []⟩ e w' := by
  have B0 : Below w.heap.size w (w.alloc (.cells #[.int .i64 0, .string ⟨#[]⟩, .slice none 0 0, .string ⟨#[]⟩] 53)) := (Below.refl _ _).alloc (Nat.le_refl _) _
  have HQ : Hid ((w.alloc (.cells #[.int .i64 0, .string ⟨#[]⟩, .slice none 0 0, .string ⟨#[]⟩] 53)).heap[w.heap.size]? = some (.cells #[.int .i64 0, .string ⟨#[]⟩, .slice none 0 0, .string ⟨#[]⟩] 53 (0, 0))) := heap_alloc_new w _
  obtain ⟨wx, hwx⟩ : ∃ wx, wx = w.alloc (.cells #[.int .i64 0, .string ⟨#[]⟩, .slice none 0 0, .string ⟨#[]⟩] 53) := ⟨_, rfl⟩
  have hsx : wx.heap.size = w.heap.size + 1 := by rw [hwx]; simp
  have HWX : Hid (w.alloc (.cells #[.int .i64 0, .string ⟨#[]⟩, .slice none 0 0, .string ⟨#[]⟩] 53) = wx) := hwx.symm
  rw [← hwx] at HQ B0
  have BX : Hid (Below w.heap.size w wx) := B0
  have HSX : Hid (wx.heap.size = w.heap.size + 1) := hsx
  have hlt16 : (ts.take 16).length = 16 := by rw [List.length_take, h17]; rfl
  have KC := cloneS_any b off cap (ts.take 16) wx.drew (by omega) (strs_take (strs_later hs (below_drewX B0)) 16)
  rw [hlt16] at KC
  obtain ⟨x, hx⟩ : ∃ x, x = ts.getD 16 [] := ⟨_, rfl⟩
  obtain ⟨ks, hks⟩ : ∃ ks, ks = ts.take 16 := ⟨_, rfl⟩
  rw [← hks] at KC hlt16
  rw [← hx] at hc16
  rw [← hx, ← hks]
  have hbl := World.block_lt_of_cell? w _ hc16
  have HBL : Hid (b < w.heap.size) := hbl
  have HK16 : Hid (ks.length = 16) := hlt16
  have c16 := (B0.cell (p := ⟨b, off + 16, none⟩) hbl).trans hc16
  have HC16 : Hid (w.cell? ⟨b, off + 16, none⟩ = some (.string ⟨x.toArray⟩)) := hc16
  have hcp : (16 : Int) ≤ (cap : Int) := by omega
  clear hwx hsx hs hx hks B0 hlt16 h17 hbl hc16
  go_enter Tryz.func49, Tryz.ntmps49
  go_wp2_with fail
  rw [HWX.out]
  go_region_held3 (fun w' => w'.cell? ⟨b, off + 16, none⟩ = some (.string ⟨x.toArray⟩))
    (first | exact S2.out | exact S1.out | exact c16)
    (first
      | (go_at_call 70
         refine KC.mono ?_
         rintro e w1 ⟨a1, m1, c1, rfl, o1, b1'⟩
         have b1 : Below wx.heap.size wx w1 := below_undrew b1'
         have B1 : Hid (Below w.heap.size w w1) := BX.out.trans (b1.mono BX.out.size)
         have S1 : Hid (w1.cell? ⟨b, off + 16, none⟩ = some (.string ⟨x.toArray⟩)) := (B1.out.cell (p := ⟨b, off + 16, none⟩) HBL.out).trans HC16.out
         have Q1 : Hid (w1.heap[w.heap.size]? = some (.cells #[.int .i64 0, .string ⟨#[]⟩, .slice none 0 0, .string ⟨#[]⟩] 53 (0, 0))) := (b1.block w.heap.size (by have := HSX.out; omega)).trans HQ.out
         obtain ⟨q0, q1, q2, q3, qf⟩ := quad_cells Q1.out
         have qf0 := qf 0
         have qf1 := qf 1
         have qf2 := qf 2
         have qf3 := qf 3
         have S2 : Hid (((((w1.setCell ⟨w.heap.size, 0, none⟩ (.int .i64 3)).setCell ⟨w.heap.size, 1, none⟩ (.string ⟨#[]⟩)).setCell ⟨w.heap.size, 2, none⟩ (.slice a1 m1 c1)).setCell ⟨w.heap.size, 3, none⟩ (.string ⟨x.toArray⟩)).cell? ⟨b, off + 16, none⟩ = some (.string ⟨x.toArray⟩)) := ((fourS_below B1.out (Nat.le_refl _) _ _ _ _).cell (p := ⟨b, off + 16, none⟩) HBL.out).trans HC16.out
         have O1 := hidOwn (o1.mono (by show w.heap.size + 1 ≤ wx.heap.size; have := HSX.out; omega))
         clear qf b1 b1' o1))
  all_goals
    go_wp2
    have y := four_set (.int .i64 3) (.string ⟨#[]⟩) (.slice a1 m1 c1) (.string ⟨x.toArray⟩) Q1.out
    have hne : (Value.slice a1 m1 c1).ownBlock ≠ some w.heap.size := fun h => by have := (O1.out.lt _ h).1; omega
    exact bodyPost_ret (v := .agg #[.int .i64 3, .string ⟨#[]⟩, .slice a1 m1 c1, .string ⟨x.toArray⟩]) (results_cell_row rfl _ _ w.heap.size 53 _ (0, 0) _ rfl y Tryz.underlying53 rfl (by kernel_rfl)) rfl ⟨a1, m1, c1, rfl, by show World.ownsRow _ _ _ _ _ ks.length (scells ks); rw [HK16.out]; exact (four_own O1.out hne _ _ _ _).mono (by omega), fourS_below B1.out (Nat.le_refl _) _ _ _ _⟩
theorem zero_post (w w' : World) (e : Ending) (he : e = .returned (.agg #[.int .i64 0, .string ⟨#[]⟩, .slice none 0 0, .string ⟨#[]⟩])) (hb : Below w.heap.size w w') : NodePost w zeroN e w' :=
  ⟨none, 0, 0, he, World.ownsRow_nil _ _ _ _, hb⟩

set_option maxRecDepth 100000 in
set_option maxHeartbeats 2000000 in
theorem nodeOf_no (a : Option Addr) (cap n : Nat) (w : World) (h17 : ¬ n = 17) (h2 : ¬ n = 2) (hn : n ≤ 1048576) :
    Calls Tryz.prog 49 #[.slice a n cap] w fun e w' => NodePost w zeroN e w' := by
  have B0 : Below w.heap.size w (w.alloc (.cells #[.int .i64 0, .string ⟨#[]⟩, .slice none 0 0, .string ⟨#[]⟩] 53)) := (Below.refl _ _).alloc (Nat.le_refl _) _
  have HQ : Hid ((w.alloc (.cells #[.int .i64 0, .string ⟨#[]⟩, .slice none 0 0, .string ⟨#[]⟩] 53)).heap[w.heap.size]? = some (.cells #[.int .i64 0, .string ⟨#[]⟩, .slice none 0 0, .string ⟨#[]⟩] 53 (0, 0))) := heap_alloc_new w _
  have BX : Hid (Below w.heap.size w (w.alloc (.cells #[.int .i64 0, .string ⟨#[]⟩, .slice none 0 0, .string ⟨#[]⟩] 53))) := B0
  have h17' : ¬ (n : Int) = 17 := by omega
  have h2' : ¬ (n : Int) = 2 := by omega
  have h17b : ((n : Int) == 17) = false := by rw [beq_eq_false_iff_ne]; exact h17'
  have h2b : ((n : Int) == 2) = false := by rw [beq_eq_false_iff_ne]; exact h2'
  clear B0 h17 h2
  go_enter Tryz.func49, Tryz.ntmps49
  go_wp2
  exact bodyPost_ret (v := .agg #[.int .i64 0, .string ⟨#[]⟩, .slice none 0 0, .string ⟨#[]⟩]) (results_cell_row rfl _ _ w.heap.size 53 _ (0, 0) _ rfl HQ.out Tryz.underlying53 rfl (by kernel_rfl)) rfl (zero_post _ _ _ rfl BX.out)

set_option maxRecDepth 100000 in
set_option maxHeartbeats 2000000 in
theorem nodeOf_2 (b off cap : Nat) (x t : List UInt8) (w : World) (hx : x.length ≤ 60000) (hc0 : w.cell? ⟨b, off, none⟩ = some (.string ⟨x.toArray⟩)) (hc1 : w.cell? ⟨b, off + 1, none⟩ = some (.string ⟨t.toArray⟩)) :
    Calls Tryz.prog 49 #[.slice (some ⟨b, off, none⟩) 2 cap] w fun e w' => NodePost w (ofRead t (readI x)) e w' := by
  have B0 : Below w.heap.size w (w.alloc (.cells #[.int .i64 0, .string ⟨#[]⟩, .slice none 0 0, .string ⟨#[]⟩] 53)) := (Below.refl _ _).alloc (Nat.le_refl _) _
  have HQ : Hid ((w.alloc (.cells #[.int .i64 0, .string ⟨#[]⟩, .slice none 0 0, .string ⟨#[]⟩] 53)).heap[w.heap.size]? = some (.cells #[.int .i64 0, .string ⟨#[]⟩, .slice none 0 0, .string ⟨#[]⟩] 53 (0, 0))) := heap_alloc_new w _
  have BX : Hid (Below w.heap.size w (w.alloc (.cells #[.int .i64 0, .string ⟨#[]⟩, .slice none 0 0, .string ⟨#[]⟩] 53))) := B0
  have HL : Hid (w.heap.size < (w.alloc (.cells #[.int .i64 0, .string ⟨#[]⟩, .slice none 0 0, .string ⟨#[]⟩] 53)).heap.size) := by rw [Hid]; simp
  have KR := impl_readI x (w.alloc (.cells #[.int .i64 0, .string ⟨#[]⟩, .slice none 0 0, .string ⟨#[]⟩] 53)) hx
  have hbl := World.block_lt_of_cell? w _ hc1
  have c0 := (B0.cell (p := ⟨b, off, none⟩) hbl).trans hc0
  have HC1 : Hid (w.cell? ⟨b, off + 1, none⟩ = some (.string ⟨t.toArray⟩) ∧ b < w.heap.size) := ⟨hc1, hbl⟩
  obtain ⟨o, ho⟩ : ∃ o, o = readI x := ⟨_, rfl⟩
  rw [← ho] at KR ⊢
  clear B0 hc0 hc1 hbl ho
  cases o with
  | none =>
    go_enter Tryz.func49, Tryz.ntmps49
    go_wp2_with fail
    refine KR.mono ?_
    rintro e w1 ⟨rfl, b1⟩
    have B1 : Hid (Below w.heap.size w w1) := BX.out.trans (b1.mono BX.out.size)
    have Q1 : Hid (w1.heap[w.heap.size]? = some (.cells #[.int .i64 0, .string ⟨#[]⟩, .slice none 0 0, .string ⟨#[]⟩] 53 (0, 0))) := (b1.block w.heap.size HL.out).trans HQ.out
    obtain ⟨q0, q1, q2, q3, qf⟩ := quad_cells Q1.out
    have qf0 := qf 0
    have qf1 := qf 1
    have qf2 := qf 2
    have qf3 := qf 3
    simp only [rdV]
    clear qf b1 KR c0
    go_wp2
    exact bodyPost_ret (v := .agg #[.int .i64 0, .string ⟨#[]⟩, .slice none 0 0, .string ⟨#[]⟩]) (results_cell_row rfl _ _ w.heap.size 53 _ (0, 0) _ rfl (four_set (.int .i64 0) (.string ⟨#[]⟩) (.slice none 0 0) (.string ⟨#[]⟩) Q1.out) Tryz.underlying53 rfl (by kernel_rfl)) rfl (zero_post _ _ _ rfl (fourS_below B1.out (Nat.le_refl _) _ _ _ _))
  | some q =>
    obtain ⟨y, leaf⟩ := q
    cases leaf with
    | true =>
      go_enter Tryz.func49, Tryz.ntmps49
      go_wp2_with fail
      refine KR.mono ?_
      rintro e w1 ⟨rfl, b1⟩
      have B1 : Hid (Below w.heap.size w w1) := BX.out.trans (b1.mono BX.out.size)
      have Q1 : Hid (w1.heap[w.heap.size]? = some (.cells #[.int .i64 0, .string ⟨#[]⟩, .slice none 0 0, .string ⟨#[]⟩] 53 (0, 0))) := (b1.block w.heap.size HL.out).trans HQ.out
      obtain ⟨q0, q1, q2, q3, qf⟩ := quad_cells Q1.out
      have qf0 := qf 0
      have qf1 := qf 1
      have qf2 := qf 2
      have qf3 := qf 3
      have c1 := (B1.out.cell (p := ⟨b, off + 1, none⟩) HC1.out.2).trans HC1.out.1
      simp only [rdV]
      clear qf b1 KR c0
      go_wp2
      exact bodyPost_ret (v := .agg #[.int .i64 1, .string ⟨y.toArray⟩, .slice none 0 0, .string ⟨t.toArray⟩]) (results_cell_row rfl _ _ w.heap.size 53 _ (0, 0) _ rfl (four_set (.int .i64 1) (.string ⟨y.toArray⟩) (.slice none 0 0) (.string ⟨t.toArray⟩) Q1.out) Tryz.underlying53 rfl (by kernel_rfl)) rfl ⟨none, 0, 0, rfl, World.ownsRow_nil _ _ _ _, fourS_below B1.out (Nat.le_refl _) _ _ _ _⟩
    | false =>
      go_enter Tryz.func49, Tryz.ntmps49
      go_wp2_with fail
      refine KR.mono ?_
      rintro e w1 ⟨rfl, b1⟩
      have B1 : Hid (Below w.heap.size w w1) := BX.out.trans (b1.mono BX.out.size)
      have Q1 : Hid (w1.heap[w.heap.size]? = some (.cells #[.int .i64 0, .string ⟨#[]⟩, .slice none 0 0, .string ⟨#[]⟩] 53 (0, 0))) := (b1.block w.heap.size HL.out).trans HQ.out
      have L1 : Hid (w.heap.size < w1.heap.size) := Nat.lt_of_lt_of_le HL.out b1.size
      have c1 := (B1.out.cell (p := ⟨b, off + 1, none⟩) HC1.out.2).trans HC1.out.1
      have Q2 : Hid ((w1.alloc (.cells #[.string ⟨t.toArray⟩] 9)).heap[w.heap.size]? = some (.cells #[.int .i64 0, .string ⟨#[]⟩, .slice none 0 0, .string ⟨#[]⟩] 53 (0, 0))) := (Below.heap_alloc w1 _ w.heap.size L1.out).trans Q1.out
      obtain ⟨q0, q1, q2, q3, qf⟩ := quad_cells Q2.out
      have qf0 := qf 0
      have qf1 := qf 1
      have qf2 := qf 2
      have qf3 := qf 3
      simp only [rdV]
      clear qf b1 KR c0
      go_wp2
      have O2 := World.ownsRow_lit (e := 9) (size := 1) w1 #[.string ⟨t.toArray⟩] 1 (base := w.heap.size + 1) (by have := L1.out; omega) (by decide) rfl
      have hne : (Value.slice (some ⟨w1.heap.size, 0, none⟩) 1 1).ownBlock ≠ some w.heap.size := by simp [Value.ownBlock]; have := L1.out; omega
      exact bodyPost_ret (v := .agg #[.int .i64 2, .string ⟨y.toArray⟩, .slice (some ⟨w1.heap.size, 0, none⟩) 1 1, .string ⟨#[]⟩]) (results_cell_row rfl _ _ w.heap.size 53 _ (0, 0) _ rfl (four_set (.int .i64 2) (.string ⟨y.toArray⟩) (.slice (some ⟨w1.heap.size, 0, none⟩) 1 1) (.string ⟨#[]⟩) Q2.out) Tryz.underlying53 rfl (by kernel_rfl)) rfl ⟨some ⟨w1.heap.size, 0, none⟩, 1, 1, rfl, (four_own O2 hne _ _ _ _).mono (by omega), fourS_below (B1.out.alloc B1.out.size _) (Nat.le_refl _) _ _ _ _⟩

theorem impl_nodeOf (a : Option Addr) (cap : Nat) (ts : List (List UInt8)) (w : World) (hn : ts.length ≤ 1048576) (hcap : ts.length ≤ cap) (hm : ∀ t ∈ ts, t.length ≤ 60000) (hs : IsStrs w a ts) :
    Calls Tryz.prog 49 #[.slice a ts.length cap] w fun e w' => NodePost w (nodeOfI ts) e w' := by
  unfold nodeOfI
  by_cases h17 : ts.length = 17
  · rw [if_pos h17]
    obtain ⟨b, off, rfl, hc⟩ := strs_at hs 0 (by omega)
    have := nodeOf_17 b off cap ts w h17 (by omega) hs (hc 16 (by omega))
    rw [h17]
    exact this
  · rw [if_neg h17]
    by_cases h2 : ts.length = 2
    · rw [if_pos h2]
      obtain ⟨b, off, rfl, hc⟩ := strs_at hs 0 (by omega)
      have := nodeOf_2 b off cap (ts.getD 0 []) (ts.getD 1 []) w (getD_small ts hm 0) (hc 0 (by omega)) (hc 1 (by omega))
      rw [h2]
      exact this
    · rw [if_neg h2]
      exact nodeOf_no a cap ts.length w h17 h2 hn
end Go.Proofs.YtapmakefpmholaaGreatDoor
