/-
 Texts that are laid as one: MathSess, SessS, Rep.
-/
import Derived.Test.YthnddgdnialogaaGreatDoorPairs
import Derived.Test.YthnddgdnialogaaGreatDoorStrsAll
import Derived.ProofKit
import Derived.OneCell
import Derived.Deep.RegionHeld3
import Derived.Deep.SlicePairs
import Derived.Lib.SmallJoins
namespace Go.Proofs.YthnddgdnialogaaGreatDoor
open Go.RowKit
set_option linter.unusedVariables false
abbrev SessL := Int × Int
def secells : List SessL → List Value
 | [] => []
 | p :: ps => .int .i64 p.1 :: .int .i64 p.2 :: secells ps
theorem secells_length (ps : List SessL) : (secells ps).length = ps.length * 2 := by
 induction ps with
 | nil => rfl
 | cons p ps ih => simp [secells, ih]; omega
theorem secells_app (a b : List SessL) : secells (a ++ b) = secells a ++ secells b := by
 induction a with
 | nil => rfl
 | cons p ps ih => simp [secells, ih]
theorem secells_at (ps : List SessL) (j : Nat) (h : j < ps.length) : (secells ps)[j * 2]? = some (.int .i64 ps[j].1) ∧ (secells ps)[j * 2 + 1]? = some (.int .i64 ps[j].2) := by
 induction ps generalizing j with
 | nil => simp at h
 | cons p ps ih =>
   match j, h with
   | 0, _ => exact ⟨rfl, rfl⟩
   | j + 1, h =>
     have := ih j (by simpa using h)
     have e : (j + 1) * 2 = j * 2 + 1 + 1 := by omega
     rw [e]
     simpa [secells] using this
def IsSess (w : World) (a : Option Addr) (ps : List SessL) : Prop :=
 ps = [] ∨ ∃ b off, a = some ⟨b, off, none⟩ ∧ ∀ j (h : j < ps.length), w.cell? ⟨b, off + j * 2, none⟩ = some (.int .i64 ps[j].1) ∧ w.cell? ⟨b, off + j * 2 + 1, none⟩ = some (.int .i64 ps[j].2)
theorem IsSess.later {w w' : World} {a : Option Addr} {ps : List SessL} (h : IsSess w a ps) (hb : Below w.heap.size w w') : IsSess w' a ps := by
 rcases h with h | ⟨b, off, h1, h2⟩
 · exact .inl h
 · exact .inr ⟨b, off, h1, fun j h => ⟨(hb.cell (p := ⟨b, off + j * 2, none⟩) (World.block_lt_of_cell? w _ (h2 j h).1)).trans (h2 j h).1, (hb.cell (p := ⟨b, off + j * 2 + 1, none⟩) (World.block_lt_of_cell? w _ (h2 j h).2)).trans (h2 j h).2⟩⟩
theorem isSess_own {w : World} {base e n : Nat} {a : Option Addr} {m cap : Nat} {ps : List SessL} (h : w.ownsRow base e 2 (.slice a m cap) n (secells ps)) : m = ps.length ∧ n = ps.length ∧ IsSess w a ps := by
 have hl : ps.length = n := by have := h.1; rw [secells_length] at this; omega
 rcases h.2 with ⟨h', h0⟩ | ⟨g, cap', cur, h', _⟩
 · cases h'
   exact ⟨by omega, by omega, .inl (List.length_eq_zero_iff.1 (by omega))⟩
 · cases h'
   exact ⟨by omega, by omega, .inr ⟨g, 0, rfl, fun j hj => by
    rw [Nat.zero_add, h.cellAt (j * 2) (by omega), h.cellAt (j * 2 + 1) (by omega)]
    exact secells_at ps j hj⟩⟩
def marksSe (k n : Nat) : List SessL := (List.range n).map fun i => (((k + 2 * i : Nat) : Int), ((k + 2 * i + 1 : Nat) : Int))
theorem marksSe_length (k n : Nat) : (marksSe k n).length = n := by simp [marksSe]
theorem marksSe_at (k n j : Nat) (h : j < (marksSe k n).length) : (marksSe k n)[j] = (((k + 2 * j : Nat) : Int), ((k + 2 * j + 1 : Nat) : Int)) := by simp [marksSe]
theorem marksSe_snoc (k j : Nat) : marksSe k (j + 1) = marksSe k j ++ [(((k + 2 * j : Nat) : Int), ((k + 2 * j + 1 : Nat) : Int))] := by simp [marksSe, List.range_succ]
def markedSe (k j : Nat) (ps : List SessL) : List Value := secells (marksSe k j) ++ secells (ps.drop j)
theorem markedSe_zero (k : Nat) (ps : List SessL) : markedSe k 0 ps = secells ps := by simp [markedSe, marksSe, secells]
theorem markedSe_all (k : Nat) (ps : List SessL) : markedSe k ps.length ps = secells (marksSe k ps.length) := by simp [markedSe, secells]
theorem markedSe_length (k j : Nat) (ps : List SessL) (h : j ≤ ps.length) : (markedSe k j ps).length = ps.length * 2 := by simp [markedSe, secells_length, marksSe_length]; omega
theorem markedSe_step (k j : Nat) (ps : List SessL) (h : j < ps.length) : ((markedSe k j ps).set (j * 2) (.int .i64 ((k + 2 * j : Nat) : Int))).set (j * 2 + 1) (.int .i64 ((k + 2 * j + 1 : Nat) : Int)) = markedSe k (j + 1) ps := by
 have hl : (secells (marksSe k j)).length = j * 2 := by rw [secells_length, marksSe_length]
 have e : ps.drop j = ps[j] :: ps.drop (j + 1) := by rw [List.drop_eq_getElem_cons h]
 simp only [markedSe, marksSe_snoc, secells_app, e, secells]
 rw [List.set_append_right _ _ (by omega), hl, Nat.sub_self, List.set_append_right _ _ (by omega), hl]
 simp
end Go.Proofs.YthnddgdnialogaaGreatDoor
namespace Go.Proofs.YthnddgdnialogaaGreatDoor
open Go.ChangeShapes Go.WideShapes Go.ChangeAt Go.RowKit
set_option linter.unusedVariables false
theorem infoSession : (Tryz.prog.info? 67).map (fun i => (i.zero, i.size, i.bytes)) = some (some (.agg #[.int .i64 0, .int .i64 0]), 2, 16) := by kernel_rfl
set_option maxRecDepth 100000 in
set_option maxHeartbeats 400000 in
theorem eqSession_same (k v : Int) (w : World) :
 Calls Tryz.prog 63 #[.agg #[.int .i64 k, .int .i64 v], .agg #[.int .i64 k, .int .i64 v]] w fun e w' => e = .returned (.bool true) ∧ Below w.heap.size w w' := by
 go_enter Tryz.func63, Tryz.ntmps63
 go_wp2
 go_ret
 exact ⟨rfl, ((Below.refl _ _).alloc (Nat.le_refl _) _).alloc (by simp) _⟩
set_option maxRecDepth 100000 in
set_option maxHeartbeats 400000 in
theorem eqSessionS_same (ps : List SessL) (a c : Option Addr) (n m : Nat) (w : World) (hl : ps.length ≤ 16777216) (hu : IsSess w a ps) (hv : IsSess w c ps) :
 Calls Tryz.prog 33 #[.slice a ps.length n, .slice c ps.length m] w fun e w' => e = .returned (.bool true) ∧ Below w.heap.size w w' := by
 rcases hu with rfl | ⟨b, off, rfl, h1⟩
 · go_enter Tryz.func33, Tryz.ntmps33
   go_wp2
   refine wp_loop_rounds 1 ?_
   rw [rounds_succ]
   go_wp2
   go_ret
   exact ⟨rfl, Below.refl _ _⟩
 · rcases hv with rfl | ⟨d, of2, rfl, h2⟩
   · go_enter Tryz.func33, Tryz.ntmps33
     go_wp2
     refine wp_loop_rounds 1 ?_
     rw [rounds_succ]
     go_wp2
     go_ret
     exact ⟨rfl, Below.refl _ _⟩
   · go_enter Tryz.func33, Tryz.ntmps33
     go_wp2
     go_loopw [5] (fun i wr => ∃ j : Nat, j ≤ ps.length ∧ i = .int .i64 (j : Int) ∧ Below w.heap.size w wr) (fun i _ => ps.length - (intOf i).toNat)
     case atStart => exact ⟨0, Nat.zero_le _, rfl, Below.refl _ _⟩
     case round =>
      obtain ⟨j, hj, rfl, hbel⟩ := hrel
      have hsz := hbel.size
      by_cases hlt : j < ps.length
      · have c1 := (hbel.cell (p := ⟨b, off + j * 2, none⟩) (World.block_lt_of_cell? w _ (h1 j hlt).1)).trans (h1 j hlt).1
        have c2 := (hbel.cell (p := ⟨b, off + j * 2 + 1, none⟩) (World.block_lt_of_cell? w _ (h1 j hlt).2)).trans (h1 j hlt).2
        have d1 := (hbel.cell (p := ⟨d, of2 + j * 2, none⟩) (World.block_lt_of_cell? w _ (h2 j hlt).1)).trans (h2 j hlt).1
        have d2 := (hbel.cell (p := ⟨d, of2 + j * 2 + 1, none⟩) (World.block_lt_of_cell? w _ (h2 j hlt).2)).trans (h2 j hlt).2
        have hj0 : (0 : Int) ≤ (j : Int) := by omega
        have hj1 : (j : Int) < (ps.length : Int) := by omega
        obtain ⟨x, hx⟩ : ∃ x, x = ps[j].1 := ⟨_, rfl⟩
        obtain ⟨y, hy⟩ : ∃ y, y = ps[j].2 := ⟨_, rfl⟩
        rw [← hx] at c1 d1
        rw [← hy] at c2 d2
        have K := fun W => eqSession_same x y W
        clear h1 h2 hx hy
        go_wp2_with fail
        go_region_held3 (fun w' => w'.cell? ⟨b, off + j * 2, none⟩ = some (.int .i64 x) ∧ w'.cell? ⟨b, off + j * 2 + 1, none⟩ = some (.int .i64 y) ∧ w'.cell? ⟨d, of2 + j * 2, none⟩ = some (.int .i64 x) ∧ w'.cell? ⟨d, of2 + j * 2 + 1, none⟩ = some (.int .i64 y))
         (first | (exact ⟨by assumption, by assumption, by assumption, by assumption⟩) | go_keep)
         ((go_at_call 63
           refine (K _).mono ?_
           rintro e w1 ⟨rfl, b1'⟩
           have b1 : Below wr.heap.size wr w1 := ⟨b1'.os, b1'.tape, b1'.output, b1'.size, b1'.block⟩
           have x1 := (b1.cell (p := ⟨b, off + j * 2, none⟩) (World.block_lt_of_cell? wr _ c1)).trans c1
           have x2 := (b1.cell (p := ⟨b, off + j * 2 + 1, none⟩) (World.block_lt_of_cell? wr _ c2)).trans c2
           have y1 := (b1.cell (p := ⟨d, of2 + j * 2, none⟩) (World.block_lt_of_cell? wr _ d1)).trans d1
           have y2 := (b1.cell (p := ⟨d, of2 + j * 2 + 1, none⟩) (World.block_lt_of_cell? wr _ d2)).trans d2
           have B1 := hbel.trans (b1.mono hsz)))
        all_goals
         clear K
         go_wp2
         go_roundw
         case rel => exact ⟨j + 1, by omega, by go_num, B1⟩
         case measure => simp [intOf]; omega
      · go_wp2
        go_ret
        exact ⟨rfl, hbel⟩
set_option maxRecDepth 100000 in
set_option maxHeartbeats 400000 in
theorem markSessionS_any (ps : List SessL) (a : Option Addr) (m cap b1 k : Nat) (w : World) (hl : ps.length ≤ 4000000) (hk : 0 < k) (hk2 : k ≤ 8000000) (hv : w.ownsRow b1 67 2 (.slice a m cap) ps.length (secells ps)) :
 Calls Tryz.prog 40 #[.slice a m cap, .int .i64 k] w fun e w' => e = .returned (.int .i64 ((k : Int) + 2 * (ps.length : Int))) ∧ w'.ownsRow b1 67 2 (.slice a m cap) ps.length (secells (marksSe k ps.length)) ∧ w.grownBy w' (Value.slice a m cap).ownBlock := by
 rcases own_cases2 hv with ⟨hv0, hn, hx⟩ | ⟨g, cap', hv0, hg1, hg2, hc, hf⟩
 · cases hv0
   have hls : ps = [] := List.length_eq_zero_iff.1 hn
   subst hls
   go_enter Tryz.func40, Tryz.ntmps40
   go_wp2
   refine wp_loop_rounds 1 ?_
   rw [rounds_succ]
   go_wp2
   go_ret
   exact ⟨by simp, hv, World.grownBy.refl _ _⟩
 · cases hv0
   clear hc hf
   go_enter Tryz.func40, Tryz.ntmps40
   go_wp2
   go_loopw [1, 5] (fun mm i wr => ∃ j : Nat, j ≤ ps.length ∧ i = .int .i64 (j : Int) ∧ mm = .int .i64 ((k + 2 * j : Nat) : Int) ∧ wr.ownsRow b1 67 2 (.slice (some ⟨g, 0, none⟩) ps.length cap) ps.length (markedSe k j ps) ∧ w.grownBy wr (some g)) (fun _ i _ => ps.length - (intOf i).toNat)
   case atStart => exact ⟨0, Nat.zero_le _, rfl, rfl, by rw [markedSe_zero]; exact hv, World.grownBy.refl _ _⟩
   case round =>
    obtain ⟨j, hj, rfl, rfl, hown, hgr⟩ := hrel
    by_cases hlt : j < ps.length
    · have hj1 : (j : Int) < (ps.length : Int) := by omega
      have hj0 : (0 : Int) ≤ (j : Int) := by omega
      have HLEN : Hid ((markedSe k j ps).length = ps.length * 2) := markedSe_length k j ps (by omega)
      have HSTEP : Hid (((markedSe k j ps).set (j * 2) (.int .i64 ((k + 2 * j : Nat) : Int))).set (j * 2 + 1) (.int .i64 (((k + 2 * j : Nat) : Int) + 1)) = markedSe k (j + 1) ps) := by rw [Hid, ← markedSe_step k j ps hlt]; rfl
      obtain ⟨q, hq⟩ : ∃ q, q = k + 2 * j := ⟨_, rfl⟩
      rw [← hq] at HSTEP ⊢
      have HQ : Hid (q = k + 2 * j) := hq
      have HO := hidOwn hown
      have HG : Hid (w.grownBy wr (some g)) := hgr
      have hqs : (q : Int) ≤ 100000000 := by omega
      have hq0 : (0 : Int) ≤ (q : Int) := by omega
      obtain ⟨x1, hx1⟩ : ∃ o, wr.cell? ⟨g, j * 2, none⟩ = some o := by rw [hown.cellAt (j * 2) (by omega)]; exact ⟨_, List.getElem?_eq_getElem (by rw [HLEN.out]; omega)⟩
      have f1 := hown.frozenAt (j * 2)
      have st1 := hown.stored (j * 2) (.int .i64 (q : Int))
      have o2 := st1.1
      obtain ⟨x2, hx2⟩ : ∃ o, (wr.setCell ⟨g, j * 2, none⟩ (.int .i64 (q : Int))).cell? ⟨g, j * 2 + 1, none⟩ = some o := by rw [o2.cellAt (j * 2 + 1) (by omega)]; exact ⟨_, List.getElem?_eq_getElem (by rw [List.length_set, HLEN.out]; omega)⟩
      have f2 := o2.frozenAt (j * 2 + 1)
      have st2 := o2.stored (j * 2 + 1) (.int .i64 ((q : Int) + 1))
      rw [HSTEP.out] at st2
      have O3 := hidOwn st2.1
      have HG3 : Hid (w.grownBy ((wr.setCell ⟨g, j * 2, none⟩ (.int .i64 (q : Int))).setCell ⟨g, j * 2 + 1, none⟩ (.int .i64 ((q : Int) + 1))) (some g)) := (hgr.trans st1.2).trans st2.2
      clear hown hgr hq o2 st1 st2 HO HG HSTEP
      go_wp2
      go_roundw
      case rel => exact ⟨j + 1, by omega, by go_num, by have := HQ.out; congr 1; omega, O3.out, HG3.out⟩
      case measure => simp [intOf]; omega
    · have hjl : j = ps.length := by omega
      subst hjl
      rw [markedSe_all] at hown
      go_wp2
      go_ret
      exact ⟨by congr 2, hown, hgr⟩
set_option maxRecDepth 100000 in
set_option maxHeartbeats 1000000 in
theorem heldSessionS_any (n : Nat) (a : Option Addr) (m cap b1 k : Nat) (w : World) (hl : n ≤ 4000000) (hk : 0 < k) (hk2 : k ≤ 8000000) (hv : w.ownsRow b1 67 2 (.slice a m cap) n (secells (marksSe k n))) :
 Calls Tryz.prog 54 #[.slice a m cap, .int .i64 k] w fun e w' => e = .returned (.int .i64 ((k : Int) + 2 * (n : Int))) ∧ w.grownBy w' none := by
 rcases own_cases2 hv with ⟨hv0, hn, hx⟩ | ⟨g, cap', hv0, hg1, hg2, hc, hf⟩
 · cases hv0
   subst hn
   go_enter Tryz.func54, Tryz.ntmps54
   go_wp2
   refine wp_loop_rounds 1 ?_
   rw [rounds_succ]
   go_wp2
   go_ret
   exact ⟨by simp, World.grownBy.refl _ _⟩
 · cases hv0
   have hcc : ∀ j, j < n → w.cell? ⟨g, j * 2, none⟩ = some (.int .i64 ((k + 2 * j : Nat) : Int)) ∧ w.cell? ⟨g, j * 2 + 1, none⟩ = some (.int .i64 (((k + 2 * j : Nat) : Int) + 1)) := fun j hj => by
    have hj' : j < (marksSe k n).length := by rw [marksSe_length]; exact hj
    have := secells_at (marksSe k n) j hj'
    rw [marksSe_at k n j hj'] at this
    exact ⟨(hc _ (by omega)).trans this.1, (hc _ (by omega)).trans this.2⟩
   clear hc hf
   go_enter Tryz.func54, Tryz.ntmps54
   go_wp2
   go_loopw [1, 5] (fun mm i wr => ∃ j : Nat, j ≤ n ∧ i = .int .i64 (j : Int) ∧ mm = .int .i64 ((k + 2 * j : Nat) : Int) ∧ w.grownBy wr none) (fun _ i _ => n - (intOf i).toNat)
   case atStart => exact ⟨0, Nat.zero_le _, rfl, rfl, World.grownBy.refl _ _⟩
   case round =>
    obtain ⟨j, hj, rfl, rfl, hgr⟩ := hrel
    by_cases hlt : j < n
    · have hj1 : (j : Int) < (n : Int) := by omega
      have hj0 : (0 : Int) ≤ (j : Int) := by omega
      have c1 := (hgr.cell_far ⟨g, j * 2, none⟩ hg2 (by simp)).trans (hcc j hlt).1
      have c2 := (hgr.cell_far ⟨g, j * 2 + 1, none⟩ hg2 (by simp)).trans (hcc j hlt).2
      have HG : Hid (w.grownBy wr none) := hgr
      obtain ⟨q, hq⟩ : ∃ q, q = k + 2 * j := ⟨_, rfl⟩
      rw [← hq] at c1 c2 ⊢
      have HQ : Hid (q = k + 2 * j) := hq
      have hqs : (q : Int) ≤ 100000000 := by omega
      have hq0 : (0 : Int) ≤ (q : Int) := by omega
      clear hcc hgr hv hq
      go_wp2
      go_roundw
      case rel => exact ⟨j + 1, by omega, by go_num, by have := HQ.out; congr 1; omega, HG.out⟩
      case measure => simp [intOf]; omega
    · have hjl : j = n := by omega
      subst hjl
      go_wp2
      go_ret
      exact ⟨by congr 2, hgr⟩
end Go.Proofs.YthnddgdnialogaaGreatDoor
namespace Go.Proofs.YthnddgdnialogaaGreatDoor
open Go.ChangeShapes Go.WideShapes Go.ChangeAt Go.RowKit
set_option linter.unusedVariables false
theorem rp_cells {w : World} {b : Nat} {u v x y : Value} {t : TypeId} (h : w.heap[b]? = some (.cells #[u, v, x, y] t (0, 0))) :
 w.cell? ⟨b, 0, none⟩ = some u ∧ w.cell? ⟨b, 1, none⟩ = some v ∧ w.cell? ⟨b, 2, none⟩ = some x ∧ w.cell? ⟨b, 3, none⟩ = some y ∧ ∀ j, w.frozen? ⟨b, j, none⟩ = false := by
 refine ⟨?_, ?_, ?_, ?_, fun j => frozen_of_row w b j _ t h⟩ <;> simp only [World.cell?, h] <;> rfl
theorem rp_set {w : World} {b j : Nat} {u v x y z : Value} {t : TypeId} (h : w.heap[b]? = some (.cells #[u, v, x, y] t (0, 0))) : (w.setCell ⟨b, j, none⟩ z).heap[b]? = some (.cells (#[u, v, x, y].setIfInBounds j z) t (0, 0)) := by
 have hlt := lt_of_block h
 have h' : w.heap[b] = .cells #[u, v, x, y] t (0, 0) := by simpa [Array.getElem?_eq_getElem hlt] using h
 show (w.heap.modify b _)[b]? = _
 rw [Array.getElem?_eq_getElem (by simpa using hlt), Array.getElem_modify_self, h']
 rfl
set_option maxRecDepth 100000 in
set_option maxHeartbeats 1000000 in
theorem eqReplica_same (ix : Int) (r : List UInt8) (ps : List PairL) (ss : List SessL) (a c a2 c2 : Option Addr) (n m n2 m2 : Nat) (w : World) (hl : ps.length ≤ 16777216) (hu : IsPairs w a ps) (hv : IsPairs w c ps) (hl2 : ss.length ≤ 16777216) (hu2 : IsSess w a2 ss) (hv2 : IsSess w c2 ss) :
 Calls Tryz.prog 11 #[.agg #[.int .i64 ix, .string ⟨r.toArray⟩, .slice a ps.length n, .slice a2 ss.length n2], .agg #[.int .i64 ix, .string ⟨r.toArray⟩, .slice c ps.length m, .slice c2 ss.length m2]] w fun e w' => e = .returned (.bool true) ∧ Below w.heap.size w w' := by
 have B0 : Below w.heap.size w ((w.alloc (.cells #[.int .i64 ix, .string ⟨r.toArray⟩, .slice a ps.length n, .slice a2 ss.length n2] 31)).alloc (.cells #[.int .i64 ix, .string ⟨r.toArray⟩, .slice c ps.length m, .slice c2 ss.length m2] 31)) := ((Below.refl _ _).alloc (Nat.le_refl _) _).alloc (by simp) _
 have K := eqStoredS_same ps a c n m ((w.alloc (.cells #[.int .i64 ix, .string ⟨r.toArray⟩, .slice a ps.length n, .slice a2 ss.length n2] 31)).alloc (.cells #[.int .i64 ix, .string ⟨r.toArray⟩, .slice c ps.length m, .slice c2 ss.length m2] 31)) hl (hu.later B0) (hv.later B0)
 have HU : Hid (∀ W, Below w.heap.size w W → IsSess W a2 ss ∧ IsSess W c2 ss) := fun W hW => ⟨hu2.later hW, hv2.later hW⟩
 have H1 : Hid (((w.alloc (.cells #[.int .i64 ix, .string ⟨r.toArray⟩, .slice a ps.length n, .slice a2 ss.length n2] 31)).alloc (.cells #[.int .i64 ix, .string ⟨r.toArray⟩, .slice c ps.length m, .slice c2 ss.length m2] 31)).heap[w.heap.size]? = some (.cells #[.int .i64 ix, .string ⟨r.toArray⟩, .slice a ps.length n, .slice a2 ss.length n2] 31 (0, 0))) := by
  rw [Hid, Below.heap_alloc _ _ _ (by simp)]; exact heap_alloc_new _ _
 have H2 : Hid (((w.alloc (.cells #[.int .i64 ix, .string ⟨r.toArray⟩, .slice a ps.length n, .slice a2 ss.length n2] 31)).alloc (.cells #[.int .i64 ix, .string ⟨r.toArray⟩, .slice c ps.length m, .slice c2 ss.length m2] 31)).heap[w.heap.size + 1]? = some (.cells #[.int .i64 ix, .string ⟨r.toArray⟩, .slice c ps.length m, .slice c2 ss.length m2] 31 (0, 0))) := by
  have := heap_alloc_new (w.alloc (.cells #[.int .i64 ix, .string ⟨r.toArray⟩, .slice a ps.length n, .slice a2 ss.length n2] 31)) (.cells #[.int .i64 ix, .string ⟨r.toArray⟩, .slice c ps.length m, .slice c2 ss.length m2] 31)
  rw [Hid]; simpa using this
 obtain ⟨p0, p1, p2, p3, _⟩ := rp_cells H1.out
 obtain ⟨q0, q1, q2, q3, _⟩ := rp_cells H2.out
 clear hu hv hu2 hv2
 go_enter Tryz.func11, Tryz.ntmps11
 go_wp2_with fail
 refine K.mono ?_
 rintro e w1 ⟨rfl, b1⟩
 have B1 := B0.trans (b1.mono B0.size)
 clear p0 p1 p2 p3 q0 q1 q2 q3
 obtain ⟨p0, p1, p2, p3, _⟩ := rp_cells ((b1.block w.heap.size (by simp; omega)).trans H1.out)
 obtain ⟨q0, q1, q2, q3, _⟩ := rp_cells ((b1.block (w.heap.size + 1) (by simp)).trans H2.out)
 have K2 := eqSessionS_same ss a2 c2 n2 m2 w1 hl2 (HU.out w1 B1).1 (HU.out w1 B1).2
 clear K b1 H1 H2 B0 HU
 go_wp2_with fail
 refine K2.mono ?_
 rintro e w2 ⟨rfl, b2⟩
 have B2 := B1.trans (b2.mono B1.size)
 go_wp2
 go_ret
 exact ⟨rfl, B2⟩
set_option maxRecDepth 100000 in
set_option maxHeartbeats 1000000 in
theorem markReplica_any (ix : Int) (r : List UInt8) (ps : List PairL) (ss : List SessL) (a c : Option Addr) (m cap m2 cap2 b1 k : Nat) (w : World) (hl : ps.length ≤ 2000000) (hl2 : ss.length ≤ 2000000) (hk : 0 < k) (hk2 : k ≤ 4000000) (hne : ∀ q, (Value.slice a m cap).ownBlock = some q → (Value.slice c m2 cap2).ownBlock ≠ some q) (hv : w.ownsRow b1 57 2 (.slice a m cap) ps.length (pcells ps)) (hv2 : w.ownsRow b1 67 2 (.slice c m2 cap2) ss.length (secells ss)) :
 Calls Tryz.prog 15 #[.agg #[.int .i64 ix, .string ⟨r.toArray⟩, .slice a m cap, .slice c m2 cap2], .int .i64 k] w fun e w' => e = .returned (.int .i64 ((k : Int) + 2 * (ps.length : Int) + 2 * (ss.length : Int))) ∧ w'.ownsRow b1 57 2 (.slice a m cap) ps.length (pcells (marksP k ps.length)) ∧ w'.ownsRow b1 67 2 (.slice c m2 cap2) ss.length (secells (marksSe (k + 2 * ps.length) ss.length)) ∧ ∃ wm, w.grownBy wm (Value.slice a m cap).ownBlock ∧ wm.grownBy w' (Value.slice c m2 cap2).ownBlock := by
 have B0 : Below w.heap.size w (w.alloc (.cells #[.int .i64 ix, .string ⟨r.toArray⟩, .slice a m cap, .slice c m2 cap2] 31)) := (Below.refl _ _).alloc (Nat.le_refl _) _
 have K := markStoredS_any ps a m cap b1 k (w.alloc (.cells #[.int .i64 ix, .string ⟨r.toArray⟩, .slice a m cap, .slice c m2 cap2] 31)) (by omega) hk hk2 (kept2 hv B0)
 have G0 : Hid (w.grownBy (w.alloc (.cells #[.int .i64 ix, .string ⟨r.toArray⟩, .slice a m cap, .slice c m2 cap2] 31)) (Value.slice a m cap).ownBlock) := grown_of_below B0 _
 have H0 : Hid (_ = _) := heap_alloc_new w (.cells #[.int .i64 ix, .string ⟨r.toArray⟩, .slice a m cap, .slice c m2 cap2] 31)
 obtain ⟨p0, p1, p2, p3, _⟩ := rp_cells H0.out
 have HO2 : Hid ((w.alloc (.cells #[.int .i64 ix, .string ⟨r.toArray⟩, .slice a m cap, .slice c m2 cap2] 31)).ownsRow b1 67 2 (.slice c m2 cap2) ss.length (secells ss)) := kept2 hv2 B0
 have HLT : Hid (∀ q, (Value.slice a m cap).ownBlock = some q → q < w.heap.size) := fun q hq => (hv.lt q hq).2
 clear hv hv2
 go_enter Tryz.func15, Tryz.ntmps15
 go_wp2_with fail
 refine K.mono ?_
 rintro e w1 ⟨rfl, o1, g1⟩
 have O1 := hidOwn o1
 have G1 : Hid (w.grownBy w1 (Value.slice a m cap).ownBlock) := G0.out.trans g1
 have o2 := HO2.out.kept g1 (by
  cases hq : (Value.slice c m2 cap2).ownBlock with
  | none => exact .inl rfl
  | some q => exact .inr (fun e => hne q e.symm hq))
 have h1 := (g1.block w.heap.size (by simp) (fun e => by have := HLT.out _ e.symm; omega)).trans H0.out
 obtain ⟨q0, q1, q2, q3, _⟩ := rp_cells h1
 have K2 := markSessionS_any ss c m2 cap2 b1 (k + 2 * ps.length) w1 (by omega) (by omega) (by omega) o2
 rw [show ((k + 2 * ps.length : Nat) : Int) = (k : Int) + 2 * (ps.length : Int) by omega] at K2
 clear K o1 g1 G0 B0 p0 p1 p2 p3 o2 h1 H0 HO2
 go_wp2_with fail
 refine K2.mono ?_
 rintro e w2 ⟨rfl, o2, g2⟩
 have O2 := hidOwn o2
 have O1' := hidOwn (O1.out.kept g2 (by
  cases hq : (Value.slice a m cap).ownBlock with
  | none => exact .inl rfl
  | some q => exact .inr (fun e => hne q hq e.symm)))
 have G2 : Hid (w1.grownBy w2 (Value.slice c m2 cap2).ownBlock) := g2
 clear K2 o2 g2 q0 q1 q2 q3 O1
 go_wp2
 go_ret
 exact ⟨rfl, O1'.out, O2.out, w1, G1.out, G2.out⟩
end Go.Proofs.YthnddgdnialogaaGreatDoor
