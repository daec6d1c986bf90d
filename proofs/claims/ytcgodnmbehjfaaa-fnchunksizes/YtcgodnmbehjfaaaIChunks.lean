/-
  Contracts: the program's parts of a list and its chunks.
-/
import Derived.Test.YtcgodnmbehjfaaaChunkS
import Derived.Test.YtcgodnmbehjfaaaISet
import Derived.Test.YtcgodnmbehjfaaaPairOk
namespace Go.Proofs.Ytcgodnmbehjfaaa
open Go.RowKit
set_option linter.unusedVariables false

theorem infoPart : (Try.prog.info? 58).map (fun i => (i.zero, i.size, i.bytes)) = some (some (.agg #[.bool false, .bool false, .slice none 0 0]), 3, 32) := by kernel_rfl
theorem infoChunk : (Try.prog.info? 46).map (fun i => (i.zero, i.size, i.bytes)) = some (some (.agg #[.bool false, .bool false, .slice none 0 0]), 3, 32) := by kernel_rfl
theorem piece_isPairs {w : World} {b off : Nat} {ps : List PairL} {p m : Nat} (h : IsPairs w (some ⟨b, off, none⟩) ps) : IsPairs w (some ⟨b, off + p * 2, none⟩) ((ps.drop p).take m) := by
  rcases h with rfl | ⟨b', off', he, hc⟩
  · exact .inl (by simp)
  · cases he
    refine .inr ⟨b, off + p * 2, rfl, fun j hj => ?_⟩
    simp at hj
    have := hc (p + j) (by omega)
    simp only [List.getElem_take, List.getElem_drop]
    rw [show off + p * 2 + j * 2 = off + (p + j) * 2 by omega]
    exact this

set_option maxHeartbeats 2000000 in
set_option maxRecDepth 100000 in
theorem impl_partsOf (b off cp : Nat) (ps : List PairL) (m : Nat) (w : World) (hl : ps.length ≤ 60) (hcap : ps.length ≤ cp) (hm1 : 1 ≤ m) (hm8 : m ≤ 8) (hs : IsPairs w (some ⟨b, off, none⟩) ps) :
    Calls Try.prog 30 #[.slice (some ⟨b, off, none⟩) ps.length cp, .int .i64 (m : Int)] w fun e w' => ∃ (v : Value) (vs : List Value), e = .returned v ∧ OwnC w' w.heap.size 58 v (chunksL ps m) vs ∧ Below w.heap.size w w' := by
  obtain ⟨i0, hi0, hz0, hz1, hz2⟩ := info_parts infoPart
  have HIS : Hid (∀ W, Below w.heap.size w W → IsPairs W (some ⟨b, off, none⟩) ps) := fun W hW => hs.later hW
  clear hs
  go_enter Try.func30, Try.ntmps30
  go_wp2
  go_loopw [5, 6] (fun v i wr => ∃ (j f : Nat) (vs : List Value), Hid (f = j * m) ∧ j ≤ 61 ∧ f ≤ 600 ∧ (j = 0 ∨ j = 1 ∨ (f - m < ps.length)) ∧ i = .int .i64 (f : Int) ∧ Hid (OwnC wr w.heap.size 58 v (chunksTo ps m j) vs) ∧ Below w.heap.size w wr) (fun _ i _ => 700 - (intOf i).toNat)
  case atStart => exact ⟨0, 0, [], by rw [Hid]; simp, by omega, by omega, .inl rfl, rfl, OwnC.nil _ _ _ _ (World.ownsRow_nil _ _ _ _), Below.refl _ _⟩
  case round =>
    obtain ⟨j, f, vs, HF, hj, hf, hr, rfl, HO, hbel⟩ := hrel
    have hsz := hbel.size
    by_cases hgo : f = 0 ∨ f < ps.length
    · have hj0 : (f : Int) = 0 ∨ (¬ (f : Int) = 0 ∧ (f : Int) < (ps.length : Int)) := by omega
      have hf0 : (0 : Int) ≤ (f : Int) := by omega
      rcases hj0 with h0 | ⟨h0, h1⟩
      · obtain rfl : f = 0 := by omega
        by_cases hmin : m ≤ ps.length
        · have hmin' : (m : Int) ≤ (ps.length : Int) := by omega
          have hjz : Hid (j = 0) := by rw [Hid]; rcases Nat.eq_zero_or_pos j with h | h; exact h; exact absurd HF.out (Nat.ne_of_lt (Nat.mul_pos h hm1))
          have HP : Hid (((ps.drop 0).take m).length = m) := by rw [Hid]; simp; omega
          have K3 := clone_any b off cp ((ps.drop 0).take m) wr (by rw [HP.out]; omega) (by have := piece_isPairs (p := 0) (m := m) (HIS.out wr hbel); simpa using this)
          rw [HP.out] at K3
          have HC : Hid (chunkAt ps m j = (true, ((m : Int) == (ps.length : Int)), (ps.drop 0).take m)) := by
            rw [Hid, chunkAt, ← HF.out]
            refine Prod.ext ?_ (Prod.ext ?_ rfl)
            · exact decide_eq_true hjz.out
            · show decide _ = _; rw [Bool.eq_iff_iff]; simp; omega
          obtain ⟨qs, hqs⟩ : ∃ qs, qs = (ps.drop 0).take m := ⟨_, rfl⟩
          rw [← hqs] at K3 HC HP
          clear hqs
          go_wp2_with fail
          refine K3.mono ?_
          rintro e w3 ⟨a3, m3, c3, rfl, o3, b3⟩
          have s3 := b3.size
          have OU : Hid (w3.ownsRow wr.heap.size 53 2 (.slice a3 m3 c3) qs.length (pcells qs)) := by rw [Hid, HP.out]; exact o3
          have OR : Hid (w3.ownsRow w.heap.size 58 3 u5 (chunksTo ps m j).length (ccells (chunksTo ps m j) vs)) := kept_new HO.out.row b3
          have HL : Hid ((chunksTo ps m j).length = j) := chunksTo_length ps m j
          have B3 := hbel.trans (b3.mono hsz)
          clear K3 o3
          go_wp2_with (at_builtin; refine wpList_append_lies _ rfl _ _ 55 rfl w.heap.size 58 i0 (.agg #[.bool false, .bool false, .slice none 0 0]) 3 32 Try.underlying55 hi0 hz0 hz1 hz2 rfl (by decide) u5 (chunksTo ps m j).length _ rfl (OR.out.alloc _) ⟨w3.heap.size, 0, none⟩ 1 1 [.bool true, .bool ((m : Int) == (ps.length : Int)), .slice a3 m3 c3] rfl rfl (World.news_of_block (cs := #[.bool true, .bool ((m : Int) == (ps.length : Int)), .slice a3 m3 c3]) (t := 58) (fr := (0, 0)) (heap_alloc_new w3 _)) (by simp [Value.oneCell']) (by omega) (by unfold maxLen; rw [HL.out]; omega) (by rw [HL.out]; omega) (by simp; omega) (w3.heap.size + 1) (by simp) ?_; intro g4 cap4 w4 hown4 hgrow4 hat4 hlt4)
          have HO4 := HO.out.snoc (c := chunkAt ps m j) hsz b3 (by rw [HC.out]; exact OU.out) rfl (by rw [HC.out]; exact hown4) hgrow4 hat4
          rw [← chunksTo_succ] at HO4
          have B4 : Below w.heap.size w w4 := (B3.alloc B3.size _).grown hgrow4 (by have := B3.size; simp; omega) (fun q hq => (HO.out.row.lt q hq).1)
          have H4 : Hid (OwnC w4 w.heap.size 58 (.slice (some ⟨g4, 0, none⟩) (chunksTo ps m (j + 1)).length cap4) (chunksTo ps m (j + 1)) (vs ++ [.slice a3 m3 c3])) := HO4
          have HF2 : Hid (0 + m = (j + 1) * m) := by rw [Hid, Nat.succ_mul, ← HF.out]
          have HL2 : Hid ((chunksTo ps m (j + 1)).length = (chunksTo ps m j).length + 1) := by rw [Hid, chunksTo_length, chunksTo_length]
          rw [HL2.out] at H4
          clear HO4 hown4 hgrow4 hat4 OU OR HO HC
          go_wp2
          go_roundw
          case rel => exact ⟨j + 1, 0 + m, vs ++ [.slice a3 m3 c3], HF2, by have := hjz.out; omega, by omega, by have := hjz.out; omega, by go_num, H4, B4⟩
          case measure => simp [intOf]; omega
        · have hmin' : ¬ (m : Int) ≤ (ps.length : Int) := by omega
          have hjz : Hid (j = 0) := by rw [Hid]; rcases Nat.eq_zero_or_pos j with h | h; exact h; exact absurd HF.out (Nat.ne_of_lt (Nat.mul_pos h hm1))
          have HP : Hid (((ps.drop 0).take m).length = ps.length) := by rw [Hid]; simp; omega
          have K3 := clone_any b off cp ((ps.drop 0).take m) wr (by rw [HP.out]; omega) (by have := piece_isPairs (p := 0) (m := m) (HIS.out wr hbel); simpa using this)
          rw [HP.out] at K3
          have HC : Hid (chunkAt ps m j = (true, true, (ps.drop 0).take m)) := by
            rw [Hid, chunkAt, ← HF.out]
            refine Prod.ext ?_ (Prod.ext ?_ rfl)
            · exact decide_eq_true hjz.out
            · exact decide_eq_true (by omega)
          obtain ⟨qs, hqs⟩ : ∃ qs, qs = (ps.drop 0).take m := ⟨_, rfl⟩
          rw [← hqs] at K3 HC HP
          clear hqs
          go_wp2_with fail
          refine K3.mono ?_
          rintro e w3 ⟨a3, m3, c3, rfl, o3, b3⟩
          have s3 := b3.size
          have OU : Hid (w3.ownsRow wr.heap.size 53 2 (.slice a3 m3 c3) qs.length (pcells qs)) := by rw [Hid, HP.out]; exact o3
          have OR : Hid (w3.ownsRow w.heap.size 58 3 u5 (chunksTo ps m j).length (ccells (chunksTo ps m j) vs)) := kept_new HO.out.row b3
          have HL : Hid ((chunksTo ps m j).length = j) := chunksTo_length ps m j
          have B3 := hbel.trans (b3.mono hsz)
          clear K3 o3
          go_wp2_with (at_builtin; refine wpList_append_lies _ rfl _ _ 55 rfl w.heap.size 58 i0 (.agg #[.bool false, .bool false, .slice none 0 0]) 3 32 Try.underlying55 hi0 hz0 hz1 hz2 rfl (by decide) u5 (chunksTo ps m j).length _ rfl (OR.out.alloc _) ⟨w3.heap.size, 0, none⟩ 1 1 [.bool true, .bool true, .slice a3 m3 c3] rfl rfl (World.news_of_block (cs := #[.bool true, .bool true, .slice a3 m3 c3]) (t := 58) (fr := (0, 0)) (heap_alloc_new w3 _)) (by simp [Value.oneCell']) (by omega) (by unfold maxLen; rw [HL.out]; omega) (by rw [HL.out]; omega) (by simp; omega) (w3.heap.size + 1) (by simp) ?_; intro g4 cap4 w4 hown4 hgrow4 hat4 hlt4)
          have HO4 := HO.out.snoc (c := chunkAt ps m j) hsz b3 (by rw [HC.out]; exact OU.out) rfl (by rw [HC.out]; exact hown4) hgrow4 hat4
          rw [← chunksTo_succ] at HO4
          have B4 : Below w.heap.size w w4 := (B3.alloc B3.size _).grown hgrow4 (by have := B3.size; simp; omega) (fun q hq => (HO.out.row.lt q hq).1)
          have H4 : Hid (OwnC w4 w.heap.size 58 (.slice (some ⟨g4, 0, none⟩) (chunksTo ps m (j + 1)).length cap4) (chunksTo ps m (j + 1)) (vs ++ [.slice a3 m3 c3])) := HO4
          have HF2 : Hid (0 + m = (j + 1) * m) := by rw [Hid, Nat.succ_mul, ← HF.out]
          have HL2 : Hid ((chunksTo ps m (j + 1)).length = (chunksTo ps m j).length + 1) := by rw [Hid, chunksTo_length, chunksTo_length]
          rw [HL2.out] at H4
          clear HO4 hown4 hgrow4 hat4 OU OR HO HC
          go_wp2
          go_roundw
          case rel => exact ⟨j + 1, 0 + m, vs ++ [.slice a3 m3 c3], HF2, by have := hjz.out; omega, by omega, by have := hjz.out; omega, by go_num, H4, B4⟩
          case measure => simp [intOf]; omega
      · by_cases hmin : f + m ≤ ps.length
        · have hmin' : (f : Int) + (m : Int) ≤ (ps.length : Int) := by omega
          have hjf : j ≤ f := by have h9 : j * 1 ≤ j * m := Nat.mul_le_mul_left j hm1; have := HF.out; omega
          have HP : Hid (((ps.drop f).take m).length = m) := by rw [Hid]; simp; omega
          have K3 := clone_any b (off + f * 2) (cp - f) ((ps.drop f).take m) wr (by rw [HP.out]; omega) (by have := piece_isPairs (p := f) (m := m) (HIS.out wr hbel); simpa using this)
          rw [HP.out] at K3
          have HC : Hid (chunkAt ps m j = (((f : Int) == 0), ((f : Int) + (m : Int) == (ps.length : Int)), (ps.drop f).take m)) := by
            rw [Hid, chunkAt, ← HF.out]
            refine Prod.ext ?_ (Prod.ext ?_ rfl)
            · show decide _ = _; rw [decide_eq_false (fun h : j = 0 => by have := HF.out; rw [h] at this; simp at this; omega)]; symm; simp; omega
            · show decide _ = _; rw [Bool.eq_iff_iff]; simp; omega
          obtain ⟨qs, hqs⟩ : ∃ qs, qs = (ps.drop f).take m := ⟨_, rfl⟩
          rw [← hqs] at K3 HC HP
          clear hqs
          go_wp2_with fail
          refine K3.mono ?_
          rintro e w3 ⟨a3, m3, c3, rfl, o3, b3⟩
          have s3 := b3.size
          have OU : Hid (w3.ownsRow wr.heap.size 53 2 (.slice a3 m3 c3) qs.length (pcells qs)) := by rw [Hid, HP.out]; exact o3
          have OR : Hid (w3.ownsRow w.heap.size 58 3 u5 (chunksTo ps m j).length (ccells (chunksTo ps m j) vs)) := kept_new HO.out.row b3
          have HL : Hid ((chunksTo ps m j).length = j) := chunksTo_length ps m j
          have B3 := hbel.trans (b3.mono hsz)
          clear K3 o3
          go_wp2_with (at_builtin; refine wpList_append_lies _ rfl _ _ 55 rfl w.heap.size 58 i0 (.agg #[.bool false, .bool false, .slice none 0 0]) 3 32 Try.underlying55 hi0 hz0 hz1 hz2 rfl (by decide) u5 (chunksTo ps m j).length _ rfl (OR.out.alloc _) ⟨w3.heap.size, 0, none⟩ 1 1 [.bool ((f : Int) == 0), .bool ((f : Int) + (m : Int) == (ps.length : Int)), .slice a3 m3 c3] rfl rfl (World.news_of_block (cs := #[.bool ((f : Int) == 0), .bool ((f : Int) + (m : Int) == (ps.length : Int)), .slice a3 m3 c3]) (t := 58) (fr := (0, 0)) (heap_alloc_new w3 _)) (by simp [Value.oneCell']) (by omega) (by unfold maxLen; rw [HL.out]; omega) (by rw [HL.out]; omega) (by simp; omega) (w3.heap.size + 1) (by simp) ?_; intro g4 cap4 w4 hown4 hgrow4 hat4 hlt4)
          have HO4 := HO.out.snoc (c := chunkAt ps m j) hsz b3 (by rw [HC.out]; exact OU.out) rfl (by rw [HC.out]; exact hown4) hgrow4 hat4
          rw [← chunksTo_succ] at HO4
          have B4 : Below w.heap.size w w4 := (B3.alloc B3.size _).grown hgrow4 (by have := B3.size; simp; omega) (fun q hq => (HO.out.row.lt q hq).1)
          have H4 : Hid (OwnC w4 w.heap.size 58 (.slice (some ⟨g4, 0, none⟩) (chunksTo ps m (j + 1)).length cap4) (chunksTo ps m (j + 1)) (vs ++ [.slice a3 m3 c3])) := HO4
          have HF2 : Hid (f + m = (j + 1) * m) := by rw [Hid, Nat.succ_mul, ← HF.out]
          have HL2 : Hid ((chunksTo ps m (j + 1)).length = (chunksTo ps m j).length + 1) := by rw [Hid, chunksTo_length, chunksTo_length]
          rw [HL2.out] at H4
          clear HO4 hown4 hgrow4 hat4 OU OR HO HC
          go_wp2
          go_roundw
          case rel => exact ⟨j + 1, f + m, vs ++ [.slice a3 m3 c3], HF2, by omega, by omega, by omega, by go_num, H4, B4⟩
          case measure => simp [intOf]; omega
        · have hmin' : ¬ (f : Int) + (m : Int) ≤ (ps.length : Int) := by omega
          have hjf : j ≤ f := by have h9 : j * 1 ≤ j * m := Nat.mul_le_mul_left j hm1; have := HF.out; omega
          have HP : Hid (((ps.drop f).take m).length = (ps.length - f)) := by rw [Hid]; simp; omega
          have K3 := clone_any b (off + f * 2) (cp - f) ((ps.drop f).take m) wr (by rw [HP.out]; omega) (by have := piece_isPairs (p := f) (m := m) (HIS.out wr hbel); simpa using this)
          rw [HP.out] at K3
          have HC : Hid (chunkAt ps m j = (((f : Int) == 0), true, (ps.drop f).take m)) := by
            rw [Hid, chunkAt, ← HF.out]
            refine Prod.ext ?_ (Prod.ext ?_ rfl)
            · show decide _ = _; rw [decide_eq_false (fun h : j = 0 => by have := HF.out; rw [h] at this; simp at this; omega)]; symm; simp; omega
            · exact decide_eq_true (by omega)
          obtain ⟨qs, hqs⟩ : ∃ qs, qs = (ps.drop f).take m := ⟨_, rfl⟩
          rw [← hqs] at K3 HC HP
          clear hqs
          go_wp2_with fail
          refine K3.mono ?_
          rintro e w3 ⟨a3, m3, c3, rfl, o3, b3⟩
          have s3 := b3.size
          have OU : Hid (w3.ownsRow wr.heap.size 53 2 (.slice a3 m3 c3) qs.length (pcells qs)) := by rw [Hid, HP.out]; exact o3
          have OR : Hid (w3.ownsRow w.heap.size 58 3 u5 (chunksTo ps m j).length (ccells (chunksTo ps m j) vs)) := kept_new HO.out.row b3
          have HL : Hid ((chunksTo ps m j).length = j) := chunksTo_length ps m j
          have B3 := hbel.trans (b3.mono hsz)
          clear K3 o3
          go_wp2_with (at_builtin; refine wpList_append_lies _ rfl _ _ 55 rfl w.heap.size 58 i0 (.agg #[.bool false, .bool false, .slice none 0 0]) 3 32 Try.underlying55 hi0 hz0 hz1 hz2 rfl (by decide) u5 (chunksTo ps m j).length _ rfl (OR.out.alloc _) ⟨w3.heap.size, 0, none⟩ 1 1 [.bool ((f : Int) == 0), .bool true, .slice a3 m3 c3] rfl rfl (World.news_of_block (cs := #[.bool ((f : Int) == 0), .bool true, .slice a3 m3 c3]) (t := 58) (fr := (0, 0)) (heap_alloc_new w3 _)) (by simp [Value.oneCell']) (by omega) (by unfold maxLen; rw [HL.out]; omega) (by rw [HL.out]; omega) (by simp; omega) (w3.heap.size + 1) (by simp) ?_; intro g4 cap4 w4 hown4 hgrow4 hat4 hlt4)
          have HO4 := HO.out.snoc (c := chunkAt ps m j) hsz b3 (by rw [HC.out]; exact OU.out) rfl (by rw [HC.out]; exact hown4) hgrow4 hat4
          rw [← chunksTo_succ] at HO4
          have B4 : Below w.heap.size w w4 := (B3.alloc B3.size _).grown hgrow4 (by have := B3.size; simp; omega) (fun q hq => (HO.out.row.lt q hq).1)
          have H4 : Hid (OwnC w4 w.heap.size 58 (.slice (some ⟨g4, 0, none⟩) (chunksTo ps m (j + 1)).length cap4) (chunksTo ps m (j + 1)) (vs ++ [.slice a3 m3 c3])) := HO4
          have HF2 : Hid (f + m = (j + 1) * m) := by rw [Hid, Nat.succ_mul, ← HF.out]
          have HL2 : Hid ((chunksTo ps m (j + 1)).length = (chunksTo ps m j).length + 1) := by rw [Hid, chunksTo_length, chunksTo_length]
          rw [HL2.out] at H4
          clear HO4 hown4 hgrow4 hat4 OU OR HO HC
          go_wp2
          go_roundw
          case rel => exact ⟨j + 1, f + m, vs ++ [.slice a3 m3 c3], HF2, by omega, by omega, by omega, by go_num, H4, B4⟩
          case measure => simp [intOf]; omega
    · have h0 : ¬ (f : Int) = 0 := by omega
      have h1 : ¬ (f : Int) < (ps.length : Int) := by omega
      have hj1 : 1 ≤ j := by rcases Nat.eq_zero_or_pos j with h | h; (exfalso; have := HF.out; rw [h] at this; simp at this; omega); exact h
      have HN : Hid (j = chunksN ps.length m) := chunksN_of hj1 (by rw [← HF.out]; omega) (by
        have e : (j - 1) * m = f - m := by rw [Nat.sub_mul, ← HF.out, Nat.one_mul]
        rw [e]; omega)
      have H9 : Hid (OwnC wr w.heap.size 58 u5 (chunksL ps m) vs) := by rw [Hid, chunksL, ← HN.out]; exact HO.out
      clear HO HN HF
      go_wp2
      go_ret
      exact ⟨_, rfl, ⟨vs, H9.out⟩, hbel⟩

theorem OwnC.moved {wp w' : World} {lo e e' : Nat} {v c : Value} {cs : List ChL} {vs : List Value} (h : OwnC wp lo e v cs vs) (hlo : lo ≤ wp.heap.size) (hb : Below wp.heap.size wp w') (hr : w'.ownsRow wp.heap.size e' 3 c cs.length (ccells cs vs)) : OwnC w' lo e' c cs vs :=
  ⟨h.len, hr.mono hlo, fun j x u h1 h2 => kept_new (h.kid j x u h1 h2) hb, h.apart, fun i u k hu hk e => by have := (h.lt hu hk).2; have := (hr.lt k e).1; omega⟩
theorem ccells_take (cs : List ChL) (vs : List Value) (j : Nat) (c : ChL) (u : Value) (hl : vs.length = cs.length) (hc : cs[j]? = some c) (hu : vs[j]? = some u) : ccells (cs.take (j + 1)) (vs.take (j + 1)) = ccells (cs.take j) (vs.take j) ++ [.bool c.1, .bool c.2.1, u] := by
  obtain ⟨h1, e1⟩ := List.getElem?_eq_some_iff.1 hc
  obtain ⟨h2, e2⟩ := List.getElem?_eq_some_iff.1 hu
  rw [List.take_succ_eq_append_getElem h1, List.take_succ_eq_append_getElem h2, e1, e2]
  exact ccells_snoc _ _ _ _ (by simp [hl])
def chunksOkL (ps : List PairL) (mo : Int) : Bool := pairsOkL ps && (decide (1 ≤ mo) && decide (mo ≤ 8))
def chunksR (ps : List PairL) (mo : Int) : List ChL := if chunksOkL ps mo = true then chunksL ps mo.toNat else []
theorem chunksN_le {n m : Nat} (hn : n ≤ 60) : chunksN n m ≤ 61 := by
  unfold chunksN
  split
  · omega
  · have := Nat.div_le_self (n - 1) m; omega
theorem chunksL_length (ps : List PairL) (m : Nat) : (chunksL ps m).length = chunksN ps.length m := chunksTo_length _ _ _
theorem chunksN_pos (n m : Nat) : 1 ≤ chunksN n m := by
  unfold chunksN
  split
  · omega
  · exact Nat.le_add_left 1 _

set_option maxHeartbeats 2000000 in
set_option maxRecDepth 100000 in
theorem impl_chunksOf (b off cp : Nat) (ps : List PairL) (mo : Int) (w : World) (hl : ps.length ≤ 1048576) (hcap : ps.length ≤ cp) (hm : ∀ p ∈ ps, p.1.length ≤ 1048576 ∧ p.2.length ≤ 1048576) (hs : IsPairs w (some ⟨b, off, none⟩) ps) :
    Calls Try.prog 14 #[.slice (some ⟨b, off, none⟩) ps.length cp, .int .i64 mo] w fun e w' => ∃ (v : Value) (vs : List Value), e = .returned (.tuple #[v, .bool (chunksOkL ps mo)]) ∧ OwnC w' w.heap.size 46 v (chunksR ps mo) vs ∧ Below w.heap.size w w' := by
  obtain ⟨i0, hi0, hz0, hz1, hz2⟩ := info_parts infoChunk
  have K1 := impl_pairsOk (some ⟨b, off, none⟩) cp ps w hl hm hs
  have HD : Hid (chunksOkL ps mo = (pairsOkL ps && (decide (1 ≤ mo) && decide (mo ≤ 8))) ∧ chunksR ps mo = if chunksOkL ps mo = true then chunksL ps mo.toNat else []) := ⟨rfl, rfl⟩
  have HP : Hid (pairsOkL ps = true → ps.length ≤ 60) := fun h => (pairsOk_of ps h).1
  have HIS : Hid (∀ W, Below w.heap.size w W → IsPairs W (some ⟨b, off, none⟩) ps) := fun W hW => hs.later hW
  obtain ⟨r, hr⟩ : ∃ r, r = chunksR ps mo := ⟨_, rfl⟩
  obtain ⟨ok, hok⟩ : ∃ ok, ok = chunksOkL ps mo := ⟨_, rfl⟩
  rw [← hok, ← hr] at HD
  rw [← hr, ← hok]
  obtain ⟨pk, hpk⟩ : ∃ pk, pk = pairsOkL ps := ⟨_, rfl⟩
  rw [← hpk] at K1 HD HP
  clear hr hok hs hm hpk
  by_cases hgo : pk = true ∧ 1 ≤ mo ∧ mo ≤ 8
  · obtain ⟨rfl, h1, h8⟩ := hgo
    obtain ⟨m, rfl⟩ : ∃ m : Nat, mo = (m : Int) := ⟨mo.toNat, by omega⟩
    have e1 : ok = true := by rw [HD.out.1]; simp [h1, h8]
    subst e1
    have HR : Hid (r = chunksL ps m) := by rw [Hid]; have := HD.out.2; simpa using this
    have h60 : ps.length ≤ 60 := HP.out rfl
    have KP : Hid (∀ W, Below w.heap.size w W → Calls Try.prog 30 #[.slice (some ⟨b, off, none⟩) ps.length cp, .int .i64 (m : Int)] W fun e w' => ∃ (v : Value) (vs : List Value), e = .returned v ∧ OwnC w' W.heap.size 58 v (chunksL ps m) vs ∧ Below W.heap.size W w') := fun W hW => impl_partsOf b off cp ps m W h60 hcap (by omega) (by omega) (HIS.out W hW)
    have HLN : Hid ((chunksL ps m).length ≤ 61 ∧ 1 ≤ (chunksL ps m).length) := by rw [Hid, chunksL_length]; exact ⟨chunksN_le h60, chunksN_pos _ _⟩
    rw [← HR.out] at KP HLN
    clear HD HP HIS HR
    go_enter Try.func14, Try.ntmps14
    go_wp2_with fail
    refine K1.mono ?_
    rintro e w1 ⟨rfl, b1⟩
    clear K1
    go_wp2_with fail
    refine (KP.out _ b1).mono ?_
    rintro e w2 ⟨v, vs, rfl, O2, b2⟩
    have B2 := b1.trans (b2.mono b1.size)
    have HO2 : Hid (OwnC w2 w.heap.size 58 v r vs) := ⟨O2.len, O2.row.mono b1.size, fun j c u h1 h2 => (O2.kid j c u h1 h2).mono b1.size, O2.apart, O2.far⟩
    obtain ⟨g, cap, rfl, hg1, hg2⟩ : ∃ g cap, v = .slice (some ⟨g, 0, none⟩) r.length cap ∧ w1.heap.size ≤ g ∧ g < w2.heap.size := by
      rcases O2.slice with ⟨_, h0⟩ | h
      · exfalso; have := HLN.out.2; rw [h0] at this; simp at this
      · exact h
    have hrl := HLN.out.1
    clear O2 b2 KP HLN hg1 b1
    go_wp2
    go_loopw [6, 24] (fun c i wr => ∃ j : Nat, j ≤ r.length ∧ i = .int .i64 (j : Int) ∧ wr.ownsRow w2.heap.size 46 3 c (r.take j).length (ccells (r.take j) (vs.take j)) ∧ Below w2.heap.size w2 wr) (fun _ i _ => r.length - (intOf i).toNat)
    case atStart => exact ⟨0, Nat.zero_le _, rfl, World.ownsRow_nil _ _ _ _, Below.refl _ _⟩
    case round =>
      obtain ⟨j, hj, rfl, hown, hbel⟩ := hrel
      have hsz := hbel.size
      by_cases hlt : j < r.length
      · have ou := HO2.out.later hbel
        obtain ⟨⟨f, q, qs⟩, u, hc, hu, a1, cp1, rfl, i1, _⟩ := ou.kids hlt
        obtain ⟨c1, c2, c3⟩ := ou.cells hc hu
        simp only at c1 c2 c3 i1
        have HCT : Hid (ccells (r.take (j + 1)) (vs.take (j + 1)) = ccells (r.take j) (vs.take j) ++ [.bool f, .bool q, .slice a1 qs.length cp1]) := ccells_take r vs j _ _ HO2.out.len hc hu
        have HTL : Hid ((r.take j).length = j ∧ (r.take (j + 1)).length = j + 1) := ⟨by simp; omega, by simp; omega⟩
        have hj0 : (0 : Int) ≤ (j : Int) := by omega
        have hj1 : (j : Int) < (r.length : Int) := by omega
        have OR := hidOwn hown
        clear ou hc hu i1 hown
        obtain ⟨a5, m5, c5, rfl⟩ := own_slice2 OR.out
        have hgr : g < wr.heap.size := by omega
        go_wp2_with (at_builtin; refine wpList_append_lies _ rfl _ _ 32 rfl w2.heap.size 46 i0 (.agg #[.bool false, .bool false, .slice none 0 0]) 3 32 Try.underlying32 hi0 hz0 hz1 hz2 rfl (by decide) (.slice a5 m5 c5) (r.take j).length _ rfl ((OR.out.alloc _).alloc _) ⟨wr.heap.size + 1, 0, none⟩ 1 1 [.bool f, .bool q, .slice a1 qs.length cp1] rfl rfl (World.news_of_block (cs := #[.bool f, .bool q, .slice a1 qs.length cp1]) (t := 46) (fr := (0, 0)) (new_atP _ (by simp) _)) (by simp [Value.oneCell']) (by omega) (by unfold maxLen; rw [HTL.out.1]; omega) (by rw [HTL.out.1]; omega) (by simp; omega) (wr.heap.size + 2) (by simp) ?_; intro g4 cap4 w4 hown4 hgrow4 hat4 hlt4)
        have B4 : Below w2.heap.size w2 w4 := ((hbel.alloc hsz _).alloc (by simp; omega) _).grown hgrow4 (by simp; omega) (fun q hq => (OR.out.lt q hq).1)
        have H4 : Hid (w4.ownsRow w2.heap.size 46 3 (.slice (some ⟨g4, 0, none⟩) (j + 1) cap4) (r.take (j + 1)).length (ccells (r.take (j + 1)) (vs.take (j + 1)))) := by rw [Hid, HCT.out, HTL.out.2]; have := hown4; rw [HTL.out.1] at this; exact this
        clear hown4 hgrow4 hat4 OR HCT c1 c2 c3
        go_wp2
        go_roundw
        case rel => exact ⟨j + 1, by omega, by go_num, H4.out, B4⟩
        case measure => simp [intOf]; omega
      · have hjl : j = r.length := by omega
        subst hjl
        have h9 := hown
        rw [List.take_length, ← HO2.out.len, List.take_length, HO2.out.len] at h9
        have H9 : Hid (OwnC wr w.heap.size 46 u6 r vs) := HO2.out.moved B2.size hbel h9
        have B9 := B2.trans (hbel.mono B2.size)
        clear hown h9 HO2
        go_wp2
        go_ret2
        exact ⟨_, vs, rfl, H9.out, B9⟩
  · have e1 : ok = false := by
      rw [HD.out.1]
      cases pk
      · rfl
      · simp only [Bool.true_and, Bool.and_eq_false_iff, decide_eq_false_iff_not]
        rcases Classical.em (1 ≤ mo) with h | h
        · exact .inr (fun h' => hgo ⟨rfl, h, h'⟩)
        · exact .inl h
    subst e1
    have e2 : r = [] := by rw [HD.out.2]; rfl
    subst e2
    have HN : Hid (∀ W : World, OwnC W w.heap.size 46 (.slice none 0 0) [] []) := fun W => OwnC.nil _ _ _ _ (World.ownsRow_nil _ _ _ _)
    clear HIS HP HD
    go_enter Try.func14, Try.ntmps14
    go_wp2_with fail
    refine K1.mono ?_
    rintro e w1 ⟨rfl, b1⟩
    clear K1
    cases pk
    · go_wp2
      go_ret2
      exact ⟨_, [], rfl, HN.out _, b1⟩
    · rcases Classical.em (1 ≤ mo) with h | h
      · have h' : ¬ mo ≤ 8 := fun h' => hgo ⟨rfl, h, h'⟩
        clear hgo
        go_wp2
        go_ret2
        exact ⟨_, [], rfl, HN.out _, b1⟩
      · clear hgo
        go_wp2
        go_ret2
        exact ⟨_, [], rfl, HN.out _, b1⟩
end Go.Proofs.Ytcgodnmbehjfaaa
