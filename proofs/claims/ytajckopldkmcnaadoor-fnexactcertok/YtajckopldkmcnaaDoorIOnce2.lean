/-
  Contracts: the program's public text to which a signature leads.
-/
import Derived.Test.YtajckopldkmcnaaDoorIOnce
import Derived.Test.YtajckopldkmcnaaDoorStrsAll
namespace Go.Proofs.YtajckopldkmcnaaDoor
open Go.RowKit
set_option linter.unusedVariables false

theorem IsStrs.later {w w' : World} {a : Option Addr} {ls : List (List UInt8)} (h : IsStrs w a ls) (hb : Below w.heap.size w w') : IsStrs w' a ls := by
  rcases h with h | ⟨b, off, h1, h2⟩
  · exact .inl h
  · exact .inr ⟨b, off, h1, fun j h => (hb.cell (p := ⟨b, off + j, none⟩) (World.block_lt_of_cell? w _ (h2 j h))).trans (h2 j h)⟩
theorem isStrs_own {w : World} {base e n : Nat} {a : Option Addr} {m cap : Nat} {ls : List (List UInt8)} (h : w.ownsRow base e 1 (.slice a m cap) n (scells ls)) : m = ls.length ∧ n = ls.length ∧ IsStrs w a ls := by
  have hl : ls.length = n := by rw [← scells_length ls]; simpa using h.1
  rcases h.2 with ⟨h', h0⟩ | ⟨g, cap', cur, h', _⟩
  · cases h'
    exact ⟨by omega, by omega, .inl (List.length_eq_zero_iff.1 (by omega))⟩
  · cases h'
    exact ⟨by omega, by omega, .inr ⟨g, 0, rfl, fun j hj => by rw [Nat.zero_add, h.cellAt j (by omega), scells_at ls j hj]⟩⟩

set_option maxRecDepth 100000 in
set_option maxHeartbeats 400000 in
theorem seedSized_yes (a : Option Addr) (cap : Nat) (ls : List (List UInt8)) (w : World) (hl : ls.length ≤ 1048576) (h32 : ∀ l ∈ ls, l.length = 32) (hs : IsStrs w a ls) :
    Calls Tryd.prog 106 #[.slice a ls.length cap] w fun e w' => e = .returned (.bool true) ∧ w' = w := by
  rcases hs with rfl | ⟨b, off, rfl, hc⟩
  · go_enter Tryd.func106, Tryd.ntmps106
    go_wp2
    refine wp_loop_rounds 1 ?_
    rw [rounds_succ]
    go_wp2
    go_ret
    exact ⟨rfl, rfl⟩
  · have h32' : ∀ j (h : j < ls.length), ls[j].length = 32 := fun j h => h32 _ (List.getElem_mem _)
    clear h32
    go_enter Tryd.func106, Tryd.ntmps106
    go_wp2
    go_loop [7] (fun i => ∃ j : Nat, j ≤ ls.length ∧ i = .int .i64 (j : Int)) (fun i => ls.length - (intOf i).toNat)
    case atStart => exact ⟨0, Nat.zero_le _, rfl⟩
    case round =>
      obtain ⟨j, hj, rfl⟩ := hrel
      by_cases hlt : j < ls.length
      · have c1 := hc j hlt
        have m1 := h32' j hlt
        have hj0 : (0 : Int) ≤ (j : Int) := by omega
        have hj1 : (j : Int) < (ls.length : Int) := by omega
        obtain ⟨x, hx⟩ : ∃ x, x = ls[j] := ⟨_, rfl⟩
        rw [← hx] at c1 m1
        have m2 : (x.length : Int) = 32 := by omega
        clear hc h32' hx
        go_wp2
        go_round
        case rel => exact ⟨j + 1, by omega, by go_num⟩
        case measure => simp [intOf]; omega
      · go_wp2
        go_ret
        exact ⟨rfl, rfl⟩

set_option maxRecDepth 100000 in
set_option maxHeartbeats 400000 in
theorem seedSized_no (a : Option Addr) (cap : Nat) (ls : List (List UInt8)) (w : World) (hl : ls.length ≤ 1048576) (hm : ∀ l ∈ ls, l.length ≤ 1048576) (h32 : ¬ ∀ l ∈ ls, l.length = 32) (hs : IsStrs w a ls) :
    Calls Tryd.prog 106 #[.slice a ls.length cap] w fun e w' => e = .returned (.bool false) ∧ w' = w := by
  rcases hs with rfl | ⟨b, off, rfl, hc⟩
  · exact absurd (by simp) h32
  · have HH : Hid (¬ ∀ l ∈ ls, l.length = 32) := h32
    have hm' : ∀ j (h : j < ls.length), ls[j].length ≤ 1048576 := fun j h => hm _ (List.getElem_mem _)
    clear h32 hm
    go_enter Tryd.func106, Tryd.ntmps106
    go_wp2
    go_loop [7] (fun i => ∃ j : Nat, j ≤ ls.length ∧ i = .int .i64 (j : Int) ∧ Hid (∀ l ∈ ls.take j, l.length = 32)) (fun i => ls.length - (intOf i).toNat)
    case atStart => exact ⟨0, Nat.zero_le _, rfl, by rw [Hid]; simp⟩
    case round =>
      obtain ⟨j, hj, rfl, HA⟩ := hrel
      by_cases hlt : j < ls.length
      · have c1 := hc j hlt
        have m1 := hm' j hlt
        have hj0 : (0 : Int) ≤ (j : Int) := by omega
        have hj1 : (j : Int) < (ls.length : Int) := by omega
        have HS : Hid (ls[j].length = 32 → ∀ l ∈ ls.take (j + 1), l.length = 32) := fun h l hl => by
          rw [List.take_succ_eq_append_getElem hlt, List.mem_append] at hl
          rcases hl with hl | hl
          · exact HA.out l hl
          · simp at hl; rw [hl]; exact h
        obtain ⟨x, hx⟩ : ∃ x, x = ls[j] := ⟨_, rfl⟩
        rw [← hx] at c1 m1 HS
        clear hc hm' hx HA
        by_cases hx32 : x.length = 32
        · have m2 : (x.length : Int) = 32 := by omega
          go_wp2
          go_round
          case rel => exact ⟨j + 1, by omega, by go_num, HS.out hx32⟩
          case measure => simp [intOf]; omega
        · have m2 : ¬ (x.length : Int) = 32 := by omega
          go_wp2
          go_ret
          exact ⟨rfl, rfl⟩
      · have hjl : j = ls.length := by omega
        subst hjl
        exact absurd (by have := HA.out; rw [List.take_length] at this; exact this) HH.out

set_option maxRecDepth 100000 in
set_option maxHeartbeats 1000000 in
theorem impl_publicOf (msg : List UInt8) (a : Option Addr) (cap : Nat) (ls : List (List UInt8)) (w : World) (hl : msg.length ≤ 1048576) (h19 : ls.length = 19) (h32 : ∀ l ∈ ls, l.length = 32) (hs : IsStrs w a ls) (hT : Tab w) :
    Calls Tryd.prog 104 #[.string ⟨msg.toArray⟩, .slice a ls.length cap] w fun e w' => e = .returned (.tuple #[.string ⟨(publicOfL msg ls).toArray⟩, .bool true]) ∧ Below w.heap.size w w' := by
  obtain ⟨i0, hi0, hz0, hz1, hz2⟩ := info_parts info9i
  have HT : Hid (Tab w) := hT
  have K0 := seedSized_yes a cap ls w (by omega) h32 hs
  have H1 := impl_digits msg w hl hT
  have hdl := digitsL_len msg
  have HD3 : Hid (∀ j, (digitsL msg).getD j 0 ≤ 3) := digitsL_getD msg
  have HP : Hid (publicOfL msg ls = tagL tOnce (leadL msg ls 19)) := rfl
  have HF : Hid ((leadL msg ls 19).flatten.length = 32 * 19) := by rw [Hid, flat32 _ (leadL_32 msg ls h32 19 (by omega)), leadL_length]
  have HLL : Hid ((leadL msg ls 19).length = 19) := leadL_length msg ls 19
  have HN : Hid (∀ j, leadL msg ls (j + 1) = leadL msg ls j ++ [chainL j ((digitsL msg).getD j 0) (ls.getD j []) (3 - (digitsL msg).getD j 0)]) := leadL_snoc msg ls
  have HZ : Hid (leadL msg ls 0 = []) := rfl
  obtain ⟨ds, hds⟩ : ∃ ds, ds = digitsL msg := ⟨_, rfl⟩
  rw [← hds] at H1 hdl HD3 HN
  obtain ⟨out, hout⟩ : ∃ out, out = publicOfL msg ls := ⟨_, rfl⟩
  rw [← hout] at HP ⊢
  obtain ⟨ld, hld⟩ : ∃ ld, ld = leadL msg ls := ⟨_, rfl⟩
  rw [← hld] at HP HF HLL HN HZ
  rcases hs with rfl | ⟨b, off, rfl, hc⟩
  · simp at h19
  have H32 : Hid (∀ j (h : j < ls.length), ls[j].length = 32) := fun j h => h32 _ (List.getElem_mem _)
  have hblt : b < w.heap.size := World.block_lt_of_cell? w _ (hc 0 (by omega))
  have HC : Hid (∀ j (h : j < ls.length), w.cell? ⟨b, off + j, none⟩ = some (.string ⟨ls[j].toArray⟩)) := hc
  rw [h19] at K0 ⊢
  clear hT hds hout hld hc h32
  go_enter Tryd.func104, Tryd.ntmps104
  go_wp2_with fail
  refine K0.mono ?_
  rintro e w0 ⟨rfl, rfl⟩
  clear K0
  go_wp2_with fail
  refine H1.mono ?_
  rintro e w1 ⟨gd, cd, rfl, od, b1⟩
  have hgd := own_lt od
  have hcd : ∀ j (h : j < ds.length), w1.cell? ⟨gd, j, none⟩ = some (.int .i64 ((ds.getD j 0 : Nat) : Int)) := fun j h => by rw [od.cellAt j (by omega), icells_at ds j h, List.getD_eq_getElem?_getD, List.getElem?_eq_getElem h]; rfl
  have hs1 := b1.size
  clear H1 od
  go_wp2
  go_loopw [6, 20] (fun v i wr => ∃ j n cap : Nat, ∃ a : Option Addr, j ≤ 19 ∧ i = .int .i64 (j : Int) ∧ v = .slice a n cap ∧ wr.ownsRow w1.heap.size 9 1 (.slice a n cap) j (scells (ld j)) ∧ Below w1.heap.size w1 wr) (fun _ i _ => 19 - (intOf i).toNat)
  case atStart => exact ⟨0, 0, 0, none, by omega, rfl, rfl, by rw [HZ.out]; exact own_nil _ _ _, Below.refl _ _⟩
  case round =>
    obtain ⟨j, n, cap1, a, hj, rfl, rfl, hown, hbel⟩ := hrel
    have hsz := hbel.size
    have hbw := b1.trans (hbel.mono hs1)
    by_cases hlt : j < 19
    · have hlt' : (j : Int) < 19 := by omega
      have hj0 : (0 : Int) ≤ (j : Int) := by omega
      have hjl : j < ls.length := by omega
      have c1 := (hbel.cell (p := ⟨gd, j, none⟩) hgd).trans (hcd j (by omega))
      have c2 := (hbw.cell (p := ⟨b, off + j, none⟩) hblt).trans (HC.out j hjl)
      have hd3 := HD3.out j
      have hgx : ls.getD j [] = ls[j] := by rw [List.getD_eq_getElem?_getD, List.getElem?_eq_getElem hjl]; rfl
      have HNJ : Hid (ld (j + 1) = ld j ++ [chainL j (ds.getD j 0) (ls.getD j []) (3 - ds.getD j 0)]) := HN.out j
      rw [hgx] at HNJ
      have hx32 := H32.out j hjl
      obtain ⟨d, hd⟩ : ∃ d, d = ds.getD j 0 := ⟨_, rfl⟩
      rw [← hd] at c1 hd3 HNJ
      obtain ⟨x, hx⟩ : ∃ x, x = ls[j] := ⟨_, rfl⟩
      rw [← hx] at c2 HNJ hx32
      have K2 := climbed_any j d 3 x wr (by omega) hd3 (by omega) hx32 (HT.out.later hbw)
      obtain ⟨y, hy⟩ : ∃ y, y = chainL j d x (3 - d) := ⟨_, rfl⟩
      rw [← hy] at K2 HNJ
      have HO := hidOwn hown
      have hlow := own_low hown
      clear hy hx hown hcd hd hgx hx32
      go_wp2_with fail
      refine K2.mono ?_
      rintro e w3 ⟨rfl, b3⟩
      have B3 := hbel.trans (b3.mono hsz)
      have hs3 := B3.size
      have hown3 := keptO HO.out b3
      clear HO b3 hbel K2 c1 c2
      go_wp2_with (at_builtin; refine wpList_append_own _ rfl _ _ 29 rfl w1.heap.size 9 i0 (.string ⟨#[]⟩) 1 16 Tryd.underlying29 hi0 hz0 hz1 hz2 rfl (by decide) (.slice a n cap1) j _ rfl (hown3.alloc _) ⟨w3.heap.size, 0, none⟩ 1 1 [.string ⟨y.toArray⟩] rfl rfl (World.news_of_block (cs := #[.string ⟨y.toArray⟩]) (t := 9) (fr := (0, 0)) (heap_alloc_new w3 _)) (by simp [Value.oneCell']) (by unfold maxLen; omega) (by omega) (by simp; omega) ?_; intro v4 w4 hown4 hgrow4 hnil4)
      obtain ⟨a4, n4, cap4, rfl⟩ := own_slice hown4
      have B4 : Below w1.heap.size w1 w4 := (B3.alloc hs3 _).grown hgrow4 (by simp; omega) hlow
      have HO4 : Hid (w4.ownsRow w1.heap.size 9 1 (.slice a4 n4 cap4) (j + 1) (scells (ld (j + 1)))) := by rw [Hid, HNJ.out, scells_snoc]; exact hown4
      clear hown4 hgrow4 hnil4 hown3 B3
      go_wp2
      go_roundw
      case rel => exact ⟨j + 1, n4, cap4, a4, by omega, by go_num, rfl, HO4.out, B4⟩
      case measure => simp [intOf]; omega
    · have hj19 : j = 19 := by omega
      subst hj19
      obtain ⟨rfl, g, rfl⟩ := own_some hown (by omega)
      have K := impl_tagged tOnce g cap1 (ld 19) w1.heap.size wr (by decide) (by rw [HLL.out, HF.out]; omega) (HT.out.later hbw) (by rw [HLL.out]; exact hown)
      rw [← HP.out, HLL.out] at K
      clear hown hcd
      go_wp2_with fail
      refine K.mono ?_
      rintro e w2 ⟨rfl, b2⟩
      have B2 := hbw.trans (b2.mono hbw.size)
      go_wp2
      go_ret2
      exact ⟨rfl, B2⟩

set_option maxRecDepth 100000 in
set_option maxHeartbeats 400000 in
theorem impl_publicOf_no (msg : List UInt8) (a : Option Addr) (cap : Nat) (ls : List (List UInt8)) (w : World) (hl : ls.length ≤ 1048576) (hm : ∀ l ∈ ls, l.length ≤ 1048576) (hno : ¬ (ls.length = 19 ∧ ∀ l ∈ ls, l.length = 32)) (hs : IsStrs w a ls) :
    Calls Tryd.prog 104 #[.string ⟨msg.toArray⟩, .slice a ls.length cap] w fun e w' => e = .returned (.tuple #[.string ⟨#[]⟩, .bool false]) ∧ w' = w := by
  by_cases h19 : ls.length = 19
  · have K := seedSized_no a cap ls w hl hm (fun h => hno ⟨h19, h⟩) hs
    rw [h19] at K ⊢
    clear hno hs hm hl
    go_enter Tryd.func104, Tryd.ntmps104
    go_wp2_with fail
    refine K.mono ?_
    rintro e w1 ⟨rfl, rfl⟩
    go_wp2
    go_ret2
    exact ⟨rfl, rfl⟩
  · have h19' : ¬ (ls.length : Int) = 19 := by omega
    clear hno hs hm
    go_enter Tryd.func104, Tryd.ntmps104
    go_wp2
    go_ret2
    exact ⟨rfl, rfl⟩
end Go.Proofs.YtajckopldkmcnaaDoor
