/-
  Contracts: the program's signatures that are used once.
-/
import Derived.Test.YtajckopldkmcnaaDoorIClimb
import Derived.Test.YtajckopldkmcnaaDoorIDig2
namespace Go.Proofs.YtajckopldkmcnaaDoor
open Go.RowKit
set_option linter.unusedVariables false

set_option maxRecDepth 100000 in
set_option maxHeartbeats 400000 in
theorem start_any (seed : List UInt8) (c : Nat) (w : World) (hs : seed.length = 32) (hc : c < 256) (hT : Tab w) :
    Calls Tryd.prog 130 #[.string ⟨seed.toArray⟩, .int .i64 (c : Int)] w fun e w' => e = .returned (.string ⟨(startL seed c).toArray⟩) ∧ Below w.heap.size w w' := by
  have HT : Hid (Tab w) := hT
  have K1 := byteText_any c w hc
  have K2 := fun W hW => itag2 tStart seed (byteL c) W (by decide) (by simp [byteL, hs]) hW
  have HE : Hid (startL seed c = tagL tStart [seed, byteL c]) := rfl
  rw [← HE.out] at K2
  obtain ⟨y, hy⟩ : ∃ y, y = startL seed c := ⟨_, rfl⟩
  rw [← hy] at K2 ⊢
  obtain ⟨p, hp⟩ : ∃ p, p = byteL c := ⟨_, rfl⟩
  rw [← hp] at K1 K2
  clear hT HE hy hp
  go_enter Tryd.func130, Tryd.ntmps130
  go_wp2_with fail
  refine K1.mono ?_
  rintro e w1 ⟨rfl, b1⟩
  go_wp2_with fail
  refine (K2 w1 (HT.out.later b1)).mono ?_
  rintro e w2 ⟨rfl, b2⟩
  have B2 := b1.trans (b2.mono b1.size)
  go_wp2
  go_ret
  exact ⟨rfl, B2⟩

theorem own_nil (w : World) (B e : Nat) : w.ownsRow B e 1 (.slice none 0 0) 0 [] := ⟨rfl, .inl ⟨rfl, rfl⟩⟩

theorem own_some {w : World} {base e n : Nat} {a : Option Addr} {m cap : Nat} {xs : List Value} (h : w.ownsRow base e 1 (.slice a m cap) n xs) (hn : 0 < n) : m = n ∧ ∃ g, a = some ⟨g, 0, none⟩ := by
  rcases h.2 with ⟨h', h0⟩ | ⟨g, cap', cur, h', _⟩
  · omega
  · simp only [Value.slice.injEq] at h'
    exact ⟨h'.2.1, g, h'.1⟩
theorem own_low {w : World} {base e n : Nat} {a : Option Addr} {m cap : Nat} {xs : List Value} (h : w.ownsRow base e 1 (.slice a m cap) n xs) : ∀ k, (Value.slice a m cap).ownBlock = some k → base ≤ k := by
  intro k hk
  rcases h.2 with ⟨h', h0⟩ | ⟨g, cap', cur, h', hb, _⟩
  · cases h'; simp [Value.ownBlock] at hk
  · cases h'; simp [Value.ownBlock] at hk; omega
theorem keptO {w w' : World} {b e n : Nat} {v : Value} {xs : List Value} (h : w.ownsRow b e 1 v n xs) (hb : Below w.heap.size w w') : w'.ownsRow b e 1 v n xs :=
  h.kept (row := none) ⟨hb.os, hb.tape, hb.output, hb.size, fun k hk _ => hb.block k hk⟩ (by cases v.ownBlock with | none => exact .inl rfl | some k => exact .inr (by simp))

set_option maxRecDepth 100000 in
set_option maxHeartbeats 1000000 in
theorem impl_public (seed : List UInt8) (w : World) (hs : seed.length = 32) (hT : Tab w) :
    Calls Tryd.prog 98 #[.string ⟨seed.toArray⟩] w fun e w' => e = .returned (.tuple #[.string ⟨(publicL seed).toArray⟩, .bool true]) ∧ Below w.heap.size w w' := by
  obtain ⟨i0, hi0, hz0, hz1, hz2⟩ := info_parts info9i
  have HT : Hid (Tab w) := hT
  have hs' : (seed.length : Int) = 32 := by omega
  have HP : Hid (publicL seed = tagL tOnce (endsL seed 19)) := rfl
  have HF : Hid ((endsL seed 19).flatten.length = 32 * 19) := by rw [Hid, flat32 _ (endsL_32 seed hs 19), endsL_length]
  obtain ⟨out, hout⟩ : ∃ out, out = publicL seed := ⟨_, rfl⟩
  rw [← hout] at HP ⊢
  clear hT hout
  go_enter Tryd.func98, Tryd.ntmps98
  go_wp2
  go_loopw [4, 9] (fun v i wr => ∃ j n cap : Nat, ∃ a : Option Addr, j ≤ 19 ∧ i = .int .i64 (j : Int) ∧ v = .slice a n cap ∧ wr.ownsRow w.heap.size 9 1 (.slice a n cap) j (scells (endsL seed j)) ∧ Below w.heap.size w wr) (fun _ i _ => 19 - (intOf i).toNat)
  case atStart => exact ⟨0, 0, 0, none, by omega, rfl, rfl, own_nil _ _ _, Below.refl _ _⟩
  case round =>
    obtain ⟨j, n, cap, a, hj, rfl, rfl, hown, hbel⟩ := hrel
    have hsz := hbel.size
    by_cases hlt : j < 19
    · have hlt' : (j : Int) < 19 := by omega
      have K1 := start_any seed j wr hs (by omega) (HT.out.later hbel)
      have K2 := fun W hW => climbed_any j 0 3 (startL seed j) W (by omega) (by omega) (by omega) (startL_len seed j hs) hW
      have HN : Hid (endsL seed (j + 1) = endsL seed j ++ [chainL j 0 (startL seed j) (3 - 0)]) := endsL_snoc seed j
      obtain ⟨y, hy⟩ : ∃ y, y = chainL j 0 (startL seed j) (3 - 0) := ⟨_, rfl⟩
      rw [← hy] at K2 HN
      obtain ⟨x, hx⟩ : ∃ x, x = startL seed j := ⟨_, rfl⟩
      rw [← hx] at K1 K2
      have HO := hidOwn hown
      have hlow := own_low hown
      clear hy hx hown
      go_wp2_with fail
      refine K1.mono ?_
      rintro e w1 ⟨rfl, b1⟩
      have B1 := hbel.trans (b1.mono hsz)
      have O1 := hidOwn (keptO HO.out b1)
      clear HO b1 hbel K1
      go_wp2_with fail
      refine (K2 _ (HT.out.later B1)).mono ?_
      rintro e w2 ⟨rfl, b2⟩
      have B2 := B1.trans (b2.mono B1.size)
      have hs2 := B2.size
      have hown2 := keptO O1.out b2
      clear O1 b2 B1 K2
      go_wp2_with (at_builtin; refine wpList_append_own _ rfl _ _ 29 rfl w.heap.size 9 i0 (.string ⟨#[]⟩) 1 16 Tryd.underlying29 hi0 hz0 hz1 hz2 rfl (by decide) (.slice a n cap) j _ rfl (hown2.alloc _) ⟨w2.heap.size, 0, none⟩ 1 1 [.string ⟨y.toArray⟩] rfl rfl (World.news_of_block (cs := #[.string ⟨y.toArray⟩]) (t := 9) (fr := (0, 0)) (heap_alloc_new w2 _)) (by simp [Value.oneCell']) (by unfold maxLen; omega) (by omega) (by simp; omega) ?_; intro v3 w3 hown3 hgrow3 hnil3)
      obtain ⟨a3, n3, cap3, rfl⟩ := own_slice hown3
      have B3 : Below w.heap.size w w3 := (B2.alloc hs2 _).grown hgrow3 (by simp; omega) hlow
      have HO3 : Hid (w3.ownsRow w.heap.size 9 1 (.slice a3 n3 cap3) (j + 1) (scells (endsL seed (j + 1)))) := by rw [Hid, HN.out, scells_snoc]; exact hown3
      clear hown3 hgrow3 hnil3 hown2 B2
      go_wp2
      go_roundw
      case rel => exact ⟨j + 1, n3, cap3, a3, by omega, by go_num, rfl, HO3.out, B3⟩
      case measure => simp [intOf]; omega
    · have hj19 : j = 19 := by omega
      subst hj19
      obtain ⟨rfl, g, rfl⟩ := own_some hown (by omega)
      have K := impl_tagged tOnce g cap (endsL seed 19) w.heap.size wr (by decide) (by rw [endsL_length, HF.out]; omega) (HT.out.later hbel) (by rw [endsL_length]; exact hown)
      rw [← HP.out, endsL_length] at K
      clear hown
      go_wp2_with fail
      refine K.mono ?_
      rintro e w1 ⟨rfl, b1⟩
      have B1 := hbel.trans (b1.mono hsz)
      go_wp2
      go_ret2
      exact ⟨rfl, B1⟩

set_option maxRecDepth 100000 in
theorem impl_public_no (seed : List UInt8) (w : World) (hl : seed.length ≤ 1048576) (hs : seed.length ≠ 32) :
    Calls Tryd.prog 98 #[.string ⟨seed.toArray⟩] w fun e w' => e = .returned (.tuple #[.string ⟨#[]⟩, .bool false]) ∧ w' = w := by
  have hs' : ¬ (seed.length : Int) = 32 := by omega
  go_enter Tryd.func98, Tryd.ntmps98
  go_wp2
  go_ret2
  exact ⟨rfl, rfl⟩

set_option maxRecDepth 100000 in
set_option maxHeartbeats 1000000 in
theorem impl_sign (seed msg : List UInt8) (w : World) (hs : seed.length = 32) (hl : msg.length ≤ 1048576) (hT : Tab w) :
    Calls Tryd.prog 89 #[.string ⟨seed.toArray⟩, .string ⟨msg.toArray⟩] w fun e w' => ∃ g cap : Nat, e = .returned (.tuple #[.slice (some ⟨g, 0, none⟩) 19 cap, .bool true]) ∧ w'.ownsRow w.heap.size 9 1 (.slice (some ⟨g, 0, none⟩) 19 cap) 19 (scells (sigL seed msg 19)) ∧ Below w.heap.size w w' := by
  obtain ⟨i0, hi0, hz0, hz1, hz2⟩ := info_parts info9i
  have HT : Hid (Tab w) := hT
  have hs' : (seed.length : Int) = 32 := by omega
  have H1 := impl_digits msg w hl hT
  have hdl := digitsL_len msg
  have HD3 : Hid (∀ j, (digitsL msg).getD j 0 ≤ 3) := digitsL_getD msg
  have HN : Hid (∀ j, sigL seed msg (j + 1) = sigL seed msg j ++ [chainL j 0 (startL seed j) ((digitsL msg).getD j 0)]) := sigL_snoc seed msg
  obtain ⟨ds, hds⟩ : ∃ ds, ds = digitsL msg := ⟨_, rfl⟩
  rw [← hds] at H1 hdl HD3 HN
  have HZ : Hid (sigL seed msg 0 = []) := rfl
  obtain ⟨sg, hsg⟩ : ∃ sg, sg = sigL seed msg := ⟨_, rfl⟩
  rw [← hsg] at HN HZ ⊢
  clear hT hds hsg
  go_enter Tryd.func89, Tryd.ntmps89
  go_wp2_with fail
  refine H1.mono ?_
  rintro e w1 ⟨gd, cd, rfl, od, b1⟩
  have hgd := own_lt od
  have hcd : ∀ j (h : j < ds.length), w1.cell? ⟨gd, j, none⟩ = some (.int .i64 ((ds.getD j 0 : Nat) : Int)) := fun j h => by rw [od.cellAt j (by omega), icells_at ds j h, List.getD_eq_getElem?_getD, List.getElem?_eq_getElem h]; rfl
  have hs1 := b1.size
  clear H1 od
  go_wp2
  go_loopw [6, 16] (fun v i wr => ∃ j n cap : Nat, ∃ a : Option Addr, j ≤ 19 ∧ i = .int .i64 (j : Int) ∧ v = .slice a n cap ∧ wr.ownsRow w1.heap.size 9 1 (.slice a n cap) j (scells (sg j)) ∧ Below w1.heap.size w1 wr) (fun _ i _ => 19 - (intOf i).toNat)
  case atStart => exact ⟨0, 0, 0, none, by omega, rfl, rfl, by rw [HZ.out]; exact own_nil _ _ _, Below.refl _ _⟩
  case round =>
    obtain ⟨j, n, cap, a, hj, rfl, rfl, hown, hbel⟩ := hrel
    have hsz := hbel.size
    have hbw := b1.trans (hbel.mono hs1)
    by_cases hlt : j < 19
    · have hlt' : (j : Int) < 19 := by omega
      have hj0 : (0 : Int) ≤ (j : Int) := by omega
      have c1 := (hbel.cell (p := ⟨gd, j, none⟩) hgd).trans (hcd j (by omega))
      have hd3 := HD3.out j
      have HNJ : Hid (sg (j + 1) = sg j ++ [chainL j 0 (startL seed j) (ds.getD j 0)]) := HN.out j
      obtain ⟨d, hd⟩ : ∃ d, d = ds.getD j 0 := ⟨_, rfl⟩
      rw [← hd] at c1 hd3 HNJ
      have K1 := start_any seed j wr hs (by omega) (HT.out.later hbw)
      have K2 := fun W hW => climbed_any j 0 d (startL seed j) W (by omega) (by omega) hd3 (startL_len seed j hs) hW
      rw [Nat.sub_zero] at K2
      obtain ⟨y, hy⟩ : ∃ y, y = chainL j 0 (startL seed j) d := ⟨_, rfl⟩
      rw [← hy] at K2 HNJ
      obtain ⟨x, hx⟩ : ∃ x, x = startL seed j := ⟨_, rfl⟩
      rw [← hx] at K1 K2
      have HO := hidOwn hown
      have hlow := own_low hown
      clear hy hx hown hcd hd
      go_wp2_with fail
      refine K1.mono ?_
      rintro e w2 ⟨rfl, b2⟩
      have B2 := hbel.trans (b2.mono hsz)
      have O2 := hidOwn (keptO HO.out b2)
      clear HO b2 hbel K1 c1
      go_wp2_with fail
      refine (K2 _ (HT.out.later (b1.trans (B2.mono hs1)))).mono ?_
      rintro e w3 ⟨rfl, b3⟩
      have B3 := B2.trans (b3.mono B2.size)
      have hs3 := B3.size
      have hown3 := keptO O2.out b3
      clear O2 b3 B2 K2
      go_wp2_with (at_builtin; refine wpList_append_own _ rfl _ _ 29 rfl w1.heap.size 9 i0 (.string ⟨#[]⟩) 1 16 Tryd.underlying29 hi0 hz0 hz1 hz2 rfl (by decide) (.slice a n cap) j _ rfl (hown3.alloc _) ⟨w3.heap.size, 0, none⟩ 1 1 [.string ⟨y.toArray⟩] rfl rfl (World.news_of_block (cs := #[.string ⟨y.toArray⟩]) (t := 9) (fr := (0, 0)) (heap_alloc_new w3 _)) (by simp [Value.oneCell']) (by unfold maxLen; omega) (by omega) (by simp; omega) ?_; intro v4 w4 hown4 hgrow4 hnil4)
      obtain ⟨a4, n4, cap4, rfl⟩ := own_slice hown4
      have B4 : Below w1.heap.size w1 w4 := (B3.alloc hs3 _).grown hgrow4 (by simp; omega) hlow
      have HO4 : Hid (w4.ownsRow w1.heap.size 9 1 (.slice a4 n4 cap4) (j + 1) (scells (sg (j + 1)))) := by rw [Hid, HNJ.out, scells_snoc]; exact hown4
      clear hown4 hgrow4 hnil4 hown3 B3
      go_wp2
      go_roundw
      case rel => exact ⟨j + 1, n4, cap4, a4, by omega, by go_num, rfl, HO4.out, B4⟩
      case measure => simp [intOf]; omega
    · have hj19 : j = 19 := by omega
      subst hj19
      obtain ⟨rfl, g, rfl⟩ := own_some hown (by omega)
      have HO := hidOwn (hown.mono hs1)
      clear hown hcd
      go_wp2
      go_ret2
      exact ⟨g, cap, rfl, HO.out, hbw⟩

set_option maxRecDepth 100000 in
theorem impl_sign_no (seed msg : List UInt8) (w : World) (hl : seed.length ≤ 1048576) (hs : seed.length ≠ 32) :
    Calls Tryd.prog 89 #[.string ⟨seed.toArray⟩, .string ⟨msg.toArray⟩] w fun e w' => e = .returned (.tuple #[.slice none 0 0, .bool false]) ∧ w' = w := by
  have hs' : ¬ (seed.length : Int) = 32 := by omega
  go_enter Tryd.func89, Tryd.ntmps89
  go_wp2
  go_ret2
  exact ⟨rfl, rfl⟩
end Go.Proofs.YtajckopldkmcnaaDoor
