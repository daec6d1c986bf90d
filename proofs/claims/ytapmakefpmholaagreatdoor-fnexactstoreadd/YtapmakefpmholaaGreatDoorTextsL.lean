/-
  Contracts: the texts of a list of texts, of the program and of the model.
-/
import Derived.Test.YtapmakefpmholaaGreatDoorMathTs
import Derived.Test.YtapmakefpmholaaGreatDoorIItems2
import Derived.Test.YtapmakefpmholaaGreatDoorSItems
import Derived.Test.YtapmakefpmholaaGreatDoorIListAll
namespace Go.Proofs.YtapmakefpmholaaGreatDoor
open Go.RowKit
set_option linter.unusedVariables false

/-- What is told of texts. -/
def TextsPost (w : World) (o : Option (List (List UInt8))) (e : Ending) (w' : World) : Prop := match o with
  | none => e = .returned (.tuple #[.slice none 0 0, .bool false]) ∧ Below w.heap.size w w'
  | some ts => ∃ (a : Option Addr) (c : Nat), e = .returned (.tuple #[.slice a ts.length c, .bool true]) ∧ w'.ownsRow w.heap.size 9 1 (.slice a ts.length c) ts.length (scells ts) ∧ Below w.heap.size w w' ∧ ts.length ≤ c

theorem own_cap2 {w : World} {base e n : Nat} {a : Option Addr} {m c : Nat} {xs : List Value} (h : w.ownsRow base e 1 (.slice a m c) n xs) : m = n ∧ n ≤ c := by
  rcases h.2 with ⟨h', h0⟩ | ⟨g, cap', cur, h', hb, hg, hc, _⟩
  · cases h'; omega
  · cases h'; exact ⟨rfl, hc⟩

set_option maxRecDepth 100000 in
set_option maxHeartbeats 1000000 in
theorem impl_texts (s : List UInt8) (w : World) (hl : s.length ≤ 1048576) :
    Calls Tryz.prog 48 #[.string ⟨s.toArray⟩] w fun e w' => TextsPost w (textsL s) e w' := by
  obtain ⟨i0, hi0, hz0, hz1, hz2⟩ := info_parts info9i
  have K := impl_items s w hl
  cases hi : itemsL s with
  | none =>
    have e1 : textsL s = none := by simp only [textsL, hi]
    rw [e1]
    rw [hi] at K
    clear hi e1
    go_enter Tryz.func48, Tryz.ntmps48
    go_wp2_with fail
    refine K.mono ?_
    rintro e w1 ⟨rfl, b1⟩
    go_wp2
    go_ret2
    exact ⟨rfl, b1⟩
  | some ls =>
    have hil := items_len s ls hi
    have e1 : textsL s = textsF ls := by simp only [textsL, hi]
    rw [e1]
    rw [hi] at K
    have hml : ∀ j (h : j < ls.length), ls[j].length ≤ 1048576 := fun j h => by have := each_le ls j h; omega
    obtain ⟨o, ho⟩ : ∃ o, o = textsF ls := ⟨_, rfl⟩
    have HO : Hid (o = textsF ls) := ho
    rw [← ho]
    clear hi e1 ho hil
    go_enter Tryz.func48, Tryz.ntmps48
    go_wp2_with fail
    refine K.mono ?_
    rintro e w1 ⟨v, rfl, o1, b1, hn⟩
    obtain ⟨a1, m1, c1, rfl⟩ := own_slice o1
    obtain ⟨rfl, _, is1⟩ := strs_own o1
    have hs1 := b1.size
    clear K o1
    go_wp2
    go_loopw [6, 8, 9, 10, 11, 12, 22] (fun v _ _ _ _ _ i wr => ∃ j c2 : Nat, ∃ a2 : Option Addr, ∃ ts : List (List UInt8), j ≤ ls.length ∧ i = .int .i64 (j : Int) ∧ v = .slice a2 j c2 ∧ Hid (textsF (ls.take j) = some ts) ∧ wr.ownsRow w1.heap.size 9 1 (.slice a2 j c2) j (scells ts) ∧ Below w1.heap.size w1 wr) (fun _ _ _ _ _ _ i _ => ls.length - (intOf i).toNat)
    case atStart => exact ⟨0, 0, none, [], Nat.zero_le _, rfl, rfl, by rw [Hid]; rfl, World.ownsRow_nil _ _ _ _, Below.refl _ _⟩
    case round =>
      obtain ⟨j, c2, a2, ts, hj, rfl, rfl, HT, hown, hbel⟩ := hrel
      have hsz := hbel.size
      have hwb : Below w.heap.size w wr := b1.trans (hbel.mono hs1)
      by_cases hlt : j < ls.length
      · obtain ⟨g, of, hg, hc1⟩ : ∃ g of, a1 = some ⟨g, of, none⟩ ∧ wr.cell? ⟨g, of + j, none⟩ = some (.string ⟨ls[j].toArray⟩) := by
          rcases strs_later is1 hbel with h | ⟨g, of, h, hc⟩
          · rw [h] at hlt; simp at hlt
          · exact ⟨g, of, h, hc j hlt⟩
        subst hg
        have hxl := hml j hlt
        have HN : Hid (textOf ls[j] = none → textsF ls = none) := fun h => textsF_none ls j hlt h
        have HS : Hid (∀ t, textOf ls[j] = some t → textsF (ls.take (j + 1)) = some (ts ++ [t])) := fun t h => textsF_take ls j hlt t ts HT.out h
        have hj0 : (0 : Int) ≤ (j : Int) := by omega
        have hj1 : (j : Int) < (ls.length : Int) := by omega
        have hlow : ∀ k, (Value.slice a2 j c2).ownBlock = some k → w1.heap.size ≤ k := fun k hk => (hown.lt k hk).1
        obtain ⟨x, hx⟩ : ∃ x, x = ls[j] := ⟨_, rfl⟩
        rw [← hx] at hc1 hxl HN HS
        have H1 := fun W => impl_take x W hxl
        have HW : Hid (wr.ownsRow w1.heap.size 9 1 (.slice a2 j c2) j (scells ts)) := hown
        clear hx hown hml
        cases ht : takeL x with
        | none =>
          rw [ht] at H1
          have HZ : Hid (o = none) := by rw [Hid, HO.out]; exact HN.out (textOf_none x ht)
          clear ht
          go_wp2_with fail
          refine (H1 _).mono ?_
          rintro e w2 ⟨rfl, b2⟩
          have B2 := hwb.trans (b2.mono hwb.size)
          simp only [tkV]
          go_wp2
          go_ret2
          rw [HZ.out]
          exact ⟨rfl, B2⟩
        | some q =>
          obtain ⟨kd, bd, rest⟩ := q
          rw [ht] at H1
          rcases takeL_kind x kd bd rest ht with rfl | rfl
          · have HSS : Hid (textsF (ls.take (j + 1)) = some (ts ++ [bd])) := HS.out bd (textOf_some x bd rest ht)
            clear ht
            go_wp2_with fail
            refine (H1 _).mono ?_
            rintro e w2 ⟨rfl, b2⟩
            have hown2 := keptX HW.out b2
            have hbel2 := hbel.trans (b2.mono hsz)
            have hsz2 := hbel2.size
            simp only [tkV]
            clear HW b2 H1 hbel
            go_wp2_with (at_builtin; refine wpList_append_lies _ rfl _ _ 31 rfl w1.heap.size 9 i0 (.string ⟨#[]⟩) 1 16 Tryz.underlying31 hi0 hz0 hz1 hz2 rfl (by decide) (.slice a2 j c2) j _ rfl (hown2.alloc _) ⟨w2.heap.size, 0, none⟩ 1 1 [.string ⟨bd.toArray⟩] rfl rfl (World.news_of_block (cs := #[.string ⟨bd.toArray⟩]) (t := 9) (fr := (0, 0)) (heap_alloc_new w2 _)) (by simp [Value.oneCell']) (by omega) (by unfold maxLen; omega) (by omega) (by simp; omega) (w2.heap.size + 1) (by simp) ?_; intro g2 cap2 w3 hown3 hgrow hat hlt3)
            have hbel3 : Below w1.heap.size w1 w3 := (hbel2.alloc hsz2 _).grown hgrow (by simp; omega) hlow
            have HO3 : Hid (w3.ownsRow w1.heap.size 9 1 (.slice (some ⟨g2, 0, none⟩) (j + 1) cap2) (j + 1) (scells (ts ++ [bd]))) := by rw [Hid, scells_snoc]; exact hown3
            clear hgrow hown3 hown2 hbel2
            go_roundw
            case rel => exact ⟨j + 1, cap2, some ⟨g2, 0, none⟩, ts ++ [bd], by omega, by go_num, rfl, HSS.out, HO3.out, hbel3⟩
            case measure => simp [intOf]; omega
          · have HZ : Hid (o = none) := by rw [Hid, HO.out]; exact HN.out (textOf_list x bd rest ht)
            clear ht
            go_wp2_with fail
            refine (H1 _).mono ?_
            rintro e w2 ⟨rfl, b2⟩
            have B2 := hwb.trans (b2.mono hwb.size)
            simp only [tkV]
            go_wp2
            go_ret2
            rw [HZ.out]
            exact ⟨rfl, B2⟩
      · have hjl : j = ls.length := by omega
        subst hjl
        have HZ : Hid (o = some ts ∧ ts.length = ls.length) := by
          have h1 := HT.out
          rw [List.take_length] at h1
          exact ⟨by rw [HO.out, h1], (textsF_each ls ts h1).1⟩
        have HW : Hid (wr.ownsRow w1.heap.size 9 1 (.slice a2 ls.length c2) ls.length (scells ts)) := hown
        clear hown is1 hml
        go_wp2
        go_ret2
        rw [HZ.out.1]
        have hw2 := HW.out.mono hs1
        rw [← HZ.out.2] at hw2
        exact ⟨a2, c2, by rw [HZ.out.2]; rfl, hw2, hwb, (own_cap2 hw2).2⟩
set_option maxRecDepth 100000 in
set_option maxHeartbeats 1000000 in
theorem spec_texts (s : List UInt8) (w : World) (hl : s.length ≤ 1048576) :
    Calls Tryz.prog 42 #[.string ⟨s.toArray⟩] w fun e w' => TextsPost w (textsL s) e w' := by
  obtain ⟨i0, hi0, hz0, hz1, hz2⟩ := info_parts info9i
  have K := spec_items s w hl
  cases hi : itemsL s with
  | none =>
    have e1 : textsL s = none := by simp only [textsL, hi]
    rw [e1]
    rw [hi] at K
    clear hi e1
    go_enter Tryz.func42, Tryz.ntmps42
    go_wp2_with fail
    refine K.mono ?_
    rintro e w1 ⟨rfl, b1⟩
    go_wp2
    go_ret2
    exact ⟨rfl, b1⟩
  | some ls =>
    have hil := items_len s ls hi
    have e1 : textsL s = textsF ls := by simp only [textsL, hi]
    rw [e1]
    rw [hi] at K
    have hml : ∀ j (h : j < ls.length), ls[j].length ≤ 1048576 := fun j h => by have := each_le ls j h; omega
    obtain ⟨o, ho⟩ : ∃ o, o = textsF ls := ⟨_, rfl⟩
    have HO : Hid (o = textsF ls) := ho
    rw [← ho]
    clear hi e1 ho hil
    go_enter Tryz.func42, Tryz.ntmps42
    go_wp2_with fail
    refine K.mono ?_
    rintro e w1 ⟨v, rfl, o1, b1, hn⟩
    obtain ⟨a1, m1, c1, rfl⟩ := own_slice o1
    obtain ⟨rfl, _, is1⟩ := strs_own o1
    have hs1 := b1.size
    clear K o1
    go_wp2
    go_loopw [6, 7, 8, 9, 10, 11] (fun v i _ _ _ _ wr => ∃ j c2 : Nat, ∃ a2 : Option Addr, ∃ ts : List (List UInt8), j ≤ ls.length ∧ i = .int .i64 (j : Int) ∧ v = .slice a2 j c2 ∧ Hid (textsF (ls.take j) = some ts) ∧ wr.ownsRow w1.heap.size 9 1 (.slice a2 j c2) j (scells ts) ∧ Below w1.heap.size w1 wr) (fun _ i _ _ _ _ _ => ls.length - (intOf i).toNat)
    case atStart => exact ⟨0, 0, some ⟨w1.heap.size, 0, none⟩, [], Nat.zero_le _, rfl, rfl, by rw [Hid]; rfl, World.ownsRow_lit (e := 9) (size := 1) w1 #[] 0 (base := w1.heap.size) (Nat.le_refl _) (Nat.zero_le _) rfl, (Below.refl _ _).alloc (Nat.le_refl _) _⟩
    case round =>
      obtain ⟨j, c2, a2, ts, hj, rfl, rfl, HT, hown, hbel⟩ := hrel
      have hsz := hbel.size
      have hwb : Below w.heap.size w wr := b1.trans (hbel.mono hs1)
      by_cases hlt : j < ls.length
      · obtain ⟨g, of, hg, hc1⟩ : ∃ g of, a1 = some ⟨g, of, none⟩ ∧ wr.cell? ⟨g, of + j, none⟩ = some (.string ⟨ls[j].toArray⟩) := by
          rcases strs_later is1 hbel with h | ⟨g, of, h, hc⟩
          · rw [h] at hlt; simp at hlt
          · exact ⟨g, of, h, hc j hlt⟩
        subst hg
        have hxl := hml j hlt
        have HN : Hid (textOf ls[j] = none → textsF ls = none) := fun h => textsF_none ls j hlt h
        have HS : Hid (∀ t, textOf ls[j] = some t → textsF (ls.take (j + 1)) = some (ts ++ [t])) := fun t h => textsF_take ls j hlt t ts HT.out h
        have hj0 : (0 : Int) ≤ (j : Int) := by omega
        have hj1 : (j : Int) < (ls.length : Int) := by omega
        have hlow : ∀ k, (Value.slice a2 j c2).ownBlock = some k → w1.heap.size ≤ k := fun k hk => (hown.lt k hk).1
        obtain ⟨x, hx⟩ : ∃ x, x = ls[j] := ⟨_, rfl⟩
        rw [← hx] at hc1 hxl HN HS
        have H1 := fun W => spec_take x W hxl
        have HW : Hid (wr.ownsRow w1.heap.size 9 1 (.slice a2 j c2) j (scells ts)) := hown
        clear hx hown hml
        cases ht : takeL x with
        | none =>
          rw [ht] at H1
          have HZ : Hid (o = none) := by rw [Hid, HO.out]; exact HN.out (textOf_none x ht)
          clear ht
          go_wp2_with fail
          refine (H1 _).mono ?_
          rintro e w2 ⟨rfl, b2⟩
          have B2 := hwb.trans (b2.mono hwb.size)
          simp only [tkV]
          go_wp2
          go_ret2
          rw [HZ.out]
          exact ⟨rfl, B2⟩
        | some q =>
          obtain ⟨kd, bd, rest⟩ := q
          rw [ht] at H1
          rcases takeL_kind x kd bd rest ht with rfl | rfl
          · have HSS : Hid (textsF (ls.take (j + 1)) = some (ts ++ [bd])) := HS.out bd (textOf_some x bd rest ht)
            clear ht
            go_wp2_with fail
            refine (H1 _).mono ?_
            rintro e w2 ⟨rfl, b2⟩
            have hown2 := keptX HW.out b2
            have hbel2 := hbel.trans (b2.mono hsz)
            have hsz2 := hbel2.size
            simp only [tkV]
            clear HW b2 H1 hbel
            go_wp2_with (at_builtin; refine wpList_append_lies _ rfl _ _ 31 rfl w1.heap.size 9 i0 (.string ⟨#[]⟩) 1 16 Tryz.underlying31 hi0 hz0 hz1 hz2 rfl (by decide) (.slice a2 j c2) j _ rfl (hown2.alloc _) ⟨w2.heap.size, 0, none⟩ 1 1 [.string ⟨bd.toArray⟩] rfl rfl (World.news_of_block (cs := #[.string ⟨bd.toArray⟩]) (t := 9) (fr := (0, 0)) (heap_alloc_new w2 _)) (by simp [Value.oneCell']) (by omega) (by unfold maxLen; omega) (by omega) (by simp; omega) (w2.heap.size + 1) (by simp) ?_; intro g2 cap2 w3 hown3 hgrow hat hlt3)
            have hbel3 : Below w1.heap.size w1 w3 := (hbel2.alloc hsz2 _).grown hgrow (by simp; omega) hlow
            have HO3 : Hid (w3.ownsRow w1.heap.size 9 1 (.slice (some ⟨g2, 0, none⟩) (j + 1) cap2) (j + 1) (scells (ts ++ [bd]))) := by rw [Hid, scells_snoc]; exact hown3
            clear hgrow hown3 hown2 hbel2
            go_roundw
            case rel => exact ⟨j + 1, cap2, some ⟨g2, 0, none⟩, ts ++ [bd], by omega, by go_num, rfl, HSS.out, HO3.out, hbel3⟩
            case measure => simp [intOf]; omega
          · have HZ : Hid (o = none) := by rw [Hid, HO.out]; exact HN.out (textOf_list x bd rest ht)
            clear ht
            go_wp2_with fail
            refine (H1 _).mono ?_
            rintro e w2 ⟨rfl, b2⟩
            have B2 := hwb.trans (b2.mono hwb.size)
            simp only [tkV]
            go_wp2
            go_ret2
            rw [HZ.out]
            exact ⟨rfl, B2⟩
      · have hjl : j = ls.length := by omega
        subst hjl
        have HZ : Hid (o = some ts ∧ ts.length = ls.length) := by
          have h1 := HT.out
          rw [List.take_length] at h1
          exact ⟨by rw [HO.out, h1], (textsF_each ls ts h1).1⟩
        have HW : Hid (wr.ownsRow w1.heap.size 9 1 (.slice a2 ls.length c2) ls.length (scells ts)) := hown
        clear hown is1 hml
        go_wp2
        go_ret2
        rw [HZ.out.1]
        have hw2 := HW.out.mono hs1
        rw [← HZ.out.2] at hw2
        exact ⟨a2, c2, by rw [HZ.out.2]; rfl, hw2, hwb, (own_cap2 hw2).2⟩
end Go.Proofs.YtapmakefpmholaaGreatDoor
