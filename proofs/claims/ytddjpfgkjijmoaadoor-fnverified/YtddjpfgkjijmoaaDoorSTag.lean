/-
  Contracts: the model's list of texts, and its Tagged.
-/
import Derived.Test.YtddjpfgkjijmoaaDoorMath2
import Derived.Test.YtddjpfgkjijmoaaDoorMathAll
import Derived.Test.YtddjpfgkjijmoaaDoorTxtC
import Derived.Test.YtddjpfgkjijmoaaDoorWrap
import Derived.Test.YtddjpfgkjijmoaaDoorSSum
namespace Go.Proofs.YtddjpfgkjijmoaaDoor
open Go.RowKit
set_option linter.unusedVariables false

theorem info9t : (Tryd.prog.info? 9).map (fun i => (i.zero, i.size, i.bytes)) = some (some (.string ⟨#[]⟩), 1, 16) := by kernel_rfl

theorem l1text_at (l : List UInt8) (w : World) (hl : l.length ≤ 60000) :
    Calls Tryd.prog 84 #[.string ⟨l.toArray⟩] w fun e w' => e = .returned (.string ⟨(textB l).toArray⟩) ∧ Below w.heap.size w w' := by
  have h := spec_l1Text ⟨l.toArray⟩ w (by simp [ByteArray.size]; omega)
  have e1 : (ByteArray.mk l.toArray).data.toList = l := by simp
  rw [e1] at h
  exact h

theorem l1wrap_at (l : List UInt8) (w : World) (hl : l.length ≤ 60000) :
    Calls Tryd.prog 85 #[.string ⟨l.toArray⟩, .int .i64 192] w fun e w' => e = .returned (.string ⟨(wrapB l 192).toArray⟩) ∧ Below w.heap.size w w' := by
  have h := spec_l1Wrap ⟨l.toArray⟩ 192 w (by simp [ByteArray.size]; omega) (by omega)
  have e1 : (ByteArray.mk l.toArray).data.toList = l := by simp
  rw [e1] at h
  exact h

theorem ba_join (a b : List UInt8) : ByteArray.mk a.toArray ++ ByteArray.mk b.toArray = ⟨(a ++ b).toArray⟩ := by
  apply ByteArray.ext
  simp

set_option maxRecDepth 100000 in
set_option maxHeartbeats 400000 in
theorem spec_l1List (g cap : Nat) (ls : List (List UInt8)) (b0 : Nat) (w : World) (hf : ls.flatten.length ≤ 30000) (hl : ls.length ≤ 1001) (hv : w.ownsRow b0 9 1 (.slice (some ⟨g, 0, none⟩) ls.length cap) ls.length (scells ls)) :
    Calls Tryd.prog 69 #[.slice (some ⟨g, 0, none⟩) ls.length cap] w fun e w' => e = .returned (.string ⟨(listB ls).toArray⟩) ∧ Below w.heap.size w w' := by
  have hgl := own_lt hv
  have hc : ∀ j (h : j < ls.length), w.cell? ⟨g, j, none⟩ = some (.string ⟨ls[j].toArray⟩) := fun j h => by rw [hv.cellAt j (by omega), scells_at ls j h]
  have HO : Hid (listB ls = wrapB (textsB ls) 192) := rfl
  have hlen := (listB_len ls hf hl).1
  obtain ⟨out, hout⟩ : ∃ out, out = listB ls := ⟨_, rfl⟩
  rw [← hout] at HO ⊢
  clear hv hout
  go_enter Tryd.func69, Tryd.ntmps69
  go_wp2
  go_loopw [3, 4] (fun v i wr => ∃ j : Nat, ∃ t : List UInt8, j ≤ ls.length ∧ i = .int .i64 (j : Int) ∧ v = .string ⟨t.toArray⟩ ∧ Hid (t = textsB (ls.take j)) ∧ t.length ≤ 33003 ∧ Below w.heap.size w wr) (fun _ i _ => ls.length - (intOf i).toNat)
  case atStart => exact ⟨0, [], Nat.zero_le _, rfl, rfl, rfl, by simp, Below.refl _ _⟩
  case round =>
    obtain ⟨j, t, hj, rfl, rfl, HT, ht6, hbel⟩ := hrel
    have hsz := hbel.size
    by_cases hlt : j < ls.length
    · have c1 := (hbel.cell (p := ⟨g, j, none⟩) hgl).trans (hc j hlt)
      have hxl := each_le ls j hlt
      have HF : Hid (textsB (ls.take (j + 1)) = t ++ textB ls[j]) := by rw [Hid, textsB_take ls j hlt, ← HT.out]
      have HTL : Hid ((textsB (ls.take (j + 1))).length ≤ 33003) := by rw [Hid]; have := textsB_part ls (j + 1) (by omega); omega
      have hj0 : (0 : Int) ≤ (j : Int) := by omega
      have hj1 : (j : Int) < (ls.length : Int) := by omega
      obtain ⟨x, hx⟩ : ∃ x, x = ls[j] := ⟨_, rfl⟩
      rw [← hx] at c1 hxl HF
      have H1 := fun W => l1text_at x W (by omega)
      obtain ⟨y, hy⟩ : ∃ y, y = textB x := ⟨_, rfl⟩
      rw [← hy] at H1 HF
      have happ := ba_join t y
      have hyl : y.length ≤ 33003 := by have h1 := HTL.out; rw [HF.out, List.length_append] at h1; omega
      have HTY : Hid ((t ++ y).length ≤ 33003) := by rw [Hid, ← HF.out]; exact HTL.out
      clear hc hx hy hxl HTL HT
      go_wp2_with fail
      refine (H1 _).mono ?_
      rintro e w1 ⟨rfl, hb1⟩
      have hbel2 := hbel.trans (hb1.mono hsz)
      clear H1 hb1 hbel c1
      go_wp2
      go_roundw
      case rel => exact ⟨j + 1, t ++ y, by omega, by go_num, by simp, HF.out.symm, HTY.out, hbel2⟩
      case measure => simp [intOf]; omega
    · have hjl : j = ls.length := by omega
      subst hjl
      have HR : Hid (out = wrapB t 192) := by
        have e1 := HT.out
        rw [List.take_length] at e1
        rw [Hid, HO.out, e1]
      have H1 := fun W => l1wrap_at t W (by omega)
      rw [← HR.out] at H1
      clear hc HT HR HO
      go_wp2_with fail
      refine (H1 _).mono ?_
      rintro e w1 ⟨rfl, hb1⟩
      go_wp2
      go_ret
      exact ⟨rfl, hbel.trans (hb1.mono hsz)⟩

set_option maxRecDepth 100000 in
set_option maxHeartbeats 1000000 in
theorem spec_tagged (tag : List UInt8) (g cap : Nat) (ls : List (List UInt8)) (b0 : Nat) (w : World) (htg : tag.length ≤ 1048576) (hl : ls.length + ls.flatten.length ≤ 1048576) (hv : w.ownsRow b0 9 1 (.slice (some ⟨g, 0, none⟩) ls.length cap) ls.length (scells ls)) :
    Calls Tryd.prog 44 #[.string ⟨tag.toArray⟩, .slice (some ⟨g, 0, none⟩) ls.length cap] w fun e w' => e = .returned (.string ⟨(tagL tag ls).toArray⟩) ∧ Below w.heap.size w w' := by
  obtain ⟨i0, hi0, hz0, hz1, hz2⟩ := info_parts info9t
  have hgl := own_lt hv
  have hc : ∀ j (h : j < ls.length), w.cell? ⟨g, j, none⟩ = some (.string ⟨ls[j].toArray⟩) := fun j h => by rw [hv.cellAt j (by omega), scells_at ls j h]
  have hln : ls.length ≤ 1048576 := by omega
  have hfn : ls.flatten.length ≤ 1048576 := by omega
  have HM := tagL_many tag ls
  have HLG := tagL_long tag ls
  have HY := tagL_yes tag ls
  obtain ⟨out, hout⟩ : ∃ out, out = tagL tag ls := ⟨_, rfl⟩
  rw [← hout] at HM HLG HY ⊢
  have HHM : Hid (1000 < ls.length → out = []) := HM
  have HHL : Hid (∀ j, 30000 < tag.length + (ls.take j).flatten.length → out = []) := HLG
  have HHY : Hid (ls.length ≤ 1000 → tag.length + ls.flatten.length ≤ 30000 → out = sumL (listB (tag :: ls))) := HY
  have HV := hidOwn hv
  clear hout hv hl HM HLG HY
  go_enter Tryd.func44, Tryd.ntmps44
  go_wp2
  go_loop [5, 6] (fun v i => ∃ j t : Nat, j ≤ ls.length ∧ i = .int .i64 (j : Int) ∧ v = .int .i64 (t : Int) ∧ Hid (t = tag.length + (ls.take j).flatten.length) ∧ t ≤ 2097152 ∧ (0 < j → t ≤ 30000)) (fun _ i => ls.length - (intOf i).toNat)
  case atStart => exact ⟨0, tag.length, Nat.zero_le _, rfl, rfl, by rw [Hid]; simp, by omega, by omega⟩
  case round =>
    obtain ⟨j, t, hj, rfl, rfl, HT, ht2, ht3⟩ := hrel
    by_cases hlt : j < ls.length
    · have c1 := hc j hlt
      have hxl := each_le ls j hlt
      have HF : Hid (tag.length + (ls.take (j + 1)).flatten.length = t + ls[j].length) := by rw [Hid, flat_snoc ls j hlt, List.length_append, HT.out]; omega
      have HG : 30000 < tag.length + (ls.take (j + 1)).flatten.length → out = [] := HHL.out (j + 1)
      have hj0 : (0 : Int) ≤ (j : Int) := by omega
      have hj1 : (j : Int) < (ls.length : Int) := by omega
      have HLE : Hid (tag.length + (ls.take (j + 1)).flatten.length ≤ 2097152) := by rw [Hid]; have := flat_le ls (j + 1); omega
      obtain ⟨x, hx⟩ : ∃ x, x = ls[j] := ⟨_, rfl⟩
      rw [← hx] at c1 hxl HF
      rw [HF.out] at HG HLE
      have HHG : Hid (30000 < t + x.length → out = []) := HG
      clear hc hx HG HT
      by_cases hbig : t + x.length ≤ 30000
      · have hbig' : (t : Int) + (x.length : Int) ≤ 30000 := by omega
        clear ht3
        go_wp2
        go_round
        case rel => exact ⟨j + 1, t + x.length, by omega, by go_num, by go_num, HF.out.symm, by omega, fun _ => hbig⟩
        case measure => simp [intOf]; omega
      · have hbig' : ¬ (t : Int) + (x.length : Int) ≤ 30000 := by omega
        have HZ : Hid (out = []) := HHG.out (by omega)
        clear ht3
        go_wp2
        go_ret
        exact ⟨by rw [HZ.out]; rfl, Below.refl _ _⟩
    · have hjl : j = ls.length := by omega
      subst hjl
      have HTT : Hid (t = tag.length + ls.flatten.length) := by have := HT.out; rw [List.take_length] at this; exact this
      clear ht3 HT hlt hj
      by_cases hbig : t ≤ 30000
      · have hbig' : (t : Int) ≤ 30000 := by omega
        by_cases hmany : ls.length ≤ 1000
        · have hmany' : (ls.length : Int) ≤ 1000 := by omega
          have HO : Hid (out = sumL (listB (tag :: ls))) := HHY.out hmany (by have := HTT.out; omega)
          have hnews : ∀ j u, (scells ls)[j]? = some u → (w.alloc (.cells #[.string ⟨tag.toArray⟩] 9)).cell? ((⟨g, 0, none⟩ : Addr).add j) = some u := fun j u hu => by
            have hj : j < ls.length := by have := (List.getElem?_eq_some_iff.1 hu).1; rw [scells_length] at this; exact this
            rw [add_none, (((Below.refl w.heap.size w).alloc (Nat.le_refl _) _).cell (p := ⟨g, j, none⟩) hgl), hc j hj, ← scells_at ls j hj]; exact hu
          have hone : ∀ u ∈ scells ls, u.oneCell' = true := fun u hu => by
            simp only [scells, List.mem_map] at hu
            obtain ⟨l, _, rfl⟩ := hu
            rfl
          clear hc HV HHM HHL HHY
          go_wp2_with (at_builtin; refine wpList_append_own _ rfl _ _ 28 rfl w.heap.size 9 i0 (.string ⟨#[]⟩) 1 16 Tryd.underlying28 hi0 hz0 hz1 hz2 rfl (by decide) (.slice (some ⟨w.heap.size, 0, none⟩) 1 1) 1 _ rfl (World.ownsRow_lit w #[_] 1 (Nat.le_refl _) (by decide) rfl) ⟨g, 0, none⟩ ls.length cap (scells ls) rfl (by rw [scells_length]; omega) hnews hone (by unfold maxLen; omega) (by omega) (by simp) ?_; intro v1 w1 hown1 hgrow1 hnil1)
          rcases own_cases hown1 with ⟨_, h0, _⟩ | ⟨g1, cap1, rfl, _, _, _, _⟩
          · omega
          have hB1 : Below w.heap.size w w1 := ((Below.refl _ _).alloc (Nat.le_refl _) _).grown hgrow1 (by simp) (fun k hk => by simp [Value.ownBlock] at hk; omega)
          have hs1 := hB1.size
          have hown2 : w1.ownsRow w.heap.size 9 1 (.slice (some ⟨g1, 0, none⟩) (tag :: ls).length cap1) (tag :: ls).length (scells (tag :: ls)) := by
            have e1 : 1 + ls.length = (tag :: ls).length := by simp; omega
            rw [e1] at hown1
            exact hown1
          have e1 : 1 + ls.length = (tag :: ls).length := by simp; omega
          have hfl : (tag :: ls).flatten.length ≤ 30000 := by rw [List.flatten_cons, List.length_append, ← HTT.out]; exact hbig
          have H1 := spec_l1List g1 cap1 (tag :: ls) w.heap.size w1 hfl (by simp; omega) hown2
          have H2 := fun W => spec_sum (listB (tag :: ls)) W (by have := (listB_len (tag :: ls) hfl (by simp; omega)).2; omega)
          rw [← HO.out] at H2
          rw [← e1] at H1
          obtain ⟨lb, hlb⟩ : ∃ lb, lb = listB (tag :: ls) := ⟨_, rfl⟩
          rw [← hlb] at H1 H2
          clear hown1 hown2 hgrow1 hnil1 hnews hone e1 hfl hlb HTT HO
          refine H1.mono ?_
          rintro e w2 ⟨rfl, hb2⟩
          have hB2 := hB1.trans (hb2.mono hs1)
          have hs2 := hB2.size
          clear H1 hb2 hB1
          go_wp2_with fail
          refine (H2 _).mono ?_
          rintro e w3 ⟨rfl, hb3⟩
          have hB3 := hB2.trans (hb3.mono hs2)
          clear H2 hb3 hB2
          go_wp2
          go_ret
          exact ⟨rfl, hB3⟩
        · have hmany' : ¬ (ls.length : Int) ≤ 1000 := by omega
          have HZ : Hid (out = []) := HHM.out (by omega)
          clear hc HV HHM HHL HHY
          go_wp2
          go_ret
          exact ⟨by rw [HZ.out]; rfl, Below.refl _ _⟩
      · have hbig' : ¬ (t : Int) ≤ 30000 := by omega
        have HZ : Hid (out = []) := HHL.out ls.length (by rw [List.take_length, ← HTT.out]; omega)
        clear hc HV HHM HHL HHY
        go_wp2
        go_ret
        exact ⟨by rw [HZ.out]; rfl, Below.refl _ _⟩
end Go.Proofs.YtddjpfgkjijmoaaDoor
