/-
  Contract: a drawn node, walked (written by mkdrawne.py).
-/
import Derived.Test.YtniclkhnccggpaaDrawNs
namespace Go.Proofs.Ytniclkhnccggpaa
open Go.RowKit
set_option linter.unusedVariables false

theorem kid_at {w : World} {B g c : Nat} {ls : List (List UInt8)} (h : w.ownsRow B 9 1 (.slice (some ⟨g, 0, none⟩) (ls ++ [[]]).length c) (ls ++ [[]]).length (scells (ls ++ [[]]))) : w.cell? ⟨g, ls.length, none⟩ = some (.string ⟨#[]⟩) ∧ w.frozen? ⟨g, ls.length, none⟩ = false := by
  rcases own_cases h with ⟨h0, _⟩ | ⟨g', cap', he, _, _, hc, hf⟩
  · simp at h0
  · cases he
    refine ⟨?_, hf _⟩
    rw [hc ls.length (by simp), scells_snoc, List.getElem?_append_right (by rw [scells_length]; exact Nat.le_refl _), scells_length]
    simp

set_option maxRecDepth 100000 in
set_option maxHeartbeats 4000000 in
theorem node_any (rd n cap : Nat) (a : Option Addr) (w : World) (hn : n ≤ 1048576) (h : Rd rd a n cap w) :
    Calls Try.prog 25 #[.pointer (some ⟨rd, 0, none⟩)] w fun e w' => ∃ (k : Int) (p : List UInt8) (ls : List (List UInt8)) (v : List UInt8) (a2 : Option Addr) (c2 : Nat), p.length ≤ 1048576 ∧ v.length ≤ 1048576 ∧ ls.length ≤ 17 ∧ (∀ l ∈ ls, l.length ≤ 1048576) ∧ e = .returned (.agg #[.int .i64 k, .string ⟨p.toArray⟩, .slice a2 ls.length c2, .string ⟨v.toArray⟩]) ∧ w'.ownsRow w.heap.size 9 1 (.slice a2 ls.length c2) ls.length (scells ls) ∧ Rd rd a n cap w' ∧ w.grownBy w' (some rd) := by
  obtain ⟨i0, hi0, hz0, hz1, hz2⟩ := info_parts info9i
  have hrd := h.lt
  have HCODE : Hid (∀ cb off, a = some ⟨cb, off, none⟩ → n ≠ 0 → cb < w.heap.size) := h.code
  have X0 : (w.alloc (.cells #[.int .i64 0, .string ⟨#[]⟩, .slice none 0 0, .string ⟨#[]⟩] 34)).heap[w.heap.size]? = some (.cells #[.int .i64 0, .string ⟨#[]⟩, .slice none 0 0, .string ⟨#[]⟩] 34 (0, 0)) := heap_alloc_new w _
  have G0 : w.grownBy (w.alloc (.cells #[.int .i64 0, .string ⟨#[]⟩, .slice none 0 0, .string ⟨#[]⟩] 34)) (some rd) := World.grownBy_alloc w _ _
  have K0 := below_any rd n cap 3 3 a (w.alloc (.cells #[.int .i64 0, .string ⟨#[]⟩, .slice none 0 0, .string ⟨#[]⟩] 34)) rfl (by omega) (by omega) hn (h.keptNone ((Below.refl _ _).alloc (Nat.le_refl _) _))
  clear h
  go_enter Try.func25, Try.ntmps25
  go_wp2_with fail
  refine K0.mono ?_
  rintro e w1 ⟨k0, hk0, rfl, hR1, hG1⟩
  have G1 : w.grownBy w1 (some rd) := G0.trans hG1
  have X1 : w1.heap[w.heap.size]? = some (.cells #[.int .i64 0, .string ⟨#[]⟩, .slice none 0 0, .string ⟨#[]⟩] 34 (0, 0)) := (hG1.block w.heap.size (by simp) (by simp; omega)).trans X0
  have K1 := nibbles_any rd n cap a w1 hn hR1
  clear K0 hR1 hG1 X0 G0
  go_wp2_with fail
  refine K1.mono ?_
  rintro e w2 ⟨p, hp, rfl, hR2, hG2⟩
  have G2 : Hid (w.grownBy w2 (some rd)) := G1.trans hG2
  have hlt1 : w.heap.size < w1.heap.size := lt_of_block X1
  have X2 : w2.heap[w.heap.size]? = some (.cells #[.int .i64 0, .string ⟨#[]⟩, .slice none 0 0, .string ⟨#[]⟩] 34 (0, 0)) := (hG2.block w.heap.size hlt1 (by simp; omega)).trans X1
  have hlt2 : w.heap.size < w2.heap.size := lt_of_block X2
  have R2 : Hid (Rd rd a n cap w2) := hR2
  clear K1 hR2 hG2 X1 G1 hlt1
  have hk3 : k0 = 0 ∨ k0 = 1 ∨ k0 = 2 := by omega
  rcases hk3 with rfl | rfl | rfl
  · have HN : Hid (Nd rd a n cap w w2.heap.size 1 p [] [] none 0 (w2.alloc (.cells #[.int .i64 1, .string ⟨p.toArray⟩, .slice none 0 0, .string ⟨#[]⟩] 34))) := ⟨heap_alloc_new w2 _, World.ownsRow_nil _ _ _ _, (Below.heap_alloc _ _ _ hlt2).trans X2, R2.out.keptNone ((Below.refl _ _).alloc (Nat.le_refl _) _), G2.out.trans (World.grownBy_alloc w2 _ _), hrd, hlt2, HCODE.out⟩
    obtain ⟨nb, hnb⟩ : ∃ nb, nb = w2.heap.size := ⟨_, rfl⟩
    have KV := valueE_any rd n cap a (w2.alloc (.cells #[.int .i64 1, .string ⟨p.toArray⟩, .slice none 0 0, .string ⟨#[]⟩] 34)) hn HN.out.R
    rw [← hnb] at HN
    go_wp2_with fail
    refine KV.mono ?_
    rintro e w3 ⟨v, hv, rfl, hR3, hG3⟩
    have H3 : Hid (Nd rd a n cap w nb 1 p [] [] none 0 w3) := HN.out.on hG3 hR3
    have H4 : Hid (Nd rd a n cap w nb 1 p [] v none 0 (w3.setCell ⟨nb, 3, none⟩ (.string ⟨v.toArray⟩))) := H3.out.val v
    have hne := HN.out.ln
    rw [← hnb]
    clear KV hR3 hG3 HN G2 X2 R2 hnb hlt2
    obtain ⟨t0, t1, t2, t3, tf⟩ := H3.out.cells
    obtain ⟨r0, r1, r2, r3, rf⟩ := H3.out.back
    have tf0 := tf 0
    have tf1 := tf 1
    have tf2 := tf 2
    have tf3 := tf 3
    have rf0 := rf 0
    have rf1 := rf 1
    have rf2 := rf 2
    have rf3 := rf 3
    clear tf rf
    have KT := below_any rd n cap 16 16 a (w3.setCell ⟨nb, 3, none⟩ (.string ⟨v.toArray⟩)) rfl (by omega) (by omega) hn H4.out.R
    go_wp2_with fail
    refine KT.mono ?_
    rintro e wu ⟨y, hy, rfl, hRu, hGu⟩
    have HU : Hid (Nd rd a n cap w nb 1 p ([] : List (List UInt8)) v none 0 wu) := H4.out.on hGu hRu
    clear KT hRu hGu
    by_cases y0 : y = 0
    · subst y0
      have KO := offE_any rd n cap a wu hn HU.out.R
      go_wp2_with fail
      refine KO.mono ?_
      rintro e wv ⟨z, rfl, hRv, hGv⟩
      have HV : Hid (Nd rd a n cap w nb 1 p ([] : List (List UInt8)) v none 0 wv) := HU.out.on hGv hRv
      have HV2 : Hid (Nd rd a n cap w nb z p ([] : List (List UInt8)) v none 0 (wv.setCell ⟨nb, 0, none⟩ (.int .i64 z))) := HV.out.kind z
      clear KO hRv hGv
      obtain ⟨t0, t1, t2, t3, tf⟩ := HV.out.cells
      obtain ⟨r0, r1, r2, r3, rf⟩ := HV.out.back
      have tf0 := tf 0
      have tf1 := tf 1
      have tf2 := tf 2
      have tf3 := tf 3
      have rf0 := rf 0
      have rf1 := rf 1
      have rf2 := rf 2
      have rf3 := rf 3
      clear tf rf
      go_wp2
      obtain ⟨F1, F2, F3, F4⟩ := HV2.out.fin _ rfl
      exact bodyPost_ret (v := .agg #[.int .i64 z, .string ⟨p.toArray⟩, .slice none ([] : List (List UInt8)).length 0, .string ⟨v.toArray⟩]) (results_cell_row rfl _ _ w.heap.size 34 _ (0, 0) _ rfl F1 Try.underlying34 rfl (by kernel_rfl)) rfl ⟨z, p, ([] : List (List UInt8)), v, none, 0, by omega, by omega, by simp, by simp, rfl, F2, F3, F4⟩
    · have y0' : ((y : Int) == 0) = false := by simp only [beq_eq_false_iff_ne, ne_eq]; omega
      by_cases y1 : y = 1
      · subst y1
        have HUd : Hid (Nd rd a n cap w nb 1 p ([] : List (List UInt8)) v none 0 wu.drew) := HU.out.below ⟨rfl, rfl, rfl, Nat.le_refl _, fun _ _ => rfl⟩
        have hll : ([] : List (List UInt8)).length ≤ 17 := by simp
        have KB := bytes_any rd n cap 3 3 a wu.drew rfl (by omega) (by omega) hn HUd.out.R
        obtain ⟨t0, t1, t2, t3, tf⟩ := HU.out.cells
        clear tf
        go_wp2_with fail
        go_region_law (first
          | (go_simp
             go_at_call 44
             refine KB.mono ?_
             rintro e wv ⟨z, hz, rfl, hRv, hGv⟩
             have HV : Hid (Nd rd a n cap w nb 1 p ([] : List (List UInt8)) v none 0 wv) := HUd.out.on hGv hRv
             have HA : Hid (Nd rd a n cap w nb 1 p ([] : List (List UInt8)) v none 0 (wv.alloc (.cells #[.string ⟨z.toArray⟩] 9))) := HV.out.below ((Below.refl _ _).alloc (Nat.le_refl _) _)
             have OA : Hid ((wv.alloc (.cells #[.string ⟨z.toArray⟩] 9)).ownsRow (nb + 1) 9 1 (.slice none ([] : List (List UInt8)).length 0) ([] : List (List UInt8)).length (scells ([] : List (List UInt8)))) := HA.out.O
             have NA : Hid (∀ q u, [Value.string ⟨z.toArray⟩][q]? = some u → (wv.alloc (.cells #[.string ⟨z.toArray⟩] 9)).cell? ((⟨wv.heap.size, 0, none⟩ : Addr).add q) = some u) := World.news_of_block (cs := #[.string ⟨z.toArray⟩]) (t := 9) (fr := (0, 0)) (heap_alloc_new wv _)
             have lv := lt_of_block HV.out.X
             have ZA : Hid (nb + 1 ≤ (wv.alloc (.cells #[.string ⟨z.toArray⟩] 9)).heap.size) := by rw [Hid]; simp; omega
             obtain ⟨v0, v1, v2, v3, vf⟩ := HV.out.cells
             clear hRv hGv vf)
          | (refine step_append_lies _ rfl (.tmp 59) (.tmp 62) 22 rfl (nb + 1) 9 i0 (.string ⟨#[]⟩) 1 16 Try.underlying22 hi0 hz0 hz1 hz2 rfl (by decide) (.slice none ([] : List (List UInt8)).length 0) ([] : List (List UInt8)).length (scells ([] : List (List UInt8))) (by simp [Act.eval]) OA.out ⟨wv.heap.size, 0, none⟩ 1 1 [.string ⟨z.toArray⟩] (by simp [Act.eval]) rfl NA.out (by simp [Value.oneCell']) (by decide) (by unfold maxLen; omega) (by omega) ZA.out _ rfl ?_
             intro g2 cap2 w9 hown9 hgrow hat hlt9
             have X9 := HA.out.held hgrow
             obtain ⟨u0, u1, u2, u3, uf⟩ := nd_cells X9
             have uf2 := uf 2
             have Y9 := HA.out.heldY hgrow
             obtain ⟨q0, q1, q2, q3, qf⟩ := nd_cells Y9
             have qf0 := qf 0
             have qf1 := qf 1
             have qf2 := qf 2
             have qf3 := qf 3
             have H9 : Hid (Nd rd a n cap w nb 1 p (([] : List (List UInt8)) ++ [z]) v (some ⟨g2, 0, none⟩) cap2 (w9.setCell ⟨nb, 2, none⟩ (.slice (some ⟨g2, 0, none⟩) (([] : List (List UInt8)).length + 1) cap2))) := (by
               have hO : w9.ownsRow (nb + 1) 9 1 (.slice (some ⟨g2, 0, none⟩) (([] : List (List UInt8)) ++ [z]).length cap2) (([] : List (List UInt8)) ++ [z]).length (scells (([] : List (List UInt8)) ++ [z])) := by rw [scells_snoc, List.length_append]; exact hown9
               have q := HA.out.kids hgrow hO
               rw [List.length_append] at q
               exact q)
             clear hown9 hgrow hat hlt9 uf qf X9 Y9))
        all_goals
          go_wp2
          obtain ⟨F1, F2, F3, F4⟩ := H9.out.fin _ rfl
          have hlen : (([] : List (List UInt8)) ++ [z]).length = ([] : List (List UInt8)).length + 1 := List.length_append
          have hmz : ∀ l ∈ ([] : List (List UInt8)) ++ [z], l.length ≤ 1048576 := fun l hl => by
            rcases List.mem_append.1 hl with h1 | h1
            · exact (by simp : ∀ l ∈ ([] : List (List UInt8)), l.length ≤ 1048576) l h1
            · simp at h1; rw [h1]; omega
          rw [hlen] at F1 F2 F3 F4
          exact bodyPost_ret (v := .agg #[.int .i64 1, .string ⟨p.toArray⟩, .slice (some ⟨g2, 0, none⟩) (([] : List (List UInt8)).length + 1) cap2, .string ⟨v.toArray⟩]) (results_cell_row rfl _ _ w.heap.size 34 _ (0, 0) _ rfl F1 Try.underlying34 rfl (by kernel_rfl)) rfl ⟨1, p, ([] : List (List UInt8)) ++ [z], v, some ⟨g2, 0, none⟩, cap2, by omega, by omega, by rw [hlen]; simp, hmz, by rw [hlen], by rw [hlen]; exact F2, F3, F4⟩
      · have y1' : ((y : Int) == 1) = false := by simp only [beq_eq_false_iff_ne, ne_eq]; omega
        by_cases y2 : y = 2
        · subst y2
          have KO := bytes_any rd n cap 3 3 a wu rfl (by omega) (by omega) hn HU.out.R
          go_wp2_with fail
          refine KO.mono ?_
          rintro e wv ⟨z, hz, rfl, hRv, hGv⟩
          have HV : Hid (Nd rd a n cap w nb 1 p ([] : List (List UInt8)) v none 0 wv) := HU.out.on hGv hRv
          have HV2 : Hid (Nd rd a n cap w nb 1 p ([] : List (List UInt8)) z none 0 (wv.setCell ⟨nb, 3, none⟩ (.string ⟨z.toArray⟩))) := HV.out.val z
          clear KO hRv hGv
          obtain ⟨t0, t1, t2, t3, tf⟩ := HV.out.cells
          obtain ⟨r0, r1, r2, r3, rf⟩ := HV.out.back
          have tf0 := tf 0
          have tf1 := tf 1
          have tf2 := tf 2
          have tf3 := tf 3
          have rf0 := rf 0
          have rf1 := rf 1
          have rf2 := rf 2
          have rf3 := rf 3
          clear tf rf
          go_wp2
          obtain ⟨F1, F2, F3, F4⟩ := HV2.out.fin _ rfl
          exact bodyPost_ret (v := .agg #[.int .i64 1, .string ⟨p.toArray⟩, .slice none ([] : List (List UInt8)).length 0, .string ⟨z.toArray⟩]) (results_cell_row rfl _ _ w.heap.size 34 _ (0, 0) _ rfl F1 Try.underlying34 rfl (by kernel_rfl)) rfl ⟨1, p, ([] : List (List UInt8)), z, none, 0, by omega, by omega, by simp, by simp, rfl, F2, F3, F4⟩
        · have y2' : ((y : Int) == 2) = false := by simp only [beq_eq_false_iff_ne, ne_eq]; omega
          obtain ⟨t0, t1, t2, t3, tf⟩ := HU.out.cells
          obtain ⟨r0, r1, r2, r3, rf⟩ := HU.out.back
          have tf0 := tf 0
          have tf1 := tf 1
          have tf2 := tf 2
          have tf3 := tf 3
          have rf0 := rf 0
          have rf1 := rf 1
          have rf2 := rf 2
          have rf3 := rf 3
          clear tf rf
          go_wp2
          obtain ⟨F1, F2, F3, F4⟩ := HU.out.fin _ rfl
          exact bodyPost_ret (v := .agg #[.int .i64 1, .string ⟨p.toArray⟩, .slice none ([] : List (List UInt8)).length 0, .string ⟨v.toArray⟩]) (results_cell_row rfl _ _ w.heap.size 34 _ (0, 0) _ rfl F1 Try.underlying34 rfl (by kernel_rfl)) rfl ⟨1, p, ([] : List (List UInt8)), v, none, 0, by omega, by omega, by simp, by simp, rfl, F2, F3, F4⟩
  · have HN : Hid (Nd rd a n cap w w2.heap.size 2 p [] [] none 0 (w2.alloc (.cells #[.int .i64 2, .string ⟨p.toArray⟩, .slice none 0 0, .string ⟨#[]⟩] 34))) := ⟨heap_alloc_new w2 _, World.ownsRow_nil _ _ _ _, (Below.heap_alloc _ _ _ hlt2).trans X2, R2.out.keptNone ((Below.refl _ _).alloc (Nat.le_refl _) _), G2.out.trans (World.grownBy_alloc w2 _ _), hrd, hlt2, HCODE.out⟩
    obtain ⟨nb, hnb⟩ : ∃ nb, nb = w2.heap.size := ⟨_, rfl⟩
    have KV := text_any rd n cap a (w2.alloc (.cells #[.int .i64 2, .string ⟨p.toArray⟩, .slice none 0 0, .string ⟨#[]⟩] 34)) hn HN.out.R
    rw [← hnb] at HN
    go_wp2_with fail
    refine KV.mono ?_
    rintro e w3 ⟨t, ht, rfl, hR3, hG3⟩
    have H3 : Hid (Nd rd a n cap w nb 2 p [] [] none 0 w3) := HN.out.on hG3 hR3
    have hne := HN.out.ln
    rw [← hnb]
    clear KV hR3 hG3 HN G2 X2 R2 hnb hlt2
    have KS := spec_sum t w3 (by omega)
    have hsl := sumL_len t
    obtain ⟨sx, hsx⟩ : ∃ sx, sx = sumL t := ⟨_, rfl⟩
    rw [← hsx] at KS hsl
    clear hsx
    go_wp2_with fail
    refine KS.mono ?_
    rintro e w4 ⟨rfl, b4⟩
    have H4 : Hid (Nd rd a n cap w nb 2 p [] [] none 0 w4) := H3.out.below b4
    have ln4 := lt_of_block H4.out.X
    have H5 : Hid (Nd rd a n cap w nb 2 p [sx] [] (some ⟨w4.heap.size, 0, none⟩) 1 ((w4.setCell ⟨nb, 2, none⟩ (.slice (some ⟨w4.heap.size, 0, none⟩) 1 1)).alloc (.cells #[.string ⟨sx.toArray⟩] 9))) := by
      have hO : (w4.alloc (.cells #[.string ⟨sx.toArray⟩] 9)).ownsRow (nb + 1) 9 1 (.slice (some ⟨w4.heap.size, 0, none⟩) [sx].length 1) [sx].length (scells [sx]) := World.ownsRow_lit w4 #[.string ⟨sx.toArray⟩] 1 (base := nb + 1) (by omega) (by decide) rfl
      have q := H4.out.kids (ms := [sx]) (World.grownBy_alloc w4 _ _) hO
      rw [World.setCell_alloc_past _ _ _ _ ln4] at q
      exact q
    have X4 : (w4.alloc (.cells #[.string ⟨sx.toArray⟩] 9)).heap[nb]? = _ := H4.out.held (World.grownBy_alloc w4 _ _)
    obtain ⟨t0, t1, t2, t3, tf⟩ := nd_cells X4
    have tf2 := tf 2
    clear KS b4 H3 H4 X4 tf
    have KT := below_any rd n cap 16 16 a ((w4.setCell ⟨nb, 2, none⟩ (.slice (some ⟨w4.heap.size, 0, none⟩) 1 1)).alloc (.cells #[.string ⟨sx.toArray⟩] 9)) rfl (by omega) (by omega) hn H5.out.R
    go_wp2_with fail
    refine KT.mono ?_
    rintro e wu ⟨y, hy, rfl, hRu, hGu⟩
    have HU : Hid (Nd rd a n cap w nb 2 p [sx] ([] : List UInt8) (some ⟨w4.heap.size, 0, none⟩) 1 wu) := H5.out.on hGu hRu
    clear KT hRu hGu
    by_cases y0 : y = 0
    · subst y0
      have KO := offE_any rd n cap a wu hn HU.out.R
      go_wp2_with fail
      refine KO.mono ?_
      rintro e wv ⟨z, rfl, hRv, hGv⟩
      have HV : Hid (Nd rd a n cap w nb 2 p [sx] ([] : List UInt8) (some ⟨w4.heap.size, 0, none⟩) 1 wv) := HU.out.on hGv hRv
      have HV2 : Hid (Nd rd a n cap w nb z p [sx] ([] : List UInt8) (some ⟨w4.heap.size, 0, none⟩) 1 (wv.setCell ⟨nb, 0, none⟩ (.int .i64 z))) := HV.out.kind z
      clear KO hRv hGv
      obtain ⟨t0, t1, t2, t3, tf⟩ := HV.out.cells
      obtain ⟨r0, r1, r2, r3, rf⟩ := HV.out.back
      have tf0 := tf 0
      have tf1 := tf 1
      have tf2 := tf 2
      have tf3 := tf 3
      have rf0 := rf 0
      have rf1 := rf 1
      have rf2 := rf 2
      have rf3 := rf 3
      clear tf rf
      go_wp2
      obtain ⟨F1, F2, F3, F4⟩ := HV2.out.fin _ rfl
      exact bodyPost_ret (v := .agg #[.int .i64 z, .string ⟨p.toArray⟩, .slice (some ⟨w4.heap.size, 0, none⟩) [sx].length 1, .string ⟨([] : List UInt8).toArray⟩]) (results_cell_row rfl _ _ w.heap.size 34 _ (0, 0) _ rfl F1 Try.underlying34 rfl (by kernel_rfl)) rfl ⟨z, p, [sx], ([] : List UInt8), (some ⟨w4.heap.size, 0, none⟩), 1, by omega, by simp, by simp, by simp; omega, rfl, F2, F3, F4⟩
    · have y0' : ((y : Int) == 0) = false := by simp only [beq_eq_false_iff_ne, ne_eq]; omega
      by_cases y1 : y = 1
      · subst y1
        have HUd : Hid (Nd rd a n cap w nb 2 p [sx] ([] : List UInt8) (some ⟨w4.heap.size, 0, none⟩) 1 wu.drew) := HU.out.below ⟨rfl, rfl, rfl, Nat.le_refl _, fun _ _ => rfl⟩
        have hll : [sx].length ≤ 17 := by simp
        have KB := bytes_any rd n cap 3 3 a wu.drew rfl (by omega) (by omega) hn HUd.out.R
        obtain ⟨t0, t1, t2, t3, tf⟩ := HU.out.cells
        clear tf
        go_wp2_with fail
        go_region_law (first
          | (go_simp
             go_at_call 44
             refine KB.mono ?_
             rintro e wv ⟨z, hz, rfl, hRv, hGv⟩
             have HV : Hid (Nd rd a n cap w nb 2 p [sx] ([] : List UInt8) (some ⟨w4.heap.size, 0, none⟩) 1 wv) := HUd.out.on hGv hRv
             have HA : Hid (Nd rd a n cap w nb 2 p [sx] ([] : List UInt8) (some ⟨w4.heap.size, 0, none⟩) 1 (wv.alloc (.cells #[.string ⟨z.toArray⟩] 9))) := HV.out.below ((Below.refl _ _).alloc (Nat.le_refl _) _)
             have OA : Hid ((wv.alloc (.cells #[.string ⟨z.toArray⟩] 9)).ownsRow (nb + 1) 9 1 (.slice (some ⟨w4.heap.size, 0, none⟩) [sx].length 1) [sx].length (scells [sx])) := HA.out.O
             have NA : Hid (∀ q u, [Value.string ⟨z.toArray⟩][q]? = some u → (wv.alloc (.cells #[.string ⟨z.toArray⟩] 9)).cell? ((⟨wv.heap.size, 0, none⟩ : Addr).add q) = some u) := World.news_of_block (cs := #[.string ⟨z.toArray⟩]) (t := 9) (fr := (0, 0)) (heap_alloc_new wv _)
             have lv := lt_of_block HV.out.X
             have ZA : Hid (nb + 1 ≤ (wv.alloc (.cells #[.string ⟨z.toArray⟩] 9)).heap.size) := by rw [Hid]; simp; omega
             obtain ⟨v0, v1, v2, v3, vf⟩ := HV.out.cells
             clear hRv hGv vf)
          | (refine step_append_lies _ rfl (.tmp 59) (.tmp 62) 22 rfl (nb + 1) 9 i0 (.string ⟨#[]⟩) 1 16 Try.underlying22 hi0 hz0 hz1 hz2 rfl (by decide) (.slice (some ⟨w4.heap.size, 0, none⟩) [sx].length 1) [sx].length (scells [sx]) (by simp [Act.eval]) OA.out ⟨wv.heap.size, 0, none⟩ 1 1 [.string ⟨z.toArray⟩] (by simp [Act.eval]) rfl NA.out (by simp [Value.oneCell']) (by decide) (by unfold maxLen; omega) (by omega) ZA.out _ rfl ?_
             intro g2 cap2 w9 hown9 hgrow hat hlt9
             have X9 := HA.out.held hgrow
             obtain ⟨u0, u1, u2, u3, uf⟩ := nd_cells X9
             have uf2 := uf 2
             have Y9 := HA.out.heldY hgrow
             obtain ⟨q0, q1, q2, q3, qf⟩ := nd_cells Y9
             have qf0 := qf 0
             have qf1 := qf 1
             have qf2 := qf 2
             have qf3 := qf 3
             have H9 : Hid (Nd rd a n cap w nb 2 p ([sx] ++ [z]) ([] : List UInt8) (some ⟨g2, 0, none⟩) cap2 (w9.setCell ⟨nb, 2, none⟩ (.slice (some ⟨g2, 0, none⟩) ([sx].length + 1) cap2))) := (by
               have hO : w9.ownsRow (nb + 1) 9 1 (.slice (some ⟨g2, 0, none⟩) ([sx] ++ [z]).length cap2) ([sx] ++ [z]).length (scells ([sx] ++ [z])) := by rw [scells_snoc, List.length_append]; exact hown9
               have q := HA.out.kids hgrow hO
               rw [List.length_append] at q
               exact q)
             clear hown9 hgrow hat hlt9 uf qf X9 Y9))
        all_goals
          go_wp2
          obtain ⟨F1, F2, F3, F4⟩ := H9.out.fin _ rfl
          have hlen : ([sx] ++ [z]).length = [sx].length + 1 := List.length_append
          have hmz : ∀ l ∈ [sx] ++ [z], l.length ≤ 1048576 := fun l hl => by
            rcases List.mem_append.1 hl with h1 | h1
            · exact (by simp; omega : ∀ l ∈ [sx], l.length ≤ 1048576) l h1
            · simp at h1; rw [h1]; omega
          rw [hlen] at F1 F2 F3 F4
          exact bodyPost_ret (v := .agg #[.int .i64 2, .string ⟨p.toArray⟩, .slice (some ⟨g2, 0, none⟩) ([sx].length + 1) cap2, .string ⟨([] : List UInt8).toArray⟩]) (results_cell_row rfl _ _ w.heap.size 34 _ (0, 0) _ rfl F1 Try.underlying34 rfl (by kernel_rfl)) rfl ⟨2, p, [sx] ++ [z], ([] : List UInt8), some ⟨g2, 0, none⟩, cap2, by omega, by simp, by rw [hlen]; simp, hmz, by rw [hlen], by rw [hlen]; exact F2, F3, F4⟩
      · have y1' : ((y : Int) == 1) = false := by simp only [beq_eq_false_iff_ne, ne_eq]; omega
        by_cases y2 : y = 2
        · subst y2
          have KO := bytes_any rd n cap 3 3 a wu rfl (by omega) (by omega) hn HU.out.R
          go_wp2_with fail
          refine KO.mono ?_
          rintro e wv ⟨z, hz, rfl, hRv, hGv⟩
          have HV : Hid (Nd rd a n cap w nb 2 p [sx] ([] : List UInt8) (some ⟨w4.heap.size, 0, none⟩) 1 wv) := HU.out.on hGv hRv
          have HV2 : Hid (Nd rd a n cap w nb 2 p [sx] z (some ⟨w4.heap.size, 0, none⟩) 1 (wv.setCell ⟨nb, 3, none⟩ (.string ⟨z.toArray⟩))) := HV.out.val z
          clear KO hRv hGv
          obtain ⟨t0, t1, t2, t3, tf⟩ := HV.out.cells
          obtain ⟨r0, r1, r2, r3, rf⟩ := HV.out.back
          have tf0 := tf 0
          have tf1 := tf 1
          have tf2 := tf 2
          have tf3 := tf 3
          have rf0 := rf 0
          have rf1 := rf 1
          have rf2 := rf 2
          have rf3 := rf 3
          clear tf rf
          go_wp2
          obtain ⟨F1, F2, F3, F4⟩ := HV2.out.fin _ rfl
          exact bodyPost_ret (v := .agg #[.int .i64 2, .string ⟨p.toArray⟩, .slice (some ⟨w4.heap.size, 0, none⟩) [sx].length 1, .string ⟨z.toArray⟩]) (results_cell_row rfl _ _ w.heap.size 34 _ (0, 0) _ rfl F1 Try.underlying34 rfl (by kernel_rfl)) rfl ⟨2, p, [sx], z, (some ⟨w4.heap.size, 0, none⟩), 1, by omega, by omega, by simp, by simp; omega, rfl, F2, F3, F4⟩
        · have y2' : ((y : Int) == 2) = false := by simp only [beq_eq_false_iff_ne, ne_eq]; omega
          obtain ⟨t0, t1, t2, t3, tf⟩ := HU.out.cells
          obtain ⟨r0, r1, r2, r3, rf⟩ := HU.out.back
          have tf0 := tf 0
          have tf1 := tf 1
          have tf2 := tf 2
          have tf3 := tf 3
          have rf0 := rf 0
          have rf1 := rf 1
          have rf2 := rf 2
          have rf3 := rf 3
          clear tf rf
          go_wp2
          obtain ⟨F1, F2, F3, F4⟩ := HU.out.fin _ rfl
          exact bodyPost_ret (v := .agg #[.int .i64 2, .string ⟨p.toArray⟩, .slice (some ⟨w4.heap.size, 0, none⟩) [sx].length 1, .string ⟨([] : List UInt8).toArray⟩]) (results_cell_row rfl _ _ w.heap.size 34 _ (0, 0) _ rfl F1 Try.underlying34 rfl (by kernel_rfl)) rfl ⟨2, p, [sx], ([] : List UInt8), (some ⟨w4.heap.size, 0, none⟩), 1, by omega, by simp, by simp, by simp; omega, rfl, F2, F3, F4⟩
  · obtain ⟨nb, hnb⟩ : ∃ nb, nb = w2.heap.size := ⟨_, rfl⟩
    have HN : Hid (Nd rd a n cap w nb 3 [] [] [] none 0 (w2.alloc (.cells #[.int .i64 3, .string ⟨#[]⟩, .slice none 0 0, .string ⟨#[]⟩] 34))) := by
      rw [hnb]
      exact ⟨heap_alloc_new w2 _, World.ownsRow_nil _ _ _ _, (Below.heap_alloc _ _ _ hlt2).trans X2, R2.out.keptNone ((Below.refl _ _).alloc (Nat.le_refl _) _), G2.out.trans (World.grownBy_alloc w2 _ _), hrd, hlt2, HCODE.out⟩
    have hne := HN.out.ln
    clear G2 X2 R2 hlt2
    go_wp2
    rw [← hnb]
    clear hnb
    go_loopw [4] (fun i wr => ∃ j : Nat, ∃ ls : List (List UInt8), ∃ a2 : Option Addr, ∃ c2 : Nat, j ≤ 16 ∧ i = .int .i64 (j : Int) ∧ ls.length = j ∧ (∀ l ∈ ls, l.length ≤ 32) ∧ Nd rd a n cap w nb 3 [] ls [] a2 c2 wr) (fun i _ => 16 - (intOf i).toNat)
    case atStart => exact ⟨0, [], none, 0, by omega, rfl, rfl, by simp, HN.out⟩
    case round =>
      obtain ⟨j, ls, a2, c2, hj, rfl, hlj, hm, hnd⟩ := hrel
      subst hlj
      have HR : Hid (Nd rd a n cap w nb 3 [] ls [] a2 c2 wr) := hnd
      have HM : Hid (∀ l ∈ ls, l.length ≤ 32) := hm
      clear hnd hm HN
      by_cases hlt : ls.length < 16
      · have hlt' : (ls.length : Int) < 16 := by omega
        obtain ⟨t0, t1, t2, t3, tf⟩ := HR.out.cells
        have hnbl := lt_of_block HR.out.X
        have HA : Hid (Nd rd a n cap w nb 3 [] ls [] a2 c2 (wr.alloc (.cells #[.string ⟨#[]⟩] 9))) := HR.out.below ((Below.refl _ _).alloc (Nat.le_refl _) _)
        have OA := HA.out.O
        clear tf
        go_wp2_with (at_builtin; refine wpList_append_lies _ rfl _ _ 22 rfl (nb + 1) 9 i0 (.string ⟨#[]⟩) 1 16 Try.underlying22 hi0 hz0 hz1 hz2 rfl (by decide) (.slice a2 ls.length c2) ls.length _ rfl OA ⟨wr.heap.size, 0, none⟩ 1 1 [.string ⟨#[]⟩] rfl rfl (World.news_of_block (cs := #[.string ⟨#[]⟩]) (t := 9) (fr := (0, 0)) (heap_alloc_new wr _)) (by simp [Value.oneCell']) (by omega) (by unfold maxLen; omega) (by omega) (by simp; omega) (wr.heap.size + 1) (by simp) ?_; intro g2 cap2 w5 hown5 hgrow hat hlt5; have X5 := HA.out.held hgrow; obtain ⟨u0, u1, u2, u3, uf⟩ := nd_cells X5; have uf2 := uf 2; clear uf t0 t1 t2 t3)
        have H5 : Hid (Nd rd a n cap w nb 3 [] (ls ++ [[]]) [] (some ⟨g2, 0, none⟩) cap2 (w5.setCell ⟨nb, 2, none⟩ (.slice (some ⟨g2, 0, none⟩) (ls.length + 1) cap2))) := by
          have hO : w5.ownsRow (nb + 1) 9 1 (.slice (some ⟨g2, 0, none⟩) (ls ++ [[]]).length cap2) (ls ++ [[]]).length (scells (ls ++ [[]])) := by rw [scells_snoc, List.length_append]; exact hown5
          have q := HA.out.kids hgrow hO
          rw [List.length_append] at q
          exact q
        obtain ⟨w6, hw6⟩ : ∃ w6, w6 = w5.setCell ⟨nb, 2, none⟩ (.slice (some ⟨g2, 0, none⟩) (ls.length + 1) cap2) := ⟨_, rfl⟩
        rw [← hw6] at H5 ⊢
        clear hw6 hown5 hgrow hat hlt5 X5 u0 u1 u2 u3 uf2 HA OA HR
        have K6 := once_any rd n cap 4 4 a w6 rfl (by omega) (by omega) hn H5.out.R
        refine K6.mono ?_
        rintro e w7 ⟨tt, rfl, hR7, hG7⟩
        have H7 : Hid (Nd rd a n cap w nb 3 [] (ls ++ [[]]) [] (some ⟨g2, 0, none⟩) cap2 w7) := H5.out.on hG7 hR7
        have HM1 : Hid (∀ l ∈ ls ++ [[]], l.length ≤ 32) := fun l hl => by
          rcases List.mem_append.1 hl with h1 | h1
          · exact HM.out l h1
          · simp at h1; rw [h1]; simp
        clear K6 hR7 hG7 H5
        cases tt with
        | false =>
          go_wp2
          go_roundw
          case rel => exact ⟨ls.length + 1, ls ++ [[]], some ⟨g2, 0, none⟩, cap2, by omega, by go_num, by simp, HM1.out, H7.out⟩
          case measure => simp [intOf]; omega
        | true =>
          have hj0 : (0 : Int) ≤ (ls.length : Int) := by omega
          have hj1 : (ls.length : Int) < (ls.length : Int) + 1 := by omega
          have S7 : Hid (w7.cell? ⟨nb, 2, none⟩ = some (.slice (some ⟨g2, 0, none⟩) (ls.length + 1) cap2)) := by
            have q := H7.out.cells.2.2.1
            rw [List.length_append] at q
            exact q
          have R7d : Rd rd a n cap w7.drew := H7.out.R.keptNone ⟨rfl, rfl, rfl, Nat.le_refl _, fun _ _ => rfl⟩
          have D7 : Hid (Nd rd a n cap w nb 3 [] (ls ++ [[]]) [] (some ⟨g2, 0, none⟩) cap2 w7.drew) := H7.out.below ⟨rfl, rfl, rfl, Nat.le_refl _, fun _ _ => rfl⟩
          have KT := text_any rd n cap a w7.drew hn R7d
          clear R7d
          go_wp2_with fail
          go_region_held3 (fun w' => w'.cell? ⟨nb, 2, none⟩ = some (.slice (some ⟨g2, 0, none⟩) (ls.length + 1) cap2))
            (first | exact S10.out _ | exact S9.out | exact S8.out | exact S7.out)
            (first
              | (go_at_call 40
                 refine (spec_sum tx w8 (by omega)).mono ?_
                 rintro e w9 ⟨rfl, b9⟩
                 have hsl := sumL_len tx
                 obtain ⟨sx, hsx⟩ : ∃ sx, sx = sumL tx := ⟨_, rfl⟩
                 rw [← hsx] at hsl ⊢
                 clear hsx
                 have H9 : Hid (Nd rd a n cap w nb 3 [] (ls ++ [[]]) [] (some ⟨g2, 0, none⟩) cap2 w9) := H8.out.below b9
                 have S9 : Hid (w9.cell? ⟨nb, 2, none⟩ = some (.slice (some ⟨g2, 0, none⟩) (ls.length + 1) cap2)) := (b9.cell (p := ⟨nb, 2, none⟩) (lt_of_block H8.out.X)).trans S8.out
                 have gb := own_base H9.out.O
                 have S10 : Hid (∀ y, (w9.setCell ⟨g2, ls.length, none⟩ y).cell? ⟨nb, 2, none⟩ = some (.slice (some ⟨g2, 0, none⟩) (ls.length + 1) cap2)) := fun y => (World.cell?_of_block (a := ⟨nb, 2, none⟩) (Below.heap_setCell _ _ _ _ (by simp; omega))).trans S9.out
                 obtain ⟨c9, f9⟩ := kid_at H9.out.O
                 clear b9)
              | (go_at_call 41
                 refine KT.mono ?_
                 rintro e w8 ⟨tx, htx, rfl, hR8, hG8⟩
                 have H8 : Hid (Nd rd a n cap w nb 3 [] (ls ++ [[]]) [] (some ⟨g2, 0, none⟩) cap2 w8) := D7.out.on hG8 hR8
                 have S8 : Hid (w8.cell? ⟨nb, 2, none⟩ = some (.slice (some ⟨g2, 0, none⟩) (ls.length + 1) cap2)) := by
                   have q := H8.out.cells.2.2.1
                   rw [List.length_append] at q
                   exact q
                 clear hR8 hG8))
          all_goals
            have H10 : Hid (Nd rd a n cap w nb 3 [] ((ls ++ [[]]).set ls.length sx) [] (some ⟨g2, 0, none⟩) cap2 (w9.setCell ⟨g2, ls.length, none⟩ (.string ⟨sx.toArray⟩))) := H9.out.kid ls.length sx
            have HM2 : Hid (∀ l ∈ (ls ++ [[]]).set ls.length sx, l.length ≤ 32) := fun l hl => by
              rcases List.mem_or_eq_of_mem_set hl with h1 | h1
              · exact HM1.out l h1
              · rw [h1]; omega
            go_wp2
            go_roundw
            case rel => exact ⟨ls.length + 1, (ls ++ [[]]).set ls.length sx, some ⟨g2, 0, none⟩, cap2, by omega, by go_num, by simp, HM2.out, H10.out⟩
            case measure => simp [intOf]; omega
      · have hl16 : ls.length = 16 := by omega
        have HMM : Hid (∀ l ∈ ls, l.length ≤ 1048576) := fun l hl => by have := HM.out l hl; omega
        have K6 := once_any rd n cap 2 2 a wr rfl (by omega) (by omega) hn HR.out.R
        have hlt' : ¬ (ls.length : Int) < 16 := by omega
        go_wp2_with fail
        refine K6.mono ?_
        rintro e w7 ⟨tt, rfl, hR7, hG7⟩
        have H7 : Hid (Nd rd a n cap w nb 3 [] ls [] a2 c2 w7) := HR.out.on hG7 hR7
        have hl17 : ls.length ≤ 17 := by omega
        have hl16' : ls.length ≤ 16 := by omega
        clear K6 hR7 hG7 HR hl16 hj hlt'
        cases tt with
        | false =>
          have KT := below_any rd n cap 16 16 a w7 rfl (by omega) (by omega) hn H7.out.R
          go_wp2_with fail
          refine KT.mono ?_
          rintro e wu ⟨y, hy, rfl, hRu, hGu⟩
          have HU : Hid (Nd rd a n cap w nb 3 ([] : List UInt8) ls ([] : List UInt8) a2 c2 wu) := H7.out.on hGu hRu
          clear KT hRu hGu
          by_cases y0 : y = 0
          · subst y0
            have KO := offE_any rd n cap a wu hn HU.out.R
            go_wp2_with fail
            refine KO.mono ?_
            rintro e wv ⟨z, rfl, hRv, hGv⟩
            have HV : Hid (Nd rd a n cap w nb 3 ([] : List UInt8) ls ([] : List UInt8) a2 c2 wv) := HU.out.on hGv hRv
            have HV2 : Hid (Nd rd a n cap w nb z ([] : List UInt8) ls ([] : List UInt8) a2 c2 (wv.setCell ⟨nb, 0, none⟩ (.int .i64 z))) := HV.out.kind z
            clear KO hRv hGv
            obtain ⟨t0, t1, t2, t3, tf⟩ := HV.out.cells
            obtain ⟨r0, r1, r2, r3, rf⟩ := HV.out.back
            have tf0 := tf 0
            have tf1 := tf 1
            have tf2 := tf 2
            have tf3 := tf 3
            have rf0 := rf 0
            have rf1 := rf 1
            have rf2 := rf 2
            have rf3 := rf 3
            clear tf rf
            go_wp2
            obtain ⟨F1, F2, F3, F4⟩ := HV2.out.fin _ rfl
            exact bodyPost_ret (v := .agg #[.int .i64 z, .string ⟨([] : List UInt8).toArray⟩, .slice a2 ls.length c2, .string ⟨([] : List UInt8).toArray⟩]) (results_cell_row rfl _ _ w.heap.size 34 _ (0, 0) _ rfl F1 Try.underlying34 rfl (by kernel_rfl)) rfl ⟨z, ([] : List UInt8), ls, ([] : List UInt8), a2, c2, by simp, by simp, hl17, HMM.out, rfl, F2, F3, F4⟩
          · have y0' : ((y : Int) == 0) = false := by simp only [beq_eq_false_iff_ne, ne_eq]; omega
            by_cases y1 : y = 1
            · subst y1
              have HUd : Hid (Nd rd a n cap w nb 3 ([] : List UInt8) ls ([] : List UInt8) a2 c2 wu.drew) := HU.out.below ⟨rfl, rfl, rfl, Nat.le_refl _, fun _ _ => rfl⟩
              have hll : ls.length ≤ 17 := hl17
              have KB := bytes_any rd n cap 3 3 a wu.drew rfl (by omega) (by omega) hn HUd.out.R
              obtain ⟨t0, t1, t2, t3, tf⟩ := HU.out.cells
              clear tf
              go_wp2_with fail
              go_region_law (first
                | (go_simp
                   go_at_call 44
                   refine KB.mono ?_
                   rintro e wv ⟨z, hz, rfl, hRv, hGv⟩
                   have HV : Hid (Nd rd a n cap w nb 3 ([] : List UInt8) ls ([] : List UInt8) a2 c2 wv) := HUd.out.on hGv hRv
                   have HA : Hid (Nd rd a n cap w nb 3 ([] : List UInt8) ls ([] : List UInt8) a2 c2 (wv.alloc (.cells #[.string ⟨z.toArray⟩] 9))) := HV.out.below ((Below.refl _ _).alloc (Nat.le_refl _) _)
                   have OA : Hid ((wv.alloc (.cells #[.string ⟨z.toArray⟩] 9)).ownsRow (nb + 1) 9 1 (.slice a2 ls.length c2) ls.length (scells ls)) := HA.out.O
                   have NA : Hid (∀ q u, [Value.string ⟨z.toArray⟩][q]? = some u → (wv.alloc (.cells #[.string ⟨z.toArray⟩] 9)).cell? ((⟨wv.heap.size, 0, none⟩ : Addr).add q) = some u) := World.news_of_block (cs := #[.string ⟨z.toArray⟩]) (t := 9) (fr := (0, 0)) (heap_alloc_new wv _)
                   have lv := lt_of_block HV.out.X
                   have ZA : Hid (nb + 1 ≤ (wv.alloc (.cells #[.string ⟨z.toArray⟩] 9)).heap.size) := by rw [Hid]; simp; omega
                   obtain ⟨v0, v1, v2, v3, vf⟩ := HV.out.cells
                   clear hRv hGv vf)
                | (refine step_append_lies _ rfl (.tmp 59) (.tmp 62) 22 rfl (nb + 1) 9 i0 (.string ⟨#[]⟩) 1 16 Try.underlying22 hi0 hz0 hz1 hz2 rfl (by decide) (.slice a2 ls.length c2) ls.length (scells ls) (by simp [Act.eval]) OA.out ⟨wv.heap.size, 0, none⟩ 1 1 [.string ⟨z.toArray⟩] (by simp [Act.eval]) rfl NA.out (by simp [Value.oneCell']) (by decide) (by unfold maxLen; omega) (by omega) ZA.out _ rfl ?_
                   intro g2 cap2 w9 hown9 hgrow hat hlt9
                   have X9 := HA.out.held hgrow
                   obtain ⟨u0, u1, u2, u3, uf⟩ := nd_cells X9
                   have uf2 := uf 2
                   have Y9 := HA.out.heldY hgrow
                   obtain ⟨q0, q1, q2, q3, qf⟩ := nd_cells Y9
                   have qf0 := qf 0
                   have qf1 := qf 1
                   have qf2 := qf 2
                   have qf3 := qf 3
                   have H9 : Hid (Nd rd a n cap w nb 3 ([] : List UInt8) (ls ++ [z]) ([] : List UInt8) (some ⟨g2, 0, none⟩) cap2 (w9.setCell ⟨nb, 2, none⟩ (.slice (some ⟨g2, 0, none⟩) (ls.length + 1) cap2))) := (by
                     have hO : w9.ownsRow (nb + 1) 9 1 (.slice (some ⟨g2, 0, none⟩) (ls ++ [z]).length cap2) (ls ++ [z]).length (scells (ls ++ [z])) := by rw [scells_snoc, List.length_append]; exact hown9
                     have q := HA.out.kids hgrow hO
                     rw [List.length_append] at q
                     exact q)
                   clear hown9 hgrow hat hlt9 uf qf X9 Y9))
              all_goals
                go_wp2
                obtain ⟨F1, F2, F3, F4⟩ := H9.out.fin _ rfl
                have hlen : (ls ++ [z]).length = ls.length + 1 := List.length_append
                have hmz : ∀ l ∈ ls ++ [z], l.length ≤ 1048576 := fun l hl => by
                  rcases List.mem_append.1 hl with h1 | h1
                  · exact (HMM.out : ∀ l ∈ ls, l.length ≤ 1048576) l h1
                  · simp at h1; rw [h1]; omega
                rw [hlen] at F1 F2 F3 F4
                exact bodyPost_ret (v := .agg #[.int .i64 3, .string ⟨([] : List UInt8).toArray⟩, .slice (some ⟨g2, 0, none⟩) (ls.length + 1) cap2, .string ⟨([] : List UInt8).toArray⟩]) (results_cell_row rfl _ _ w.heap.size 34 _ (0, 0) _ rfl F1 Try.underlying34 rfl (by kernel_rfl)) rfl ⟨3, ([] : List UInt8), ls ++ [z], ([] : List UInt8), some ⟨g2, 0, none⟩, cap2, by simp, by simp, by rw [hlen]; omega, hmz, by rw [hlen], by rw [hlen]; exact F2, F3, F4⟩
            · have y1' : ((y : Int) == 1) = false := by simp only [beq_eq_false_iff_ne, ne_eq]; omega
              by_cases y2 : y = 2
              · subst y2
                have KO := bytes_any rd n cap 3 3 a wu rfl (by omega) (by omega) hn HU.out.R
                go_wp2_with fail
                refine KO.mono ?_
                rintro e wv ⟨z, hz, rfl, hRv, hGv⟩
                have HV : Hid (Nd rd a n cap w nb 3 ([] : List UInt8) ls ([] : List UInt8) a2 c2 wv) := HU.out.on hGv hRv
                have HV2 : Hid (Nd rd a n cap w nb 3 ([] : List UInt8) ls z a2 c2 (wv.setCell ⟨nb, 3, none⟩ (.string ⟨z.toArray⟩))) := HV.out.val z
                clear KO hRv hGv
                obtain ⟨t0, t1, t2, t3, tf⟩ := HV.out.cells
                obtain ⟨r0, r1, r2, r3, rf⟩ := HV.out.back
                have tf0 := tf 0
                have tf1 := tf 1
                have tf2 := tf 2
                have tf3 := tf 3
                have rf0 := rf 0
                have rf1 := rf 1
                have rf2 := rf 2
                have rf3 := rf 3
                clear tf rf
                go_wp2
                obtain ⟨F1, F2, F3, F4⟩ := HV2.out.fin _ rfl
                exact bodyPost_ret (v := .agg #[.int .i64 3, .string ⟨([] : List UInt8).toArray⟩, .slice a2 ls.length c2, .string ⟨z.toArray⟩]) (results_cell_row rfl _ _ w.heap.size 34 _ (0, 0) _ rfl F1 Try.underlying34 rfl (by kernel_rfl)) rfl ⟨3, ([] : List UInt8), ls, z, a2, c2, by simp, by omega, hl17, HMM.out, rfl, F2, F3, F4⟩
              · have y2' : ((y : Int) == 2) = false := by simp only [beq_eq_false_iff_ne, ne_eq]; omega
                obtain ⟨t0, t1, t2, t3, tf⟩ := HU.out.cells
                obtain ⟨r0, r1, r2, r3, rf⟩ := HU.out.back
                have tf0 := tf 0
                have tf1 := tf 1
                have tf2 := tf 2
                have tf3 := tf 3
                have rf0 := rf 0
                have rf1 := rf 1
                have rf2 := rf 2
                have rf3 := rf 3
                clear tf rf
                go_wp2
                obtain ⟨F1, F2, F3, F4⟩ := HU.out.fin _ rfl
                exact bodyPost_ret (v := .agg #[.int .i64 3, .string ⟨([] : List UInt8).toArray⟩, .slice a2 ls.length c2, .string ⟨([] : List UInt8).toArray⟩]) (results_cell_row rfl _ _ w.heap.size 34 _ (0, 0) _ rfl F1 Try.underlying34 rfl (by kernel_rfl)) rfl ⟨3, ([] : List UInt8), ls, ([] : List UInt8), a2, c2, by simp, by simp, hl17, HMM.out, rfl, F2, F3, F4⟩
        | true =>
          have KV := valueE_any rd n cap a w7 hn H7.out.R
          go_wp2_with fail
          refine KV.mono ?_
          rintro e w8 ⟨v, hv, rfl, hR8, hG8⟩
          have H8 : Hid (Nd rd a n cap w nb 3 [] ls [] a2 c2 w8) := H7.out.on hG8 hR8
          have H9 : Hid (Nd rd a n cap w nb 3 [] ls v a2 c2 (w8.setCell ⟨nb, 3, none⟩ (.string ⟨v.toArray⟩))) := H8.out.val v
          clear KV hR8 hG8 H7
          obtain ⟨t0, t1, t2, t3, tf⟩ := H8.out.cells
          obtain ⟨r0, r1, r2, r3, rf⟩ := H8.out.back
          have tf0 := tf 0
          have tf1 := tf 1
          have tf2 := tf 2
          have tf3 := tf 3
          have rf0 := rf 0
          have rf1 := rf 1
          have rf2 := rf 2
          have rf3 := rf 3
          clear tf rf
          have KT := below_any rd n cap 16 16 a (w8.setCell ⟨nb, 3, none⟩ (.string ⟨v.toArray⟩)) rfl (by omega) (by omega) hn H9.out.R
          go_wp2_with fail
          refine KT.mono ?_
          rintro e wu ⟨y, hy, rfl, hRu, hGu⟩
          have HU : Hid (Nd rd a n cap w nb 3 ([] : List UInt8) ls v a2 c2 wu) := H9.out.on hGu hRu
          clear KT hRu hGu
          by_cases y0 : y = 0
          · subst y0
            have KO := offE_any rd n cap a wu hn HU.out.R
            go_wp2_with fail
            refine KO.mono ?_
            rintro e wv ⟨z, rfl, hRv, hGv⟩
            have HV : Hid (Nd rd a n cap w nb 3 ([] : List UInt8) ls v a2 c2 wv) := HU.out.on hGv hRv
            have HV2 : Hid (Nd rd a n cap w nb z ([] : List UInt8) ls v a2 c2 (wv.setCell ⟨nb, 0, none⟩ (.int .i64 z))) := HV.out.kind z
            clear KO hRv hGv
            obtain ⟨t0, t1, t2, t3, tf⟩ := HV.out.cells
            obtain ⟨r0, r1, r2, r3, rf⟩ := HV.out.back
            have tf0 := tf 0
            have tf1 := tf 1
            have tf2 := tf 2
            have tf3 := tf 3
            have rf0 := rf 0
            have rf1 := rf 1
            have rf2 := rf 2
            have rf3 := rf 3
            clear tf rf
            go_wp2
            obtain ⟨F1, F2, F3, F4⟩ := HV2.out.fin _ rfl
            exact bodyPost_ret (v := .agg #[.int .i64 z, .string ⟨([] : List UInt8).toArray⟩, .slice a2 ls.length c2, .string ⟨v.toArray⟩]) (results_cell_row rfl _ _ w.heap.size 34 _ (0, 0) _ rfl F1 Try.underlying34 rfl (by kernel_rfl)) rfl ⟨z, ([] : List UInt8), ls, v, a2, c2, by simp, by omega, hl17, HMM.out, rfl, F2, F3, F4⟩
          · have y0' : ((y : Int) == 0) = false := by simp only [beq_eq_false_iff_ne, ne_eq]; omega
            by_cases y1 : y = 1
            · subst y1
              have HUd : Hid (Nd rd a n cap w nb 3 ([] : List UInt8) ls v a2 c2 wu.drew) := HU.out.below ⟨rfl, rfl, rfl, Nat.le_refl _, fun _ _ => rfl⟩
              have hll : ls.length ≤ 17 := hl17
              have KB := bytes_any rd n cap 3 3 a wu.drew rfl (by omega) (by omega) hn HUd.out.R
              obtain ⟨t0, t1, t2, t3, tf⟩ := HU.out.cells
              clear tf
              go_wp2_with fail
              go_region_law (first
                | (go_simp
                   go_at_call 44
                   refine KB.mono ?_
                   rintro e wv ⟨z, hz, rfl, hRv, hGv⟩
                   have HV : Hid (Nd rd a n cap w nb 3 ([] : List UInt8) ls v a2 c2 wv) := HUd.out.on hGv hRv
                   have HA : Hid (Nd rd a n cap w nb 3 ([] : List UInt8) ls v a2 c2 (wv.alloc (.cells #[.string ⟨z.toArray⟩] 9))) := HV.out.below ((Below.refl _ _).alloc (Nat.le_refl _) _)
                   have OA : Hid ((wv.alloc (.cells #[.string ⟨z.toArray⟩] 9)).ownsRow (nb + 1) 9 1 (.slice a2 ls.length c2) ls.length (scells ls)) := HA.out.O
                   have NA : Hid (∀ q u, [Value.string ⟨z.toArray⟩][q]? = some u → (wv.alloc (.cells #[.string ⟨z.toArray⟩] 9)).cell? ((⟨wv.heap.size, 0, none⟩ : Addr).add q) = some u) := World.news_of_block (cs := #[.string ⟨z.toArray⟩]) (t := 9) (fr := (0, 0)) (heap_alloc_new wv _)
                   have lv := lt_of_block HV.out.X
                   have ZA : Hid (nb + 1 ≤ (wv.alloc (.cells #[.string ⟨z.toArray⟩] 9)).heap.size) := by rw [Hid]; simp; omega
                   obtain ⟨v0, v1, v2, v3, vf⟩ := HV.out.cells
                   clear hRv hGv vf)
                | (refine step_append_lies _ rfl (.tmp 59) (.tmp 62) 22 rfl (nb + 1) 9 i0 (.string ⟨#[]⟩) 1 16 Try.underlying22 hi0 hz0 hz1 hz2 rfl (by decide) (.slice a2 ls.length c2) ls.length (scells ls) (by simp [Act.eval]) OA.out ⟨wv.heap.size, 0, none⟩ 1 1 [.string ⟨z.toArray⟩] (by simp [Act.eval]) rfl NA.out (by simp [Value.oneCell']) (by decide) (by unfold maxLen; omega) (by omega) ZA.out _ rfl ?_
                   intro g2 cap2 w9 hown9 hgrow hat hlt9
                   have X9 := HA.out.held hgrow
                   obtain ⟨u0, u1, u2, u3, uf⟩ := nd_cells X9
                   have uf2 := uf 2
                   have Y9 := HA.out.heldY hgrow
                   obtain ⟨q0, q1, q2, q3, qf⟩ := nd_cells Y9
                   have qf0 := qf 0
                   have qf1 := qf 1
                   have qf2 := qf 2
                   have qf3 := qf 3
                   have H9 : Hid (Nd rd a n cap w nb 3 ([] : List UInt8) (ls ++ [z]) v (some ⟨g2, 0, none⟩) cap2 (w9.setCell ⟨nb, 2, none⟩ (.slice (some ⟨g2, 0, none⟩) (ls.length + 1) cap2))) := (by
                     have hO : w9.ownsRow (nb + 1) 9 1 (.slice (some ⟨g2, 0, none⟩) (ls ++ [z]).length cap2) (ls ++ [z]).length (scells (ls ++ [z])) := by rw [scells_snoc, List.length_append]; exact hown9
                     have q := HA.out.kids hgrow hO
                     rw [List.length_append] at q
                     exact q)
                   clear hown9 hgrow hat hlt9 uf qf X9 Y9))
              all_goals
                go_wp2
                obtain ⟨F1, F2, F3, F4⟩ := H9.out.fin _ rfl
                have hlen : (ls ++ [z]).length = ls.length + 1 := List.length_append
                have hmz : ∀ l ∈ ls ++ [z], l.length ≤ 1048576 := fun l hl => by
                  rcases List.mem_append.1 hl with h1 | h1
                  · exact (HMM.out : ∀ l ∈ ls, l.length ≤ 1048576) l h1
                  · simp at h1; rw [h1]; omega
                rw [hlen] at F1 F2 F3 F4
                exact bodyPost_ret (v := .agg #[.int .i64 3, .string ⟨([] : List UInt8).toArray⟩, .slice (some ⟨g2, 0, none⟩) (ls.length + 1) cap2, .string ⟨v.toArray⟩]) (results_cell_row rfl _ _ w.heap.size 34 _ (0, 0) _ rfl F1 Try.underlying34 rfl (by kernel_rfl)) rfl ⟨3, ([] : List UInt8), ls ++ [z], v, some ⟨g2, 0, none⟩, cap2, by simp, by omega, by rw [hlen]; omega, hmz, by rw [hlen], by rw [hlen]; exact F2, F3, F4⟩
            · have y1' : ((y : Int) == 1) = false := by simp only [beq_eq_false_iff_ne, ne_eq]; omega
              by_cases y2 : y = 2
              · subst y2
                have KO := bytes_any rd n cap 3 3 a wu rfl (by omega) (by omega) hn HU.out.R
                go_wp2_with fail
                refine KO.mono ?_
                rintro e wv ⟨z, hz, rfl, hRv, hGv⟩
                have HV : Hid (Nd rd a n cap w nb 3 ([] : List UInt8) ls v a2 c2 wv) := HU.out.on hGv hRv
                have HV2 : Hid (Nd rd a n cap w nb 3 ([] : List UInt8) ls z a2 c2 (wv.setCell ⟨nb, 3, none⟩ (.string ⟨z.toArray⟩))) := HV.out.val z
                clear KO hRv hGv
                obtain ⟨t0, t1, t2, t3, tf⟩ := HV.out.cells
                obtain ⟨r0, r1, r2, r3, rf⟩ := HV.out.back
                have tf0 := tf 0
                have tf1 := tf 1
                have tf2 := tf 2
                have tf3 := tf 3
                have rf0 := rf 0
                have rf1 := rf 1
                have rf2 := rf 2
                have rf3 := rf 3
                clear tf rf
                go_wp2
                obtain ⟨F1, F2, F3, F4⟩ := HV2.out.fin _ rfl
                exact bodyPost_ret (v := .agg #[.int .i64 3, .string ⟨([] : List UInt8).toArray⟩, .slice a2 ls.length c2, .string ⟨z.toArray⟩]) (results_cell_row rfl _ _ w.heap.size 34 _ (0, 0) _ rfl F1 Try.underlying34 rfl (by kernel_rfl)) rfl ⟨3, ([] : List UInt8), ls, z, a2, c2, by simp, by omega, hl17, HMM.out, rfl, F2, F3, F4⟩
              · have y2' : ((y : Int) == 2) = false := by simp only [beq_eq_false_iff_ne, ne_eq]; omega
                obtain ⟨t0, t1, t2, t3, tf⟩ := HU.out.cells
                obtain ⟨r0, r1, r2, r3, rf⟩ := HU.out.back
                have tf0 := tf 0
                have tf1 := tf 1
                have tf2 := tf 2
                have tf3 := tf 3
                have rf0 := rf 0
                have rf1 := rf 1
                have rf2 := rf 2
                have rf3 := rf 3
                clear tf rf
                go_wp2
                obtain ⟨F1, F2, F3, F4⟩ := HU.out.fin _ rfl
                exact bodyPost_ret (v := .agg #[.int .i64 3, .string ⟨([] : List UInt8).toArray⟩, .slice a2 ls.length c2, .string ⟨v.toArray⟩]) (results_cell_row rfl _ _ w.heap.size 34 _ (0, 0) _ rfl F1 Try.underlying34 rfl (by kernel_rfl)) rfl ⟨3, ([] : List UInt8), ls, v, a2, c2, by simp, by omega, hl17, HMM.out, rfl, F2, F3, F4⟩

end Go.Proofs.Ytniclkhnccggpaa
