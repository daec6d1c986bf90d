/-
  Texts that are laid as one: DrawE, MathBT, MathNF, DrawNd.
-/
import Derived.Test.YtniclkhnccggpaaHurt
import Derived.Test.YtniclkhnccggpaaMathTs
import Derived.Test.YtniclkhnccggpaaMathBackL
import Derived.Test.YtniclkhnccggpaaMathRN
import Derived.Test.YtniclkhnccggpaaItems
import Derived.Test.YtniclkhnccggpaaSSum
import Derived.Test.YtniclkhnccggpaaRNode
import Derived.Deep.RegionLawGrows
namespace Go.Proofs.Ytniclkhnccggpaa
open Go.RowKit
set_option linter.unusedVariables false

def shortE (m : Nat) : Value → Bool
  | .string s => decide (s.size ≤ m)
  | _ => false
theorem shortE_is (m : Nat) (v : Value) (h : shortE m v = true) : ∃ l : List UInt8, l.length ≤ m ∧ v = .string ⟨l.toArray⟩ := by
  match v, h with
  | .string s, h => exact ⟨s.data.toList, by simpa [shortE] using h, by rw [← ba_eq]⟩
theorem tabE_any {w w1 : World} {rd m k : Nat} {cs : Array Value} {t : TypeId} (hrd : rd < w.heap.size) (hG : (w.alloc (.cells cs t)).grownBy w1 (some rd)) (hall : cs.all (shortE m) = true) (hk : k < cs.size) :
    ∃ l : List UInt8, l.length ≤ m ∧ w1.cell? ⟨w.heap.size, k, none⟩ = some (.string ⟨l.toArray⟩) := by
  have hb : w1.heap[w.heap.size]? = some (.cells cs t) := by rw [hG.block _ (by simp) (by simp; omega)]; exact heap_alloc_new w _
  have hv := (Array.all_eq_true.1 hall) k hk
  obtain ⟨l, hl, e⟩ := shortE_is m _ hv
  refine ⟨l, hl, ?_⟩
  rw [← e]
  simp [World.cell?, hb, hk]
theorem grown_setCE {w w' : World} {row : Option Nat} (h : w.grownBy w' row) (p : Addr) (v : Value) (hp : w.heap.size ≤ p.block) : w.grownBy (w'.setCell p v) row :=
  ⟨h.os, h.tape, h.output, by simpa [World.setCell] using h.size, fun k hk hne => (Below.heap_setCell _ _ _ _ (fun e => by rw [e] at hk; omega)).trans (h.block k hk hne)⟩

set_option maxRecDepth 100000 in
set_option maxHeartbeats 400000 in
theorem valueE_any (rd n cap : Nat) (a : Option Addr) (w : World) (hn : n ≤ 1048576) (h : Rd rd a n cap w) :
    Calls Try.prog 39 #[.pointer (some ⟨rd, 0, none⟩)] w fun e w' => ∃ l : List UInt8, l.length ≤ 5 ∧ e = .returned (.string ⟨l.toArray⟩) ∧ Rd rd a n cap w' ∧ w.grownBy w' (some rd) := by
  have hrd := h.lt
  have HR0 : Hid (Rd rd a n cap w) := h
  clear h
  go_enter Try.func39, Try.ntmps39
  go_wp2_with fail
  refine (below_any rd n cap 6 6 a _ rfl (by omega) (by omega) hn (HR0.out.keptNone ((Below.refl _ _).alloc (Nat.le_refl _) _))).mono ?_
  rintro e w1 ⟨k, hk, rfl, hR, hG⟩
  obtain ⟨l, hl, hc⟩ := tabE_any (m := 5) (k := k) hrd hG (by decide +kernel) hk
  have HR : Hid (Rd rd a n cap w1) := hR
  have HG : Hid (w.grownBy w1 (some rd)) := (World.grownBy_alloc w _ (some rd)).trans hG
  have hk' : (k : Int) < 6 := by omega
  clear hR hG HR0
  go_wp2
  go_ret
  exact ⟨l, hl, rfl, HR.out, HG.out⟩

set_option maxRecDepth 100000 in
set_option maxHeartbeats 400000 in
theorem wordE_any (rd n cap : Nat) (a : Option Addr) (w : World) (hn : n ≤ 1048576) (h : Rd rd a n cap w) :
    Calls Try.prog 74 #[.pointer (some ⟨rd, 0, none⟩)] w fun e w' => ∃ x : Int, e = .returned (.int .u64 x) ∧ Rd rd a n cap w' ∧ w.grownBy w' (some rd) := by
  go_enter Try.func74, Try.ntmps74
  go_wp2
  go_loopw [3, 4] (fun v i wr => ∃ j : Nat, ∃ x : Int, j ≤ 8 ∧ i = .int .i64 (j : Int) ∧ v = .int .u64 x ∧ Rd rd a n cap wr ∧ w.grownBy wr (some rd)) (fun _ i _ => 8 - (intOf i).toNat)
  case atStart => exact ⟨0, 0, by omega, rfl, rfl, h, World.grownBy.refl _ _⟩
  case round =>
    obtain ⟨j, x, hj, rfl, rfl, hRr, hgr⟩ := hrel
    clear h
    by_cases hlt : j < 8
    · have hlt' : (j : Int) < 8 := by omega
      have K := next_any rd n cap a wr hn hRr
      have HG : Hid (w.grownBy wr (some rd)) := hgr
      clear hRr hgr
      go_wp2_with fail
      refine K.mono ?_
      rintro e w1 ⟨y, hy, rfl, hR1, hG1⟩
      have HR1 : Hid (Rd rd a n cap w1) := hR1
      have HG1 : Hid (w.grownBy w1 (some rd)) := grown_more HG.out hG1 (by simp)
      clear K hR1 hG1 HG
      go_wp2
      go_roundw
      case rel => exact ⟨j + 1, _, by omega, by go_num, rfl, HR1.out, HG1.out⟩
      case measure => simp [intOf]; omega
    · have HRr : Hid (Rd rd a n cap wr) := hRr
      have HG : Hid (w.grownBy wr (some rd)) := hgr
      clear hRr hgr
      go_wp2
      go_ret
      exact ⟨x, rfl, HRr.out, HG.out⟩

set_option maxRecDepth 100000 in
set_option maxHeartbeats 400000 in
theorem nearE_any (rd n cap : Nat) (a : Option Addr) (w : World) (hn : n ≤ 1048576) (h : Rd rd a n cap w) :
    Calls Try.prog 62 #[.pointer (some ⟨rd, 0, none⟩), .int .i64 1, .int .i64 3] w fun e w' => ∃ x : Int, e = .returned (.int .i64 x) ∧ Rd rd a n cap w' ∧ w.grownBy w' (some rd) := by
  have K1 := below_any rd n cap 8 8 a w rfl (by omega) (by omega) hn h
  clear h
  go_enter Try.func62, Try.ntmps62
  go_wp2_with fail
  refine K1.mono ?_
  rintro e w1 ⟨y, hy, rfl, hR1, hG1⟩
  have HR1 : Hid (Rd rd a n cap w1) := hR1
  have HG1 : Hid (w.grownBy w1 (some rd)) := hG1
  clear K1 hR1 hG1
  by_cases y0 : y = 0
  · subst y0
    go_wp2
    go_ret
    exact ⟨_, rfl, HR1.out, HG1.out⟩
  · have y0' : ((y : Int) == 0) = false := by simp only [beq_eq_false_iff_ne, ne_eq]; omega
    by_cases y1 : y = 1
    · subst y1
      go_wp2
      go_ret
      exact ⟨_, rfl, HR1.out, HG1.out⟩
    · have y1' : ((y : Int) == 1) = false := by simp only [beq_eq_false_iff_ne, ne_eq]; omega
      have K2 := wordE_any rd n cap a w1 hn HR1.out
      clear HR1
      go_wp2_with fail
      refine K2.mono ?_
      rintro e w2 ⟨z, rfl, hR2, hG2⟩
      have HR2 : Hid (Rd rd a n cap w2) := hR2
      have HG2 : Hid (w.grownBy w2 (some rd)) := grown_more HG1.out hG2 (by simp)
      clear K2 hR2 hG2 HG1
      go_wp2
      go_ret
      exact ⟨_, rfl, HR2.out, HG2.out⟩

def isI64E : Value → Bool
  | .int .i64 _ => true
  | _ => false
theorem isI64E_is (v : Value) (h : isI64E v = true) : ∃ x, v = .int .i64 x := by
  match v, h with
  | .int .i64 x, _ => exact ⟨x, rfl⟩
theorem tabIE_any {w w1 : World} {rd k : Nat} {cs : Array Value} {t : TypeId} (hrd : rd < w.heap.size) (hG : (w.alloc (.cells cs t)).grownBy w1 (some rd)) (hall : cs.all isI64E = true) (hk : k < cs.size) :
    ∃ x : Int, w1.cell? ⟨w.heap.size, k, none⟩ = some (.int .i64 x) := by
  have hb : w1.heap[w.heap.size]? = some (.cells cs t) := by rw [hG.block _ (by simp) (by simp; omega)]; exact heap_alloc_new w _
  have hv := (Array.all_eq_true.1 hall) k hk
  obtain ⟨x, e⟩ := isI64E_is _ hv
  refine ⟨x, ?_⟩
  rw [← e]
  simp [World.cell?, hb, hk]

set_option maxRecDepth 100000 in
set_option maxHeartbeats 400000 in
theorem offE_any (rd n cap : Nat) (a : Option Addr) (w : World) (hn : n ≤ 1048576) (h : Rd rd a n cap w) :
    Calls Try.prog 43 #[.pointer (some ⟨rd, 0, none⟩), .int .i64 1, .int .i64 3] w fun e w' => ∃ x : Int, e = .returned (.int .i64 x) ∧ Rd rd a n cap w' ∧ w.grownBy w' (some rd) := by
  have K1 := once_any rd n cap 24 24 a w rfl (by omega) (by omega) hn h
  clear h
  go_enter Try.func43, Try.ntmps43
  go_wp2_with fail
  refine K1.mono ?_
  rintro e w1 ⟨t, rfl, hR1, hG1⟩
  have HR1 : Hid (Rd rd a n cap w1) := hR1
  have HG1 : Hid (w.grownBy w1 (some rd)) := hG1
  have hrd := hR1.lt
  clear K1 hR1 hG1
  cases t
  · have K2 := nearE_any rd n cap a w1 hn HR1.out
    clear HR1
    go_wp2_with fail
    refine K2.mono ?_
    rintro e w2 ⟨z, rfl, hR2, hG2⟩
    have HR2 : Hid (Rd rd a n cap w2) := hR2
    have HG2 : Hid (w.grownBy w2 (some rd)) := grown_more HG1.out hG2 (by simp)
    clear K2 hR2 hG2 HG1
    go_wp2
    go_ret
    exact ⟨z, rfl, HR2.out, HG2.out⟩
  · go_wp2_with fail
    refine (below_any rd n cap 4 4 a _ rfl (by omega) (by omega) hn (HR1.out.keptNone ((Below.refl _ _).alloc (Nat.le_refl _) _))).mono ?_
    rintro e w2 ⟨k, hk, rfl, hR2, hG2⟩
    obtain ⟨z, hc⟩ := tabIE_any (k := k) hrd hG2 (by simp [isI64E]) (by simpa using hk)
    have HR2 : Hid (Rd rd a n cap w2) := hR2
    have HG2 : Hid (w.grownBy w2 (some rd)) := grown_more HG1.out ((World.grownBy_alloc w1 _ (some rd)).trans hG2) (by simp)
    have hk' : (k : Int) < 4 := by omega
    have hk0 : (0 : Int) ≤ (k : Int) := by omega
    clear hR2 hG2 HG1 HR1
    go_wp2
    go_ret
    exact ⟨z, rfl, HR2.out, HG2.out⟩
end Go.Proofs.Ytniclkhnccggpaa
namespace Go.Proofs.Ytniclkhnccggpaa
open Go.RowKit
set_option linter.unusedVariables false

theorem textsF_map : ∀ ts : List (List UInt8), (∀ t ∈ ts, t.length ≤ 60000) → textsF (ts.map textB) = some ts
  | [], _ => rfl
  | t :: ts, h => by
    have h1 : textOf (textB t) = some t := textOf_some _ t [] (by have := takeL_text_fore t [] (h t (by simp)); simpa using this)
    have h2 := textsF_map ts (fun x hx => h x (by simp [hx]))
    simp only [List.map_cons, textsF, h1, h2]; rfl
theorem texts_fore (ts : List (List UInt8)) (h : ts.flatten.length ≤ 30000) (hl : ts.length ≤ 1001) : textsL (listB ts) = some ts := by
  have e := listL_texts ts h hl
  have hs : ∀ t ∈ ts, t.length ≤ 60000 := fun t ht => by
    obtain ⟨j, hj, rfl⟩ := List.getElem_of_mem ht
    have := each_le ts j hj
    omega
  rcases items_list (ts.map textB) with ⟨h0, _⟩ | ⟨_, h1⟩
  · rw [e] at h0
    exfalso
    simp [listB, wrapB] at h0
    split at h0 <;> simp at h0
  · rw [e] at h1
    simp only [textsL, h1]
    exact textsF_map ts hs
theorem textsF_back : ∀ (ls ts : List (List UInt8)), ls.all isItemL = true → textsF ls = some ts → ls = ts.map textB
  | [], ts, _, h => by simp [textsF] at h; subst h; rfl
  | l :: ls, ts, ha, h => by
    simp only [List.all_cons, Bool.and_eq_true] at ha
    obtain ⟨k, bd, hk⟩ := isItem_is l ha.1
    cases h1 : textOf l with
    | none => simp [textsF, h1] at h
    | some t =>
      cases h2 : textsF ls with
      | none => simp [textsF, h1, h2] at h
      | some tr =>
        simp only [textsF, h1, h2] at h
        have h' : t :: tr = ts := by simpa using h
        subst h'
        clear h
        have hk1 : k = 1 ∧ bd = t := by
          rcases takeL_kind l k bd [] hk with rfl | rfl
          · rw [textOf_some l bd [] hk] at h1; cases h1; exact ⟨rfl, rfl⟩
          · rw [textOf_list l bd [] hk] at h1; cases h1
        obtain ⟨rfl, rfl⟩ := hk1
        have := (takeL_text_back l bd [] hk).1
        rw [List.append_nil] at this
        rw [List.map_cons, this, ← textsF_back ls tr ha.2 h2]
theorem texts_back (s : List UInt8) (ts : List (List UInt8)) (h : textsL s = some ts) : listB ts = s := by
  unfold textsL at h
  cases hi : itemsL s with
  | none => rw [hi] at h; cases h
  | some ls =>
    rw [hi] at h
    have hb := list_items s ls hi
    by_cases hc : ls.flatten.length ≤ 60000 ∧ ls.all isItemL = true
    · have e := textsF_back ls ts hc.2 h
      rw [listL_yes ls hc.1 hc.2] at hb
      rw [← hb, listB, textsB, e]
    · have h0 : listL ls = [] := if_neg hc
      rw [h0] at hb
      subst hb
      simp [itemsL, takeL] at hi
end Go.Proofs.Ytniclkhnccggpaa
namespace Go.Proofs.Ytniclkhnccggpaa
open Go.RowKit
set_option linter.unusedVariables false

theorem readI_pack (p : List UInt8) (leaf : Bool) (hq : isNibs p = true) (hl : p.length ≤ 24) : readI (pack (withFlag p leaf)) = some (p, leaf) := by
  have h := hexlen p leaf
  rw [readI, if_pos (by omega), readL_pack p leaf hq]
theorem node_parts (k : Int) (p : List UInt8) (ls : List (List UInt8)) (v : List UInt8) (h : nodeOk k p ls v = true) : nodeOfI (nodeTs k p ls v) = ⟨k, p, ls, v⟩ ∧ (nodeTs k p ls v).length ≤ 17 ∧ (nodeTs k p ls v).flatten.length ≤ 1000 := by
  simp only [nodeOk, headOk, Bool.and_eq_true, decide_eq_true_eq] at h
  obtain ⟨⟨hp, hn, hv⟩, hk⟩ := h
  unfold kindOk at hk
  by_cases h1 : k = 1
  · rw [if_pos h1] at hk
    simp only [Bool.and_eq_true, decide_eq_true_eq] at hk
    have e : ls = [] := List.length_eq_zero_iff.1 hk.2
    subst h1 e
    have hx := hexlen p true
    refine ⟨?_, by simp [nodeTs], by simp [nodeTs]; omega⟩
    simp [nodeTs, nodeOfI, readI_pack p true hn hp, ofRead]
  · rw [if_neg h1] at hk
    by_cases h2 : k = 2
    · rw [if_pos h2] at hk
      simp only [Bool.and_eq_true, decide_eq_true_eq] at hk
      obtain ⟨_, hve, hl, h32⟩ := hk
      have ev : v = [] := by simpa using hve
      obtain ⟨t, rfl⟩ : ∃ t, ls = [t] := by
        match ls, hl with
        | [t], _ => exact ⟨t, rfl⟩
      subst h2 ev
      have hx := hexlen p false
      simp only [List.getD_cons_zero] at h32
      refine ⟨?_, by simp [nodeTs], by simp [nodeTs]; omega⟩
      simp [nodeTs, nodeOfI, readI_pack p false hn hp, ofRead]
    · rw [if_neg h2] at hk
      by_cases h3 : k = 3
      · rw [if_pos h3] at hk
        simp only [branchOk, Bool.and_eq_true, decide_eq_true_eq] at hk
        obtain ⟨hpe, h16, hkids, _⟩ := hk
        have ep : p = [] := by simpa using hpe
        subst h3 ep
        have hf := flat_kids ls hkids
        refine ⟨?_, by simp [nodeTs, h16], by simp [nodeTs]; rw [List.length_flatten] at hf; omega⟩
        have e : nodeTs 3 [] ls v = ls ++ [v] := by simp [nodeTs]
        have e1 : (ls ++ [v]).take 16 = ls := by rw [← h16]; simp
        have e2 : (ls ++ [v]).getD 16 [] = v := by rw [List.getD_eq_getElem?_getD, List.getElem?_append_right (by omega)]; simp [h16]
        rw [e, nodeOfI, if_pos (by simp [h16]), e1, e2]
      · rw [if_neg h3] at hk
        cases hk
theorem node_fore (k : Int) (p : List UInt8) (ls : List (List UInt8)) (v : List UInt8) (h : nodeOk k p ls v = true) : readNode (nodeB k p ls v) = some ⟨k, p, ls, v⟩ := by
  obtain ⟨h1, h2, h3⟩ := node_parts k p ls v h
  have ht : textsL (nodeB k p ls v) = some (nodeTs k p ls v) := by
    rw [nodeB, if_pos h]
    exact texts_fore _ (by omega) (by omega)
  rw [readNode, ht]
  simp only
  rw [h1]
  exact keepN_yes _ _ h rfl
theorem node_not (k : Int) (p : List UInt8) (ls : List (List UInt8)) (v : List UInt8) (h : nodeOk k p ls v = false) : nodeB k p ls v = [] := if_neg (by rw [h]; simp)
theorem node_empty : readNode [] = none := by rfl
theorem node_back (s : List UInt8) (n : NodeL) (h : readNode s = some n) : n.ok = true ∧ nodeB n.k n.p n.ls n.v = s := by
  unfold readNode at h
  cases ht : textsL s with
  | none => rw [ht] at h; cases h
  | some ts =>
    rw [ht] at h
    simp only [keepN] at h
    split at h
    · next hh => cases h; exact ⟨hh.1, hh.2⟩
    · cases h
theorem nodeB_len (k : Int) (p : List UInt8) (ls : List (List UInt8)) (v : List UInt8) : (nodeB k p ls v).length ≤ 33006 := by
  by_cases h : nodeOk k p ls v = true
  · rw [nodeB, if_pos h]
    obtain ⟨h1, h2, h3⟩ := node_parts k p ls v h
    exact (listB_len _ (by omega) (by omega)).2
  · rw [nodeB, if_neg h]; simp
end Go.Proofs.Ytniclkhnccggpaa
namespace Go.Proofs.Ytniclkhnccggpaa
open Go.RowKit
set_option linter.unusedVariables false

/-- The node that is drawn, at the block nb. -/
structure Nd (rd : Nat) (a : Option Addr) (n cap : Nat) (w : World) (nb : Nat) (k : Int) (p : List UInt8) (ls : List (List UInt8)) (v : List UInt8) (a2 : Option Addr) (c2 : Nat) (wx : World) : Prop where
  X : wx.heap[nb]? = some (.cells #[.int .i64 k, .string ⟨p.toArray⟩, .slice a2 ls.length c2, .string ⟨v.toArray⟩] 34 (0, 0))
  O : wx.ownsRow (nb + 1) 9 1 (.slice a2 ls.length c2) ls.length (scells ls)
  Y : wx.heap[w.heap.size]? = some (.cells #[.int .i64 0, .string ⟨#[]⟩, .slice none 0 0, .string ⟨#[]⟩] 34 (0, 0))
  R : Rd rd a n cap wx
  G : w.grownBy wx (some rd)
  lr : rd < w.heap.size
  ln : w.heap.size < nb
  lc : ∀ cb off, a = some ⟨cb, off, none⟩ → n ≠ 0 → cb < w.heap.size
variable {rd : Nat} {a : Option Addr} {n cap : Nat} {w : World} {nb : Nat} {k : Int} {p : List UInt8} {ls : List (List UInt8)} {v : List UInt8} {a2 : Option Addr} {c2 : Nat} {wx wy : World}
theorem Nd.on (h : Nd rd a n cap w nb k p ls v a2 c2 wx) (hG : wx.grownBy wy (some rd)) (hR : Rd rd a n cap wy) : Nd rd a n cap w nb k p ls v a2 c2 wy :=
  have h1 := h.lr
  have h2 := h.ln
  ⟨(hG.block nb (lt_of_block h.X) (by simp; omega)).trans h.X, h.O.kept hG (.inr (fun e => by have := (h.O.lt _ e).1; omega)), (hG.block w.heap.size (lt_of_block h.Y) (by simp; omega)).trans h.Y, hR, h.G.trans hG, h.lr, h.ln, h.lc⟩
theorem Nd.below (h : Nd rd a n cap w nb k p ls v a2 c2 wx) (hB : Below wx.heap.size wx wy) : Nd rd a n cap w nb k p ls v a2 c2 wy :=
  h.on ⟨hB.os, hB.tape, hB.output, hB.size, fun k hk _ => hB.block k hk⟩ (h.R.keptNone hB)
theorem Nd.cells (h : Nd rd a n cap w nb k p ls v a2 c2 wx) : wx.cell? ⟨nb, 0, none⟩ = some (.int .i64 k) ∧ wx.cell? ⟨nb, 1, none⟩ = some (.string ⟨p.toArray⟩) ∧ wx.cell? ⟨nb, 2, none⟩ = some (.slice a2 ls.length c2) ∧ wx.cell? ⟨nb, 3, none⟩ = some (.string ⟨v.toArray⟩) ∧ (∀ j, wx.frozen? ⟨nb, j, none⟩ = false) := by
  refine ⟨?_, ?_, ?_, ?_, fun j => frozen_of_row wx nb j _ _ h.X⟩ <;> simp only [World.cell?, h.X] <;> rfl
theorem Nd.back (h : Nd rd a n cap w nb k p ls v a2 c2 wx) : wx.cell? ⟨w.heap.size, 0, none⟩ = some (.int .i64 0) ∧ wx.cell? ⟨w.heap.size, 1, none⟩ = some (.string ⟨#[]⟩) ∧ wx.cell? ⟨w.heap.size, 2, none⟩ = some (.slice none 0 0) ∧ wx.cell? ⟨w.heap.size, 3, none⟩ = some (.string ⟨#[]⟩) ∧ (∀ j, wx.frozen? ⟨w.heap.size, j, none⟩ = false) := by
  refine ⟨?_, ?_, ?_, ?_, fun j => frozen_of_row wx w.heap.size j _ _ h.Y⟩ <;> simp only [World.cell?, h.Y] <;> rfl
theorem nd_set {w : World} {b j : Nat} {u v x z y : Value} {t : TypeId} (h : w.heap[b]? = some (.cells #[u, v, x, z] t (0, 0))) : (w.setCell ⟨b, j, none⟩ y).heap[b]? = some (.cells (#[u, v, x, z].setIfInBounds j y) t (0, 0)) := by
  have hlt := lt_of_block h
  have h' : w.heap[b] = .cells #[u, v, x, z] t (0, 0) := by simpa [Array.getElem?_eq_getElem hlt] using h
  show (w.heap.modify b _)[b]? = _
  rw [Array.getElem?_eq_getElem (by simpa using hlt), Array.getElem_modify_self, h']
  rfl
theorem Nd.put (h : Nd rd a n cap w nb k p ls v a2 c2 wx) (j : Nat) (y : Value) : (wx.setCell ⟨nb, j, none⟩ y).ownsRow (nb + 1) 9 1 (.slice a2 ls.length c2) ls.length (scells ls) ∧ (wx.setCell ⟨nb, j, none⟩ y).heap[w.heap.size]? = some (.cells #[.int .i64 0, .string ⟨#[]⟩, .slice none 0 0, .string ⟨#[]⟩] 34 (0, 0)) ∧ Rd rd a n cap (wx.setCell ⟨nb, j, none⟩ y) ∧ w.grownBy (wx.setCell ⟨nb, j, none⟩ y) (some rd) := by
  have h1 := h.lr
  have h2 := h.ln
  refine ⟨ownsRow_setCell_other h.O (fun e => by have : nb + 1 ≤ nb := (h.O.lt _ e).1; omega) _, (Below.heap_setCell _ _ _ _ (by simp; omega)).trans h.Y, h.R.kept (row := some nb) ⟨rfl, rfl, rfl, by simp [World.setCell], fun q hq hne => Below.heap_setCell _ _ _ _ (fun e => hne (by simpa using e))⟩ (by simp; omega) (fun cb off hc hne e => by have := h.lc cb off hc hne; simp at e; omega), grown_setCE h.G _ _ (by simp; omega)⟩
theorem Nd.kind (h : Nd rd a n cap w nb k p ls v a2 c2 wx) (z : Int) : Nd rd a n cap w nb z p ls v a2 c2 (wx.setCell ⟨nb, 0, none⟩ (.int .i64 z)) :=
  have q := h.put 0 (.int .i64 z)
  ⟨nd_set (j := 0) h.X, q.1, q.2.1, q.2.2.1, q.2.2.2, h.lr, h.ln, h.lc⟩
theorem Nd.path (h : Nd rd a n cap w nb k p ls v a2 c2 wx) (z : List UInt8) : Nd rd a n cap w nb k z ls v a2 c2 (wx.setCell ⟨nb, 1, none⟩ (.string ⟨z.toArray⟩)) :=
  have q := h.put 1 (.string ⟨z.toArray⟩)
  ⟨nd_set (j := 1) h.X, q.1, q.2.1, q.2.2.1, q.2.2.2, h.lr, h.ln, h.lc⟩
theorem Nd.val (h : Nd rd a n cap w nb k p ls v a2 c2 wx) (z : List UInt8) : Nd rd a n cap w nb k p ls z a2 c2 (wx.setCell ⟨nb, 3, none⟩ (.string ⟨z.toArray⟩)) :=
  have q := h.put 3 (.string ⟨z.toArray⟩)
  ⟨nd_set (j := 3) h.X, q.1, q.2.1, q.2.2.1, q.2.2.2, h.lr, h.ln, h.lc⟩
/-- The kids are other ones, which the call has made behind the node. -/
theorem Nd.kids (h : Nd rd a n cap w nb k p ls v a2 c2 wx) {b2 : Option Addr} {d2 : Nat} {ms : List (List UInt8)} (hg : wx.grownBy wy (Value.slice a2 ls.length c2).ownBlock) (ho : wy.ownsRow (nb + 1) 9 1 (.slice b2 ms.length d2) ms.length (scells ms)) : Nd rd a n cap w nb k p ms v b2 d2 (wy.setCell ⟨nb, 2, none⟩ (.slice b2 ms.length d2)) := by
  have h1 := h.lr
  have h2 := h.ln
  have hb : ∀ j, (Value.slice a2 ls.length c2).ownBlock = some j → nb + 1 ≤ j := fun j e => (h.O.lt j e).1
  have hR : Rd rd a n cap wy := h.R.kept hg (fun e => by have := hb _ e; omega) (fun cb off hc hne e => by have h3 := hb _ e.symm; have h4 := h.lc cb off hc hne; omega)
  have hX : wy.heap[nb]? = some (.cells #[.int .i64 k, .string ⟨p.toArray⟩, .slice a2 ls.length c2, .string ⟨v.toArray⟩] 34 (0, 0)) := (hg.block nb (lt_of_block h.X) (fun e => by have := hb _ e.symm; omega)).trans h.X
  have hY : wy.heap[w.heap.size]? = some (.cells #[.int .i64 0, .string ⟨#[]⟩, .slice none 0 0, .string ⟨#[]⟩] 34 (0, 0)) := (hg.block w.heap.size (lt_of_block h.Y) (fun e => by have := hb _ e.symm; omega)).trans h.Y
  have hG : w.grownBy wy (some rd) := grown_more h.G hg (fun j e => .inl (by have := hb _ e; omega))
  refine ⟨nd_set (j := 2) hX, ownsRow_setCell_other ho (fun e => by have : nb + 1 ≤ nb := (ho.lt _ e).1; omega) _, (Below.heap_setCell _ _ _ _ (by simp; omega)).trans hY, hR.kept (row := some nb) ⟨rfl, rfl, rfl, by simp [World.setCell], fun q hq hne => Below.heap_setCell _ _ _ _ (fun e => hne (by simpa using e))⟩ (by simp; omega) (fun cb off hc hne e => by have := h.lc cb off hc hne; simp at e; omega), grown_setCE hG _ _ (by simp; omega), h.lr, h.ln, h.lc⟩
theorem Nd.held (h : Nd rd a n cap w nb k p ls v a2 c2 wx) (hg : wx.grownBy wy (Value.slice a2 ls.length c2).ownBlock) : wy.heap[nb]? = some (.cells #[.int .i64 k, .string ⟨p.toArray⟩, .slice a2 ls.length c2, .string ⟨v.toArray⟩] 34 (0, 0)) := by
  have h2 := h.ln
  exact (hg.block nb (lt_of_block h.X) (fun e => by have : nb + 1 ≤ nb := (h.O.lt _ e.symm).1; omega)).trans h.X
theorem Nd.heldY (h : Nd rd a n cap w nb k p ls v a2 c2 wx) (hg : wx.grownBy wy (Value.slice a2 ls.length c2).ownBlock) : wy.heap[w.heap.size]? = some (.cells #[.int .i64 0, .string ⟨#[]⟩, .slice none 0 0, .string ⟨#[]⟩] 34 (0, 0)) := by
  have h2 := h.ln
  exact (hg.block w.heap.size (lt_of_block h.Y) (fun e => by have : nb + 1 ≤ w.heap.size := (h.O.lt _ e.symm).1; omega)).trans h.Y
theorem nd_cells {b : Nat} {u v x y : Value} {t : TypeId} (h : wx.heap[b]? = some (.cells #[u, v, x, y] t (0, 0))) : wx.cell? ⟨b, 0, none⟩ = some u ∧ wx.cell? ⟨b, 1, none⟩ = some v ∧ wx.cell? ⟨b, 2, none⟩ = some x ∧ wx.cell? ⟨b, 3, none⟩ = some y ∧ (∀ j, wx.frozen? ⟨b, j, none⟩ = false) := by
  refine ⟨?_, ?_, ?_, ?_, fun j => frozen_of_row wx b j _ _ h⟩ <;> simp only [World.cell?, h] <;> rfl
/-- One kid is another text. -/
theorem Nd.kid {g : Nat} (h : Nd rd a n cap w nb k p ls v (some ⟨g, 0, none⟩) c2 wx) (j : Nat) (z : List UInt8) : Nd rd a n cap w nb k p (ls.set j z) v (some ⟨g, 0, none⟩) c2 (wx.setCell ⟨g, j, none⟩ (.string ⟨z.toArray⟩)) := by
  have h1 := h.lr
  have h2 := h.ln
  have hb : nb + 1 ≤ g := own_base h.O
  have e : (scells ls).set j (.string ⟨z.toArray⟩) = scells (ls.set j z) := by simp [scells, List.map_set]
  have ho := (h.O.stored j (.string ⟨z.toArray⟩)).1
  rw [e] at ho
  have el : (ls.set j z).length = ls.length := by simp
  refine ⟨?_, ?_, (Below.heap_setCell _ _ _ _ (by simp; omega)).trans h.Y, h.R.kept (row := some g) ⟨rfl, rfl, rfl, by simp [World.setCell], fun q hq hne => Below.heap_setCell _ _ _ _ (fun e => hne (by simpa using e))⟩ (by simp; omega) (fun cb off hc hne e => by have := h.lc cb off hc hne; simp at e; omega), grown_setCE h.G _ _ (by simp; omega), h.lr, h.ln, h.lc⟩
  · rw [el]; exact (Below.heap_setCell _ _ _ _ (by simp; omega)).trans h.X
  · rw [el]; exact ho
/-- The answer: the node laid into the result. -/
theorem Nd.fin (h : Nd rd a n cap w nb k p ls v a2 c2 wx) (wf : World) (hwf : wf = (((wx.setCell ⟨w.heap.size, 0, none⟩ (.int .i64 k)).setCell ⟨w.heap.size, 1, none⟩ (.string ⟨p.toArray⟩)).setCell ⟨w.heap.size, 2, none⟩ (.slice a2 ls.length c2)).setCell ⟨w.heap.size, 3, none⟩ (.string ⟨v.toArray⟩)) :
    wf.heap[w.heap.size]? = some (.cells #[.int .i64 k, .string ⟨p.toArray⟩, .slice a2 ls.length c2, .string ⟨v.toArray⟩] 34 (0, 0)) ∧ wf.ownsRow w.heap.size 9 1 (.slice a2 ls.length c2) ls.length (scells ls) ∧ Rd rd a n cap wf ∧ w.grownBy wf (some rd) := by
  have h1 := h.lr
  have h2 := h.ln
  have no : (.slice a2 ls.length c2 : Value).ownBlock ≠ some w.heap.size := fun e => by have := (h.O.lt _ e).1; omega
  have one : ∀ (u : World) (j : Nat) (y : Value), Rd rd a n cap u → Rd rd a n cap (u.setCell ⟨w.heap.size, j, none⟩ y) := fun u j y hu => hu.kept (row := some w.heap.size) ⟨rfl, rfl, rfl, by simp [World.setCell], fun q hq hne => Below.heap_setCell _ _ _ _ (fun e => hne (by simpa using e))⟩ (by simp; omega) (fun cb off hc hne e => by have := h.lc cb off hc hne; simp at e; omega)
  rw [hwf]
  exact ⟨nd_set (j := 3) (nd_set (j := 2) (nd_set (j := 1) (nd_set (j := 0) h.Y))), (ownsRow_setCell_other (ownsRow_setCell_other (ownsRow_setCell_other (ownsRow_setCell_other h.O no _) no _) no _) no _).mono (by omega), one _ _ _ (one _ _ _ (one _ _ _ (one _ _ _ h.R))), grown_setCE (grown_setCE (grown_setCE (grown_setCE h.G _ _ (Nat.le_refl _)) _ _ (Nat.le_refl _)) _ _ (Nat.le_refl _)) _ _ (Nat.le_refl _)⟩
end Go.Proofs.Ytniclkhnccggpaa
