/-
  Rows that the call owns, a mark behind their end or none: what append makes of them.
-/
import Derived.Test.YtnhdkhngpnialaaDoorMathStrs
import Derived.ArgAppend
namespace Go.Proofs.YtnhdkhngpnialaaDoor
open Go.RowKit
set_option linter.unusedVariables false

/-- A row of one-celled elements, from block 'base' on, at g: its elements, and free cells up to its capacity. -/
structure RowX (w : World) (base g n cap : Nat) (xs : List Value) : Prop where
  len : xs.length = n
  low : base ≤ g
  lt : g < w.heap.size
  fit : n ≤ cap
  cells : ∀ j, j < n → w.cell? ⟨g, j, none⟩ = xs[j]?
  spare : ∀ j, n ≤ j → j < cap → (w.cell? ⟨g, j, none⟩).isSome = true ∧ w.frozen? ⟨g, j, none⟩ = false

theorem RowX.kept {w w' : World} {base g n cap : Nat} {xs : List Value} {row : Option Nat} (h : RowX w base g n cap xs) (hg : w.grownBy w' row) (hr : some g ≠ row) : RowX w' base g n cap xs := by
  have hb := hg.block g h.lt hr
  refine ⟨h.len, h.low, Nat.lt_of_lt_of_le h.lt hg.size, h.fit, fun j hj => ?_, fun j h1 h2 => ?_⟩
  · rw [World.cell?_of_block (w := w) (a := ⟨g, j, none⟩) hb]; exact h.cells j hj
  · rw [World.cell?_of_block (w := w) (a := ⟨g, j, none⟩) hb, World.frozen?_of_block (w := w) (a := ⟨g, j, none⟩) hb]; exact h.spare j h1 h2

theorem RowX.below {w w' : World} {base g n cap : Nat} {xs : List Value} (h : RowX w base g n cap xs) (hb : Below w.heap.size w w') : RowX w' base g n cap xs :=
  h.kept (row := none) ⟨hb.os, hb.tape, hb.output, hb.size, fun k hk _ => hb.block k hk⟩ (by simp)

theorem RowX.alloc {w : World} {base g n cap : Nat} {xs : List Value} (h : RowX w base g n cap xs) (o : Obj) : RowX (w.alloc o) base g n cap xs :=
  h.below ((Below.refl _ _).alloc (Nat.le_refl _) _)

theorem rowX_of {w : World} {base b1 e g n cap : Nat} {xs : List Value} (h : w.ownsRow b1 e 1 (.slice (some ⟨g, 0, none⟩) n cap) n xs) (hb : base ≤ g) : RowX w base g n cap xs := by
  rcases h.2 with ⟨h', _⟩ | ⟨g', cap', cur, h', h1, h2, h3, h4, h5, h6⟩
  · cases h'
  · cases h'
    have hl := h.1
    refine ⟨by omega, hb, (Array.getElem?_eq_some_iff.1 h2).1, h3, fun j hj => h.cellAt j (by omega), fun j hj1 hj2 => ⟨?_, h.frozenAt j⟩⟩
    rw [cell_of_row w g j cur e _ h2, Array.getElem?_eq_getElem (by omega)]
    rfl

theorem setCells_other (b : Nat) : ∀ (vs : List Value) (o : Nat) (w : World) (k : Nat), k ≠ b → (w.setCells b o vs).heap[k]? = w.heap[k]?
  | [], _, _, _, _ => rfl
  | v :: r, o, w, k, h => by rw [World.setCells, setCells_other b r (o + 1) _ k h]; exact heap_setCell_other w _ k v h
theorem setCells_size (b : Nat) : ∀ (vs : List Value) (o : Nat) (w : World), (w.setCells b o vs).heap.size = w.heap.size ∧ (w.setCells b o vs).os = w.os ∧ (w.setCells b o vs).tape = w.tape ∧ (w.setCells b o vs).output = w.output
  | [], _, _ => ⟨rfl, rfl, rfl, rfl⟩
  | v :: r, o, w => by
    rw [World.setCells]
    obtain ⟨h1, h2, h3, h4⟩ := setCells_size b r (o + 1) (w.setCell ⟨b, o, none⟩ v)
    exact ⟨h1.trans (by simp [World.setCell]), h2, h3, h4⟩

theorem append_x {P : Program} (w : World) {ops : Array Oper} {rest : List Oper} {o : Oper} {a : Act} {Q : Exit → Act → World → Prop}
    (hg : o.guard = none) (s x : Operand) (t : TypeId) (hop : o.op = Op.call { callee := Callee.builtin Builtin.append, args := #[s, x], argTypes := #[t, t] })
    (e : TypeId) (i : TypeInfo) (z : Value) (bytes : Nat) (h1 : P.underlying t = some (.slice e)) (h2 : P.info? e = some i) (h3 : i.zero = some z) (h4 : i.size = 1) (h5 : i.bytes = bytes) (h6 : z.cells.size = 1)
    (base g n cap : Nat) (xs : List Value) (hs : a.eval s = .slice (some ⟨g, 0, none⟩) n cap) (hR : RowX w base g n cap xs)
    (ad : Addr) (m c : Nat) (news : List Value) (hx : a.eval x = .slice (some ad) m c) (hn : news.length = m) (hc : ∀ j u, news[j]? = some u → w.cell? (ad.add j) = some u) (h1c : ∀ u ∈ news, u.oneCell' = true)
    (hm : 0 < m) (b1 : n + m ≤ maxLen) (b2 : (n + m) * bytes ≤ 140737488355328) (hbw : base ≤ w.heap.size)
    (k : ∀ g' cap' w', RowX w' base g' (n + m) cap' (xs ++ news) → w.grownBy w' (some g) → wpList P ops Q rest (a.put o.dst (.slice (some ⟨g', 0, none⟩) (n + m) cap')) w') :
    wpList P ops Q (o :: rest) a w := by
  refine wpList_append_arg w hg s x t hop e i z 1 bytes h1 h2 h3 h4 h5 h6 (by decide) g 0 n cap xs hs (by rw [hR.len]; omega) (fun j u hj => ?_) ad m c news hx (by omega) hc h1c (fun hr j hj => ?_) b1 b2 (fun hr => ?_) (fun hr v' w' ho hgw => ?_)
  · have hj' : j < n := by have := (List.getElem?_eq_some_iff.1 hj).1; rw [hR.len] at this; exact this
    rw [Nat.zero_add, hR.cells j hj']; exact hj
  · have := hR.spare (n + j) (by omega) (by omega)
    simpa using this
  · have hsz := setCells_size g news (0 + n * 1) w
    have hin : ∀ j, j < news.length → (w.cell? ⟨g, 0 + n * 1 + j, none⟩).isSome = true := fun j hj => by
      have := (hR.spare (n + j) (by omega) (by omega)).1
      simpa using this
    refine k g cap _ ⟨by rw [List.length_append, hR.len, hn], hR.low, by rw [hsz.1]; exact hR.lt, hr, fun j hj => ?_, fun j hj1 hj2 => ?_⟩ ⟨hsz.2.1, hsz.2.2.1, hsz.2.2.2, by rw [hsz.1]; exact Nat.le_refl _, fun k' _ hk' => setCells_other g news _ w k' (fun e => hk' (by rw [e]))⟩
    · by_cases hjn : j < n
      · rw [World.cell?_setCells_out g news _ w ⟨g, j, none⟩ (fun _ _ => .inl (by simp; omega)), hR.cells j hjn, List.getElem?_append_left (by rw [hR.len]; exact hjn)]
      · have := World.cell?_setCells_in g news (0 + n * 1) w hin (j - n) (by omega)
        rw [show 0 + n * 1 + (j - n) = j by omega] at this
        rw [this, List.getElem?_append_right (by rw [hR.len]; omega), hR.len, List.getElem?_eq_getElem (by omega)]
    · rw [World.frozen?_setCells, World.cell?_setCells_out g news _ w ⟨g, j, none⟩ (fun _ _ => .inr (by simp; omega))]
      exact hR.spare j (by omega) hj2
  · rcases own_cases ho with ⟨rfl, h0, _⟩ | ⟨g', cap', rfl, hg1, hg2, hg3, hg4⟩
    · omega
    · exact k g' cap' w' (rowX_of ho (by omega)) ⟨hgw.os, hgw.tape, hgw.output, hgw.size, fun k' hk' _ => hgw.block k' hk' (by simp)⟩

/-- '[]byte(s)': its row. -/
theorem conv_row (W : World) (l : List UInt8) (base cap : Nat) (t : TypeId) (hb : base ≤ W.heap.size) (hc : l.length ≤ cap) :
    RowX (W.alloc (.cells (bytesRow ⟨l.toArray⟩ cap) t ((bytesRow ⟨l.toArray⟩ cap).size, (bytesRow ⟨l.toArray⟩ cap).size + 1))) base W.heap.size l.length cap (bcells l) := by
  have hz : (bytesRow ⟨l.toArray⟩ cap).size = cap := by simp [bytesRow, ByteArray.size]; omega
  have hblk := heap_alloc_new W (.cells (bytesRow ⟨l.toArray⟩ cap) t ((bytesRow ⟨l.toArray⟩ cap).size, (bytesRow ⟨l.toArray⟩ cap).size + 1))
  refine ⟨bcells_length l, hb, by simp, hc, fun j hj => ?_, fun j h1 h2 => ⟨?_, ?_⟩⟩
  · rw [cell_of_row _ _ j _ _ _ hblk, bytesRow_at ⟨l.toArray⟩ cap j (by simpa using hj)]
    simp [bcells, hj]
  · rw [cell_of_row _ _ j _ _ _ hblk, Array.getElem?_eq_getElem (by omega)]
    rfl
  · have hjz : j < (bytesRow ⟨l.toArray⟩ cap).size := by omega
    unfold World.frozen?
    rw [hblk]
    generalize (bytesRow ⟨l.toArray⟩ cap).size = z at hjz ⊢
    simp; omega

theorem row_string {P : Program} {w : World} {base t e d g n cap : Nat} {l : List UInt8} (hs : P.underlying t = some (.slice e)) (he : P.underlying e = some (.int .u8)) (hd : P.underlying d = some .string)
    (h : RowX w base g n cap (bcells l)) : (convert t d (.slice (some ⟨g, 0, none⟩) n cap)).run P w = .ok (.string ⟨l.toArray⟩) w := by
  have hn : l.length = n := by rw [← bcells_length l]; exact h.len
  subst hn
  refine run_convert_bytes_back w t d e ⟨g, 0, none⟩ cap l hs he hd (fun j hj => ?_)
  rw [add_none, h.cells j hj]
  simp [bcells, hj]
end Go.Proofs.YtnhdkhngpnialaaDoor
