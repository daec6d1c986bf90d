/-
  What the digest is, on lists of bytes and of words.
-/
import Derived.Test.YtddjpfgkjijmoaaDoorWord
import Derived.Test.YtddjpfgkjijmoaaDoorMathAll
import Derived.Laws.Tables
namespace Go.Proofs.YtddjpfgkjijmoaaDoor
open Go.RowKit
set_option linter.unusedVariables false

/-- A word with a byte more behind it. -/
def ap (x : UInt32) (b : UInt8) : UInt32 := UInt32.ofNat (x.toNat * 256 % 4294967296 ||| b.toNat)

theorem e_ap (x : UInt32) (b : UInt8) : bits .or .u32 (num x * 256 % 4294967296) (b.toNat : Int) = num (ap x b) := by
  have hb := b.toNat_lt
  have h1 : x.toNat * 256 % 4294967296 < 4294967296 := Nat.mod_lt _ (by omega)
  have h3 : x.toNat * 256 % 4294967296 ||| b.toNat < 4294967296 := by
    have := Nat.or_lt_two_pow (n := 32) (by simpa using h1) (show b.toNat < 2 ^ 32 by omega)
    simpa using this
  have e2 : num x * 256 % 4294967296 = ((x.toNat * 256 % 4294967296 : Nat) : Int) := by unfold num; omega
  rw [e2, ap, num_of _ h3]
  exact u32_or_nat _ _ h1 (by omega)

/-- Words as cells. -/
def wcells (ws : List UInt32) : List Value := ws.map fun x => .int .u32 (num x)

theorem wcells_length (ws : List UInt32) : (wcells ws).length = ws.length := by simp [wcells]
theorem wcells_at (ws : List UInt32) (j : Nat) (h : j < ws.length) : (wcells ws)[j]? = some (.int .u32 (num ws[j])) := by simp [wcells, h]
theorem wcells_set (ws : List UInt32) (j : Nat) (x : UInt32) : (wcells ws).set j (.int .u32 (num x)) = wcells (ws.set j x) := by simp [wcells, List.map_set]

theorem wcells_one (ws : List UInt32) : (wcells ws).toArray.all (·.oneCell') = true := by
  rw [Array.all_eq_true_iff_forall_mem]
  intro v hv
  simp only [wcells, List.mem_toArray, List.mem_map] at hv
  obtain ⟨x, _, rfl⟩ := hv
  rfl
theorem wcells_mem (ws : List UInt32) : ∀ v ∈ wcells ws, v.oneCell' = true := by
  intro v hv
  simp only [wcells, List.mem_map] at hv
  obtain ⟨x, _, rfl⟩ := hv
  rfl
theorem num_zero : num 0 = 0 := rfl

/-- An array of words in a block of its own. -/
def Arr (w : World) (b t : Nat) (ws : List UInt32) : Prop := w.heap[b]? = some (.cells (wcells ws).toArray t (0, 0))

theorem Arr.cell {w : World} {b t : Nat} {ws : List UInt32} (h : Arr w b t ws) (j : Nat) (hj : j < ws.length) : w.cell? ⟨b, j, none⟩ = some (.int .u32 (num ws[j])) := by
  rw [cell_of_row w b j _ t _ h, List.getElem?_toArray, wcells_at ws j hj]
theorem Arr.free {w : World} {b t : Nat} {ws : List UInt32} (h : Arr w b t ws) (j : Nat) : w.frozen? ⟨b, j, none⟩ = false := frozen_of_row w b j _ t h
theorem Arr.lt {w : World} {b t : Nat} {ws : List UInt32} (h : Arr w b t ws) : b < w.heap.size := (Array.getElem?_eq_some_iff.1 h).1
theorem Arr.set {w : World} {b t : Nat} {ws : List UInt32} (h : Arr w b t ws) (j : Nat) (x : UInt32) : Arr (w.setCell ⟨b, j, none⟩ (.int .u32 (num x))) b t (ws.set j x) := by
  unfold Arr
  rw [heap_setCell_same w b j _ t _ h, List.setIfInBounds_toArray, wcells_set]
theorem Arr.kept {w w' : World} {b t : Nat} {ws : List UInt32} (h : Arr w b t ws) (hb : w'.heap[b]? = w.heap[b]?) : Arr w' b t ws := hb.trans h

/-- What was laid into a row. -/
structure Laid (w : World) (g t : Nat) (cs : Array Value) (W : World) : Prop where
  row : W.heap[g]? = some (.cells cs t (0, 0))
  other : ∀ k, k ≠ g → W.heap[k]? = w.heap[k]?
  size : W.heap.size = w.heap.size
  os : W.os = w.os
  tape : W.tape = w.tape
  output : W.output = w.output

theorem Laid.below {w w0 W : World} {g t B : Nat} {cs : Array Value} (h : Laid w g t cs W) (hb : Below B w0 w) (hg : B ≤ g) : Below B w0 W :=
  ⟨h.os.trans hb.os, h.tape.trans hb.tape, h.output.trans hb.output, by rw [h.size]; exact hb.size, fun k hk => by rw [h.other k (by omega)]; exact hb.block k hk⟩

theorem store_laid {P : Program} {ops : Array Oper} {rest : List Oper} {o : Oper} {a : Act} {w : World} {Q : Exit → Act → World → Prop} (hgd : o.guard = none) (ty : TypeId) (x y : Operand) (ho : o.op = .store ty x y)
    (g : Nat) (cells : Array Value) (hx : a.eval x = .pointer (some ⟨g, 0, none⟩)) (hy : a.eval y = .agg cells)
    (t : TypeId) (old : Array Value) (hg : w.heap[g]? = some (.cells old t (0, 0))) (hi : (P.info? ty).map (·.size) = some cells.size)
    (hold : old.size = cells.size) (h1 : cells.all (·.oneCell') = true)
    (h : ∀ W, Laid w g t cells W → wpList P ops Q rest (a.put o.dst undef) W) : wpList P ops Q (o :: rest) a w :=
  wpList_store_row hgd ty x y ho g cells hx hy t old hg hi hold h1 (h _ ⟨setRow_heap w g old cells t _ hg, fun k hk => setRow_other w g k cells hk, setRow_size w g cells, rfl, rfl, rfl⟩)

/-- What of word t is there behind j bytes. -/
def bw (l : List UInt8) (j t : Nat) : UInt32 := (((l.take j).drop (4 * t)).take 4).foldl ap 0
def bws (l : List UInt8) (j : Nat) : List UInt32 := (List.range 16).map (bw l j)

theorem bws_length (l : List UInt8) (j : Nat) : (bws l j).length = 16 := by simp [bws]
theorem bws_zero (l : List UInt8) : bws l 0 = List.replicate 16 0 := by
  simp [bws, bw, List.range, List.range.loop, List.replicate]
theorem bws_at (l : List UInt8) (j t : Nat) (h : t < 16) : (bws l j)[t]'(by rw [bws_length]; exact h) = bw l j t := by simp [bws]

theorem bw_same (l : List UInt8) (j t : Nat) (h : t ≠ j / 4) : bw l (j + 1) t = bw l j t := by
  unfold bw
  congr 1
  rcases Nat.lt_or_ge t (j / 4) with h1 | h1
  · apply List.ext_getElem?
    intro i
    simp only [List.getElem?_take, List.getElem?_drop]
    by_cases hi : i < 4
    · rw [if_pos hi, if_pos hi, if_pos (by omega), if_pos (by omega)]
    · rw [if_neg hi, if_neg hi]
  · rw [List.drop_eq_nil_of_le (by simp; omega), List.drop_eq_nil_of_le (by simp; omega)]

theorem bw_more (l : List UInt8) (j : Nat) (h : j < l.length) : bw l (j + 1) (j / 4) = ap (bw l j (j / 4)) l[j] := by
  unfold bw
  have e : (((l.take (j + 1)).drop (4 * (j / 4))).take 4) = (((l.take j).drop (4 * (j / 4))).take 4) ++ [l[j]] := by
    have hl : ((l.take j).drop (4 * (j / 4))).length + 1 ≤ 4 := by simp; omega
    rw [List.take_succ_eq_append_getElem h, List.drop_append_of_le_length (by simp; omega)]
    generalize (l.take j).drop (4 * (j / 4)) = d at hl ⊢
    rw [List.take_of_length_le (by simpa using hl), List.take_of_length_le (by omega)]
  rw [e, List.foldl_append]
  rfl

theorem bws_step (l : List UInt8) (j : Nat) (h : j < l.length) (hj : j < 64) : (bws l j).set (j / 4) (ap (bw l j (j / 4)) l[j]) = bws l (j + 1) := by
  apply List.ext_getElem?
  intro i
  rw [List.getElem?_set]
  by_cases hi : j / 4 = i
  · subst hi
    rw [if_pos rfl, if_pos (by rw [bws_length]; omega)]
    simp only [bws, List.getElem?_map]
    rw [List.getElem?_range (by omega)]
    simp [bw_more l j h]
  · rw [if_neg hi]
    simp only [bws, List.getElem?_map]
    by_cases h16 : i < 16
    · rw [List.getElem?_range h16]
      simp [bw_same l j i (fun e => hi e.symm)]
    · simp [h16]

def s0 (x : UInt32) : UInt32 := xo (xo (rr x 7) (rr x 18)) (sr x 3)
def s1 (x : UInt32) : UInt32 := xo (xo (rr x 17) (rr x 19)) (sr x 10)
/-- The next word of a block that is spread. -/
def nxt (ws : List UInt32) : UInt32 := ad (ad (ad (ws.getD (ws.length - 16) 0) (s0 (ws.getD (ws.length - 15) 0))) (ws.getD (ws.length - 7) 0)) (s1 (ws.getD (ws.length - 2) 0))
def sch (m : List UInt32) : Nat → List UInt32
  | 0 => m
  | k + 1 => sch m k ++ [nxt (sch m k)]

theorem sch_length (m : List UInt32) (k : Nat) : (sch m k).length = m.length + k := by
  induction k with
  | zero => rfl
  | succ k ih => simp [sch, ih]; omega

/-- A row that is not full yet. -/
def part (ws : List UInt32) (n : Nat) : List UInt32 := ws ++ List.replicate (n - ws.length) 0

theorem part_length (ws : List UInt32) (n : Nat) (h : ws.length ≤ n) : (part ws n).length = n := by simp [part]; omega
theorem part_at (ws : List UInt32) (n i : Nat) (h : i < ws.length) (h2 : i < (part ws n).length) : (part ws n)[i] = ws.getD i 0 := by
  simp [part, List.getElem_append_left h, h]
theorem part_set (ws : List UInt32) (n : Nat) (x : UInt32) (h : ws.length < n) : (part ws n).set ws.length x = part (ws ++ [x]) n := by
  unfold part
  rw [List.set_append_right _ _ (Nat.le_refl _), Nat.sub_self]
  obtain ⟨k, hk⟩ : ∃ k, n - ws.length = k + 1 := ⟨n - ws.length - 1, by omega⟩
  have hk2 : n - (ws ++ [x]).length = k := by simp; omega
  rw [hk, hk2, List.replicate_succ]
  simp
theorem part_full (ws : List UInt32) (n : Nat) (h : ws.length = n) : part ws n = ws := by simp [part, h]

theorem arr_known {w : World} {b t : Nat} {ws : List UInt32} {n : Nat} (h : Arr w b t (part ws n)) (i : Nat) (hi : i < ws.length) (hn : ws.length ≤ n) : w.cell? ⟨b, i, none⟩ = some (.int .u32 (num (ws.getD i 0))) := by
  have h2 : i < (part ws n).length := by rw [part_length ws n hn]; omega
  rw [h.cell i h2, part_at ws n i hi h2]

/-- The round words. -/
def kL : List UInt32 := [1116352408, 1899447441, 3049323471, 3921009573, 961987163, 1508970993, 2453635748, 2870763221, 3624381080, 310598401, 607225278, 1426881987, 1925078388, 2162078206, 2614888103, 3248222580, 3835390401, 4022224774, 264347078, 604807628, 770255983, 1249150122, 1555081692, 1996064986, 2554220882, 2821834349, 2952996808, 3210313671, 3336571891, 3584528711, 113926993, 338241895, 666307205, 773529912, 1294757372, 1396182291, 1695183700, 1986661051, 2177026350, 2456956037, 2730485921, 2820302411, 3259730800, 3345764771, 3516065817, 3600352804, 4094571909, 275423344, 430227734, 506948616, 659060556, 883997877, 958139571, 1322822218, 1537002063, 1747873779, 1955562222, 2024104815, 2227730452, 2361852424, 2428436474, 2756734187, 3204031479, 3329325298]

/-- Eight words. -/
structure S8 where
  a : UInt32
  b : UInt32
  c : UInt32
  d : UInt32
  e : UInt32
  f : UInt32
  g : UInt32
  h : UInt32

def S8.l (s : S8) : List UInt32 := [s.a, s.b, s.c, s.d, s.e, s.f, s.g, s.h]

def t1 (s : S8) (k w : UInt32) : UInt32 := ad (ad (ad (ad s.h (xo (xo (rr s.e 6) (rr s.e 11)) (rr s.e 25))) (xo (an s.e s.f) (an (no s.e) s.g))) k) w
def t2 (s : S8) : UInt32 := ad (xo (xo (rr s.a 2) (rr s.a 13)) (rr s.a 22)) (xo (xo (an s.a s.b) (an s.a s.c)) (an s.b s.c))
/-- A round. -/
def rnd (s : S8) (k w : UInt32) : S8 := ⟨ad (t1 s k w) (t2 s), s.a, s.b, s.c, ad s.d (t1 s k w), s.e, s.f, s.g⟩
def rnds (ks ws : List UInt32) (s : S8) : Nat → S8
  | 0 => s
  | n + 1 => rnd (rnds ks ws s n) (ks.getD n 0) (ws.getD n 0)
def plus (r s : S8) : S8 := ⟨ad r.a s.a, ad r.b s.b, ad r.c s.c, ad r.d s.d, ad r.e s.e, ad r.f s.f, ad r.g s.g, ad r.h s.h⟩
/-- A block mixed into a state. -/
def mix (s : S8) (m : List UInt32) : S8 := plus (rnds kL (sch m 48) s 64) s

/-- The sum of two states up to place j. -/
def pl (r s : S8) (j : Nat) : List UInt32 := (List.range 8).map fun i => if i < j then ad (r.l.getD i 0) (s.l.getD i 0) else r.l.getD i 0

theorem pl_length (r s : S8) (j : Nat) : (pl r s j).length = 8 := by simp [pl]
theorem pl_zero (r s : S8) : pl r s 0 = r.l := rfl
theorem pl_all (r s : S8) : pl r s 8 = (plus r s).l := rfl
theorem pl_at (r s : S8) (j : Nat) (h : j < 8) : (pl r s j)[j]'(by rw [pl_length]; exact h) = r.l.getD j 0 := by simp [pl]
theorem pl_step (r s : S8) (j : Nat) (h : j < 8) : (pl r s j).set j (ad (r.l.getD j 0) (s.l.getD j 0)) = pl r s (j + 1) := by
  apply List.ext_getElem?
  intro i
  rw [List.getElem?_set]
  by_cases hi : j = i
  · subst hi
    rw [if_pos rfl, if_pos (by rw [pl_length]; exact h)]
    simp only [pl, List.getElem?_map]
    rw [List.getElem?_range h]
    simp
  · rw [if_neg hi]
    simp only [pl, List.getElem?_map]
    by_cases h8 : i < 8
    · rw [List.getElem?_range h8]
      simp [show (i < j + 1) = (i < j) by simp; omega]
    · simp [h8]
theorem s8_at (s : S8) (j : Nat) (h : j < 8) : s.l[j]'(by simp [S8.l]; exact h) = s.l.getD j 0 := by simp [S8.l, List.getD, h]

/-- The words of a block. -/
def bl (l : List UInt8) : List UInt32 := bws l 64
/-- A state behind j blocks. -/
def stAt (s : S8) (l : List UInt8) : Nat → S8
  | 0 => s
  | j + 1 => mix (stAt s l j) (bl ((l.drop (64 * j)).take 64))

theorem stAt_front (s : S8) (a b : List UInt8) (j : Nat) (h : 64 * j ≤ a.length) : stAt s (a ++ b) j = stAt s a j := by
  induction j with
  | zero => rfl
  | succ j ih =>
    rw [stAt, stAt, ih (by omega)]
    congr 2
    rw [List.drop_append_of_le_length (by omega), List.take_append_of_le_length (by simp; omega)]

theorem stAt_behind (s : S8) (a b : List UInt8) (m j : Nat) (h : a.length = 64 * m) : stAt s (a ++ b) (m + j) = stAt (stAt s a m) b j := by
  induction j with
  | zero => exact stAt_front s a b m (by omega)
  | succ j ih =>
    rw [← Nat.add_assoc, stAt, stAt, ih]
    congr 2
    have : 64 * (m + j) = a.length + 64 * j := by omega
    rw [this, List.drop_append, List.drop_eq_nil_of_le (by omega)]
    simp

theorem ext_mid (l : List UInt8) (i n : Nat) (h : i + n ≤ l.length) : (ByteArray.mk l.toArray).extract i (i + n) = ⟨((l.drop i).take n).toArray⟩ := by
  apply ByteArray.ext
  simp [ByteArray.extract, ByteArray.copySlice]

theorem sl_mid {P : Program} {t : TypeId} (ht : P.underlying t = some .string) (l : List UInt8) (x y : Int) (i n : Nat) (hx : x = (i : Int)) (hy : y = ((i + n : Nat) : Int)) (h : i + n ≤ l.length) (W : World) :
    (Instr.slice t (.string ⟨l.toArray⟩) (some (.int .i64 x)) (some (.int .i64 y)) none).run P W = .ok (.string ⟨((l.drop i).take n).toArray⟩) W := by
  subst hx hy
  have hz : (ByteArray.mk l.toArray).size = l.length := by simp [ByteArray.size]
  rw [run_slice_string_if W t _ _ _ _ _ ht, if_pos (by rw [hz]; omega), if_pos (by omega), Int.toNat_natCast, Int.toNat_natCast, ext_mid l i n h]

theorem load_row {P : Program} (W : World) (g t n : Nat) (cs : Array Value) (hg : W.heap[g]? = some (.cells cs t (0, 0))) (hn : cs.size = n) :
    (loadCellsFrom ⟨g, 0, none⟩ 0 n #[]).run P W = .ok cs W := by
  subst hn
  have := run_loadCells_list (P := P) W ⟨g, 0, none⟩ cs.toList (fun j v hv => by
    rw [add_none, cell_of_row W g j cs t (0, 0) hg]
    simpa using hv)
  simpa [loadCells] using this

theorem store_row {P : Program} (W : World) (g t : Nat) (old cs : Array Value) (hg : W.heap[g]? = some (.cells old t (0, 0))) (ho : old.size = cs.size) (h1 : cs.all (·.oneCell') = true) :
    (storeCells ⟨g, 0, none⟩ cs.toList 0).run P W = .ok () (W.setRow g cs) := by
  have := run_storeCells_from (P := P) g t cs.toList 0 old W hg (by simp; omega) (fun v hv => (Array.all_eq_true_iff_forall_mem.1 h1) v (by simpa using hv))
  simpa using this

/-- How many noughts fill the last block. -/
def padZ (k : Nat) : Nat := (119 - k % 64) % 64
theorem padZ_le (k : Nat) : padZ k < 64 := Nat.mod_lt _ (by omega)
theorem padZ_more (k z : Nat) (h : z < padZ k) : (k + 1 + z) % 64 ≠ 56 := by unfold padZ at h; omega
theorem padZ_end (k : Nat) : (k + 1 + padZ k) % 64 = 56 := by unfold padZ; omega
theorem padZ_part (a b : Nat) (h : a % 64 = 0) : padZ (a + b) = padZ b := by unfold padZ; omega

/-- A text with what fills it up, n its length. -/
def padB (l : List UInt8) (n : Nat) : List UInt8 := l ++ (128 :: List.replicate (padZ l.length) 0) ++ bigB (8 * n) 8
theorem padB_length (l : List UInt8) (n : Nat) : (padB l n).length = l.length + 1 + padZ l.length + 8 := by simp [padB, bigB_length]; omega
theorem padB_blocks (l : List UInt8) (n : Nat) : (padB l n).length = 64 * ((padB l n).length / 64) := by have := padZ_end l.length; rw [padB_length]; omega
theorem padB_part (a b : List UInt8) (n : Nat) (h : a.length % 64 = 0) : padB (a ++ b) n = a ++ padB b n := by
  unfold padB; rw [List.length_append, padZ_part _ _ h]; simp

/-- A word's four bytes. -/
def wB (x : UInt32) : List UInt8 := [UInt8.ofNat (x.toNat / 16777216), UInt8.ofNat (x.toNat / 65536), UInt8.ofNat (x.toNat / 256), UInt8.ofNat x.toNat]
def stT (s : S8) : List UInt8 := (s.l.map wB).flatten
def initS : S8 := ⟨1779033703, 3144134277, 1013904242, 2773480762, 1359893119, 2600822924, 528734635, 1541459225⟩
/-- The digest. -/
def sumL (l : List UInt8) : List UInt8 := stT (stAt initS (padB l l.length) ((padB l l.length).length / 64))

theorem e_byte (x : UInt32) (p : Int) (n : Nat) (hp : p = (n : Int)) : num x / p % 256 = ((UInt8.ofNat (x.toNat / n)).toNat : Int) := by
  subst hp; unfold num; rw [byte_of]; omega
theorem e_byte0 (x : UInt32) : num x % 256 = ((UInt8.ofNat x.toNat).toNat : Int) := by unfold num; rw [byte_of]

theorem stT_step (s : S8) (j : Nat) (h : j < 8) : ((s.l.take (j + 1)).map wB).flatten = ((s.l.take j).map wB).flatten ++ wB (s.l.getD j 0) := by
  have hl : j < s.l.length := by simpa [S8.l] using h
  rw [List.take_succ_eq_append_getElem hl, s8_at s j h]
  simp
theorem stT_len (s : S8) (j : Nat) (h : j ≤ 8) : (((s.l.take j).map wB).flatten).length = 4 * j := by
  induction j with
  | zero => rfl
  | succ j ih => rw [stT_step s j (by omega), List.length_append, ih (by omega)]; simp [wB]; omega
end Go.Proofs.YtddjpfgkjijmoaaDoor
