/-
  Plain facts on nibbles, packed by twos.
-/
import Derived.Test.YtnhdkhngpnialaaMath
namespace Go.Proofs.Ytnhdkhngpnialaa
open Go.RowKit

/-- Every byte is a nibble. -/
def isNibs (l : List UInt8) : Bool := l.all fun b => decide (b.toNat ≤ 15)

theorem isNibs_snoc (s : ByteArray) (k : Nat) (h : k < s.size) : isNibs (s.data.toList.take (k + 1)) = (isNibs (s.data.toList.take k) && decide (s[k].toNat ≤ 15)) := by
  rw [take_snoc s k h]; simp [isNibs]

theorem isNibs_no (s : ByteArray) (k : Nat) (h : k < s.size) (hb : ¬ s[k].toNat ≤ 15) : isNibs s.data.toList = false := by
  have hm : s[k] ∈ s.data.toList := by
    have : s[k] = s.data.toList[k]'(by simpa using h) := rfl
    rw [this]; exact List.getElem_mem _
  unfold isNibs
  rw [List.all_eq_false]
  exact ⟨s[k], hm, by simpa using hb⟩

theorem isNibs_at (l : List UInt8) (h : isNibs l = true) (k : Nat) (hk : k < l.length) : l[k].toNat ≤ 15 := by
  unfold isNibs at h
  rw [List.all_eq_true] at h
  simpa using h l[k] (List.getElem_mem _)

/-- Two nibbles in a byte, the first the upper one. -/
def pack : List UInt8 → List UInt8
  | a :: b :: r => (16 * a + b) :: pack r
  | _ => []

theorem pack_snoc : ∀ (k : Nat) (l : List UInt8) (h : 2 * k + 1 < l.length), pack (l.take (2 * (k + 1))) = pack (l.take (2 * k)) ++ [16 * l[2 * k] + l[2 * k + 1]]
  | 0, a :: b :: r, _ => by simp [pack]
  | k + 1, a :: b :: r, h => by
    have := pack_snoc k r (by simp at h; omega)
    simp only [show 2 * (k + 1 + 1) = 2 * (k + 1) + 1 + 1 from by omega, show 2 * (k + 1) = 2 * k + 1 + 1 from by omega, List.take_succ_cons, pack, List.cons_append, List.getElem_cons_succ] at this ⊢
    rw [this]
  | _, [], h => by simp at h
  | _, [_], h => by simp at h

theorem pack_length : ∀ (k : Nat) (l : List UInt8) (_ : 2 * k ≤ l.length), (pack (l.take (2 * k))).length = k
  | 0, _, _ => by simp [pack]
  | k + 1, a :: b :: r, h => by
    have := pack_length k r (by simp at h; omega)
    simp only [show 2 * (k + 1) = 2 * k + 1 + 1 from by omega, List.take_succ_cons, pack, List.length_cons]
    rw [this]
  | _ + 1, [], h => by simp at h
  | _ + 1, [_], h => by simp at h; omega

/-- The flag, a 0 where the number is even, and the nibbles. -/
def withFlag (l : List UInt8) (leaf : Bool) : List UInt8 :=
  if l.length % 2 = 1 then (if leaf then 3 else 1) :: l else (if leaf then 2 else 0) :: 0 :: l

theorem u8_shl4_or_all : ∀ a b : Fin 16, bits BinOp.or IntKind.u8 (IntKind.u8.wrap (((a.val : Nat) : Int) * 16)) ((b.val : Nat) : Int) = ((16 * a.val + b.val : Nat) : Int) := by decide +kernel

theorem u8_mul_add (a b : UInt8) (ha : a.toNat ≤ 15) (hb : b.toNat ≤ 15) : ((16 * a + b : UInt8).toNat : Int) = 16 * (a.toNat : Int) + (b.toNat : Int) := by
  simp; omega

theorem u8_shl4_or (a b : UInt8) (ha : a.toNat ≤ 15) (hb : b.toNat ≤ 15) : bits BinOp.or IntKind.u8 (IntKind.u8.wrap ((a.toNat : Int) * 16)) (b.toNat : Int) = ((16 * a + b : UInt8).toNat : Int) := by
  rw [u8_mul_add a b ha hb]
  have := u8_shl4_or_all ⟨a.toNat, by omega⟩ ⟨b.toNat, by omega⟩
  simp only at this
  rw [this]; omega

theorem bcells_snoc (l : List UInt8) (b : UInt8) : bcells (l ++ [b]) = bcells l ++ [.int .u8 (b.toNat : Int)] := by simp [bcells]

theorem pack_step (s : ByteArray) (m k : Nat) (hm : m = 2 * k) (h : m + 1 < s.size) : pack (s.data.toList.take (2 * (k + 1))) = pack (s.data.toList.take (2 * k)) ++ [16 * s[m] + s[m + 1]] := by
  subst hm
  rw [pack_snoc k s.data.toList (by simpa using h)]
  rfl

theorem isNibs_byte (s : ByteArray) (h : isNibs s.data.toList = true) (m : Nat) (hm : m < s.size) : s[m].toNat ≤ 15 :=
  isNibs_at s.data.toList h m (by simpa using hm)

/-- The cells of '[]byte(s)', in the world behind the conversion. -/
theorem conv_news (W : World) (B : Nat) (hB : W.heap.size = B) (s : ByteArray) (cap : Nat) (t : TypeId) (fr : Nat × Nat) (j : Nat) (u : Value) (hu : (bcells s.data.toList)[j]? = some u) :
    (W.alloc (.cells (bytesRow s cap) t fr)).drew.cell? ((⟨B, 0, none⟩ : Addr).add j) = some u := by
  subst hB
  have hj : j < s.data.size := by
    have := (List.getElem?_eq_some_iff.1 hu).1
    simpa [bcells] using this
  rw [add_none]
  show (W.alloc (.cells (bytesRow s cap) t fr)).cell? ⟨W.heap.size, j, none⟩ = some u
  rw [World.cell?_alloc_mark, bytesRow_at s cap j hj]
  simp only [bcells, List.getElem?_map, Array.getElem?_toList, Array.getElem?_eq_getElem hj, Option.map_some] at hu
  exact hu

theorem bcells_one (l : List UInt8) : ∀ u ∈ bcells l, u.oneCell' = true := by
  intro u hu
  simp only [bcells, List.mem_map] at hu
  obtain ⟨b, _, rfl⟩ := hu
  rfl

/-- What an append leaves, where the slice was not nil. -/
theorem own_shape {w : World} {base e size n : Nat} {v : Value} {xs : List Value} (h : w.ownsRow base e size v n xs) (hn : v ≠ .slice none 0 0) : ∃ g cap, v = .slice (some ⟨g, 0, none⟩) n cap := by
  rcases h.2 with ⟨h', _⟩ | ⟨g, cap, _, h', _⟩
  · exact absurd h' hn
  · exact ⟨g, cap, h'⟩

theorem own_lt {w : World} {base e size g n cap : Nat} {xs : List Value} (h : w.ownsRow base e size (.slice (some ⟨g, 0, none⟩) n cap) n xs) : g < w.heap.size := by
  rcases h.2 with ⟨h', _⟩ | ⟨g', cap', cur, h', _, hg, _⟩
  · simp at h'
  · simp only [Value.slice.injEq, Option.some.injEq, Addr.mk.injEq, and_true, true_and] at h'
    obtain ⟨rfl, rfl⟩ := h'
    exact (Array.getElem?_eq_some_iff.1 hg).1

/-- A byte of a row that is owned, as a cell, in a later world. -/
theorem own_byte {w wr : World} {base e g n cap : Nat} {l : List UInt8} (h : w.ownsRow base e 1 (.slice (some ⟨g, 0, none⟩) n cap) n (bcells l)) (hb : Below w.heap.size w wr) (j : Nat) (hj : j < l.length) :
    wr.cell? ⟨g, j, none⟩ = some (.int .u8 (l[j].toNat : Int)) := by
  have hn : n = l.length := by have := h.1; simp [bcells] at this; omega
  rw [hb.cell (p := ⟨g, j, none⟩) (own_lt h), h.cellAt j (by omega)]
  simp [bcells, List.getElem?_eq_getElem hj]

theorem pack_step' (l : List UInt8) (m k : Nat) (hm : m = 2 * k) (h : m + 1 < l.length) : pack (l.take (2 * (k + 1))) = pack (l.take (2 * k)) ++ [16 * l[m] + l[m + 1]] := by
  subst hm
  exact pack_snoc k l h

theorem withFlag_odd (l : List UInt8) (leaf : Bool) (h : l.length % 2 = 1) : withFlag l leaf = (if leaf then 3 else 1) :: l := by simp [withFlag, h]

theorem withFlag_even (l : List UInt8) (leaf : Bool) (h : l.length % 2 = 0) : withFlag l leaf = (if leaf then 2 else 0) :: 0 :: l := by simp [withFlag, h]

theorem heap_alloc_at (W : World) (o : Obj) (B : Nat) (h : W.heap.size = B) : (W.alloc o).heap[B]? = some o := by
  subst h; exact heap_alloc_new W o

theorem u8_mul_add_wrap (a b : UInt8) : IntKind.u8.wrap (IntKind.u8.wrap (16 * (a.toNat : Int)) + (b.toNat : Int)) = ((16 * a + b : UInt8).toNat : Int) := by
  simp [IntKind.wrap, IntKind.signed, IntKind.bits]

theorem i64_wrap_small (n : Int) (h0 : -1000000000000 ≤ n) (h1 : n ≤ 1000000000000) : IntKind.i64.wrap n = n := by
  simp [IntKind.wrap, IntKind.signed, IntKind.bits]; omega

end Go.Proofs.Ytnhdkhngpnialaa
