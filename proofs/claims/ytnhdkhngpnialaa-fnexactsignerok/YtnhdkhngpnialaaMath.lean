/-
  Plain facts on bytes, and small facts on worlds, that the walks of this seat lean on. No function of the program is named here.
-/
import Derived.WalkKit
import Derived.WalkSpells
import Derived.WalkLawsBesides
import Derived.Deep.RegionHeld3
import Derived.Deep.AppendLies
namespace Go.Proofs.Ytnhdkhngpnialaa
open Go.RowKit

/-- The cells of a row of bytes. -/
def bcells (l : List UInt8) : List Value := l.map fun b => .int .u8 (b.toNat : Int)

theorem bcells_length (l : List UInt8) : (bcells l).length = l.length := by simp [bcells]

/-- Of each byte its upper and its lower nibble. -/
def nibs (l : List UInt8) : List UInt8 := l.flatMap fun b => [b / 16, b % 16]

theorem nibs_length (l : List UInt8) : (nibs l).length = 2 * l.length := by
  induction l with
  | nil => rfl
  | cons a l ih => simp only [nibs, List.flatMap_cons, List.length_append, List.length_cons, List.length_nil] at ih ⊢; omega

theorem take_snoc (s : ByteArray) (k : Nat) (h : k < s.size) : s.data.toList.take (k + 1) = s.data.toList.take k ++ [s[k]] := by
  rw [List.take_succ_eq_append_getElem (by simpa using h)]; rfl

theorem take_all (s : ByteArray) (k : Nat) (h : ¬ k < s.size) : s.data.toList.take k = s.data.toList := List.take_of_length_le (by simpa using Nat.le_of_not_lt h)

theorem nibs_snoc (s : ByteArray) (k : Nat) (h : k < s.size) : nibs (s.data.toList.take (k + 1)) = nibs (s.data.toList.take k) ++ [s[k] / 16, s[k] % 16] := by
  rw [take_snoc s k h]; simp [nibs]

theorem u8_wrap_small (n : Int) (h0 : 0 ≤ n) (h1 : n < 256) : IntKind.u8.wrap n = n := by
  simp [IntKind.wrap, IntKind.signed, IntKind.bits]; omega

theorem u8_hi (b : UInt8) : IntKind.u8.wrap ((b.toNat : Int) / 16) = ((b / 16).toNat : Int) := by
  have := b.toNat_lt
  rw [u8_wrap_small _ (by omega) (by omega)]; simp

theorem u8_hi' (b : UInt8) : (b.toNat : Int) / 16 = ((b / 16).toNat : Int) := by simp

theorem u8_lo (b : UInt8) : ((b.toNat : Int)).tmod 16 = ((b % 16).toNat : Int) := by
  rw [Int.tmod_eq_emod_of_nonneg (by omega)]; simp

theorem u8_and15_all : ∀ n : Fin 256, bits BinOp.and IntKind.u8 ((n.val : Nat) : Int) 15 = ((n.val % 16 : Nat) : Int) := by decide +kernel

theorem u8_and15 (b : UInt8) : bits BinOp.and IntKind.u8 (b.toNat : Int) 15 = ((b % 16).toNat : Int) := by
  have := u8_and15_all ⟨b.toNat, b.toNat_lt⟩
  simpa using this

theorem add_none (g j : Nat) : (⟨g, 0, none⟩ : Addr).add j = ⟨g, j, none⟩ := by unfold Addr.add; split <;> simp_all

/-- 'string(b)' of a row of bytes that the call itself made. -/
theorem own_string {P : Program} {w : World} {base e t d g n cap : Nat} {l : List UInt8} (hs : P.underlying t = some (.slice e)) (he : P.underlying e = some (.int .u8)) (hd : P.underlying d = some .string)
    (h : w.ownsRow base e 1 (.slice (some ⟨g, 0, none⟩) n cap) n (bcells l)) : (convert t d (.slice (some ⟨g, 0, none⟩) n cap)).run P w = .ok (.string ⟨l.toArray⟩) w := by
  have hn : n = l.length := by have := h.1; simp [bcells] at this; omega
  subst hn
  refine run_convert_bytes_back w t d e _ cap l hs he hd fun j hj => ?_
  rw [add_none, h.cellAt j (by omega)]
  simp [bcells, List.getElem?_eq_getElem hj]

theorem own_base {w : World} {base e size g n cap : Nat} {xs : List Value} (h : w.ownsRow base e size (.slice (some ⟨g, 0, none⟩) n cap) n xs) : base ≤ g := by
  rcases h.2 with ⟨h', _⟩ | ⟨g', cap', cur, h', hb, _⟩
  · simp at h'
  · simp only [Value.slice.injEq, Option.some.injEq, Addr.mk.injEq, and_true, true_and] at h'
    obtain ⟨rfl, rfl⟩ := h'
    exact hb

theorem below_app {B g n cap : Nat} {w wr w1 : World} {o : Obj} (hbel : Below B w wr) (hB : B ≤ wr.heap.size) (hg : B ≤ g) (hgrow : (wr.alloc o).drew.grownBy w1 (Value.slice (some ⟨g, 0, none⟩) n cap).ownBlock) : Below B w w1 :=
  ((hbel.alloc hB o).drew).grown hgrow (by simp; omega) (by intro j hj; simp [Value.ownBlock] at hj; subst hj; exact hg)

theorem below_app0 {B g n cap : Nat} {w wr w1 : World} {o : Obj} (hbel : Below B w wr) (hB : B ≤ wr.heap.size) (hg : B ≤ g) (hgrow : (wr.alloc o).grownBy w1 (Value.slice (some ⟨g, 0, none⟩) n cap).ownBlock) : Below B w w1 :=
  (hbel.alloc hB o).grown hgrow (by simp; omega) (by intro j hj; simp [Value.ownBlock] at hj; subst hj; exact hg)

theorem ret_string {a b : List UInt8} (h : a = b) : Ending.returned (.string ⟨a.toArray⟩) = .returned (.string ⟨b.toArray⟩) := by rw [h]

end Go.Proofs.Ytnhdkhngpnialaa
