/-
  What chapters 3 and 4 say, on lists of bytes: digits, chains, signatures that are used once, the tree of keys.
-/
import Derived.Test.YtddjpfgkjijmoaaDoorMathTag
namespace Go.Proofs.YtddjpfgkjijmoaaDoor
open Go.RowKit
set_option linter.unusedVariables false

theorem sumL_len (l : List UInt8) : (sumL l).length = 32 := by
  have h : ∀ s : S8, (stT s).length = 32 := fun s => by
    have := stT_len s 8 (Nat.le_refl _)
    rw [List.take_of_length_le (by simp [S8.l])] at this
    exact this
  exact h _

theorem tagL_len (tag : List UInt8) (ps : List (List UInt8)) (h1 : ps.length ≤ 1000) (h2 : tag.length + ps.flatten.length ≤ 30000) : (tagL tag ps).length = 32 := by
  rw [tagL_yes tag ps h1 h2, sumL_len]

def tDigits : List UInt8 := [100, 105, 103, 105, 116, 115]
def tChain : List UInt8 := [99, 104, 97, 105, 110]
def tStart : List UInt8 := [115, 116, 97, 114, 116]
def tOnce : List UInt8 := [111, 110, 99, 101]
def tLeaf : List UInt8 := [108, 101, 97, 102]
def tNode : List UInt8 := [110, 111, 100, 101]

/-- A byte of a number. -/
def byteL (n : Nat) : List UInt8 := [UInt8.ofNat n]

/-- The cells of a row of numbers. -/
def icells (ds : List Nat) : List Value := ds.map fun (n : Nat) => Value.int .i64 (n : Int)
theorem icells_length (ds : List Nat) : (icells ds).length = ds.length := by simp [icells]
theorem icells_app (a b : List Nat) : icells (a ++ b) = icells a ++ icells b := by simp [icells]
theorem icells_at (ds : List Nat) (j : Nat) (h : j < ds.length) : (icells ds)[j]? = some (.int .i64 (ds[j] : Int)) := by simp [icells, h]
theorem icells_one (ds : List Nat) : ∀ u ∈ icells ds, u.oneCell' = true := by
  intro u hu
  simp only [icells, List.mem_map] at hu
  obtain ⟨n, _, rfl⟩ := hu
  rfl

/-- A byte's four digits to the base 4, the highest first. -/
def dig4 (b : UInt8) : List Nat := [b.toNat / 64, b.toNat / 16 % 4, b.toNat / 4 % 4, b.toNat % 4]
def digs (h : List UInt8) : List Nat := ((h.take 4).map dig4).flatten
/-- The sum of 3 less each. -/
def chk (ds : List Nat) : Nat := (ds.map fun d => 3 - d).sum
def dig3 (n : Nat) : List Nat := [n / 16, n / 4 % 4, n % 4]
def digestD (msg : List UInt8) : List UInt8 := tagL tDigits [sumL msg]
def digitsL (msg : List UInt8) : List Nat := digs (digestD msg) ++ dig3 (chk (digs (digestD msg)))

theorem digestD_len (msg : List UInt8) : (digestD msg).length = 32 := tagL_len _ _ (by simp) (by simp [tDigits, sumL_len])
theorem dig4_lt (b : UInt8) : ∀ d ∈ dig4 b, d ≤ 3 := by
  intro d hd
  have := b.toNat_lt
  simp [dig4] at hd
  omega
theorem digs_lt (h : List UInt8) : ∀ d ∈ digs h, d ≤ 3 := by
  intro d hd
  simp only [digs, List.mem_flatten, List.mem_map] at hd
  obtain ⟨l, ⟨b, _, rfl⟩, hd⟩ := hd
  exact dig4_lt b d hd
theorem digs4 (h : List UInt8) (hl : 4 ≤ h.length) (j : Nat) (hj : j < 4) : ((h.take (j + 1)).map dig4).flatten = ((h.take j).map dig4).flatten ++ dig4 (h[j]'(by omega)) := by
  rw [List.take_succ_eq_append_getElem (by omega : j < h.length), List.map_append, List.flatten_append]
  simp only [List.map_cons, List.map_nil, List.flatten_cons, List.flatten_nil, List.append_nil]
theorem digs4_len (h : List UInt8) (hl : 4 ≤ h.length) (j : Nat) (hj : j ≤ 4) : (((h.take j).map dig4).flatten).length = 4 * j := by
  induction j with
  | zero => rfl
  | succ j ih => rw [digs4 h hl j (by omega), List.length_append, ih (by omega)]; simp [dig4]; omega
theorem digs_len (h : List UInt8) (hl : 4 ≤ h.length) : (digs h).length = 16 := digs4_len h hl 4 (by omega)
theorem chk_app (a b : List Nat) : chk (a ++ b) = chk a + chk b := by simp [chk]
theorem chk_le (ds : List Nat) : chk ds ≤ 3 * ds.length := by
  induction ds with
  | nil => simp [chk]
  | cons d r ih => simp only [chk, List.map_cons, List.sum_cons, List.length_cons] at ih ⊢; omega
theorem chk_take (ds : List Nat) (j : Nat) (h : j < ds.length) : chk (ds.take (j + 1)) = chk (ds.take j) + (3 - ds[j]) := by
  rw [List.take_succ_eq_append_getElem h, chk_app]
  simp [chk]
theorem digitsL_len (msg : List UInt8) : (digitsL msg).length = 19 := by
  rw [digitsL, List.length_append, digs_len _ (by rw [digestD_len]; omega)]
  rfl
theorem chk48 (msg : List UInt8) : chk (digs (digestD msg)) ≤ 48 := by
  have h1 := chk_le (digs (digestD msg))
  rw [digs_len _ (by rw [digestD_len]; omega)] at h1
  exact h1
theorem digitsL_lt (msg : List UInt8) : ∀ d ∈ digitsL msg, d ≤ 3 := by
  intro d hd
  rw [digitsL, List.mem_append] at hd
  rcases hd with hd | hd
  · exact digs_lt _ d hd
  · have := chk48 msg
    simp [dig3] at hd
    omega
theorem digitsL_at (msg : List UInt8) (j : Nat) (h : j < (digitsL msg).length) : (digitsL msg)[j] ≤ 3 := digitsL_lt msg _ (List.getElem_mem _)

/-- So many steps on chain c, from the height f on. -/
def chainL (c f : Nat) (x : List UInt8) : Nat → List UInt8
  | 0 => x
  | k + 1 => tagL tChain [byteL c, byteL (f + k), chainL c f x k]

theorem chainL_len (c f : Nat) (x : List UInt8) (h : x.length = 32) : ∀ k, (chainL c f x k).length = 32
  | 0 => h
  | k + 1 => tagL_len _ _ (by simp) (by simp [tChain, byteL, chainL_len c f x h k])
theorem chainL_add (c f : Nat) (x : List UInt8) (a : Nat) : ∀ b, chainL c (f + a) (chainL c f x a) b = chainL c f x (a + b)
  | 0 => rfl
  | b + 1 => by rw [chainL, chainL_add c f x a b, ← Nat.add_assoc a b 1, chainL, Nat.add_assoc]

def startL (seed : List UInt8) (c : Nat) : List UInt8 := tagL tStart [seed, byteL c]
theorem startL_len (seed : List UInt8) (c : Nat) (h : seed.length = 32) : (startL seed c).length = 32 := tagL_len _ _ (by simp) (by simp [tStart, byteL, h])

/-- The first j chains' ends. -/
def endsL (seed : List UInt8) (j : Nat) : List (List UInt8) := (List.range j).map fun i => chainL i 0 (startL seed i) 3
def publicL (seed : List UInt8) : List UInt8 := tagL tOnce (endsL seed 19)
/-- The first j texts of a signature. -/
def sigL (seed msg : List UInt8) (j : Nat) : List (List UInt8) := (List.range j).map fun i => chainL i 0 (startL seed i) ((digitsL msg).getD i 0)
/-- The first j ends to which a signature's chains lead. -/
def leadL (msg : List UInt8) (sig : List (List UInt8)) (j : Nat) : List (List UInt8) := (List.range j).map fun i => chainL i ((digitsL msg).getD i 0) (sig.getD i []) (3 - (digitsL msg).getD i 0)
def publicOfL (msg : List UInt8) (sig : List (List UInt8)) : List UInt8 := tagL tOnce (leadL msg sig 19)

theorem digitsL_getD (msg : List UInt8) (i : Nat) : (digitsL msg).getD i 0 ≤ 3 := by
  by_cases h : i < (digitsL msg).length
  · rw [List.getD_eq_getElem?_getD, List.getElem?_eq_getElem h]; exact digitsL_at msg i h
  · rw [List.getD_eq_getElem?_getD, List.getElem?_eq_none (by omega)]; simp

theorem flat32 (ls : List (List UInt8)) (h : ∀ l ∈ ls, l.length = 32) : ls.flatten.length = 32 * ls.length := by
  induction ls with
  | nil => rfl
  | cons a r ih =>
    rw [List.flatten_cons, List.length_append, ih (fun l hl => h l (List.mem_cons_of_mem _ hl)), h a (List.mem_cons_self ..), List.length_cons]
    omega

theorem endsL_snoc (seed : List UInt8) (j : Nat) : endsL seed (j + 1) = endsL seed j ++ [chainL j 0 (startL seed j) 3] := by simp [endsL, List.range_succ]
theorem sigL_snoc (seed msg : List UInt8) (j : Nat) : sigL seed msg (j + 1) = sigL seed msg j ++ [chainL j 0 (startL seed j) ((digitsL msg).getD j 0)] := by simp [sigL, List.range_succ]
theorem leadL_snoc (msg : List UInt8) (sig : List (List UInt8)) (j : Nat) : leadL msg sig (j + 1) = leadL msg sig j ++ [chainL j ((digitsL msg).getD j 0) (sig.getD j []) (3 - (digitsL msg).getD j 0)] := by simp [leadL, List.range_succ]
theorem endsL_length (seed : List UInt8) (j : Nat) : (endsL seed j).length = j := by simp [endsL]
theorem sigL_length (seed msg : List UInt8) (j : Nat) : (sigL seed msg j).length = j := by simp [sigL]
theorem leadL_length (msg : List UInt8) (sig : List (List UInt8)) (j : Nat) : (leadL msg sig j).length = j := by simp [leadL]
theorem endsL_32 (seed : List UInt8) (h : seed.length = 32) (j : Nat) : ∀ l ∈ endsL seed j, l.length = 32 := by
  intro l hl
  simp only [endsL, List.mem_map] at hl
  obtain ⟨i, _, rfl⟩ := hl
  exact chainL_len _ _ _ (startL_len seed i h) _
theorem sigL_32 (seed msg : List UInt8) (h : seed.length = 32) (j : Nat) : ∀ l ∈ sigL seed msg j, l.length = 32 := by
  intro l hl
  simp only [sigL, List.mem_map] at hl
  obtain ⟨i, _, rfl⟩ := hl
  exact chainL_len _ _ _ (startL_len seed i h) _
theorem leadL_32 (msg : List UInt8) (sig : List (List UInt8)) (h : ∀ l ∈ sig, l.length = 32) (j : Nat) (hj : j ≤ sig.length) : ∀ l ∈ leadL msg sig j, l.length = 32 := by
  intro l hl
  simp only [leadL, List.mem_map, List.mem_range] at hl
  obtain ⟨i, hi, rfl⟩ := hl
  refine chainL_len _ _ _ ?_ _
  rw [List.getD_eq_getElem?_getD, List.getElem?_eq_getElem (by omega : i < sig.length)]
  exact h _ (List.getElem_mem _)
theorem publicL_len (seed : List UInt8) (h : seed.length = 32) : (publicL seed).length = 32 :=
  tagL_len _ _ (by rw [endsL_length]; omega) (by rw [flat32 _ (endsL_32 seed h 19), endsL_length]; simp [tOnce])
theorem publicOfL_len (msg : List UInt8) (sig : List (List UInt8)) (hl : sig.length = 19) (h : ∀ l ∈ sig, l.length = 32) : (publicOfL msg sig).length = 32 :=
  tagL_len _ _ (by rw [leadL_length]; omega) (by rw [flat32 _ (leadL_32 msg sig h 19 (by omega)), leadL_length]; simp [tOnce])

/-- A signature leads to its key's public text. -/
theorem once_back (seed msg : List UInt8) : publicOfL msg (sigL seed msg 19) = publicL seed := by
  unfold publicOfL publicL
  refine congrArg (tagL tOnce) ?_
  unfold leadL endsL
  apply List.map_congr_left
  intro i hi
  rw [List.mem_range] at hi
  have hg : (sigL seed msg 19).getD i [] = chainL i 0 (startL seed i) ((digitsL msg).getD i 0) := by
    rw [List.getD_eq_getElem?_getD, sigL, List.getElem?_map, List.getElem?_range hi]; rfl
  have hd := digitsL_getD msg i
  rw [hg]
  have := chainL_add i 0 (startL seed i) ((digitsL msg).getD i 0) (3 - (digitsL msg).getD i 0)
  rw [Nat.zero_add] at this
  rw [this]
  exact congrArg (chainL i 0 (startL seed i)) (by omega)

def leafL (seed : List UInt8) (i : Nat) : List UInt8 := tagL tLeaf [seed, byteL i]
def nodeL (a b : List UInt8) : List UInt8 := tagL tNode [a, b]
theorem leafL_len (seed : List UInt8) (i : Nat) (h : seed.length = 32) : (leafL seed i).length = 32 := tagL_len _ _ (by simp) (by simp [tLeaf, byteL, h])
theorem nodeL_len (a b : List UInt8) (ha : a.length = 32) (hb : b.length = 32) : (nodeL a b).length = 32 := tagL_len _ _ (by simp) (by simp [tNode, ha, hb])
/-- The public text of leaf i. -/
def keyL (seed : List UInt8) (i : Nat) : List UInt8 := publicL (leafL seed i)
theorem keyL_len (seed : List UInt8) (i : Nat) (h : seed.length = 32) : (keyL seed i).length = 32 := publicL_len _ (leafL_len seed i h)
def level0 (seed : List UInt8) : List (List UInt8) := [keyL seed 0, keyL seed 1, keyL seed 2, keyL seed 3]
def level1 (seed : List UInt8) : List (List UInt8) := [nodeL (keyL seed 0) (keyL seed 1), nodeL (keyL seed 2) (keyL seed 3)]
def rootL (seed : List UInt8) : List UInt8 := nodeL (nodeL (keyL seed 0) (keyL seed 1)) (nodeL (keyL seed 2) (keyL seed 3))
theorem rootL_len (seed : List UInt8) (h : seed.length = 32) : (rootL seed).length = 32 :=
  nodeL_len _ _ (nodeL_len _ _ (keyL_len _ _ h) (keyL_len _ _ h)) (nodeL_len _ _ (keyL_len _ _ h) (keyL_len _ _ h))
/-- What stands beside the way of leaf i. -/
def pathL (seed : List UInt8) : Nat → List (List UInt8)
  | 0 => [keyL seed 1, nodeL (keyL seed 2) (keyL seed 3)]
  | 1 => [keyL seed 0, nodeL (keyL seed 2) (keyL seed 3)]
  | 2 => [keyL seed 3, nodeL (keyL seed 0) (keyL seed 1)]
  | _ => [keyL seed 2, nodeL (keyL seed 0) (keyL seed 1)]
/-- One step up: the lowest bit tells the side. -/
def upL (i : Nat) (x y : List UInt8) : List UInt8 := if i % 2 = 1 then nodeL y x else nodeL x y
/-- To which root a public text leads by two texts. -/
def leadsL (i : Nat) (x p q : List UInt8) : List UInt8 := upL (i / 2) (upL i x p) q
theorem leads_back (seed : List UInt8) (i : Nat) (h : i < 4) : ∃ p q, pathL seed i = [p, q] ∧ leadsL i (keyL seed i) p q = rootL seed := by
  match i, h with
  | 0, _ => exact ⟨_, _, rfl, by simp [leadsL, upL, rootL]⟩
  | 1, _ => exact ⟨_, _, rfl, by simp [leadsL, upL, rootL]⟩
  | 2, _ => exact ⟨_, _, rfl, by simp [leadsL, upL, rootL]⟩
  | 3, _ => exact ⟨_, _, rfl, by simp [leadsL, upL, rootL]⟩
end Go.Proofs.YtddjpfgkjijmoaaDoor
