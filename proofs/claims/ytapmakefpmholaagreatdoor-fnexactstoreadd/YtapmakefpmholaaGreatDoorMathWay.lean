/-
  Ways from a root to a key, on lists; a map of nodes that keeps the nodes beside their texts.
-/
import Derived.Test.YtapmakefpmholaaGreatDoorGetAll
import Derived.Test.YtapmakefpmholaaGreatDoorEmptyR
import Derived.Test.YtapmakefpmholaaGreatDoorIListAll
namespace Go.Proofs.YtapmakefpmholaaGreatDoor
open Go.RowKit
set_option linter.unusedVariables false

/-- What a node says of a path: the way ends, with a code and a value, or goes on. -/
inductive StepL where
  | ends (c : Int) (v : List UInt8)
  | on (h p : List UInt8)

def stepL (n : NodeL) (path : List UInt8) : StepL :=
  if n.k = 1 then (if n.p = path then .ends 1 n.v else .ends 0 [])
  else if n.k = 2 then (if path.take n.p.length = n.p then .on (n.ls.getD 0 []) (path.drop n.p.length) else .ends 0 [])
  else match path with
    | [] => if n.v = [] then .ends 0 [] else .ends 1 n.v
    | x :: r => if n.ls.getD x.toNat [] = [] then .ends 0 [] else .on (n.ls.getD x.toNat []) r

/-- The node of a text. -/
def nodeAt (t : List UInt8) : NodeL := (readNode t).getD zeroN

def wayL (find : List UInt8 → Option (List UInt8)) : Nat → List UInt8 → List UInt8 → List (List UInt8) × Int × List UInt8
  | 0, _, _ => ([], 2, [])
  | f + 1, h, p => match find h with
    | none => ([], 2, [])
    | some t => match stepL (nodeAt t) p with
      | .ends c v => ([t], c, v)
      | .on h' p' => (t :: (wayL find f h' p').1, (wayL find f h' p').2)

theorem wayL_none (find : List UInt8 → Option (List UInt8)) (f : Nat) (h p : List UInt8) (hf : find h = none) : wayL find (f + 1) h p = ([], 2, []) := by simp only [wayL, hf]
theorem wayL_ends (find : List UInt8 → Option (List UInt8)) (f : Nat) (h p t : List UInt8) (c : Int) (v : List UInt8) (hf : find h = some t) (hs : stepL (nodeAt t) p = .ends c v) : wayL find (f + 1) h p = ([t], c, v) := by simp only [wayL, hf, hs]
theorem wayL_on (find : List UInt8 → Option (List UInt8)) (f : Nat) (h p t h' p' : List UInt8) (hf : find h = some t) (hs : stepL (nodeAt t) p = .on h' p') : wayL find (f + 1) h p = (t :: (wayL find f h' p').1, (wayL find f h' p').2) := by simp only [wayL, hf, hs]

def getOkL (ps : List PairL) (root key : List UInt8) : Bool := storeOkL ps && (decide (root.length = 32) && decide (key.length ≤ 12))
def walkL (ps : List PairL) (root key : List UInt8) : List (List UInt8) × Int × List UInt8 := if root = emptyL then ([], 0, []) else wayL (findL ps) 30 root (nibs key)
def getC (ps : List PairL) (root key : List UInt8) : Int := if getOkL ps root key = true then (walkL ps root key).2.1 else 3
def getV (ps : List PairL) (root key : List UInt8) : List UInt8 := if getOkL ps root key = true then (walkL ps root key).2.2 else []

/-! ### right nodes -/
theorem readNode_ok (t : List UInt8) (n : NodeL) (h : readNode t = some n) : n.ok = true := by
  unfold readNode at h
  split at h
  · cases h
  · unfold keepN at h
    split at h
    · rename_i hk
      cases h
      exact hk.1
    · cases h
theorem nodeAt_ok (t : List UInt8) (h : (readNode t).isSome = true) : (nodeAt t).ok = true := by
  obtain ⟨n, hn⟩ := Option.isSome_iff_exists.1 h
  unfold nodeAt
  rw [hn]
  exact readNode_ok t n hn
/-- What a right node has. -/
theorem ok_parts (n : NodeL) (h : n.ok = true) : n.p.length ≤ 24 ∧ isNibs n.p = true ∧ n.v.length ≤ 60 ∧ ((n.k = 1 ∧ n.ls = [] ∧ n.v ≠ []) ∨ (n.k = 2 ∧ n.p ≠ [] ∧ n.v = [] ∧ ∃ x, n.ls = [x] ∧ x.length = 32) ∨ (n.k = 3 ∧ n.p = [] ∧ n.ls.length = 16 ∧ ∀ l ∈ n.ls, l = [] ∨ l.length = 32)) := by
  obtain ⟨k, p, ls, v⟩ := n
  simp only [NodeL.ok, nodeOk, headOk, Bool.and_eq_true, decide_eq_true_eq] at h
  obtain ⟨⟨h1, h2, h3⟩, h4⟩ := h
  refine ⟨h1, h2, h3, ?_⟩
  unfold kindOk at h4
  split at h4
  · rename_i hk
    simp only [Bool.and_eq_true, decide_eq_true_eq, Bool.not_eq_true'] at h4
    exact .inl ⟨hk, List.length_eq_zero_iff.1 h4.2, fun e => by subst e; simp at h4⟩
  · split at h4
    · rename_i hk
      simp only [Bool.and_eq_true, decide_eq_true_eq, Bool.not_eq_true'] at h4
      obtain ⟨q1, q2, q3, q4⟩ := h4
      obtain ⟨x, rfl⟩ := List.length_eq_one_iff.1 q3
      exact .inr (.inl ⟨hk, fun e => by subst e; simp at q1, List.isEmpty_iff.1 q2, x, rfl, by simpa using q4⟩)
    · split at h4
      · rename_i hk
        simp only [branchOk, Bool.and_eq_true, decide_eq_true_eq, List.all_eq_true] at h4
        obtain ⟨q1, q2, q3, q4⟩ := h4
        refine .inr (.inr ⟨hk, List.isEmpty_iff.1 q1, q2, fun l hl => ?_⟩)
        have := q3 l hl
        simp only [kidOk, Bool.or_eq_true, decide_eq_true_eq] at this
        rcases this with h | h
        · exact .inl (List.isEmpty_iff.1 h)
        · exact .inr h
      · cases h4

/-! ### the map of nodes, with its nodes -/
/-- An element reads as itself, where it is of its shape. -/
def uvR (v : Value) : Option (DataW Value × List MemPlace) := match v with
  | .agg ⟨[.string _, .int .i64 _, .string _, .slice _ _ _, .string _]⟩ => some (.held v, [])
  | _ => none
theorem uvR_inv {v x : Value} {qs : List MemPlace} (h : uvR v = some (.held x, qs)) : v = x := by
  unfold uvR at h
  split at h
  · cases h; rfl
  · cases h
theorem uvR_shape {v : Value} {y : DataW Value × List MemPlace} (h : uvR v = some y) : ∃ (t : ByteArray) (k : Int) (p : ByteArray) (a : Option Addr) (m c : Nat) (x : ByteArray), v = .agg #[.string t, .int .i64 k, .string p, .slice a m c, .string x] ∧ y = (.held v, []) := by
  unfold uvR at h
  split at h
  · rename_i t k p a m c x
    cases h
    exact ⟨t, k, p, a, m, c, x, rfl, rfl⟩
  · cases h
def datV : List PairL → List Value → DataW Value → DataW Value
  | p :: ps, v :: vs, D => datV ps vs (D.put (keyLit p.1) (.held v))
  | _, _, D => D
theorem datV_snoc : ∀ (ps : List PairL) (vs : List Value) (D : DataW Value) (v : Value) (h : vs.length < ps.length), datV ps (vs ++ [v]) D = (datV ps vs D).put (keyLit (keyAt ps vs.length)) (.held v)
  | [], vs, D, v, h => by simp at h
  | p :: ps, [], D, v, h => by
    rw [keyAt_lt _ _ h]
    cases ps <;> rfl
  | p :: ps, x :: vs, D, v, h => by
    have h' : vs.length < ps.length := by simpa using h
    have := datV_snoc ps vs (D.put (keyLit p.1) (.held x)) v h'
    rw [keyAt_lt _ _ h'] at this
    rw [keyAt_lt _ _ h]
    exact this
/-- A value of the map is a text with its node. -/
def NodeIs (w : World) (lo : Nat) (t : List UInt8) (v : Value) : Prop :=
  ∃ (a : Option Addr) (m c : Nat), v = .agg #[.string ⟨t.toArray⟩, .int .i64 (nodeAt t).k, .string ⟨(nodeAt t).p.toArray⟩, .slice a m c, .string ⟨(nodeAt t).v.toArray⟩] ∧ w.ownsRow lo 9 1 (.slice a m c) (nodeAt t).ls.length (scells (nodeAt t).ls)
theorem kept1 {w w' : World} {b e n : Nat} {v : Value} {xs : List Value} (h : w.ownsRow b e 1 v n xs) (hb : Below w.heap.size w w') : w'.ownsRow b e 1 v n xs :=
  h.kept (row := none) ⟨hb.os, hb.tape, hb.output, hb.size, fun k hk _ => hb.block k hk⟩ (by cases v.ownBlock with | none => exact .inl rfl | some k => exact .inr (by simp))
theorem NodeIs.kept {w w' : World} {lo : Nat} {t : List UInt8} {v : Value} {row : Option Nat} (h : NodeIs w lo t v) (hg : w.grownBy w' row) (hr : ∀ k, row = some k → k < lo) : NodeIs w' lo t v := by
  obtain ⟨a, m, c, hv, ho⟩ := h
  refine ⟨a, m, c, hv, ho.kept hg ?_⟩
  cases hb : (Value.slice a m c).ownBlock with
  | none => exact .inl rfl
  | some k =>
    refine .inr fun e => ?_
    have h1 := (ho.lt k hb).1
    have h2 := hr k e.symm
    omega
/-- The map in block B holds the first j nodes of a store. -/
def HeldM (w : World) (B : Nat) (ps : List PairL) (j : Nat) : Prop :=
  ∃ vs : List Value, vs.length = j ∧ w.ownsMap Tryz.prog 51 uvR B j (datV ps vs (.map [])) ∧ ∀ q, q < j → NodeIs w (B + 1) (valAt ps q) (vs.getD q undef)
theorem HeldM.lt {w : World} {B : Nat} {ps : List PairL} {j : Nat} (h : HeldM w B ps j) : B < w.heap.size := by
  obtain ⟨vs, _, h, _⟩ := h
  exact h.lt
theorem HeldM.kept {w w' : World} {B : Nat} {ps : List PairL} {j : Nat} (h : HeldM w B ps j) (hg : w.grownBy w' none) (_ : True) : HeldM w' B ps j := by
  obtain ⟨vs, h1, h2, h3⟩ := h
  exact ⟨vs, h1, h2.kept hg (by simp), fun q hq => (h3 q hq).kept hg (by simp)⟩
theorem HeldM.later {w w' : World} {B : Nat} {ps : List PairL} {j : Nat} (h : HeldM w B ps j) (hb : Below w.heap.size w w') : HeldM w' B ps j := h.kept (grown_of_below hb none) trivial
theorem HeldM.alloc {w : World} {B : Nat} {ps : List PairL} {j : Nat} (h : HeldM w B ps j) (o : Obj) : HeldM (w.alloc o) B ps j := h.kept (World.grownBy_alloc w o none) trivial
theorem heldM_made (w : World) (ps : List PairL) : HeldM (w.alloc (.map #[] 0)) w.heap.size ps 0 :=
  ⟨[], rfl, by have := World.ownsMap_made w Tryz.prog 51 uvR; cases ps <;> exact this, fun q hq => by omega⟩
theorem HeldM.update {w : World} {B : Nat} {ps : List PairL} {j : Nat} (h : HeldM w B ps j) (hj : j < ps.length) (hn : j < maxLen) {x y : List UInt8} (hx : x = keyAt ps j) (hy : y = valAt ps j) (h32 : x.length = 32) {k : Int} {p v : List UInt8} {ls : List (List UInt8)} (hnd : nodeAt y = ⟨k, p, ls, v⟩)
    {a : Option Addr} {m c : Nat} (ho : w.ownsRow (B + 1) 9 1 (.slice a m c) (nodeAt y).ls.length (scells (nodeAt y).ls)) :
    ∃ w', (Instr.mapUpdate 47 (.map (some B)) (.agg (bcells x).toArray) (.agg #[.string ⟨y.toArray⟩, .int .i64 k, .string ⟨p.toArray⟩, .slice a m c, .string ⟨v.toArray⟩])).run Tryz.prog w = .ok () w' ∧ HeldM w' B ps (j + 1) ∧ w.grownBy w' (some B) := by
  obtain ⟨vs, h1, h2, h3⟩ := h
  obtain ⟨w', r1, r2, r3⟩ := h2.update (t := 47) (e := 55) keyedH Tryz.underlying47 hn (key_reads x h32) (rfl : uvR (.agg #[.string ⟨y.toArray⟩, .int .i64 k, .string ⟨p.toArray⟩, .slice a m c, .string ⟨v.toArray⟩]) = some (.held _, []))
  refine ⟨w', r1, ⟨vs ++ [.agg #[.string ⟨y.toArray⟩, .int .i64 k, .string ⟨p.toArray⟩, .slice a m c, .string ⟨v.toArray⟩]], by simp [h1], ?_, fun q hq => ?_⟩, r3⟩
  · rw [datV_snoc ps vs _ _ (by omega), h1, ← hx]
    exact r2
  · by_cases e : q = j
    · subst e
      rw [← h1, List.getD_eq_getElem?_getD, List.getElem?_append_right (Nat.le_refl _), Nat.sub_self]
      rw [← h1] at hy
      rw [← hy]
      refine ⟨a, m, c, by simp [hnd], ?_⟩
      exact ho.kept r3 (by
        cases hb : (Value.slice a m c).ownBlock with
        | none => exact .inl rfl
        | some z => exact .inr fun e => by have := (ho.lt z hb).1; simp at e; omega)
    · have hq' : q < j := by omega
      rw [List.getD_eq_getElem?_getD, List.getElem?_append_left (by omega), ← List.getD_eq_getElem?_getD]
      exact (h3 q hq').kept r3 (fun z hz => by simp at hz; omega)

theorem datV_map : ∀ (ps : List PairL) (vs : List Value) (D : DataW Value), Maps.IsMap D → Maps.IsMap (datV ps vs D)
  | [], _, D, h => by simpa [datV] using h
  | p :: ps, [], D, h => by simpa [datV] using h
  | p :: ps, v :: vs, D, h => by
    obtain ⟨es, rfl⟩ := h
    exact datV_map ps vs _ ⟨_, rfl⟩
theorem datV_miss : ∀ (ps : List PairL) (vs : List Value) (D : DataW Value) (h : List UInt8), h.length = 32 → (∀ p ∈ ps, p.1.length = 32 ∧ p.1 ≠ h) → Maps.has (datV ps vs D) (keyLit h) = Maps.has D (keyLit h) ∧ ∀ z, (datV ps vs D).atKey (keyLit h) z = D.atKey (keyLit h) z
  | [], _, D, h, _, _ => by simp [datV]
  | p :: ps, [], D, h, _, _ => by simp [datV]
  | p :: ps, v :: vs, D, h, hl, ho => by
    have hp := ho p (by simp)
    have hne := keyLit_ne _ _ hl hp.1 (fun e => hp.2 e.symm)
    obtain ⟨q1, q2⟩ := datV_miss ps vs (D.put (keyLit p.1) (.held v)) h hl (fun p' hp' => ho p' (List.mem_cons_of_mem _ hp'))
    refine ⟨?_, fun z => ?_⟩
    · rw [datV, q1, Maps.has_put_other hne]
    · rw [datV, q2, Maps.atKey_put_other hne]
theorem datV_hit : ∀ (ps : List PairL) (vs : List Value) (D : DataW Value) (i : Nat), Maps.IsMap D → vs.length = ps.length → i < ps.length → (∀ p ∈ ps, p.1.length = 32) → (∀ j, i < j → j < ps.length → keyAt ps j ≠ keyAt ps i) → Maps.has (datV ps vs D) (keyLit (keyAt ps i)) = true ∧ ∀ z, (datV ps vs D).atKey (keyLit (keyAt ps i)) z = .held (vs.getD i undef)
  | [], _, D, i, _, _, hi, _, _ => by simp at hi
  | p :: ps, [], D, i, _, hl, _, _, _ => by simp at hl
  | p :: ps, v :: vs, D, 0, hD, hl, hi, h32, ho => by
    have hk : keyAt (p :: ps) 0 = p.1 := keyAt_lt _ 0 (by simp)
    rw [hk]
    have := datV_miss ps vs (D.put (keyLit p.1) (.held v)) p.1 (h32 p (by simp)) (fun p' hp' => ⟨h32 p' (List.mem_cons_of_mem _ hp'), by
      obtain ⟨j, hj, rfl⟩ := List.getElem_of_mem hp'
      have h := ho (j + 1) (by omega) (by simpa using hj)
      rw [hk, keyAt_lt _ (j + 1) (by simpa using hj)] at h
      simpa using h⟩)
    refine ⟨?_, fun z => ?_⟩
    · rw [datV, this.1]; exact Maps.has_put_same hD (keyLit_key _) _
    · rw [datV, this.2, Maps.atKey_put_same hD (keyLit_key _) _ _]; rfl
  | p :: ps, v :: vs, D, i + 1, hD, hl, hi, h32, ho => by
    have hi' : i < ps.length := by simpa using hi
    have hk : ∀ j, j < ps.length → keyAt (p :: ps) (j + 1) = keyAt ps j := fun j hj => by rw [keyAt_lt _ (j + 1) (by simpa using hj), keyAt_lt _ j hj]; simp
    have := datV_hit ps vs (D.put (keyLit p.1) (.held v)) i (by obtain ⟨es, rfl⟩ := hD; exact ⟨_, rfl⟩) (by simpa using hl) hi' (fun p' hp' => h32 p' (List.mem_cons_of_mem _ hp')) (fun j h1 h2 => by
      have h := ho (j + 1) (by omega) (by simpa using h2)
      rw [hk j h2, hk i hi'] at h
      exact h)
    rw [hk i hi']
    refine ⟨?_, fun z => ?_⟩
    · rw [datV]; exact this.1
    · rw [datV, this.2 z]; simp
theorem storeOk_32 (ps : List PairL) (h : storeOkL ps = true) : ∀ p ∈ ps, p.1.length = 32 := fun p hp => by
  obtain ⟨j, hj, rfl⟩ := List.getElem_of_mem hp
  have := storeOk_len ps h j hj
  rw [keyAt_lt ps j hj] at this
  exact this
theorem findL_ok (ps : List PairL) (hs : storeOkL ps = true) (h t : List UInt8) (hf : findL ps h = some t) : ∃ j, j < ps.length ∧ keyAt ps j = h ∧ valAt ps j = t ∧ (readNode t).isSome = true := by
  unfold findL at hf
  rw [Option.map_eq_some_iff] at hf
  obtain ⟨p, hp, rfl⟩ := hf
  have h1 := List.find?_some hp
  obtain ⟨j, hj, rfl⟩ := List.getElem_of_mem (List.mem_of_find?_eq_some hp)
  refine ⟨j, hj, by rw [keyAt_lt ps j hj]; simpa using h1, valAt_lt ps j hj, ?_⟩
  have := storeOk_at ps hs j hj
  simp only [stOk, Bool.and_eq_true] at this
  rw [← valAt_lt ps j hj]
  exact this.1.1
/-- What the map holds at a hash. -/
theorem heldM_at {w : World} {B : Nat} {ps : List PairL} (hs : storeOkL ps = true) (h : HeldM w B ps ps.length) (x : List UInt8) (hx : x.length = 32) : ∃ D : DataW Value, w.ownsMap Tryz.prog 51 uvR B ps.length D ∧ ((findL ps x = none ∧ Maps.has D (keyLit x) = false ∧ ∀ z, D.atKey (keyLit x) z = z) ∨ (∃ t v, findL ps x = some t ∧ (readNode t).isSome = true ∧ Maps.has D (keyLit x) = true ∧ (∀ z, D.atKey (keyLit x) z = .held v) ∧ NodeIs w (B + 1) t v)) := by
  obtain ⟨vs, h1, h2, h3⟩ := h
  refine ⟨_, h2, ?_⟩
  cases hf : findL ps x with
  | none =>
    left
    have ho : ∀ p ∈ ps, p.1.length = 32 ∧ p.1 ≠ x := fun p hp => ⟨storeOk_32 ps hs p hp, fun e => by
      have : ps.find? (fun p => p.1 == x) = none := by unfold findL at hf; simpa using hf
      rw [List.find?_eq_none] at this
      exact this p hp (by simp [e])⟩
    have := datV_miss ps vs (.map []) x hx ho
    refine ⟨rfl, by rw [this.1]; simp [Maps.has], fun z => ?_⟩
    rw [this.2]
    have h0 : Maps.has (.map [] : DataW Value) (keyLit x) = false := by simp [Maps.has]
    exact Maps.atKey_of_not_has h0 z
  | some t =>
    right
    obtain ⟨j, hj, hk, hv, hr⟩ := findL_ok ps hs x t hf
    have := datV_hit ps vs (.map []) j (Maps.isMap_empty) h1 hj (storeOk_32 ps hs) (fun i hi hl => storeOk_apart ps hs i j hl hj (by omega))
    rw [hk] at this
    refine ⟨t, vs.getD j undef, rfl, hr, this.1, this.2, ?_⟩
    rw [← hv]
    exact h3 j hj
end Go.Proofs.YtapmakefpmholaaGreatDoor
