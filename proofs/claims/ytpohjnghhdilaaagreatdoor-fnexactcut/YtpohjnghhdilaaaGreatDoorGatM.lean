/-
  The program's pairs under a node: what its closure keeps.
-/
import Derived.Test.YtpohjnghhdilaaaGreatDoorMathGat
import Derived.Test.YtpohjnghhdilaaaGreatDoorStepAll
import Derived.Test.YtpohjnghhdilaaaGreatDoorTrie
namespace Go.Proofs.YtpohjnghhdilaaaGreatDoor
open Go.RowKit
set_option linter.unusedVariables false

/-- What the closure has caught: the nodes, the pairs, itself. -/
structure GEnv (w : World) (bn bp bg mb : Nat) (v : Value) (acc : List PairL) (lim : Nat) : Prop where
  nodes : w.heap[bn]? = some (.cells #[.map (some mb)] 71 (0, 0))
  box : w.heap[bp]? = some (.cells #[v] 31 (0, 0))
  self : w.heap[bg]? = some (.cells #[.func (.func 92) #[] #[.pointer (some ⟨bn, 0, none⟩), .pointer (some ⟨bp, 0, none⟩), .pointer (some ⟨bg, 0, none⟩)]] 119 (0, 0))
  row : w.ownsRow lim 65 2 v acc.length (pcells acc)

theorem own_blockG {w w' : World} {base e size n : Nat} {v : Value} {xs : List Value} (h : w.ownsRow base e size v n xs) (hk : ∀ q, v.ownBlock = some q → w'.heap[q]? = w.heap[q]?) : w'.ownsRow base e size v n xs := by
  refine ⟨h.1, ?_⟩
  rcases h.2 with hn | ⟨g, cap, cur, rfl, hb, hgg, rest⟩
  · exact .inl hn
  · exact .inr ⟨g, cap, cur, rfl, hb, (hk g rfl).trans hgg, rest⟩
theorem one_setG {w : World} {b : Nat} {u v : Value} {t : TypeId} (h : w.heap[b]? = some (.cells #[u] t (0, 0))) : (w.setCell ⟨b, 0, none⟩ v).heap[b]? = some (.cells #[v] t (0, 0)) := by
  have hlt := lt_of_block h
  have h' : w.heap[b] = .cells #[u] t (0, 0) := by simpa [Array.getElem?_eq_getElem hlt] using h
  show (w.heap.modify b _)[b]? = _
  rw [Array.getElem?_eq_getElem (by simpa using hlt), Array.getElem_modify_self, h']
  rfl

theorem GEnv.later {w w' : World} {bn bp bg mb lim : Nat} {v : Value} {acc : List PairL} (h : GEnv w bn bp bg mb v acc lim) (h1 : w'.heap[bn]? = w.heap[bn]?) (h2 : w'.heap[bp]? = w.heap[bp]?) (h3 : w'.heap[bg]? = w.heap[bg]?) (hk : ∀ q, v.ownBlock = some q → w'.heap[q]? = w.heap[q]?) : GEnv w' bn bp bg mb v acc lim :=
  ⟨h1.trans h.nodes, h2.trans h.box, h3.trans h.self, own_blockG h.row hk⟩
theorem GEnv.below {w w' : World} {bn bp bg mb lim : Nat} {v : Value} {acc : List PairL} (h : GEnv w bn bp bg mb v acc lim) (hb : Below w.heap.size w w') : GEnv w' bn bp bg mb v acc lim :=
  h.later (hb.block _ (lt_of_block h.nodes)) (hb.block _ (lt_of_block h.box)) (hb.block _ (lt_of_block h.self)) fun q hq => hb.block q (h.row.lt q hq).2

/-- What a piece of the walk keeps: of what lay there only the box of the pairs and their row are written. -/
structure GKept (w0 w : World) (bp : Nat) (v0 v : Value) (wr : World) : Prop where
  below : Below w0.heap.size w0 wr
  size : w.heap.size ≤ wr.heap.size
  own : ∀ b, v.ownBlock = some b → v0.ownBlock = some b ∨ w.heap.size ≤ b
  kept : ∀ b, b < w.heap.size → b ≠ bp → v0.ownBlock ≠ some b → wr.heap[b]? = w.heap[b]?

theorem GKept.start {w0 w : World} {bp : Nat} {v : Value} (h : Below w0.heap.size w0 w) : GKept w0 w bp v v w := ⟨h, Nat.le_refl _, fun b h => .inl h, fun b _ _ _ => rfl⟩
theorem GKept.on {w0 w wr w3 : World} {bp : Nat} {v0 v : Value} (h : GKept w0 w bp v0 v wr) (hb : Below wr.heap.size wr w3) (h0 : w0.heap.size ≤ w.heap.size) : GKept w0 w bp v0 v w3 :=
  ⟨h.below.trans (hb.mono (Nat.le_trans h0 h.size)), Nat.le_trans h.size hb.size, h.own, fun b h1 h2 h3 => (hb.block b (Nat.lt_of_lt_of_le h1 h.size)).trans (h.kept b h1 h2 h3)⟩
theorem GKept.trans {w0 w wr w3 : World} {bp : Nat} {v0 v v3 : Value} (h : GKept w0 w bp v0 v wr) (h2 : GKept w0 wr bp v v3 w3) : GKept w0 w bp v0 v3 w3 := by
  have hs := h.size
  refine ⟨h2.below, Nat.le_trans hs h2.size, fun b hb => ?_, fun b h1 hne hv => (h2.kept b (by omega) hne fun e => ?_).trans (h.kept b h1 hne hv)⟩
  · rcases h2.own b hb with e | e
    · exact h.own b e
    · exact .inr (by omega)
  · rcases h.own b e with e | e
    · exact hv e
    · omega

/-- What the closure answers: all pairs, behind those that are there; or that one is lost, or that they are too many. -/
def GPost (w0 w : World) (bn bp bg mb lim : Nat) (v : Value) (acc : List PairL) (res : Option (List PairL)) (r : Ending) (w' : World) : Prop :=
  (∃ l v', r = .returned (.bool true) ∧ res = some l ∧ GEnv w' bn bp bg mb v' (acc ++ l) lim ∧ acc.length + l.length ≤ 61 ∧ GKept w0 w bp v v' w') ∨ (r = .returned (.bool false) ∧ Lost res acc.length ∧ Below w0.heap.size w0 w')

def GatAt (w0 : World) (bn bp bg mb lim : Nat) (ps : List PairL) (f : Nat) : Prop :=
  ∀ (h path : List UInt8) (w : World) (v : Value) (acc : List PairL), h.length ≤ 1048576 → 26 ≤ f + path.length → path.length ≤ 25 → isNibs path = true → Below w0.heap.size w0 w → GEnv w bn bp bg mb v acc lim → acc.length ≤ 61 →
    Calls Tryz.prog 92 #[.string ⟨h.toArray⟩, .string ⟨path.toArray⟩, .pointer (some ⟨bn, 0, none⟩), .pointer (some ⟨bp, 0, none⟩), .pointer (some ⟨bg, 0, none⟩)] w fun r w' => GPost w0 w bn bp bg mb lim v acc (atF (findL ps) f h path) r w'

theorem gpost_bool {w0 w : World} {bn bp bg mb lim : Nat} {v : Value} {acc : List PairL} {res : Option (List PairL)} {r : Ending} {w' : World} (h : GPost w0 w bn bp bg mb lim v acc res r w') :
    ∃ ok : Bool, r = .returned (.bool ok) ∧ (ok = true → ∃ l v', res = some l ∧ GEnv w' bn bp bg mb v' (acc ++ l) lim ∧ acc.length + l.length ≤ 61 ∧ GKept w0 w bp v v' w') ∧ (ok = false → Lost res acc.length ∧ Below w0.heap.size w0 w') := by
  rcases h with ⟨l, v', rfl, h1, h2, h3, h4⟩ | ⟨rfl, h1, h2⟩
  · exact ⟨true, rfl, fun _ => ⟨l, v', h1, h2, h3, h4⟩, fun e => by cases e⟩
  · exact ⟨false, rfl, fun e => absurd e (by decide), fun _ => ⟨h1, h2⟩⟩
theorem GEnv.drewN {w : World} {bn bp bg mb lim n : Nat} {v : Value} {acc : List PairL} (h : GEnv w bn bp bg mb v acc lim) : GEnv (w.drewN n) bn bp bg mb v acc lim := ⟨h.nodes, h.box, h.self, own_blockG h.row fun _ _ => rfl⟩
theorem GKept.drewN {w0 w wr : World} {bp n : Nat} {v0 v : Value} (h : GKept w0 w bp v0 v wr) : GKept w0 w bp v0 v (wr.drewN n) := ⟨below_dr h.below, h.size, h.own, h.kept⟩
theorem GEnv.drew {w : World} {bn bp bg mb lim : Nat} {v : Value} {acc : List PairL} (h : GEnv w bn bp bg mb v acc lim) : GEnv w.drew bn bp bg mb v acc lim := ⟨h.nodes, h.box, h.self, own_blockG h.row fun _ _ => rfl⟩
theorem GKept.drew {w0 w wr : World} {bp : Nat} {v0 v : Value} (h : GKept w0 w bp v0 v wr) : GKept w0 w bp v0 v wr.drew := ⟨h.below.drew, h.size, h.own, h.kept⟩

/-- A pair more: an append to the row, and its box. -/
theorem GKept.more {w0 w wr : World} {bn bp bg mb lim : Nat} {v0 v : Value} {acc : List PairL} (hI : GKept w0 w bp v0 v wr) (hE : GEnv wr bn bp bg mb v acc lim) (h0 : w0.heap.size ≤ w.heap.size)
    (hnp : bn ≠ bp) (hgp : bg ≠ bp) (hpl : bp < lim) (hnl : bn < lim) (hgl : bg < lim) (hp0 : w0.heap.size ≤ bp) (hl0 : w0.heap.size ≤ lim) (hlw : lim ≤ w.heap.size)
    {w3 : World} (h3 : Below wr.heap.size wr w3) {o : Obj} {w5 : World} {v6 : Value} {e : PairL} (hg5 : (w3.alloc o).grownBy w5 v.ownBlock) (hv6 : ∀ b, v6.ownBlock = some b → v.ownBlock = some b ∨ b = (w3.alloc o).heap.size)
    (hr5 : w5.ownsRow lim 65 2 v6 (acc.length + 1) (pcells acc ++ [.string ⟨e.1.toArray⟩, .string ⟨e.2.toArray⟩])) :
    GKept w0 w bp v0 v6 (w5.setCell ⟨bp, 0, none⟩ v6) ∧ GEnv (w5.setCell ⟨bp, 0, none⟩ v6) bn bp bg mb v6 (acc ++ [e]) lim := by
  have hsz := hI.size
  have hs3 := h3.size
  have hsz5 := hg5.size
  simp only [World.size_alloc] at hsz5
  have hvl := fun q (hq : v.ownBlock = some q) => hE.row.lt q hq
  have K : ∀ b, b < wr.heap.size → v.ownBlock ≠ some b → w5.heap[b]? = wr.heap[b]? := fun b h1 h2 =>
    (hg5.block b (by simp; omega) (fun e => h2 e.symm)).trans ((heap_alloc_old w3 o (by omega)).trans (h3.block b h1))
  have hbn := lt_of_block hE.nodes
  have hbp := lt_of_block hE.box
  have hbg := lt_of_block hE.self
  refine ⟨⟨?_, by simp; omega, ?_, ?_⟩, ⟨?_, ?_, ?_, ?_⟩⟩
  · exact (((hI.below.trans (h3.mono (by omega))).alloc (by omega) o).grown hg5 (by simp; omega) fun q hq => by have := hvl q hq; omega).setCell (p := ⟨bp, 0, none⟩) (by simp only; omega) _
  · intro b hb
    rcases hv6 b hb with h | h
    · exact hI.own b h
    · exact .inr (by simp at h; omega)
  · intro b h1 h2 h3'
    refine (Below.heap_setCell _ _ _ _ (by simp only; omega)).trans ((K b (by omega) fun e => ?_).trans (hI.kept b h1 h2 h3'))
    rcases hI.own b e with h | h
    · exact h3' h
    · omega
  · exact (Below.heap_setCell _ _ _ _ (by simp only; omega)).trans ((K bn hbn fun e => by have := hvl _ e; omega).trans hE.nodes)
  · exact one_setG ((K bp hbp fun e => by have := hvl _ e; omega).trans hE.box)
  · exact (Below.heap_setCell _ _ _ _ (by simp only; omega)).trans ((K bg hbg fun e => by have := hvl _ e; omega).trans hE.self)
  · rw [pcells_app, List.length_append]
    exact own_blockG hr5 fun q hq => Below.heap_setCell _ _ _ _ (by have := (hr5.lt q hq).1; simp only; omega)
end Go.Proofs.YtpohjnghhdilaaaGreatDoor
