/-
  Maps by hashes, on lists: what such a map reads as, whatever the order in which it was laid; what its keys are.
-/
import Derived.Test.YtapmakefpmholaaGreatDoorMathWay
import Derived.Maps.Ext
import Derived.Maps.RangeWalk
namespace Go.Proofs.YtapmakefpmholaaGreatDoor
open Go.RowKit
set_option linter.unusedVariables false

theorem mapM_each {α β : Type} (f : α → Option β) : ∀ (xs : List α) (ys : List β), xs.mapM f = some ys → ∀ x ∈ xs, ∃ y, f x = some y
  | [], _, _, x, hx => by simp at hx
  | a :: xs, ys, h, x, hx => by
    rw [List.mapM_cons] at h
    cases ha : f a with
    | none => rw [ha] at h; cases h
    | some y =>
      rw [ha] at h
      cases hr : xs.mapM f with
      | none => rw [hr] at h; cases h
      | some zs =>
        rcases List.mem_cons.1 hx with e | e
        · rw [e]; exact ⟨y, ha⟩
        · exact mapM_each f xs zs hr x e

set_option maxRecDepth 100000 in
/-- A key of such a map is an array of 32 bytes. -/
theorem key_shape (key : Value) (kl : Lit) (h : keyOf Tryz.prog 51 key = some kl) : ∃ l : List UInt8, l.length = 32 ∧ key = .agg (bcells l).toArray ∧ kl = keyLit l := by
  obtain ⟨m, hm⟩ : ∃ m, Tryz.prog.types.size = m + 2 := ⟨Tryz.prog.types.size - 2, by kernel_rfl⟩
  have h0 := h
  unfold keyOf at h
  simp only [arr32.hu] at h
  split at h
  · rename_i hf
    rw [hm] at h
    unfold Program.keyLits at h
    simp only [arr32.hu] at h
    by_cases hlen0 : key.cells.toList.length = Tryz.prog.cellsOf 51
    case neg => rw [if_neg hlen0] at h; cases h
    rw [if_pos hlen0] at h
    cases key with
    | agg cs =>
      have hlen : cs.toList.length = Tryz.prog.cellsOf 51 := hlen0
      replace h : (((List.range 32).mapM (fun i => Tryz.prog.keyLits (m + 2) 5 ((cs.toList.drop (i * Tryz.prog.cellsOf 5)).take (Tryz.prog.cellsOf 5)))).map List.flatten).map (fun ls => Lit.string (keyBytes ls)) = some kl := h
      · rw [arr32.size] at hlen
        cases hM : (List.range 32).mapM (fun i => Tryz.prog.keyLits (m + 2) 5 ((cs.toList.drop (i * Tryz.prog.cellsOf 5)).take (Tryz.prog.cellsOf 5))) with
        | none => rw [hM] at h; cases h
        | some ys =>
          have hcell : ∀ i (hi : i < 32), ∃ b : UInt8, cs.toList[i]'(by omega) = .int .u8 (b.toNat : Int) := fun i hi => by
            obtain ⟨y, hy⟩ := mapM_each _ _ _ hM i (List.mem_range.2 hi)
            rw [arr32.one, Nat.mul_one, List.drop_eq_getElem_cons (by omega)] at hy
            simp only [List.take_succ_cons, List.take_zero] at hy
            unfold Program.keyLits at hy
            rw [Tryz.underlying5] at hy
            cases hv : cs.toList[i]'(by omega) with
            | int q n =>
              rw [hv] at hy
              simp only at hy
              split at hy
              · rename_i hq
                obtain ⟨rfl, hw⟩ := hq
                simp [Lit.wf, IntKind.min, IntKind.max, IntKind.signed, IntKind.bits] at hw
                refine ⟨UInt8.ofNat n.toNat, ?_⟩
                congr 1
                simp only [UInt8.toNat_ofNat']
                omega
              · cases hy
            | _ => rw [hv] at hy; simp at hy
          refine ⟨(List.range 32).map (fun i => if hi : i < 32 then (hcell i hi).choose else 0), by simp, ?_, ?_⟩
          · congr 1
            apply Array.ext'
            apply List.ext_getElem
            · simp [bcells]; simpa using hlen
            · intro i h1 h2
              have hi : i < 32 := by rw [hlen] at h1; exact h1
              rw [(hcell i hi).choose_spec]
              simp [bcells, hi]
          · have hk : (Value.agg cs) = .agg (bcells ((List.range 32).map (fun i => if hi : i < 32 then (hcell i hi).choose else 0))).toArray := by
              congr 1
              apply Array.ext'
              apply List.ext_getElem
              · simp [bcells]; simpa using hlen
              · intro i h1 h2
                have hi : i < 32 := by rw [hlen] at h1; exact h1
                rw [(hcell i hi).choose_spec]
                simp [bcells, hi]
            rw [hk, key_reads _ (by simp)] at h0
            exact (Option.some.inj h0).symm
    | _ => simp [Value.formed, arr32.hu] at hf
  · cases h

/-- A value of the map with this text. -/
def HN (t : List UInt8) (v : Value) : Prop := ∃ (k : Int) (p : ByteArray) (a : Option Addr) (m c : Nat) (x : ByteArray), v = .agg #[.string ⟨t.toArray⟩, .int .i64 k, .string p, .slice a m c, .string x]
/-- The texts that a map holds, hash by hash. -/
def TxtAt (D : DataW Value) (f : List UInt8 → Option (List UInt8)) : Prop := ∀ x : List UInt8, x.length = 32 → (f x = none ∧ Maps.has D (keyLit x) = false) ∨ ∃ t v, f x = some t ∧ Maps.has D (keyLit x) = true ∧ (∀ z, D.atKey (keyLit x) z = .held v) ∧ HN t v
theorem heldM_txt {w : World} {B : Nat} {ps : List PairL} (hs : storeOkL ps = true) (h : HeldM w B ps ps.length) : ∃ D : DataW Value, w.ownsMap Tryz.prog 51 uvR B ps.length D ∧ TxtAt D (findL ps) := by
  have h0 := h
  obtain ⟨vs, h1, h2, h3⟩ := h
  refine ⟨_, h2, fun x hx => ?_⟩
  have hun : ∀ (D : DataW Value), w.ownsMap Tryz.prog 51 uvR B ps.length D → D = datV ps vs (.map []) := fun D hD => by
    obtain ⟨es, cl, e1, F1, _, rfl⟩ := hD
    obtain ⟨es', cl', e2, F2, _, e3⟩ := h2
    rw [e1] at e2
    cases e2
    exact e3.symm
  obtain ⟨D, hD, hc⟩ := heldM_at hs h0 x hx
  rw [hun D hD] at hc
  rcases hc with ⟨q1, q2, _⟩ | ⟨t, v, q1, _, q3, q4, a, m, c, rfl, _⟩
  · exact .inl ⟨q1, q2⟩
  · exact .inr ⟨t, _, q1, q3, q4, _, _, a, m, c, _, rfl⟩
theorem txtAt_put {D : DataW Value} {f : List UInt8 → Option (List UInt8)} (h : TxtAt D f) (hD : Maps.IsMap D) (y : List UInt8) (hy : y.length = 32) (t : List UInt8) (v : Value) (hv : HN t v) : TxtAt (D.put (keyLit y) (.held v)) (fun x => if x = y then some t else f x) := fun x hx => by
  by_cases e : x = y
  · subst e
    exact .inr ⟨t, v, by simp, Maps.has_put_same hD (keyLit_key _) _, fun z => Maps.atKey_put_same hD (keyLit_key _) _ _, hv⟩
  · have hne := keyLit_ne x y hx hy e
    simp only [if_neg e]
    rcases h x hx with ⟨h1, h2⟩ | ⟨u, v', h1, h2, h3, h4⟩
    · exact .inl ⟨h1, by rw [Maps.has_put_other hne]; exact h2⟩
    · exact .inr ⟨u, v', h1, by rw [Maps.has_put_other hne]; exact h2, fun z => by rw [Maps.atKey_put_other hne]; exact h3 z, h4⟩
theorem TxtAt.congr {D : DataW Value} {f g : List UInt8 → Option (List UInt8)} (h : TxtAt D f) (e : ∀ x, x.length = 32 → f x = g x) : TxtAt D g := fun x hx => by rw [← e x hx]; exact h x hx
theorem txtAt_has {D : DataW Value} {f : List UInt8 → Option (List UInt8)} (h : TxtAt D f) (x : List UInt8) (hx : x.length = 32) : Maps.has D (keyLit x) = (f x).isSome := by
  rcases h x hx with ⟨h1, h2⟩ | ⟨t, v, h1, h2, _⟩
  · rw [h1, h2]; rfl
  · rw [h1, h2]; rfl
theorem sameKey_ne32 (x y : List UInt8) (hx : x.length = 32) (hy : y.length = 32) : (keyLit x).sameKey (keyLit y) = decide (x = y) := by
  by_cases e : x = y
  · subst e
    rw [decide_eq_true rfl]
    exact WideAt.sameKey_self (keyLit_key x)
  · rw [decide_eq_false e]
    exact Maps.sameKey_ne (keyLit_ne x y hx hy e)

/-! ### how many entries there are -/
theorem nodup_le {α : Type} : ∀ (a b : List α), a.Pairwise (· ≠ ·) → (∀ x ∈ a, x ∈ b) → a.length ≤ b.length
  | [], _, _, _ => by simp
  | x :: a, b, hp, hm => by
    rw [List.pairwise_cons] at hp
    obtain ⟨b1, b2, rfl⟩ := List.append_of_mem (hm x (by simp))
    have := nodup_le a (b1 ++ b2) hp.2 (fun y hy => by
      have h1 := hm y (List.mem_cons_of_mem _ hy)
      rw [List.mem_append, List.mem_cons] at h1
      rw [List.mem_append]
      rcases h1 with h1 | h1 | h1
      · exact .inl h1
      · exact absurd h1.symm (hp.1 y hy)
      · exact .inr h1)
    simp only [List.length_append, List.length_cons] at this ⊢
    omega
theorem txtAt_size {w : World} {B n : Nat} {D : DataW Value} {f : List UInt8 → Option (List UInt8)} (hown : w.ownsMap Tryz.prog 51 uvR B n D) (h : TxtAt D f) (U : List (List UInt8)) (hU : U.Pairwise (· ≠ ·)) (h32 : ∀ x ∈ U, x.length = 32) (hm : ∀ x, x.length = 32 → (x ∈ U ↔ (f x).isSome = true)) : Maps.size D = U.length := by
  have hE : ∃ es : List (Lit × DataW Value), D = .map es ∧ es.Pairwise (fun p q => p.1 ≠ q.1) ∧ ∀ p ∈ es, ∃ x : List UInt8, x.length = 32 ∧ p.1 = keyLit x := by
    obtain ⟨es, h1, h2, _⟩ := hown.entries keyedH
    refine ⟨es, h1, h2, fun p hp => ?_⟩
    obtain ⟨es', clock, _, F, _, hD⟩ := hown
    rw [h1] at hD
    cases hD
    obtain ⟨x, hx, rfl⟩ := List.mem_map.1 (mem_sorted.1 hp)
    obtain ⟨y, hy⟩ := F.reads x hx
    obtain ⟨l, hl, _, hk⟩ := key_shape _ _ (WideElems.rd_key hy)
    exact ⟨l, hl, by rw [WideElems.rg_of hy, hk]⟩
  obtain ⟨es, rfl, hp, hk⟩ := hE
  rw [Maps.size_eq]
  have hhas : ∀ x : List UInt8, x.length = 32 → ((∃ p ∈ es, p.1 = keyLit x) ↔ x ∈ U) := fun x hx => by
    rw [hm x hx, ← txtAt_has h x hx, Maps.has_eq, List.any_eq_true]
    constructor
    · rintro ⟨p, hp, e⟩
      exact ⟨p, hp, by rw [e]; exact WideAt.sameKey_self (keyLit_key x)⟩
    · rintro ⟨p, hp, e⟩
      exact ⟨p, hp, WideAt.sameKey_eq e⟩
  apply Nat.le_antisymm
  · have := nodup_le (es.map (·.1)) (U.map keyLit) (by rw [List.pairwise_map]; exact hp) (fun y hy => by
      obtain ⟨p, hp', rfl⟩ := List.mem_map.1 hy
      obtain ⟨x, hx, e⟩ := hk p hp'
      rw [e]
      exact List.mem_map_of_mem ((hhas x hx).1 ⟨p, hp', e⟩))
    simpa using this
  · have := nodup_le (U.map keyLit) (es.map (·.1)) (by
      rw [List.pairwise_map]
      exact hU.imp_of_mem fun {a b} ha hb hab => keyLit_ne a b (h32 a ha) (h32 b hb) hab) (fun y hy => by
      obtain ⟨x, hx, rfl⟩ := List.mem_map.1 hy
      obtain ⟨p, hp', e⟩ := (hhas x (h32 x hx)).2 hx
      rw [← e]
      exact List.mem_map_of_mem hp')
    simpa using this
end Go.Proofs.YtapmakefpmholaaGreatDoor
