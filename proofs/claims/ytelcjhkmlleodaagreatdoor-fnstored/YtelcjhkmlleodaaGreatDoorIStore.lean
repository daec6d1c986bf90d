/-
 Contract: the nodes of a map, as a store: (nodeMap).stored, of the program.
-/
import Derived.Test.YtelcjhkmlleodaaGreatDoorAddM
import Derived.Test.YtelcjhkmlleodaaGreatDoorGetAll
import Derived.Maps.RangeWalk
import Derived.Maps.OwnSet
import Derived.Shelf.SlSortCmp.NoneTotal
import Derived.Maps.OwnOps
namespace Go.Proofs.YtelcjhkmlleodaaGreatDoor
open Go.RowKit
set_option linter.unusedVariables false
def mkK (x : { l : List UInt8 // l.length = 32 }) : Value := .agg (bcells x.1).toArray
abbrev HNT := ByteArray × Int × ByteArray × Option Addr × Nat × Nat × ByteArray
def mkV (c : HNT) : Value := .agg #[.string c.1, .int .i64 c.2.1, .string c.2.2.1, .slice c.2.2.2.1 c.2.2.2.2.1 c.2.2.2.2.2.1, .string c.2.2.2.2.2.2]
theorem invK (key : Value) (kl : Lit) (h : keyOf Tryz.prog 44 key = some kl) : ∃ x, key = mkK x := by
 obtain ⟨l, hl, hk, _⟩ := key_shape key kl h
 exact ⟨⟨l, hl⟩, hk⟩
theorem invV (v : Value) (y : DataW Value × List MemPlace) (h : uvR v = some y) : ∃ c, v = mkV c := by
 obtain ⟨t, k, p, a, m, c, x, hv, _⟩ := uvR_shape h
 exact ⟨(t, k, p, a, m, c, x), hv⟩
theorem sortH_none (p : Option Addr) (cap : Nat) (fv : Value) (w : World) :
 Calls Tryz.prog 29 #[.slice p 0 cap, fv] w fun e w' => e = .returned (.tuple #[]) ∧ w' = w := by
 have := Go.Proofs.AnyF.slices_SortFunc_none Tryz.sortSt p cap fv w
 exact this
structure Took (f : List UInt8 → Option (List UInt8)) (left : Lit → Bool) (L : List PairL) : Prop where
 mem : ∀ x t : List UInt8, (x, t) ∈ L ↔ x.length = 32 ∧ left (keyLit x) = false ∧ f x = some t
 keys : L.Pairwise (fun x y => x.1 ≠ y.1)
theorem took_start {D : DataW Value} {f : List UInt8 → Option (List UInt8)} (h : TxtAt D f) : Took f (Maps.has D) [] :=
 ⟨fun x t => ⟨fun h9 => absurd h9 (by simp), fun h9 => by have h2 := h9.2.1; rw [txtAt_has h x h9.1, h9.2.2] at h2; cases h2⟩, List.Pairwise.nil⟩
theorem took_more {f : List UInt8 → Option (List UInt8)} {left : Lit → Bool} {L : List PairL} (h : Took f left L) (x t : List UInt8) (hx : x.length = 32) (hl : left (keyLit x) = true) (hf : f x = some t) : Took f (fun z => left z && !z.sameKey (keyLit x)) (L ++ [(x, t)]) := by
 refine ⟨fun x' t' => ?_, ?_⟩
 · rw [List.mem_append, h.mem]
   constructor
   · rintro (⟨h1, h2, h3⟩ | h1)
     · exact ⟨h1, by simp [h2], h3⟩
     · rw [List.mem_singleton] at h1
       cases h1
       exact ⟨hx, by simp [sameKey_ne32 x x hx hx], hf⟩
   · rintro ⟨h1, h2, h3⟩
     by_cases e : x' = x
     · subst e
       rw [hf] at h3
       cases h3
       exact .inr (by simp)
     · rw [sameKey_ne32 x' x h1 hx, decide_eq_false e] at h2
       simp at h2
       exact .inl ⟨h1, h2, h3⟩
 · rw [List.pairwise_append]
   refine ⟨h.keys, by simp, fun p hp q hq => ?_⟩
   rw [List.mem_singleton] at hq
   subst hq
   intro e
   have := ((h.mem p.1 p.2).1 hp).2.1
   rw [e] at this
   rw [this] at hl; cases hl
theorem rises_lt (L : List PairL) (hk : L.Pairwise (fun x y => x.1 ≠ y.1)) (hr : RisesH L) : L.Pairwise (fun x y => x.1 < y.1) := by
 rw [List.pairwise_iff_getElem] at hk ⊢
 intro i j hi hj hij
 have h1 := hk i j hi hj hij
 have h2 := hr i j hij hj
 rcases tri L[i].1 L[j].1 with h | h | h
 · exact h
 · exact absurd h h1
 · exact absurd h h2
theorem took_end {f : List UInt8 → Option (List UInt8)} {left : Lit → Bool} {L L' M : List PairL} (h : Took f left L) (hl : ∀ kl, left kl = false) (hp : L'.Perm L) (hr : RisesH L') (hM : M.Pairwise (fun x y => x.1 < y.1)) (hm : ∀ x t : List UInt8, (x, t) ∈ M ↔ x.length = 32 ∧ f x = some t) : L' = M := by
 refine rise_unique L' M (rises_lt L' (hp.symm.pairwise h.keys (fun {a b} h9 => fun e => h9 e.symm)) hr) hM (fun p => ?_)
 rw [hp.mem_iff]
 obtain ⟨x, t⟩ := p
 rw [h.mem, hm]
 exact ⟨fun ⟨h1, _, h3⟩ => ⟨h1, h3⟩, fun ⟨h1, h3⟩ => ⟨h1, hl _, h3⟩⟩
set_option maxRecDepth 100000 in
set_option maxHeartbeats 2000000 in
theorem impl_stored (mb n : Nat) (D : DataW Value) (f : List UInt8 → Option (List UInt8)) (M : List PairL) (w : World) (hn : n ≤ 1000) (hown : w.ownsMap Tryz.prog 44 uvR mb n D) (hTx : TxtAt D f) (hM : M.Pairwise (fun x y => x.1 < y.1)) (hm : ∀ x t : List UInt8, (x, t) ∈ M ↔ x.length = 32 ∧ f x = some t) :
 Calls Tryz.prog 14 #[.map (some mb)] w fun e w' => ∃ (a : Option Addr) (m c : Nat), e = .returned (.slice a m c) ∧ w'.ownsRow w.heap.size 33 2 (.slice a m c) M.length (pcells M) ∧ Below w.heap.size w w' := by
 obtain ⟨i0, hi0, hz0, hz1, hz2⟩ := info_parts infoStored
 have HTX : Hid (TxtAt D f) := hTx
 have HEND : Hid (∀ (left : Lit → Bool) (L L' : List PairL), Took f left L → (∀ kl, left kl = false) → L'.Perm L → RisesH L' → L' = M) := fun left L L' h1 h2 h3 h4 => took_end h1 h2 h3 h4 hM hm
 have T0 : Hid (Took f (Maps.has D) []) := took_start hTx
 have HA1 : Hid (∀ x : List UInt8, x.length = 32 → Maps.has D (keyLit x) = true → (f x).isSome = true) := fun x hx h => by rw [txtAt_has hTx x hx] at h; exact h
 have hsz : Maps.size D ≤ n := hown.size_le
 have hmb := hown.lt
 clear hTx hM hm
 go_enter Tryz.func14, Tryz.ntmps14
 go_wp2_with (first
  | (at_range; refine wpList_range_own _ rfl _ 40 rfl 44 49 keyedH Tryz.underlying40 uvR mb n D rfl hown ?_; intro w3 hrg3 hg3 hs3)
  | go_in)
 go_frame
 have Bw3 : Below w.heap.size w w3 := (Below.refl _ _).grown hg3 (Nat.le_refl _) (fun k hk => by cases hk)
 go_loopw [3] (fun l wr => ∃ (left : Lit → Bool) (cnt m c : Nat) (a : Option Addr) (L : List PairL), l = .slice a m c ∧ wr.ranges Tryz.prog 44 uvR mb w.heap.size n D left cnt ∧ L.length + cnt ≤ n ∧ wr.ownsRow (w.heap.size + 1) 33 2 (.slice a m c) L.length (pcells L) ∧ Hid (∀ x : List UInt8, x.length = 32 → left (keyLit x) = true → (f x).isSome = true) ∧ Hid (Took f left L) ∧ Below w.heap.size w wr ∧ w.heap.size + 1 ≤ wr.heap.size) (fun _ wr => wr.rangeLeft mb w.heap.size)
 case atStart =>
  exact ⟨_, _, 0, 0, none, [], rfl, hrg3, by simpa using hsz, World.ownsRow_nil _ _ _ _, HA1, T0, Bw3, by omega⟩
 case round =>
  obtain ⟨left, cnt, m, c, a, L, rfl, hrg, hLc, hrow, HLQ, HTK, hnx, hS1⟩ := hrel
  go_wp2_with (first
   | (at_next; refine wpList_next_ranges _ rfl _ rfl 44 keyedH uvR mkK mkV invK invV mb w.heap.size n D left cnt rfl hrg ?_ ?_)
   | go_in)
  · intro hc0 hl0
    have HE : Hid (∀ L' : List PairL, L'.Perm L → RisesH L' → L' = M) := fun L' h1 h2 => HEND.out left L L' HTK.out hl0 h1 h2
    rcases own_cases2 hrow with ⟨e9, hn0, _⟩ | ⟨g9, c9, e9, _⟩
    · have hL0 : L = [] := by
       cases L with
       | nil => rfl
       | cons p r => simp at hn0
      subst hL0
      have HM0 : Hid (M = []) := (HE.out [] (List.Perm.refl _) (fun i j hi hj => by simp at hj)).symm
      cases e9
      have KS := sortH_none none 0 (.func (.func 30) #[] #[]) wr
      clear hrow HEND HTK HLQ hrg T0 HE
      go_wp2_with fail
      refine KS.mono ?_
      rintro e w5 ⟨rfl, rfl⟩
      go_wp2
      go_ret
      exact ⟨_, _, _, rfl, by rw [HM0.out]; exact World.ownsRow_nil _ _ _ _, hnx⟩
    · have ea : a = some ⟨g9, 0, none⟩ := by cases e9; rfl
      have em : m = L.length := by cases e9; rfl
      subst ea em
      clear e9
      have KS := sortH_any (w.heap.size + 1) g9 c L wr (by omega) hrow
      have HLM : Hid (∀ L' : List PairL, L'.Perm L → L'.length = L.length) := fun L' h => h.length_eq
      clear hrow HEND HTK HLQ hrg T0
      go_wp2_with fail
      refine KS.mono ?_
      rintro e w5 ⟨rfl, ns', hp, hr, o5, b5⟩
      have e8 := HE.out ns' hp hr
      have e7 := HLM.out ns' hp
      subst e8
      have O5 : Hid (w5.ownsRow w.heap.size 33 2 (.slice (some ⟨g9, 0, none⟩) L.length c) ns'.length (pcells ns')) := by rw [Hid, e7]; exact o5.mono (Nat.le_succ _)
      have B5 : Hid (Below w.heap.size w w5) := hnx.trans (b5.mono (Nat.le_succ _))
      clear o5 b5 hp hr KS HE e7 HLM
      go_wp2
      go_ret
      exact ⟨_, _, _, rfl, O5.out, B5.out⟩
  · intro x hx t k0 p0 a0 m0 c0 z0 kl y1 y2 w4 cnt4 hkl hlk hy hat hrg4 hlt4 hg4 hs4 hen4
    have ekl : kl = keyLit x := by
     have h9 : keyOf Tryz.prog 44 (mkK ⟨x, hx⟩) = some (keyLit x) := key_reads x hx
     rw [h9] at hkl; exact (Option.some.inj hkl).symm
    subst ekl
    have ey : y1 = .held (.agg #[.string t, .int .i64 k0, .string p0, .slice a0 m0 c0, .string z0]) := by
     have h9 : uvR (mkV (t, k0, p0, a0, m0, c0, z0)) = some (.held (.agg #[.string t, .int .i64 k0, .string p0, .slice a0 m0 c0, .string z0]), []) := rfl
     rw [h9] at hy; cases hy; rfl
    subst ey
    have HQ : ∃ tl : List UInt8, t = ⟨tl.toArray⟩ ∧ f x = some tl := by
     rcases HTX.out x hx with ⟨h9, _⟩ | ⟨tl, v', h9, _, h3, h4⟩
     · have h8 := HLQ.out x hx hlk
       rw [h9] at h8; cases h8
     · have e := (hat (.held undef)).symm.trans (h3 (.held undef))
       obtain ⟨k, p, a, m, c, z, rfl⟩ := h4
       simp at e
       exact ⟨tl, e.1, h9⟩
    obtain ⟨tl, rfl, hq⟩ := HQ
    have HLQ4 : Hid (∀ x' : List UInt8, x'.length = 32 → (left (keyLit x') && !(keyLit x').sameKey (keyLit x)) = true → (f x').isSome = true) := fun x' hx' h => HLQ.out x' hx' (by simp at h; exact h.1)
    have HTK4 : Hid (Took f (fun z => left z && !z.sameKey (keyLit x)) (L ++ [(x, tl)])) := took_more HTK.out x tl hx hlk hq
    have R4 : Hid (w4.ranges Tryz.prog 44 uvR mb w.heap.size n D (fun z => left z && !z.sameKey (keyLit x)) cnt4) := hrg4
    have BW4 : Hid (Below w.heap.size w w4) := hnx.grown hg4 hnx.size (fun j hj => by cases hj; exact Nat.le_refl _)
    have O4 : Hid (w4.ownsRow (w.heap.size + 1) 33 2 (.slice a m c) L.length (pcells L)) := hrow.kept hg4 (by
     cases a with
     | none => exact .inl rfl
     | some q => exact .inr (fun e => by have h9 := hrow.lt q.block rfl; have := Option.some.inj e; omega))
    have hcs : (bcells x).toArray.size = 32 := by simp [bcells, hx]
    have h1c : (bcells x).toArray.all (·.oneCell') = true := by
     rw [Array.all_eq_true]; intro i hi; simp [bcells, Value.oneCell']
    have HG5 : Hid (∀ o1 o2 : Obj, ((w4.alloc o1).alloc o2).heap[wr.heap.size]? = some o1) := fun o1 o2 => (Below.heap_alloc _ _ _ (by simp; omega)).trans (by rw [← hs4]; exact heap_alloc_new w4 o1)
    have HG6 : Hid (∀ o1 o2 : Obj, ((w4.alloc o1).alloc o2).heap[wr.heap.size + 1]? = some o2) := fun o1 o2 => by
     have := heap_alloc_new (w4.alloc o1) o2
     rw [show (w4.alloc o1).heap.size = wr.heap.size + 1 by simp; omega] at this
     exact this
    unfold mkK mkV at hen4
    unfold mkK mkV
    simp only at hen4 ⊢
    obtain ⟨cs, hcd⟩ : ∃ cs, cs = (bcells x).toArray := ⟨_, rfl⟩
    have HCD : Hid (cs = (bcells x).toArray) := hcd
    rw [← hcd] at hen4 hcs h1c ⊢
    have HI : Hid ((Tryz.prog.info? 44).map (·.size) = some cs.size) := by rw [Hid, hcs]; kernel_rfl
    have HI5 : Hid ((Tryz.prog.info? 49).map (·.size) = some 5) := by rw [Hid]; kernel_rfl
    clear hcd hkl hat hrg4 hq hy HLQ HTK HA1 T0 HEND hrow
    go_wp2_with (first
     | (refine store_laid rfl 44 _ _ rfl wr.heap.size cs rfl rfl 44 _ (HG5.out _ _) HI.out (by rw [hcs]; rfl) h1c ?_; intro w5 hL5
        have B5 : Hid (Below w4.heap.size w4 w5) := hL5.below (((Below.refl _ _).alloc (Nat.le_refl _) _).alloc (by simp) _) (by omega)
        have Y5 : Hid (w5.heap[wr.heap.size + 1]? = some (.cells #[.string ⟨#[]⟩, .int .i64 0, .string ⟨#[]⟩, .slice none 0 0, .string ⟨#[]⟩] 49 (0, 0))) := (hL5.other _ (by omega)).trans (HG6.out _ _)
        have X5 : Hid (w5.heap[wr.heap.size]? = some (.cells cs 44 (0, 0))) := hL5.row
        clear hL5)
     | (refine store_laid rfl 49 _ _ rfl (wr.heap.size + 1) #[.string ⟨tl.toArray⟩, .int .i64 k0, .string p0, .slice a0 m0 c0, .string z0] rfl rfl 49 _ Y5.out HI5.out rfl (by simp [Value.oneCell']) ?_; intro w6 hL6
        have B6 : Hid (Below w4.heap.size w4 w6) := hL6.below B5.out (by omega)
        have Y6 : Hid (w6.heap[wr.heap.size + 1]? = some (.cells #[.string ⟨tl.toArray⟩, .int .i64 k0, .string p0, .slice a0 m0 c0, .string z0] 49 (0, 0))) := hL6.row
        have X6 : Hid (w6.heap[wr.heap.size]? = some (.cells cs 44 (0, 0))) := (hL6.other _ (by omega)).trans X5.out
        have R6 : Hid (w6.ranges Tryz.prog 44 uvR mb w.heap.size n D (fun z => left z && !z.sameKey (keyLit x)) cnt4) := R4.out.kept (grown_of_below B6.out none) (by simp) (by simp)
        obtain ⟨q0, q1, q2, q3, q4, _⟩ := five_cells Y6.out
        clear hL6 B5 Y5 X5)
     | fail)
    have HSX : Hid (∀ W : World, W.heap[wr.heap.size]? = some (.cells cs 44 (0, 0)) → W.heap[wr.heap.size + 1]? = some (.cells #[.string ⟨tl.toArray⟩, .int .i64 k0, .string p0, .slice a0 m0 c0, .string z0] 49 (0, 0)) → (fun w' => (convert 22 9 (.slice (some ⟨wr.heap.size, 0, none⟩) 32 32)).run Tryz.prog w' = .ok (.string ⟨x.toArray⟩) w' ∧ w'.cell? ⟨wr.heap.size + 1, 0, none⟩ = some (.string ⟨tl.toArray⟩)) W) := fun W hr hr5 => by
     refine ⟨?_, (five_cells hr5).1⟩
     have := run_convert_bytes_back W 22 9 5 ⟨wr.heap.size, 0, none⟩ 32 x Tryz.underlying22 Tryz.underlying5 Tryz.underlying9 (fun j hj => by
      rw [add_none, cell_of_row W _ j cs _ (0, 0) hr, HCD.out]
      simp [bcells, hj])
     rw [hx] at this
     exact this
    have SD : Hid ((fun w' => (convert 22 9 (.slice (some ⟨wr.heap.size, 0, none⟩) 32 32)).run Tryz.prog w' = .ok (.string ⟨x.toArray⟩) w' ∧ w'.cell? ⟨wr.heap.size + 1, 0, none⟩ = some (.string ⟨tl.toArray⟩)) w6.drew) := HSX.out _ X6.out Y6.out
    have BA : Hid (Below w6.heap.size w6 (w6.alloc (.cells #[.string ⟨x.toArray⟩, .string ⟨tl.toArray⟩] 33)).drew) := below_dr ((Below.refl _ _).alloc (Nat.le_refl _) _)
    have XA : Hid ((w6.alloc (.cells #[.string ⟨x.toArray⟩, .string ⟨tl.toArray⟩] 33)).drew.heap[wr.heap.size]? = some (.cells cs 44 (0, 0))) := (BA.out.block _ (lt_of_block X6.out)).trans X6.out
    have YA : Hid ((w6.alloc (.cells #[.string ⟨x.toArray⟩, .string ⟨tl.toArray⟩] 33)).drew.heap[wr.heap.size + 1]? = some (.cells #[.string ⟨tl.toArray⟩, .int .i64 k0, .string p0, .slice a0 m0 c0, .string z0] 49 (0, 0))) := (BA.out.block _ (lt_of_block Y6.out)).trans Y6.out
    have SA : Hid ((fun w' => (convert 22 9 (.slice (some ⟨wr.heap.size, 0, none⟩) 32 32)).run Tryz.prog w' = .ok (.string ⟨x.toArray⟩) w' ∧ w'.cell? ⟨wr.heap.size + 1, 0, none⟩ = some (.string ⟨tl.toArray⟩)) (w6.alloc (.cells #[.string ⟨x.toArray⟩, .string ⟨tl.toArray⟩] 33)).drew) := HSX.out _ XA.out YA.out
    have O6 : Hid ((w6.alloc (.cells #[.string ⟨x.toArray⟩, .string ⟨tl.toArray⟩] 33)).drew.ownsRow (w.heap.size + 1) 33 2 (.slice a m c) L.length (pcells L)) := (keptZ O4.out B6.out).alloc (.cells #[.string ⟨x.toArray⟩, .string ⟨tl.toArray⟩] 33)
    have N6 : Hid (∀ j u, ([.string ⟨x.toArray⟩, .string ⟨tl.toArray⟩] : List Value)[j]? = some u → (w6.alloc (.cells #[.string ⟨x.toArray⟩, .string ⟨tl.toArray⟩] 33)).drew.cell? ((⟨w6.heap.size, 0, none⟩ : Addr).add j) = some u) := World.news_of_block (cs := #[.string ⟨x.toArray⟩, .string ⟨tl.toArray⟩]) (t := 33) (fr := (0, 0)) (heap_alloc_new w6 _)
    have BW6 : Hid (Below w.heap.size w (w6.alloc (.cells #[.string ⟨x.toArray⟩, .string ⟨tl.toArray⟩] 33)).drew) := BW4.out.trans ((B6.out.trans (BA.out.mono B6.out.size)).mono BW4.out.size)
    have Z6 : Hid (w.heap.size + 1 ≤ (w6.alloc (.cells #[.string ⟨x.toArray⟩, .string ⟨tl.toArray⟩] 33)).drew.heap.size) := by
     have h9 := B6.out.size
     have h8 := BA.out.size
     rw [Hid]; omega
    have R6a : Hid ((w6.alloc (.cells #[.string ⟨x.toArray⟩, .string ⟨tl.toArray⟩] 33)).drew.ranges Tryz.prog 44 uvR mb w.heap.size n D (fun z => left z && !z.sameKey (keyLit x)) cnt4) := R6.out.kept (grown_of_below BA.out none) (by simp) (by simp)
    have G6 : Hid (∀ k, (Value.slice a m c).ownBlock = some k → w.heap.size + 1 ≤ k ∧ k < wr.heap.size) := fun k hk => ⟨(O4.out.lt k hk).1, by have := (O4.out.lt k hk).2; omega⟩
    clear HG5 HG6 HI HI5 hcs h1c hen4
    go_region_held3 (fun w' => (convert 22 9 (.slice (some ⟨wr.heap.size, 0, none⟩) 32 32)).run Tryz.prog w' = .ok (.string ⟨x.toArray⟩) w' ∧ w'.cell? ⟨wr.heap.size + 1, 0, none⟩ = some (.string ⟨tl.toArray⟩))
     (first | with_reducible exact S7.out | with_reducible exact SA.out | with_reducible exact SD.out)
     ((refine step_append_lies _ rfl (.tmp 13) (.tmp 19) 24 rfl (w.heap.size + 1) 33 i0 (.agg #[.string ⟨#[]⟩, .string ⟨#[]⟩]) 2 32 Tryz.underlying24 hi0 hz0 hz1 hz2 rfl (by decide) (.slice a m c) L.length _ (by simp [Act.eval]) O6.out ⟨w6.heap.size, 0, none⟩ 1 1 [.string ⟨x.toArray⟩, .string ⟨tl.toArray⟩] (by simp [Act.eval]) rfl N6.out (by simp [Value.oneCell']) (by decide) (by unfold maxLen; omega) (by omega) Z6.out _ rfl ?_
       intro g7 c7 w7 hown7 hgrow7 hat7 hlt7
       have S7 : Hid ((fun w' => (convert 22 9 (.slice (some ⟨wr.heap.size, 0, none⟩) 32 32)).run Tryz.prog w' = .ok (.string ⟨x.toArray⟩) w' ∧ w'.cell? ⟨wr.heap.size + 1, 0, none⟩ = some (.string ⟨tl.toArray⟩)) w7) := HSX.out _ ((hgrow7.block _ (lt_of_block XA.out) (fun e => by have := (G6.out _ e.symm).2; omega)).trans XA.out) ((hgrow7.block _ (lt_of_block YA.out) (fun e => by have := (G6.out _ e.symm).2; omega)).trans YA.out)
       have O7 := hidOwn hown7
       have R7 : Hid (w7.ranges Tryz.prog 44 uvR mb w.heap.size n D (fun z => left z && !z.sameKey (keyLit x)) cnt4) := R6a.out.kept hgrow7 (fun e => by have := (G6.out _ e.symm).1; omega) (fun e => by have := (G6.out _ e.symm).1; omega)
       have B7 : Hid (Below w.heap.size w w7) := BW6.out.grown hgrow7 BW6.out.size (fun k hk => by have := (G6.out _ hk).1; omega)
       have Z7 : Hid (w.heap.size + 1 ≤ w7.heap.size) := Nat.le_trans Z6.out hgrow7.size
       clear hown7 hgrow7 hat7 hlt7))
    all_goals
     go_wp2
     go_roundw
     case rel => exact ⟨_, cnt4, L.length + 1, c7, some ⟨g7, 0, none⟩, L ++ [(x, tl)], rfl, R7.out, by simp; omega, by rw [List.length_append, pcells_app]; exact O7.out, HLQ4, HTK4, B7.out, Z7.out⟩
     case measure => rw [R7.out.left_eq, hrg.left_eq]; exact hlt4
end Go.Proofs.YtelcjhkmlleodaaGreatDoor
