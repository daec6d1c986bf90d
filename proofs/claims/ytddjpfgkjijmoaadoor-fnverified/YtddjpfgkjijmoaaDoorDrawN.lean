/-
  Contracts: the draws of signers.
-/
import Derived.Test.YtddjpfgkjijmoaaDoorDrawK
import Derived.Test.YtddjpfgkjijmoaaDoorISig
import Derived.Deep.RegionHeld3
namespace Go.Proofs.YtddjpfgkjijmoaaDoor
open Go.RowKit
set_option linter.unusedVariables false

theorem grown_new {w w1 : World} {row : Option Nat} (h : w.grownBy w1 row) {p : Addr} (hp : w.heap.size ≤ p.block) (u : Value) : w.grownBy (w1.setCell p u) row :=
  ⟨h.os, h.tape, h.output, by simpa [World.setCell] using h.size, fun k hk hne => (Below.heap_setCell _ _ _ _ (by omega)).trans (h.block k hk hne)⟩
theorem grown_alloc {w w1 : World} {row : Option Nat} (h : w.grownBy w1 row) (o : Obj) : w.grownBy (w1.alloc o) row :=
  ⟨h.os, h.tape, h.output, by have := h.size; simp; omega, fun k hk hne => (Below.heap_alloc _ _ _ (by have := h.size; omega)).trans (h.block k hk hne)⟩
theorem rd_set {rd n cap : Nat} {a : Option Addr} {w : World} (h : Rd rd a n cap w) {p : Addr} (hp : p.block ≠ rd) (hc : ∀ cb off, a = some ⟨cb, off, none⟩ → n ≠ 0 → cb ≠ p.block) (u : Value) : Rd rd a n cap (w.setCell p u) :=
  h.kept (row := some p.block) ⟨rfl, rfl, rfl, by simp [World.setCell], fun k hk hne => Below.heap_setCell _ _ _ _ (fun e => hne (by rw [e]))⟩ (by simpa using hp) (fun cb off h1 h2 => by simpa using hc cb off h1 h2)

theorem duo_set_cellN {w : World} {b i j : Nat} {x y : Value} {a : Addr} (h : a.block ≠ b) : ((w.setCell ⟨b, i, none⟩ x).setCell ⟨b, j, none⟩ y).cell? a = w.cell? a :=
  World.cell?_of_block ((Below.heap_setCell _ _ _ _ (by simpa using h)).trans (Below.heap_setCell _ _ _ _ (by simpa using h)))

set_option maxRecDepth 100000 in
set_option maxHeartbeats 1000000 in
theorem signer_any (rd n cap : Nat) (a : Option Addr) (w : World) (hn : n ≤ 1048576) (h : Rd rd a n cap w) :
    Calls Tryd.prog 29 #[.pointer (some ⟨rd, 0, none⟩)] w fun e w' => ∃ (s : List UInt8) (u : Int), s.length ≤ 32 ∧ e = .returned (.agg #[.string ⟨s.toArray⟩, .int .i64 u]) ∧ Rd rd a n cap w' ∧ w.grownBy w' (some rd) := by
  have hrd := h.lt
  have hcode := h.code
  have HC : Hid (∀ cb off, a = some ⟨cb, off, none⟩ → n ≠ 0 → cb < w.heap.size) := hcode
  have hR0 := h.keptNone ((Below.refl w.heap.size w).alloc (Nat.le_refl _) (.cells #[.string ⟨#[]⟩, .int .i64 0] 25))
  have K1 := seed_any rd n cap a _ hn hR0
  have z0 := heap_alloc_new w (.cells #[.string ⟨#[]⟩, .int .i64 0] 25)
  clear h hR0 hcode
  go_enter Tryd.func29, Tryd.ntmps29
  go_wp2_with fail
  refine K1.mono ?_
  rintro e w1 ⟨s, hs, rfl, hR1, hG1⟩
  have G1 : w.grownBy w1 (some rd) := (World.grownBy_alloc w _ (some rd)).trans hG1
  have s1 : w.heap.size < w1.heap.size := by have := hG1.size; simp at this; omega
  have z1 := (hG1.block w.heap.size (by simp) (by simp; omega)).trans z0
  have K2 := below_any rd n cap 4 4 a w1 rfl (by omega) (by omega) hn hR1
  clear K1 hG1 hR1 z0
  go_wp2_with fail
  refine K2.mono ?_
  rintro e w2 ⟨y, hy, rfl, hR2, hG2⟩
  have G2 := grown_more G1 hG2 (by simp)
  have s2 : w1.heap.size ≤ w2.heap.size := hG2.size
  have z2 := (hG2.block w.heap.size s1 (by simp; omega)).trans z1
  have HZ2 : Hid (w2.heap[w.heap.size]? = some (.cells #[.string ⟨#[]⟩, .int .i64 0] 25 (0, 0))) := z2
  have hR2' := hR2.keptNone ((Below.refl w2.heap.size w2).alloc (Nat.le_refl _) (.cells #[.string ⟨s.toArray⟩, .int .i64 (y : Int)] 25))
  have K3 := once_any rd n cap 12 12 a _ rfl (by omega) (by omega) hn hR2'
  have v2 := heap_alloc_new w2 (.cells #[.string ⟨s.toArray⟩, .int .i64 (y : Int)] 25)
  have z2' := (Below.heap_alloc w2 (.cells #[.string ⟨s.toArray⟩, .int .i64 (y : Int)] 25) w.heap.size (by omega)).trans z2
  have HG2 : Hid (w.grownBy (w2.alloc (.cells #[.string ⟨s.toArray⟩, .int .i64 (y : Int)] 25)) (some rd)) := grown_alloc G2 _
  clear K2 hG2 hR2 hR2' z1 z2 G1 G2
  go_wp2_with fail
  refine K3.mono ?_
  rintro e w3 ⟨t, rfl, hR3, hG3⟩
  have G3 : w.grownBy w3 (some rd) := grown_more HG2.out hG3 (by simp)
  have s3 : w2.heap.size < w3.heap.size := by have := hG3.size; simp at this; omega
  have z3 := (hG3.block w.heap.size (by simp; omega) (by simp; omega)).trans z2'
  have v3 := (hG3.block w2.heap.size (by simp) (by simp; omega)).trans v2
  have HR3 : Hid (Rd rd a n cap w3) := hR3
  have HG3 : Hid (w.grownBy w3 (some rd)) := G3
  clear K3 hG3 hR3 G3 z2' v2 HZ2 HG2
  have fin : ∀ (w4 : World) (u : Int), Rd rd a n cap w4 → w.grownBy w4 (some rd) → w4.heap[w.heap.size]? = some (.cells #[.string ⟨#[]⟩, .int .i64 0] 25 (0, 0)) → ((w4.setCell ⟨w.heap.size, 0, none⟩ (.string ⟨s.toArray⟩)).setCell ⟨w.heap.size, 1, none⟩ (.int .i64 u)).heap[w.heap.size]? = some (.cells #[.string ⟨s.toArray⟩, .int .i64 u] 25 (0, 0)) ∧ Rd rd a n cap ((w4.setCell ⟨w.heap.size, 0, none⟩ (.string ⟨s.toArray⟩)).setCell ⟨w.heap.size, 1, none⟩ (.int .i64 u)) ∧ w.grownBy ((w4.setCell ⟨w.heap.size, 0, none⟩ (.string ⟨s.toArray⟩)).setCell ⟨w.heap.size, 1, none⟩ (.int .i64 u)) (some rd) := fun w4 u hR hG hz =>
    ⟨duo_set (j := 1) (duo_set (j := 0) hz), rd_set (rd_set hR (by simp; omega) (fun cb off h1 h2 => by have := HC.out cb off h1 h2; simp; omega) _) (by simp; omega) (fun cb off h1 h2 => by have := HC.out cb off h1 h2; simp; omega) _, grown_new (grown_new hG (by simp) _) (by simp) _⟩
  have HF : Hid (∀ (w4 : World) (u : Int), Rd rd a n cap w4 → w.grownBy w4 (some rd) → w4.heap[w.heap.size]? = some (.cells #[.string ⟨#[]⟩, .int .i64 0] 25 (0, 0)) → ((w4.setCell ⟨w.heap.size, 0, none⟩ (.string ⟨s.toArray⟩)).setCell ⟨w.heap.size, 1, none⟩ (.int .i64 u)).heap[w.heap.size]? = some (.cells #[.string ⟨s.toArray⟩, .int .i64 u] 25 (0, 0)) ∧ Rd rd a n cap ((w4.setCell ⟨w.heap.size, 0, none⟩ (.string ⟨s.toArray⟩)).setCell ⟨w.heap.size, 1, none⟩ (.int .i64 u)) ∧ w.grownBy ((w4.setCell ⟨w.heap.size, 0, none⟩ (.string ⟨s.toArray⟩)).setCell ⟨w.heap.size, 1, none⟩ (.int .i64 u)) (some rd)) := fin
  clear fin
  have HZ3 : Hid (w3.heap[w.heap.size]? = some (.cells #[.string ⟨#[]⟩, .int .i64 0] 25 (0, 0)) ∧ w3.heap[w2.heap.size]? = some (.cells #[.string ⟨s.toArray⟩, .int .i64 (y : Int)] 25 (0, 0))) := ⟨z3, v3⟩
  clear z3 v3
  cases t
  · obtain ⟨r0, r1, rf⟩ := duo_row HZ3.out.1
    obtain ⟨q0, q1, _⟩ := duo_row HZ3.out.2
    have rf0 := rf 0
    have rf1 := rf 1
    have ne : w2.heap.size ≠ w.heap.size := by omega
    clear rf
    go_wp2
    obtain ⟨F1, F2, F3⟩ := HF.out w3 (y : Int) HR3.out HG3.out HZ3.out.1
    exact bodyPost_ret (v := .agg #[.string ⟨s.toArray⟩, .int .i64 (y : Int)]) (results_cell_row rfl _ _ w.heap.size 25 _ (0, 0) _ rfl F1 Tryd.underlying25 rfl (by kernel_rfl)) rfl ⟨s, _, hs, rfl, F2, F3⟩
  · have K4 := off_any rd n cap 4 4 a w3 rfl (by omega) hn HR3.out
    go_wp2_with fail
    refine K4.mono ?_
    rintro e w4 ⟨x, rfl, hR4, hG4⟩
    have s4 := hG4.size
    have G4 : w.grownBy w4 (some rd) := grown_more HG3.out hG4 (by simp)
    have z4 := (hG4.block w.heap.size (by omega) (by simp; omega)).trans HZ3.out.1
    have v4 := (hG4.block w2.heap.size (by omega) (by simp; omega)).trans HZ3.out.2
    have v5 := duo_set (j := 1) (y := .int .i64 x) v4
    have z5 : (w4.setCell ⟨w2.heap.size, 1, none⟩ (.int .i64 x)).heap[w.heap.size]? = some (.cells #[.string ⟨#[]⟩, .int .i64 0] 25 (0, 0)) := (Below.heap_setCell _ _ _ _ (by simp; omega)).trans z4
    have R5 : Rd rd a n cap (w4.setCell ⟨w2.heap.size, 1, none⟩ (.int .i64 x)) := rd_set hR4 (by simp; omega) (fun cb off h1 h2 => by have := HC.out cb off h1 h2; simp; omega) _
    have G5 : w.grownBy (w4.setCell ⟨w2.heap.size, 1, none⟩ (.int .i64 x)) (some rd) := grown_new G4 (by simp; omega) _
    obtain ⟨r0, r1, rf⟩ := duo_row z5
    obtain ⟨q0, q1, _⟩ := duo_row v5
    obtain ⟨u0, u1, uf⟩ := duo_row v4
    have uf1 := uf 1
    have rf0 := rf 0
    have rf1 := rf 1
    have ne : w2.heap.size ≠ w.heap.size := by omega
    have HH : Hid (Rd rd a n cap (w4.setCell ⟨w2.heap.size, 1, none⟩ (.int .i64 x)) ∧ w.grownBy (w4.setCell ⟨w2.heap.size, 1, none⟩ (.int .i64 x)) (some rd) ∧ (w4.setCell ⟨w2.heap.size, 1, none⟩ (.int .i64 x)).heap[w.heap.size]? = some (.cells #[.string ⟨#[]⟩, .int .i64 0] 25 (0, 0))) := ⟨R5, G5, z5⟩
    clear rf uf K4 hG4 hR4 R5 G5 z5 v5 z4 v4 G4
    go_wp2
    obtain ⟨F1, F2, F3⟩ := HF.out _ x HH.out.1 HH.out.2.1 HH.out.2.2
    exact bodyPost_ret (v := .agg #[.string ⟨s.toArray⟩, .int .i64 x]) (results_cell_row rfl _ _ w.heap.size 25 _ (0, 0) _ rfl F1 Tryd.underlying25 rfl (by kernel_rfl)) rfl ⟨s, _, hs, rfl, F2, F3⟩

/-- A row in cells and a string as results. -/
theorem results_cs {P : Program} {fn : Func} {p r : Tmp} {ty : TypeId} (h : fn.results = #[.cell p ty, .tmp r]) (tmps : Array Value) (w : World) (g : Nat) (t : TypeId) (cs : Array Value) (d : TypeDesc)
    (hp : tmps.getD p undef = .pointer (some ⟨g, 0, none⟩)) (hg : w.heap[g]? = some (.cells cs t (0, 0))) (hu : P.underlying ty = some d) (hd : (match d with | .struct _ | .array _ _ => true | _ => false) = true) (hi : (P.info? ty).map (·.size) = some cs.size) (vb : Value) (hb : tmps.getD r undef = vb) :
    (results fn tmps).run P w = .ok (.tuple #[.agg cs, vb]) w := by
  subst hb
  have hp' : tmps[p]?.getD undef = .pointer (some ⟨g, 0, none⟩) := by simpa using hp
  simp [results, h, hp', asAddr, run_loadVar_row w g t ty cs (0, 0) d hg hu hd hi]

set_option maxRecDepth 100000 in
set_option maxHeartbeats 1000000 in
theorem drawSignNext (n cap : Nat) (a : Option Addr) (w : World) (hn : n ≤ 1048576) (h : Code w a n) :
    Calls Tryd.prog 9 #[.slice a n cap] w fun e w' => ∃ (s : List UInt8) (u : Int) (l : List UInt8), s.length ≤ 32 ∧ l.length ≤ 56 ∧ e = .returned (.tuple #[.agg #[.string ⟨s.toArray⟩, .int .i64 u], .string ⟨l.toArray⟩]) ∧ Below w.heap.size w w' := by
  have Ba : Below w.heap.size w (w.alloc (.cells #[.string ⟨#[]⟩, .int .i64 0] 25)) := (Below.refl w.heap.size w).alloc (Nat.le_refl _) _
  have sa : (w.alloc (.cells #[.string ⟨#[]⟩, .int .i64 0] 25)).heap.size = w.heap.size + 1 := by simp
  have z0 := heap_alloc_new w (.cells #[.string ⟨#[]⟩, .int .i64 0] 25)
  have H1 := open_any n cap a _ (h.later Ba)
  clear h
  go_enter Tryd.func9, Tryd.ntmps9
  go_wp2_with fail
  refine H1.mono ?_
  rintro e w1 ⟨rfl, hR, hb⟩
  rw [sa] at hR
  have s1 : w.heap.size + 1 < w1.heap.size := hR.lt
  have z1 := (hb.block w.heap.size (by simp)).trans z0
  have B1 := Ba.trans (hb.mono (by simp))
  have H2 := signer_any (w.heap.size + 1) n cap a w1 hn hR
  clear H1 hR hb z0
  go_wp2_with fail
  refine H2.mono ?_
  rintro e w2 ⟨s, u, hs, rfl, hR2, hG2⟩
  have s2 := hG2.size
  have z2 := (hG2.block w.heap.size (by omega) (by simp)).trans z1
  have B2 : Below w.heap.size w w2 := B1.grown hG2 (by omega) (fun k hk => by simp at hk; omega)
  have hR2' := hR2.keptNone ((Below.refl w2.heap.size w2).alloc (Nat.le_refl _) (.cells #[.string ⟨s.toArray⟩, .int .i64 u] 25))
  obtain ⟨c0, c1⟩ := duo_cells (w := w2) (.string ⟨s.toArray⟩) (.int .i64 u) 25
  have H3 := text_any (w.heap.size + 1) n cap a (w2.alloc (.cells #[.string ⟨s.toArray⟩, .int .i64 u] 25)).drew hn (hR2'.keptNone ⟨rfl, rfl, rfl, Nat.le_refl _, fun _ _ => rfl⟩)
  have HZ2 : Hid (w2.heap[w.heap.size]? = some (.cells #[.string ⟨#[]⟩, .int .i64 0] 25 (0, 0))) := z2
  have HB2 : Hid (Below w.heap.size w (w2.alloc (.cells #[.string ⟨s.toArray⟩, .int .i64 u] 25))) := B2.alloc B2.size _
  obtain ⟨r0, r1, rf⟩ := duo_row ((Below.heap_alloc w2 (.cells #[.string ⟨s.toArray⟩, .int .i64 u] 25) w.heap.size (by omega)).trans z2)
  have rf0 := rf 0
  have rf1 := rf 1
  clear H2 hG2 hR2 hR2' z1 z2 B1 B2 rf
  go_wp2_with fail
  go_region_held3 (fun w' => w'.cell? ⟨w2.heap.size, 0, none⟩ = some (.string ⟨s.toArray⟩) ∧ w'.cell? ⟨w2.heap.size, 1, none⟩ = some (.int .i64 u))
    (first | (exact ⟨by assumption, by assumption⟩) | (with_reducible exact ⟨(duo_set_cellN (by simp; omega)).trans (by assumption), (duo_set_cellN (by simp; omega)).trans (by assumption)⟩) | go_keep)
    ((go_at_call 30
      refine H3.mono ?_
      rintro e w3 ⟨l, hl, rfl, hR3, hG3⟩
      have s3 : w2.heap.size + 1 ≤ w3.heap.size := (by have := hG3.size; simp at this; exact this)
      have d0 := (hG3.cell_far ⟨w2.heap.size, 0, none⟩ (by simp) (by simp; omega)).trans c0
      have d1 := (hG3.cell_far ⟨w2.heap.size, 1, none⟩ (by simp) (by simp; omega)).trans c1
      have z3 : w3.heap[w.heap.size]? = some (.cells #[.string ⟨#[]⟩, .int .i64 0] 25 (0, 0)) := (hG3.block w.heap.size (by show _ < (w2.alloc _).heap.size; simp; omega) (by simp)).trans ((Below.heap_alloc w2 (.cells #[.string ⟨s.toArray⟩, .int .i64 u] 25) w.heap.size (by omega)).trans HZ2.out)
      obtain ⟨t0, t1, tf⟩ := duo_row z3
      have tf0 := tf 0
      have tf1 := tf 1
      have HB3 : Hid (Below w.heap.size w w3) := HB2.out.trans ⟨hG3.os, hG3.tape, hG3.output, hG3.size, fun k hk => hG3.block k (by show _ < (w2.alloc _).heap.size; simp; omega) (by simp; omega)⟩
      have HZ3 : Hid (w3.heap[w.heap.size]? = some (.cells #[.string ⟨#[]⟩, .int .i64 0] 25 (0, 0))) := z3
      clear tf z3 hR3 hG3))
  all_goals
    go_wp2
    have F1 := duo_set (j := 1) (y := .int .i64 u) (duo_set (j := 0) (y := .string ⟨s.toArray⟩) HZ3.out)
    exact bodyPost_ret (v := .tuple #[.agg #[.string ⟨s.toArray⟩, .int .i64 u], .string ⟨l.toArray⟩]) (results_cs rfl _ _ w.heap.size 25 _ _ rfl F1 Tryd.underlying25 rfl (by kernel_rfl) _ rfl) rfl ⟨s, u, l, hs, hl, rfl, (HB3.out.setCell (by simp) _).setCell (by simp) _⟩
end Go.Proofs.YtddjpfgkjijmoaaDoor
