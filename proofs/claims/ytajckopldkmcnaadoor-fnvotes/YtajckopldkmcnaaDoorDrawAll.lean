
/-
  Texts that are laid as one: DrawC, DrawK, DrawN.
-/
import Derived.Test.YtajckopldkmcnaaDoorMath2
import Derived.Test.YtajckopldkmcnaaDoorMathAll
import Derived.Deep.QuietTactic
import Derived.BigQuiet
import Derived.OneCell
import Derived.Test.YtajckopldkmcnaaDoorSSum
import Derived.Test.YtajckopldkmcnaaDoorISig
import Derived.Deep.RegionHeld3
namespace Go.Proofs.YtajckopldkmcnaaDoor
open Go.RowKit
set_option linter.unusedVariables false

/-- A reader over the code's bytes, wherever it stands in them. -/
def Rd (rd : Nat) (a : Option Addr) (n cap : Nat) (w : World) : Prop :=
  (∃ p : Nat, p ≤ n ∧ w.heap[rd]? = some (.cells #[.slice a n cap, .int .i64 (p : Int)] 137 (0, 0))) ∧
  (n = 0 ∨ ∃ cb off, a = some ⟨cb, off, none⟩ ∧ cb ≠ rd ∧ cb < w.heap.size ∧ ∀ i, i < n → ∃ z : UInt8, w.cell? ⟨cb, off + i, none⟩ = some (.int .u8 (z.toNat : Int)))

theorem two_cells {w : World} {b : Nat} {u v : Value} {t : TypeId} (h : w.heap[b]? = some (.cells #[u, v] t (0, 0))) :
    w.cell? ⟨b, 0, none⟩ = some u ∧ w.cell? ⟨b, 1, none⟩ = some v ∧ w.frozen? ⟨b, 1, none⟩ = false := by
  refine ⟨by simp [World.cell?, h], by simp [World.cell?, h], by simp [World.frozen?, h]⟩

theorem two_set {w : World} {b : Nat} {u v x : Value} {t : TypeId} (h : w.heap[b]? = some (.cells #[u, v] t (0, 0))) : (w.setCell ⟨b, 1, none⟩ x).heap[b]? = some (.cells #[u, x] t (0, 0)) := by
  have hlt := lt_of_block h
  have h' : w.heap[b] = .cells #[u, v] t (0, 0) := by simpa [Array.getElem?_eq_getElem hlt] using h
  show (w.heap.modify b _)[b]? = _
  rw [Array.getElem?_eq_getElem (by simpa using hlt), Array.getElem_modify_self, h']
  rfl

theorem Rd.code {rd n cap : Nat} {a : Option Addr} {w : World} (h : Rd rd a n cap w) : ∀ cb off, a = some ⟨cb, off, none⟩ → n ≠ 0 → cb < w.heap.size := by
  intro cb off ha hn
  rcases h.2 with h0 | ⟨cb', off', ha', _, hlt, _⟩
  · exact absurd h0 hn
  · rw [ha] at ha'
    simp only [Option.some.injEq, Addr.mk.injEq, and_true] at ha'
    rw [ha'.1]; exact hlt

/-- A reader stands where blocks beside its own are kept. -/
theorem Rd.kept {rd n cap : Nat} {a : Option Addr} {w w' : World} {row : Option Nat} (h : Rd rd a n cap w) (hg : w.grownBy w' row) (hr : row ≠ some rd) (hc : ∀ cb off, a = some ⟨cb, off, none⟩ → n ≠ 0 → some cb ≠ row) : Rd rd a n cap w' := by
  obtain ⟨⟨p, hp, hb⟩, hz⟩ := h
  refine ⟨⟨p, hp, by rw [hg.block rd (lt_of_block hb) (fun e => hr e.symm)]; exact hb⟩, ?_⟩
  by_cases hn : n = 0
  · exact .inl hn
  · rcases hz with h0 | ⟨cb, off, ha, hne, hlt, hcell⟩
    · exact .inl h0
    · refine .inr ⟨cb, off, ha, hne, Nat.lt_of_lt_of_le hlt hg.size, fun i hi => ?_⟩
      obtain ⟨z, hz⟩ := hcell i hi
      refine ⟨z, ?_⟩
      rw [hg.cell_far ⟨cb, off + i, none⟩ hlt (hc cb off ha hn)]
      exact hz

theorem Rd.keptNone {rd n cap : Nat} {a : Option Addr} {w w' : World} (h : Rd rd a n cap w) (hb : Below w.heap.size w w') : Rd rd a n cap w' :=
  h.kept (row := none) ⟨hb.os, hb.tape, hb.output, hb.size, fun k hk _ => hb.block k hk⟩ (by simp) (by simp)

theorem Rd.lt {rd n cap : Nat} {a : Option Addr} {w : World} (h : Rd rd a n cap w) : rd < w.heap.size := lt_of_block h.1.choose_spec.2

/-- One step more, into a block that was not there at first. -/
theorem grown_more {w w1 w2 : World} {row row' : Option Nat} (h : w.grownBy w1 row) (k : w1.grownBy w2 row') (hr : ∀ j, row' = some j → w.heap.size ≤ j ∨ row = some j) : w.grownBy w2 row :=
  ⟨k.os.trans h.os, k.tape.trans h.tape, k.output.trans h.output, Nat.le_trans h.size k.size, fun i hi hn => by
    rw [k.block i (Nat.lt_of_lt_of_le hi h.size) (fun e => by rcases hr i e.symm with h' | h'; omega; exact hn h'.symm)]; exact h.block i hi hn⟩

theorem grown_drewN2 {w w' : World} {row : Option Nat} (h : w.grownBy w' row) (q : Nat) : w.grownBy (w'.drewN q) row := ⟨h.os, h.tape, h.output, h.size, h.block⟩

set_option maxRecDepth 100000 in
set_option maxHeartbeats 400000 in
theorem next_any (rd n cap : Nat) (a : Option Addr) (w : World) (hn : n ≤ 1048576) (h : Rd rd a n cap w) :
    Calls Tryd.prog 96 #[.pointer (some ⟨rd, 0, none⟩)] w fun e w' => ∃ x : Nat, x ≤ 255 ∧ e = .returned (.int .i64 (x : Int)) ∧ Rd rd a n cap w' ∧ w.grownBy w' (some rd) := by
  have h0 := h
  obtain ⟨⟨p, hp, hb⟩, hz⟩ := h
  obtain ⟨c0, c1, f1⟩ := two_cells hb
  by_cases hlt : p < n
  · have hlt' : (p : Int) < (n : Int) := by omega
    rcases hz with rfl | ⟨cb, off, rfl, hne, hcl, hcell⟩
    · omega
    · obtain ⟨z, hzc⟩ := hcell p hlt
      have hzl := z.toNat_lt
      have hb2 := two_set (x := .int .i64 ((p : Int) + 1)) hb
      obtain ⟨d0, d1, _⟩ := two_cells hb2
      have d2 : (w.setCell ⟨rd, 1, none⟩ (.int .i64 ((p : Int) + 1))).cell? ⟨cb, off + p, none⟩ = some (.int .u8 (z.toNat : Int)) := by
        rw [World.cell?_of_block (w := w) (Below.heap_setCell _ _ _ _ (by simpa using hne))]; exact hzc
      have HG : w.grownBy (w.setCell ⟨rd, 1, none⟩ (.int .i64 ((p : Int) + 1))) (some rd) := ⟨rfl, rfl, rfl, by simp [World.setCell], fun k _ hk => Below.heap_setCell _ _ _ _ (fun e => hk (by rw [e]))⟩
      have HR : Hid (Rd rd (some ⟨cb, off, none⟩) n cap (w.setCell ⟨rd, 1, none⟩ (.int .i64 ((p : Int) + 1)))) := by
        refine ⟨⟨p + 1, by omega, hb2⟩, .inr ⟨cb, off, rfl, hne, by simpa [World.setCell] using hcl, fun i hi => ?_⟩⟩
        obtain ⟨y, hy⟩ := hcell i hi
        exact ⟨y, by rw [World.cell?_of_block (w := w) (Below.heap_setCell _ _ _ _ (by simpa using hne))]; exact hy⟩
      have HGG : Hid (w.grownBy (w.setCell ⟨rd, 1, none⟩ (.int .i64 ((p : Int) + 1))) (some rd)) := HG
      clear hb hb2 hcell h0 HG
      go_enter Tryd.func96, Tryd.ntmps96
      go_wp2
      go_quiet (fail)
      go_wp2
      go_quiet (fail)
      go_wp2
      go_ret
      exact ⟨z.toNat, by omega, rfl, HR.out, HGG.out.os, HGG.out.tape, HGG.out.output, HGG.out.size, HGG.out.block⟩
  · have hlt' : ¬ (p : Int) < (n : Int) := by omega
    have HR : Hid (Rd rd a n cap w) := h0
    clear h0 hz hb
    go_enter Tryd.func96, Tryd.ntmps96
    go_wp2
    go_quiet (fail)
    go_wp2
    go_ret
    exact ⟨0, by omega, rfl, HR.out, rfl, rfl, rfl, Nat.le_refl _, fun _ _ _ => rfl⟩

set_option maxRecDepth 100000 in
set_option maxHeartbeats 400000 in
theorem below_any (rd n cap m : Nat) (x : Int) (a : Option Addr) (w : World) (hx : x = (m : Int)) (hm : 2 ≤ m) (hm2 : m ≤ 256) (hn : n ≤ 1048576) (h : Rd rd a n cap w) :
    Calls Tryd.prog 63 #[.pointer (some ⟨rd, 0, none⟩), .int .i64 x] w fun e w' => ∃ x : Nat, x < m ∧ e = .returned (.int .i64 (x : Int)) ∧ Rd rd a n cap w' ∧ w.grownBy w' (some rd) := by
  subst hx
  have HK := next_any rd n cap a w hn h
  have h1 : ¬ (m : Int) ≤ 1 := by omega
  have h2 : (m : Int) ≤ 256 := by omega
  clear h
  go_enter Tryd.func63, Tryd.ntmps63
  go_wp2_with fail
  refine HK.mono ?_
  rintro e w1 ⟨y, hy, rfl, hR, hG⟩
  have HR : Hid (Rd rd a n cap w1) := hR
  have HG : Hid (w.grownBy w1 (some rd)) := hG
  clear hR hG HK
  go_wp2
  go_ret
  exact ⟨y % m, Nat.mod_lt _ (by omega), by simp, HR.out, HG.out⟩

set_option maxRecDepth 100000 in
set_option maxHeartbeats 400000 in
theorem once_any (rd n cap m : Nat) (x : Int) (a : Option Addr) (w : World) (hx : x = (m : Int)) (hm : 2 ≤ m) (hm2 : m ≤ 256) (hn : n ≤ 1048576) (h : Rd rd a n cap w) :
    Calls Tryd.prog 94 #[.pointer (some ⟨rd, 0, none⟩), .int .i64 x] w fun e w' => ∃ t : Bool, e = .returned (.bool t) ∧ Rd rd a n cap w' ∧ w.grownBy w' (some rd) := by
  subst hx
  have HK := below_any rd n cap m m a w rfl hm hm2 hn h
  clear h
  go_enter Tryd.func94, Tryd.ntmps94
  go_wp2_with fail
  refine HK.mono ?_
  rintro e w1 ⟨y, hy, rfl, hR, hG⟩
  have HR : Hid (Rd rd a n cap w1) := hR
  have HG : Hid (w.grownBy w1 (some rd)) := hG
  clear hR hG HK
  go_wp2
  go_ret
  exact ⟨_, rfl, HR.out, HG.out⟩

theorem ba_app2 (a b : List UInt8) : ByteArray.mk a.toArray ++ ByteArray.mk b.toArray = ⟨(a ++ b).toArray⟩ := by
  apply ByteArray.ext; simp

/-- What the walk is told of the code: nothing, or bytes at their places. -/
def Code (w : World) (a : Option Addr) (n : Nat) : Prop := n = 0 ∨ ∃ cb off, a = some ⟨cb, off, none⟩ ∧ cb < w.heap.size ∧ ∀ i, i < n → ∃ z : UInt8, w.cell? ⟨cb, off + i, none⟩ = some (.int .u8 (z.toNat : Int))

theorem Code.later {w w' : World} {a : Option Addr} {n : Nat} (h : Code w a n) (hb : Below w.heap.size w w') : Code w' a n := by
  rcases h with h | ⟨cb, off, h1, h2, h3⟩
  · exact .inl h
  · exact .inr ⟨cb, off, h1, Nat.lt_of_lt_of_le h2 hb.size, fun i hi => by obtain ⟨z, hz⟩ := h3 i hi; exact ⟨z, by rw [hb.cell (p := ⟨cb, off + i, none⟩) h2]; exact hz⟩⟩

set_option maxRecDepth 100000 in
set_option maxHeartbeats 400000 in
theorem open_any (n cap : Nat) (a : Option Addr) (w : World) (h : Code w a n) :
    Calls Tryd.prog 60 #[.slice a n cap] w fun e w' => e = .returned (.pointer (some ⟨w.heap.size, 0, none⟩)) ∧ Rd w.heap.size a n cap w' ∧ Below w.heap.size w w' := by
  have HR : Hid (Rd w.heap.size a n cap (w.alloc (.cells #[.slice a n cap, .int .i64 0] 137))) := by
    refine ⟨⟨0, Nat.zero_le _, heap_alloc_new w _⟩, ?_⟩
    rcases h with h | ⟨cb, off, h1, h2, h3⟩
    · exact .inl h
    · exact .inr ⟨cb, off, h1, by omega, by simp; omega, fun i hi => by obtain ⟨z, hz⟩ := h3 i hi; exact ⟨z, by rw [World.cell?_of_block (w := w) (Below.heap_alloc _ _ _ h2)]; exact hz⟩⟩
  clear h
  go_enter Tryd.func60, Tryd.ntmps60
  go_wp2
  go_ret
  exact ⟨rfl, HR.out, (Below.refl _ _).alloc (Nat.le_refl _) _⟩

theorem below_rd {w w1 w2 : World} (h : Below w.heap.size w w1) (hg : w1.grownBy w2 (some w.heap.size)) : Below w.heap.size w w2 :=
  h.grown hg h.size (fun k hk => by simp at hk; omega)

/-- A text of so many bytes at most. -/
def shortV (m : Nat) : Value → Bool
  | .string s => decide (s.size ≤ m)
  | _ => false

theorem short_is (m : Nat) (v : Value) (h : shortV m v = true) : ∃ l : List UInt8, l.length ≤ m ∧ v = .string ⟨l.toArray⟩ := by
  match v, h with
  | .string s, h => exact ⟨s.data.toList, by simpa [shortV] using h, by rw [← ba_eq]⟩

theorem tab_any {w w1 : World} {rd m k : Nat} {cs : Array Value} {t : TypeId} (hrd : rd < w.heap.size) (hG : (w.alloc (.cells cs t)).grownBy w1 (some rd)) (hall : cs.all (shortV m) = true) (hk : k < cs.size) :
    ∃ l : List UInt8, l.length ≤ m ∧ w1.cell? ⟨w.heap.size, k, none⟩ = some (.string ⟨l.toArray⟩) := by
  have hb : w1.heap[w.heap.size]? = some (.cells cs t) := by rw [hG.block _ (by simp) (by simp; omega)]; exact heap_alloc_new w _
  have hv := (Array.all_eq_true.1 hall) k hk
  obtain ⟨l, hl, e⟩ := short_is m _ hv
  refine ⟨l, hl, ?_⟩
  rw [← e]
  simp [World.cell?, hb, hk]

set_option maxRecDepth 100000 in
set_option maxHeartbeats 400000 in
theorem text_any (rd n cap : Nat) (a : Option Addr) (w : World) (hn : n ≤ 1048576) (h : Rd rd a n cap w) :
    Calls Tryd.prog 97 #[.pointer (some ⟨rd, 0, none⟩)] w fun e w' => ∃ l : List UInt8, l.length ≤ 56 ∧ e = .returned (.string ⟨l.toArray⟩) ∧ Rd rd a n cap w' ∧ w.grownBy w' (some rd) := by
  have hrd := h.lt
  have HR0 : Hid (Rd rd a n cap w) := h
  clear h
  go_enter Tryd.func97, Tryd.ntmps97
  go_wp2_with fail
  refine (below_any rd n cap 12 12 a _ rfl (by omega) (by omega) hn (HR0.out.keptNone ((Below.refl _ _).alloc (Nat.le_refl _) _))).mono ?_
  rintro e w1 ⟨k, hk, rfl, hR, hG⟩
  obtain ⟨l, hl, hc⟩ := tab_any (m := 56) (k := k) hrd hG (by decide +kernel) hk
  have HR : Hid (Rd rd a n cap w1) := hR
  have HG : Hid (w.grownBy w1 (some rd)) := (World.grownBy_alloc w _ (some rd)).trans hG
  have hk' : (k : Int) < 12 := by omega
  clear hR hG HR0
  go_wp2
  go_ret
  exact ⟨l, hl, rfl, HR.out, HG.out⟩

theorem bigNo (n cap : Nat) (a : Option Addr) (w : World) (h : n ≤ 1048576) :
    Calls Tryd.prog 31 #[.slice a n cap] w fun e w' => e = .returned (.bool false) ∧ w' = w := by
  have h' : ¬ (1048576 : Int) < (n : Int) := by omega
  go_enter Tryd.func31, Tryd.ntmps31
  go_wp2
  go_ret
  exact ⟨by simp, rfl⟩

theorem bigYes (n cap : Nat) (a : Option Addr) (w : World) (h : ¬ n ≤ 1048576) :
    Calls Tryd.prog 31 #[.slice a n cap] w fun e w' => e = .returned (.bool true) ∧ w' = w := by
  have h' : (1048576 : Int) < (n : Int) := by omega
  go_enter Tryd.func31, Tryd.ntmps31
  go_wp2
  go_ret
  exact ⟨by simp, rfl⟩

theorem codeOf (W : World) (x : Addr) (len cap : Nat) (zs : List Int) (hl : len ≤ cap) (hz : zs.length = cap) (hcell : ∀ i, i < zs.length → W.cell? (x.add i) = some (.int .u8 (zs.getD i 0))) (hwz : ∀ n ∈ zs, (Lit.int .u8 n).wf = true) : Code W (some x) len := by
  by_cases h0 : len = 0
  · exact .inl h0
  · obtain ⟨b, o, sp⟩ := x
    have h00 := hcell 0 (by omega)
    have hsp : sp = none := World.cell?_spot (a := ⟨b, o, sp⟩) (by simpa [Addr.add] using h00)
    subst hsp
    have hlt : b < W.heap.size := by
      rcases Nat.lt_or_ge b W.heap.size with h | h
      · exact h
      · simp [Addr.add, World.cell?, Array.getElem?_eq_none h] at h00
    refine .inr ⟨b, o, rfl, hlt, fun i hi => ?_⟩
    have hc := hcell i (by omega)
    have ha : (Addr.add ⟨b, o, none⟩ i) = ⟨b, o + i, none⟩ := by unfold Addr.add; split <;> simp_all
    rw [ha] at hc
    have hi' : i < zs.length := by omega
    have hm : zs.getD i 0 ∈ zs := by simp [List.getD, List.getElem?_eq_getElem hi']
    have hwf := hwz _ hm
    obtain ⟨z, hz⟩ : ∃ z, z = zs.getD i 0 := ⟨_, rfl⟩
    rw [← hz] at hc hwf
    have hr : 0 ≤ z ∧ z ≤ 255 := by simp only [Lit.wf, Bool.and_eq_true, decide_eq_true_eq] at hwf; exact hwf
    refine ⟨UInt8.ofNat z.toNat, ?_⟩
    rw [byte_of, hc]
    congr 2
    omega

end Go.Proofs.YtajckopldkmcnaaDoor
namespace Go.Proofs.YtajckopldkmcnaaDoor
open Go.RowKit
set_option linter.unusedVariables false

theorem results_tmp4 {fn : Func} {t u v x : Tmp} (h : fn.results = #[.tmp t, .tmp u, .tmp v, .tmp x]) (tmps : Array Value) (P : Program) (w : World) :
    (results fn tmps).run P w = .ok (.tuple #[tmps.getD t undef, tmps.getD u undef, tmps.getD v undef, tmps.getD x undef]) w := by
  simp [results, h]

set_option maxRecDepth 100000 in
theorem below_one (rd : Nat) (w : World) :
    Calls Tryd.prog 63 #[.pointer (some ⟨rd, 0, none⟩), .int .i64 1] w fun e w' => e = .returned (.int .i64 0) ∧ w' = w := by
  go_enter Tryd.func63, Tryd.ntmps63
  go_wp2
  go_ret
  exact ⟨rfl, rfl⟩

set_option maxRecDepth 100000 in
set_option maxHeartbeats 400000 in
theorem seed_any (rd n cap : Nat) (a : Option Addr) (w : World) (hn : n ≤ 1048576) (h : Rd rd a n cap w) :
    Calls Tryd.prog 64 #[.pointer (some ⟨rd, 0, none⟩)] w fun e w' => ∃ l : List UInt8, l.length ≤ 32 ∧ e = .returned (.string ⟨l.toArray⟩) ∧ Rd rd a n cap w' ∧ w.grownBy w' (some rd) := by
  have K1 := text_any rd n cap a w hn h
  clear h
  go_enter Tryd.func64, Tryd.ntmps64
  go_wp2_with fail
  refine K1.mono ?_
  rintro e w1 ⟨t, ht, rfl, hR1, hG1⟩
  have K2 := spec_sum t w1 (by omega)
  have hl := sumL_len t
  obtain ⟨s, hs⟩ : ∃ s, s = sumL t := ⟨_, rfl⟩
  rw [← hs] at K2 hl
  have HR1 : Hid (Rd rd a n cap w1) := hR1
  have HG1 : Hid (w.grownBy w1 (some rd)) := hG1
  clear K1 hR1 hG1 hs
  go_wp2_with fail
  refine K2.mono ?_
  rintro e w2 ⟨rfl, b2⟩
  have HR2 : Hid (Rd rd a n cap w2) := HR1.out.keptNone b2
  have HG2 : Hid (w.grownBy w2 (some rd)) := grown_more HG1.out (row' := none) ⟨b2.os, b2.tape, b2.output, b2.size, fun k hk _ => b2.block k hk⟩ (by simp)
  have K3 := once_any rd n cap 24 24 a w2 rfl (by omega) (by omega) hn HR2.out
  clear K2 HR1 HG1 b2 HR2
  go_wp2_with fail
  refine K3.mono ?_
  rintro e w3 ⟨t3, rfl, hR3, hG3⟩
  have HR3 : Hid (Rd rd a n cap w3) := hR3
  have HG3 : Hid (w.grownBy w3 (some rd)) := grown_more HG2.out hG3 (by simp)
  clear K3 hR3 hG3 HG2
  cases t3
  · go_wp2
    go_ret
    exact ⟨s, by omega, rfl, HR3.out, HG3.out⟩
  · have K4 := below_any rd n cap 33 33 a w3 rfl (by omega) (by omega) hn HR3.out
    clear HR3
    go_wp2_with fail
    refine K4.mono ?_
    rintro e w4 ⟨y, hy, rfl, hR4, hG4⟩
    have HR4 : Hid (Rd rd a n cap w4) := hR4
    have HG4 : Hid (w.grownBy w4 (some rd)) := grown_more HG3.out hG4 (by simp)
    have hsl := fun W => sl_to (P := Tryd.prog) Tryd.underlying9 s (y : Int) y rfl (by omega) W
    have hyl : (y : Int) ≤ (s.length : Int) := by omega
    clear K4 hR4 hG4 HG3
    go_wp2
    go_ret
    exact ⟨s.take y, by simp; omega, by simp, HR4.out, HG4.out⟩

set_option maxRecDepth 100000 in
set_option maxHeartbeats 400000 in
theorem word_any (rd n cap : Nat) (a : Option Addr) (w : World) (hn : n ≤ 1048576) (h : Rd rd a n cap w) :
    Calls Tryd.prog 133 #[.pointer (some ⟨rd, 0, none⟩)] w fun e w' => ∃ x : Int, e = .returned (.int .u64 x) ∧ Rd rd a n cap w' ∧ w.grownBy w' (some rd) := by
  go_enter Tryd.func133, Tryd.ntmps133
  go_wp2
  go_loopw [3, 4] (fun v i wr => ∃ j : Nat, ∃ x : Int, j ≤ 8 ∧ i = .int .i64 (j : Int) ∧ v = .int .u64 x ∧ Rd rd a n cap wr ∧ w.grownBy wr (some rd)) (fun _ i _ => 8 - (intOf i).toNat)
  case atStart => exact ⟨0, 0, by omega, rfl, rfl, h, World.grownBy.refl _ _⟩
  case round =>
    obtain ⟨j, x, hj, rfl, rfl, hRr, hgr⟩ := hrel
    clear h
    by_cases hlt : j < 8
    · have hlt' : (j : Int) < 8 := by omega
      have K := next_any rd n cap a wr hn hRr
      have HG : Hid (w.grownBy wr (some rd)) := hgr
      clear hRr hgr
      go_wp2_with fail
      refine K.mono ?_
      rintro e w1 ⟨y, hy, rfl, hR1, hG1⟩
      have HR1 : Hid (Rd rd a n cap w1) := hR1
      have HG1 : Hid (w.grownBy w1 (some rd)) := grown_more HG.out hG1 (by simp)
      clear K hR1 hG1 HG
      go_wp2
      go_roundw
      case rel => exact ⟨j + 1, _, by omega, by go_num, rfl, HR1.out, HG1.out⟩
      case measure => simp [intOf]; omega
    · have HRr : Hid (Rd rd a n cap wr) := hRr
      have HG : Hid (w.grownBy wr (some rd)) := hgr
      clear hRr hgr
      go_wp2
      go_ret
      exact ⟨x, rfl, HRr.out, HG.out⟩

set_option maxRecDepth 100000 in
set_option maxHeartbeats 400000 in
theorem near_any (rd n cap hi : Nat) (x : Int) (a : Option Addr) (w : World) (hx : x = (hi : Int)) (hh : hi ≤ 1000) (hn : n ≤ 1048576) (h : Rd rd a n cap w) :
    Calls Tryd.prog 95 #[.pointer (some ⟨rd, 0, none⟩), .int .i64 0, .int .i64 x] w fun e w' => ∃ x : Int, e = .returned (.int .i64 x) ∧ Rd rd a n cap w' ∧ w.grownBy w' (some rd) := by
  subst hx
  have K1 := below_any rd n cap 8 8 a w rfl (by omega) (by omega) hn h
  clear h
  go_enter Tryd.func95, Tryd.ntmps95
  go_wp2_with fail
  refine K1.mono ?_
  rintro e w1 ⟨y, hy, rfl, hR1, hG1⟩
  have HR1 : Hid (Rd rd a n cap w1) := hR1
  have HG1 : Hid (w.grownBy w1 (some rd)) := hG1
  clear K1 hR1 hG1
  by_cases y0 : y = 0
  · subst y0
    go_wp2
    go_ret
    exact ⟨_, rfl, HR1.out, HG1.out⟩
  · have y0' : ((y : Int) == 0) = false := by simp only [beq_eq_false_iff_ne, ne_eq]; omega
    by_cases y1 : y = 1
    · subst y1
      go_wp2
      go_ret
      exact ⟨_, rfl, HR1.out, HG1.out⟩
    · have y1' : ((y : Int) == 1) = false := by simp only [beq_eq_false_iff_ne, ne_eq]; omega
      have K2 := word_any rd n cap a w1 hn HR1.out
      have hp : ¬ (hi : Int) < 0 := by omega
      have hp1 : (hi : Int) + 1 ≠ 0 := by omega
      clear HR1
      go_wp2_with fail
      refine K2.mono ?_
      rintro e w2 ⟨z, rfl, hR2, hG2⟩
      have HR2 : Hid (Rd rd a n cap w2) := hR2
      have HG2 : Hid (w.grownBy w2 (some rd)) := grown_more HG1.out hG2 (by simp)
      clear K2 hR2 hG2 HG1
      go_wp2
      go_ret
      exact ⟨_, rfl, HR2.out, HG2.out⟩

/-- A number of 64 bits. -/
def isI64 : Value → Bool
  | .int .i64 _ => true
  | _ => false
theorem isI64_is (v : Value) (h : isI64 v = true) : ∃ x, v = .int .i64 x := by
  match v, h with
  | .int .i64 x, _ => exact ⟨x, rfl⟩
theorem tabI_any {w w1 : World} {rd k : Nat} {cs : Array Value} {t : TypeId} (hrd : rd < w.heap.size) (hG : (w.alloc (.cells cs t)).grownBy w1 (some rd)) (hall : cs.all isI64 = true) (hk : k < cs.size) :
    ∃ x : Int, w1.cell? ⟨w.heap.size, k, none⟩ = some (.int .i64 x) := by
  have hb : w1.heap[w.heap.size]? = some (.cells cs t) := by rw [hG.block _ (by simp) (by simp; omega)]; exact heap_alloc_new w _
  have hv := (Array.all_eq_true.1 hall) k hk
  obtain ⟨x, e⟩ := isI64_is _ hv
  refine ⟨x, ?_⟩
  rw [← e]
  simp [World.cell?, hb, hk]

set_option maxRecDepth 100000 in
set_option maxHeartbeats 400000 in
theorem off_any (rd n cap hi : Nat) (x : Int) (a : Option Addr) (w : World) (hx : x = (hi : Int)) (hh : hi ≤ 1000) (hn : n ≤ 1048576) (h : Rd rd a n cap w) :
    Calls Tryd.prog 62 #[.pointer (some ⟨rd, 0, none⟩), .int .i64 0, .int .i64 x] w fun e w' => ∃ x : Int, e = .returned (.int .i64 x) ∧ Rd rd a n cap w' ∧ w.grownBy w' (some rd) := by
  subst hx
  have K1 := once_any rd n cap 24 24 a w rfl (by omega) (by omega) hn h
  clear h
  go_enter Tryd.func62, Tryd.ntmps62
  go_wp2_with fail
  refine K1.mono ?_
  rintro e w1 ⟨t, rfl, hR1, hG1⟩
  have HR1 : Hid (Rd rd a n cap w1) := hR1
  have HG1 : Hid (w.grownBy w1 (some rd)) := hG1
  have hrd := hR1.lt
  clear K1 hR1 hG1
  cases t
  · have K2 := near_any rd n cap hi hi a w1 rfl hh hn HR1.out
    clear HR1
    go_wp2_with fail
    refine K2.mono ?_
    rintro e w2 ⟨z, rfl, hR2, hG2⟩
    have HR2 : Hid (Rd rd a n cap w2) := hR2
    have HG2 : Hid (w.grownBy w2 (some rd)) := grown_more HG1.out hG2 (by simp)
    clear K2 hR2 hG2 HG1
    go_wp2
    go_ret
    exact ⟨z, rfl, HR2.out, HG2.out⟩
  · go_wp2_with fail
    refine (below_any rd n cap 4 4 a _ rfl (by omega) (by omega) hn (HR1.out.keptNone ((Below.refl _ _).alloc (Nat.le_refl _) _))).mono ?_
    rintro e w2 ⟨k, hk, rfl, hR2, hG2⟩
    obtain ⟨z, hc⟩ := tabI_any (k := k) hrd hG2 (by simp [isI64]) (by simpa using hk)
    have HR2 : Hid (Rd rd a n cap w2) := hR2
    have HG2 : Hid (w.grownBy w2 (some rd)) := grown_more HG1.out ((World.grownBy_alloc w1 _ (some rd)).trans hG2) (by simp)
    have hk' : (k : Int) < 4 := by omega
    have hk0 : (0 : Int) ≤ (k : Int) := by omega
    clear hR2 hG2 HG1 HR1
    go_wp2
    go_ret
    exact ⟨z, rfl, HR2.out, HG2.out⟩

end Go.Proofs.YtajckopldkmcnaaDoor
namespace Go.Proofs.YtajckopldkmcnaaDoor
open Go.RowKit
set_option linter.unusedVariables false

theorem grown_new {w w1 : World} {row : Option Nat} (h : w.grownBy w1 row) {p : Addr} (hp : w.heap.size ≤ p.block) (u : Value) : w.grownBy (w1.setCell p u) row :=
  ⟨h.os, h.tape, h.output, by simpa [World.setCell] using h.size, fun k hk hne => (Below.heap_setCell _ _ _ _ (by omega)).trans (h.block k hk hne)⟩
theorem grown_alloc {w w1 : World} {row : Option Nat} (h : w.grownBy w1 row) (o : Obj) : w.grownBy (w1.alloc o) row :=
  ⟨h.os, h.tape, h.output, by have := h.size; simp; omega, fun k hk hne => (Below.heap_alloc _ _ _ (by have := h.size; omega)).trans (h.block k hk hne)⟩
theorem rd_set {rd n cap : Nat} {a : Option Addr} {w : World} (h : Rd rd a n cap w) {p : Addr} (hp : p.block ≠ rd) (hc : ∀ cb off, a = some ⟨cb, off, none⟩ → n ≠ 0 → cb ≠ p.block) (u : Value) : Rd rd a n cap (w.setCell p u) :=
  h.kept (row := some p.block) ⟨rfl, rfl, rfl, by simp [World.setCell], fun k hk hne => Below.heap_setCell _ _ _ _ (fun e => hne (by rw [e]))⟩ (by simpa using hp) (fun cb off h1 h2 => by simpa using hc cb off h1 h2)

theorem duo_set_cellN {w : World} {b i j : Nat} {x y : Value} {a : Addr} (h : a.block ≠ b) : ((w.setCell ⟨b, i, none⟩ x).setCell ⟨b, j, none⟩ y).cell? a = w.cell? a :=
  World.cell?_of_block ((Below.heap_setCell _ _ _ _ (by simpa using h)).trans (Below.heap_setCell _ _ _ _ (by simpa using h)))

set_option maxRecDepth 100000 in
set_option maxHeartbeats 1000000 in
theorem signer_any (rd n cap : Nat) (a : Option Addr) (w : World) (hn : n ≤ 1048576) (h : Rd rd a n cap w) :
    Calls Tryd.prog 61 #[.pointer (some ⟨rd, 0, none⟩)] w fun e w' => ∃ (s : List UInt8) (u : Int), s.length ≤ 32 ∧ e = .returned (.agg #[.string ⟨s.toArray⟩, .int .i64 u]) ∧ Rd rd a n cap w' ∧ w.grownBy w' (some rd) := by
  have hrd := h.lt
  have hcode := h.code
  have HC : Hid (∀ cb off, a = some ⟨cb, off, none⟩ → n ≠ 0 → cb < w.heap.size) := hcode
  have hR0 := h.keptNone ((Below.refl w.heap.size w).alloc (Nat.le_refl _) (.cells #[.string ⟨#[]⟩, .int .i64 0] 28))
  have K1 := seed_any rd n cap a _ hn hR0
  have z0 := heap_alloc_new w (.cells #[.string ⟨#[]⟩, .int .i64 0] 28)
  clear h hR0 hcode
  go_enter Tryd.func61, Tryd.ntmps61
  go_wp2_with fail
  refine K1.mono ?_
  rintro e w1 ⟨s, hs, rfl, hR1, hG1⟩
  have G1 : w.grownBy w1 (some rd) := (World.grownBy_alloc w _ (some rd)).trans hG1
  have s1 : w.heap.size < w1.heap.size := by have := hG1.size; simp at this; omega
  have z1 := (hG1.block w.heap.size (by simp) (by simp; omega)).trans z0
  have K2 := below_any rd n cap 4 4 a w1 rfl (by omega) (by omega) hn hR1
  clear K1 hG1 hR1 z0
  go_wp2_with fail
  refine K2.mono ?_
  rintro e w2 ⟨y, hy, rfl, hR2, hG2⟩
  have G2 := grown_more G1 hG2 (by simp)
  have s2 : w1.heap.size ≤ w2.heap.size := hG2.size
  have z2 := (hG2.block w.heap.size s1 (by simp; omega)).trans z1
  have HZ2 : Hid (w2.heap[w.heap.size]? = some (.cells #[.string ⟨#[]⟩, .int .i64 0] 28 (0, 0))) := z2
  have hR2' := hR2.keptNone ((Below.refl w2.heap.size w2).alloc (Nat.le_refl _) (.cells #[.string ⟨s.toArray⟩, .int .i64 (y : Int)] 28))
  have K3 := once_any rd n cap 12 12 a _ rfl (by omega) (by omega) hn hR2'
  have v2 := heap_alloc_new w2 (.cells #[.string ⟨s.toArray⟩, .int .i64 (y : Int)] 28)
  have z2' := (Below.heap_alloc w2 (.cells #[.string ⟨s.toArray⟩, .int .i64 (y : Int)] 28) w.heap.size (by omega)).trans z2
  have HG2 : Hid (w.grownBy (w2.alloc (.cells #[.string ⟨s.toArray⟩, .int .i64 (y : Int)] 28)) (some rd)) := grown_alloc G2 _
  clear K2 hG2 hR2 hR2' z1 z2 G1 G2
  go_wp2_with fail
  refine K3.mono ?_
  rintro e w3 ⟨t, rfl, hR3, hG3⟩
  have G3 : w.grownBy w3 (some rd) := grown_more HG2.out hG3 (by simp)
  have s3 : w2.heap.size < w3.heap.size := by have := hG3.size; simp at this; omega
  have z3 := (hG3.block w.heap.size (by simp; omega) (by simp; omega)).trans z2'
  have v3 := (hG3.block w2.heap.size (by simp) (by simp; omega)).trans v2
  have HR3 : Hid (Rd rd a n cap w3) := hR3
  have HG3 : Hid (w.grownBy w3 (some rd)) := G3
  clear K3 hG3 hR3 G3 z2' v2 HZ2 HG2
  have fin : ∀ (w4 : World) (u : Int), Rd rd a n cap w4 → w.grownBy w4 (some rd) → w4.heap[w.heap.size]? = some (.cells #[.string ⟨#[]⟩, .int .i64 0] 28 (0, 0)) → ((w4.setCell ⟨w.heap.size, 0, none⟩ (.string ⟨s.toArray⟩)).setCell ⟨w.heap.size, 1, none⟩ (.int .i64 u)).heap[w.heap.size]? = some (.cells #[.string ⟨s.toArray⟩, .int .i64 u] 28 (0, 0)) ∧ Rd rd a n cap ((w4.setCell ⟨w.heap.size, 0, none⟩ (.string ⟨s.toArray⟩)).setCell ⟨w.heap.size, 1, none⟩ (.int .i64 u)) ∧ w.grownBy ((w4.setCell ⟨w.heap.size, 0, none⟩ (.string ⟨s.toArray⟩)).setCell ⟨w.heap.size, 1, none⟩ (.int .i64 u)) (some rd) := fun w4 u hR hG hz =>
    ⟨duo_set (j := 1) (duo_set (j := 0) hz), rd_set (rd_set hR (by simp; omega) (fun cb off h1 h2 => by have := HC.out cb off h1 h2; simp; omega) _) (by simp; omega) (fun cb off h1 h2 => by have := HC.out cb off h1 h2; simp; omega) _, grown_new (grown_new hG (by simp) _) (by simp) _⟩
  have HF : Hid (∀ (w4 : World) (u : Int), Rd rd a n cap w4 → w.grownBy w4 (some rd) → w4.heap[w.heap.size]? = some (.cells #[.string ⟨#[]⟩, .int .i64 0] 28 (0, 0)) → ((w4.setCell ⟨w.heap.size, 0, none⟩ (.string ⟨s.toArray⟩)).setCell ⟨w.heap.size, 1, none⟩ (.int .i64 u)).heap[w.heap.size]? = some (.cells #[.string ⟨s.toArray⟩, .int .i64 u] 28 (0, 0)) ∧ Rd rd a n cap ((w4.setCell ⟨w.heap.size, 0, none⟩ (.string ⟨s.toArray⟩)).setCell ⟨w.heap.size, 1, none⟩ (.int .i64 u)) ∧ w.grownBy ((w4.setCell ⟨w.heap.size, 0, none⟩ (.string ⟨s.toArray⟩)).setCell ⟨w.heap.size, 1, none⟩ (.int .i64 u)) (some rd)) := fin
  clear fin
  have HZ3 : Hid (w3.heap[w.heap.size]? = some (.cells #[.string ⟨#[]⟩, .int .i64 0] 28 (0, 0)) ∧ w3.heap[w2.heap.size]? = some (.cells #[.string ⟨s.toArray⟩, .int .i64 (y : Int)] 28 (0, 0))) := ⟨z3, v3⟩
  clear z3 v3
  cases t
  · obtain ⟨r0, r1, rf⟩ := duo_row HZ3.out.1
    obtain ⟨q0, q1, _⟩ := duo_row HZ3.out.2
    have rf0 := rf 0
    have rf1 := rf 1
    have ne : w2.heap.size ≠ w.heap.size := by omega
    clear rf
    go_wp2
    obtain ⟨F1, F2, F3⟩ := HF.out w3 (y : Int) HR3.out HG3.out HZ3.out.1
    exact bodyPost_ret (v := .agg #[.string ⟨s.toArray⟩, .int .i64 (y : Int)]) (results_cell_row rfl _ _ w.heap.size 28 _ (0, 0) _ rfl F1 Tryd.underlying28 rfl (by kernel_rfl)) rfl ⟨s, _, hs, rfl, F2, F3⟩
  · have K4 := off_any rd n cap 4 4 a w3 rfl (by omega) hn HR3.out
    go_wp2_with fail
    refine K4.mono ?_
    rintro e w4 ⟨x, rfl, hR4, hG4⟩
    have s4 := hG4.size
    have G4 : w.grownBy w4 (some rd) := grown_more HG3.out hG4 (by simp)
    have z4 := (hG4.block w.heap.size (by omega) (by simp; omega)).trans HZ3.out.1
    have v4 := (hG4.block w2.heap.size (by omega) (by simp; omega)).trans HZ3.out.2
    have v5 := duo_set (j := 1) (y := .int .i64 x) v4
    have z5 : (w4.setCell ⟨w2.heap.size, 1, none⟩ (.int .i64 x)).heap[w.heap.size]? = some (.cells #[.string ⟨#[]⟩, .int .i64 0] 28 (0, 0)) := (Below.heap_setCell _ _ _ _ (by simp; omega)).trans z4
    have R5 : Rd rd a n cap (w4.setCell ⟨w2.heap.size, 1, none⟩ (.int .i64 x)) := rd_set hR4 (by simp; omega) (fun cb off h1 h2 => by have := HC.out cb off h1 h2; simp; omega) _
    have G5 : w.grownBy (w4.setCell ⟨w2.heap.size, 1, none⟩ (.int .i64 x)) (some rd) := grown_new G4 (by simp; omega) _
    obtain ⟨r0, r1, rf⟩ := duo_row z5
    obtain ⟨q0, q1, _⟩ := duo_row v5
    obtain ⟨u0, u1, uf⟩ := duo_row v4
    have uf1 := uf 1
    have rf0 := rf 0
    have rf1 := rf 1
    have ne : w2.heap.size ≠ w.heap.size := by omega
    have HH : Hid (Rd rd a n cap (w4.setCell ⟨w2.heap.size, 1, none⟩ (.int .i64 x)) ∧ w.grownBy (w4.setCell ⟨w2.heap.size, 1, none⟩ (.int .i64 x)) (some rd) ∧ (w4.setCell ⟨w2.heap.size, 1, none⟩ (.int .i64 x)).heap[w.heap.size]? = some (.cells #[.string ⟨#[]⟩, .int .i64 0] 28 (0, 0))) := ⟨R5, G5, z5⟩
    clear rf uf K4 hG4 hR4 R5 G5 z5 v5 z4 v4 G4
    go_wp2
    obtain ⟨F1, F2, F3⟩ := HF.out _ x HH.out.1 HH.out.2.1 HH.out.2.2
    exact bodyPost_ret (v := .agg #[.string ⟨s.toArray⟩, .int .i64 x]) (results_cell_row rfl _ _ w.heap.size 28 _ (0, 0) _ rfl F1 Tryd.underlying28 rfl (by kernel_rfl)) rfl ⟨s, _, hs, rfl, F2, F3⟩

/-- A row in cells and a string as results. -/
theorem results_cs {P : Program} {fn : Func} {p r : Tmp} {ty : TypeId} (h : fn.results = #[.cell p ty, .tmp r]) (tmps : Array Value) (w : World) (g : Nat) (t : TypeId) (cs : Array Value) (d : TypeDesc)
    (hp : tmps.getD p undef = .pointer (some ⟨g, 0, none⟩)) (hg : w.heap[g]? = some (.cells cs t (0, 0))) (hu : P.underlying ty = some d) (hd : (match d with | .struct _ | .array _ _ => true | _ => false) = true) (hi : (P.info? ty).map (·.size) = some cs.size) (vb : Value) (hb : tmps.getD r undef = vb) :
    (results fn tmps).run P w = .ok (.tuple #[.agg cs, vb]) w := by
  subst hb
  have hp' : tmps[p]?.getD undef = .pointer (some ⟨g, 0, none⟩) := by simpa using hp
  simp [results, h, hp', asAddr, run_loadVar_row w g t ty cs (0, 0) d hg hu hd hi]

end Go.Proofs.YtajckopldkmcnaaDoor
