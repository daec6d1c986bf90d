/-
  Texts that are laid as one: EmptyR, SgnM, DrawVf.
-/
import Derived.Test.YtajckopldkmcnaaDoorISum
import Derived.Test.YtajckopldkmcnaaDoorSSum
import Derived.Test.YtajckopldkmcnaaDoorTxtC
import Derived.Test.YtajckopldkmcnaaDoorNextR
import Derived.Test.YtajckopldkmcnaaDoorVOkAll
import Derived.Test.YtajckopldkmcnaaDoorDrawAll
namespace Go.Proofs.YtajckopldkmcnaaDoor
open Go.RowKit
set_option linter.unusedVariables false

def emptyL : List UInt8 := sumL (textB [])
theorem emptyL_text : (textB []).length ≤ 1048576 := by decide

set_option maxRecDepth 100000 in
set_option maxHeartbeats 400000 in
theorem impl_empty (w : World) (hT : Tab w) : Calls Tryd.prog 34 #[] w fun e w' => e = .returned (.string ⟨emptyL.toArray⟩) ∧ Below w.heap.size w w' := by
  have HT : Hid (Tab w) := hT
  have K1 := impl_rlpText ⟨#[]⟩ w (by decide)
  have K2 := fun W hW => impl_sum (textB []) W emptyL_text hW
  have HE : Hid (emptyL = sumL (textB [])) := rfl
  have HX : rlpText (⟨#[]⟩ : ByteArray).data.toList = textB [] := rfl
  rw [HX] at K1
  rw [← HE.out] at K2
  obtain ⟨t, ht⟩ : ∃ t, t = textB [] := ⟨_, rfl⟩
  obtain ⟨m, hm⟩ : ∃ m, m = emptyL := ⟨_, rfl⟩
  rw [← ht] at K1 K2
  rw [← hm] at K2 ⊢
  clear hT HE HX ht hm
  go_enter Tryd.func34, Tryd.ntmps34
  go_wp2_with fail
  refine K1.mono ?_
  rintro e w1 ⟨rfl, b1⟩
  go_wp2_with fail
  refine (K2 _ (HT.out.later b1)).mono ?_
  rintro e w2 ⟨rfl, b2⟩
  have B2 := b1.trans (b2.mono b1.size)
  go_wp2
  go_ret
  exact ⟨rfl, B2⟩

set_option maxRecDepth 100000 in
set_option maxHeartbeats 400000 in
theorem spec_empty (w : World) : Calls Tryd.prog 109 #[] w fun e w' => e = .returned (.string ⟨emptyL.toArray⟩) ∧ Below w.heap.size w w' := by
  have K1 := spec_l1Text ⟨#[]⟩ w (by decide)
  have K2 := fun W => spec_sum (textB []) W emptyL_text
  have HE : Hid (emptyL = sumL (textB [])) := rfl
  have HX : textB (⟨#[]⟩ : ByteArray).data.toList = textB [] := rfl
  rw [HX] at K1
  rw [← HE.out] at K2
  obtain ⟨t, ht⟩ : ∃ t, t = textB [] := ⟨_, rfl⟩
  obtain ⟨m, hm⟩ : ∃ m, m = emptyL := ⟨_, rfl⟩
  rw [← ht] at K1 K2
  rw [← hm] at K2 ⊢
  clear HE HX ht hm
  go_enter Tryd.func109, Tryd.ntmps109
  go_wp2_with fail
  refine K1.mono ?_
  rintro e w1 ⟨rfl, b1⟩
  go_wp2_with fail
  refine (K2 _).mono ?_
  rintro e w2 ⟨rfl, b2⟩
  have B2 := b1.trans (b2.mono b1.size)
  go_wp2
  go_ret
  exact ⟨rfl, B2⟩
end Go.Proofs.YtajckopldkmcnaaDoor
namespace Go.Proofs.YtajckopldkmcnaaDoor
open Go.RowKit
set_option linter.unusedVariables false

theorem path32 (seed : List UInt8) (i : Nat) (hs : seed.length = 32) (hi : i < 4) : ∀ l ∈ pathL seed i, l.length = 32 := by
  have k := fun j => keyL_len seed j hs
  match i, hi with
  | 0, _ => simp only [pathL, List.mem_cons, List.not_mem_nil, or_false]; rintro l (h | h) <;> rw [h]; exact k 1; exact nodeL_len _ _ (k 2) (k 3)
  | 1, _ => simp only [pathL, List.mem_cons, List.not_mem_nil, or_false]; rintro l (h | h) <;> rw [h]; exact k 0; exact nodeL_len _ _ (k 2) (k 3)
  | 2, _ => simp only [pathL, List.mem_cons, List.not_mem_nil, or_false]; rintro l (h | h) <;> rw [h]; exact k 3; exact nodeL_len _ _ (k 0) (k 1)
  | 3, _ => simp only [pathL, List.mem_cons, List.not_mem_nil, or_false]; rintro l (h | h) <;> rw [h]; exact k 2; exact nodeL_len _ _ (k 0) (k 1)
theorem signed_root (seed msg : List UInt8) (i : Nat) (hs : seed.length = 32) (hi : i < 4) : RootIs msg (i : Int) (sigL (leafL seed i) msg 19) (pathL seed i) (rootL seed) true := by
  obtain ⟨p, q, hpq, hlead⟩ := leads_back seed i hi
  refine .inl ⟨rfl, ?_, i, p, q, by omega, rfl, hpq, ?_⟩
  · refine ⟨⟨sigL_length _ _ _, sigL_32 _ _ (leafL_len seed i hs) 19⟩, ⟨by omega, by omega⟩, pathL_length seed i, path32 seed i hs hi⟩
  · rw [once_back]; exact hlead.symm
theorem sig_len (seed msg : List UInt8) (i : Nat) (hs : seed.length = 32) : ∀ l ∈ sigL (leafL seed i) msg 19, l.length ≤ 1048576 := fun l hl => by rw [sigL_32 _ _ (leafL_len seed i hs) 19 l hl]; omega
theorem ver_yes (seed msg : List UInt8) (i : Nat) (a b : Option Addr) (c d : Nat) (w : World) (hs : seed.length = 32) (hi : i < 4) (hm : msg.length ≤ 1048576) (h1 : IsStrs w a (sigL (leafL seed i) msg 19)) (h2 : IsStrs w b (pathL seed i)) (hT : Tab w) :
    Calls Tryd.prog 35 #[.string ⟨(rootL seed).toArray⟩, .string ⟨msg.toArray⟩, .agg #[.int .i64 (i : Int), .slice a 19 c, .slice b 2 d]] w fun e w' => e = .returned (.bool true) ∧ Below w.heap.size w w' := by
  have K := impl_verify (rootL seed) msg (i : Int) a b c d (sigL (leafL seed i) msg 19) (pathL seed i) w hm (by rw [sigL_length]; omega) (sig_len seed msg i hs) (by rw [pathL_length]; omega) (fun l hl => by rw [path32 seed i hs hi l hl]; omega) h1 h2 hT (rootL seed) true (signed_root seed msg i hs hi)
  rw [sigL_length, pathL_length] at K
  refine K.mono ?_
  rintro e w1 ⟨rfl, b1⟩
  exact ⟨by simp, b1⟩
theorem two_alloc {w : World} {o1 o2 : Obj} {k : Nat} (h : k < w.heap.size) : ((w.alloc o1).alloc o2).heap[k]? = w.heap[k]? := by
  rw [Below.heap_alloc _ _ _ (by simp; omega), Below.heap_alloc _ _ _ h]
theorem two_first {w : World} {o1 o2 : Obj} : ((w.alloc o1).alloc o2).heap[w.heap.size]? = some o1 := by
  rw [Below.heap_alloc _ _ _ (by simp)]; exact heap_alloc_new w o1
theorem two_second {w : World} {o1 o2 : Obj} : ((w.alloc o1).alloc o2).heap[w.heap.size + 1]? = some o2 := new_at _ (by simp) _
theorem two_below {w : World} {o1 o2 : Obj} : Below w.heap.size w ((w.alloc o1).alloc o2) := ((Below.refl _ _).alloc (Nat.le_refl _) _).alloc (by simp) _
theorem two_size {w : World} {o1 o2 : Obj} : ((w.alloc o1).alloc o2).heap.size = w.heap.size + 2 := by simp

end Go.Proofs.YtajckopldkmcnaaDoor
namespace Go.Proofs.YtajckopldkmcnaaDoor
open Go.RowKit
set_option linter.unusedVariables false

theorem results_csss {P : Program} {fn : Func} {p r r2 r3 : Tmp} {ty : TypeId} (h : fn.results = #[.cell p ty, .tmp r, .tmp r2, .tmp r3]) (tmps : Array Value) (w : World) (g : Nat) (t : TypeId) (cs : Array Value) (d : TypeDesc)
    (hp : tmps.getD p undef = .pointer (some ⟨g, 0, none⟩)) (hg : w.heap[g]? = some (.cells cs t (0, 0))) (hu : P.underlying ty = some d) (hd : (match d with | .struct _ | .array _ _ => true | _ => false) = true) (hi : (P.info? ty).map (·.size) = some cs.size) (vb vc vd : Value) (hb : tmps.getD r undef = vb) (hc : tmps.getD r2 undef = vc) (hdd : tmps.getD r3 undef = vd) :
    (results fn tmps).run P w = .ok (.tuple #[.agg cs, vb, vc, vd]) w := by
  subst hb hc hdd
  have hp' : tmps[p]?.getD undef = .pointer (some ⟨g, 0, none⟩) := by simpa using hp
  simp [results, h, hp', asAddr, run_loadVar_row w g t ty cs (0, 0) d hg hu hd hi]

set_option maxRecDepth 100000 in
set_option maxHeartbeats 1000000 in
theorem drawVoteFor (n cap : Nat) (a : Option Addr) (w : World) (hn : n ≤ 1048576) (h : Code w a n) :
    Calls Tryd.prog 32 #[.slice a n cap] w fun e w' => ∃ (s : List UInt8) (u nd : Int) (k : Nat) (l : List UInt8), s.length ≤ 32 ∧ k < 9 ∧ l.length ≤ 32 ∧ e = .returned (.tuple #[.agg #[.string ⟨s.toArray⟩, .int .i64 u], .int .i64 nd, .int .i64 (k : Int), .string ⟨l.toArray⟩]) ∧ Below w.heap.size w w' := by
  have Ba : Below w.heap.size w (w.alloc (.cells #[.string ⟨#[]⟩, .int .i64 0] 28)) := (Below.refl w.heap.size w).alloc (Nat.le_refl _) _
  have sa : (w.alloc (.cells #[.string ⟨#[]⟩, .int .i64 0] 28)).heap.size = w.heap.size + 1 := by simp
  have z0 := heap_alloc_new w (.cells #[.string ⟨#[]⟩, .int .i64 0] 28)
  have H1 := open_any n cap a _ (h.later Ba)
  clear h
  go_enter Tryd.func32, Tryd.ntmps32
  go_wp2_with fail
  refine H1.mono ?_
  rintro e w1 ⟨rfl, hR, hb⟩
  rw [sa] at hR
  have s1 : w.heap.size + 1 < w1.heap.size := hR.lt
  have z1 := (hb.block w.heap.size (by simp)).trans z0
  have B1 := Ba.trans (hb.mono (by simp))
  have H2 := signer_any (w.heap.size + 1) n cap a w1 hn hR
  clear H1 hR hb z0
  go_wp2_with fail
  refine H2.mono ?_
  rintro e w2 ⟨s, u, hs, rfl, hR2, hG2⟩
  have s2 := hG2.size
  have z2 := (hG2.block w.heap.size (by omega) (by simp)).trans z1
  have B2 : Below w.heap.size w w2 := B1.grown hG2 (by omega) (fun k hk => by simp at hk; omega)
  have hR2' := hR2.keptNone ((Below.refl w2.heap.size w2).alloc (Nat.le_refl _) (.cells #[.string ⟨s.toArray⟩, .int .i64 u] 28))
  obtain ⟨c0, c1⟩ := duo_cells (w := w2) (.string ⟨s.toArray⟩) (.int .i64 u) 28
  have H3 := off_any (w.heap.size + 1) n cap 6 6 a (w2.alloc (.cells #[.string ⟨s.toArray⟩, .int .i64 u] 28)).drew rfl (by omega) hn (hR2'.keptNone ⟨rfl, rfl, rfl, Nat.le_refl _, fun _ _ => rfl⟩)
  have HZ2 : Hid (w2.heap[w.heap.size]? = some (.cells #[.string ⟨#[]⟩, .int .i64 0] 28 (0, 0))) := z2
  have HB2 : Hid (Below w.heap.size w (w2.alloc (.cells #[.string ⟨s.toArray⟩, .int .i64 u] 28))) := B2.alloc B2.size _
  obtain ⟨r0, r1, rf⟩ := duo_row ((Below.heap_alloc w2 (.cells #[.string ⟨s.toArray⟩, .int .i64 u] 28) w.heap.size (by omega)).trans z2)
  have rf0 := rf 0
  have rf1 := rf 1
  clear H2 hG2 hR2 hR2' z1 z2 B1 B2 rf
  go_wp2_with fail
  go_region_held3 (fun w' => w'.cell? ⟨w2.heap.size, 0, none⟩ = some (.string ⟨s.toArray⟩) ∧ w'.cell? ⟨w2.heap.size, 1, none⟩ = some (.int .i64 u))
    (first | exact Sw5.out | exact Sw4.out | exact Sw3.out | (exact ⟨by assumption, by assumption⟩) | (with_reducible exact ⟨(duo_set_cellN (by simp; omega)).trans Sw5.out.1, (duo_set_cellN (by simp; omega)).trans Sw5.out.2⟩) | (with_reducible exact ⟨(duo_set_cellN (by simp; omega)).trans (by assumption), (duo_set_cellN (by simp; omega)).trans (by assumption)⟩) | go_keep)
    (first
      | (go_at_call 64
         refine (seed_any (w.heap.size + 1) n cap a w4 hn Rw4.out).mono ?_
         rintro e w5 ⟨l, hl, rfl, hRw5, hGw5⟩
         have sw5 : w2.heap.size + 1 ≤ w5.heap.size := (by have := hGw5.size; have := sw4; omega)
         have Sw5 : Hid (w5.cell? ⟨w2.heap.size, 0, none⟩ = some (.string ⟨s.toArray⟩) ∧ w5.cell? ⟨w2.heap.size, 1, none⟩ = some (.int .i64 u)) := ⟨(hGw5.cell_far ⟨w2.heap.size, 0, none⟩ (by simp; omega) (by simp; omega)).trans Sw4.out.1, (hGw5.cell_far ⟨w2.heap.size, 1, none⟩ (by simp; omega) (by simp; omega)).trans Sw4.out.2⟩
         have Zw5 : Hid (w5.heap[w.heap.size]? = some (.cells #[.string ⟨#[]⟩, .int .i64 0] 28 (0, 0))) := (hGw5.block w.heap.size (by omega) (by simp)).trans Zw4.out
         have Bw5 : Hid (Below w.heap.size w w5) := Bw4.out.trans ⟨hGw5.os, hGw5.tape, hGw5.output, hGw5.size, fun k hk => hGw5.block k (by omega) (by simp; omega)⟩
         have Rw5 : Hid (Rd (w.heap.size + 1) a n cap w5) := hRw5
         obtain ⟨t0, t1, tf⟩ := duo_row Zw5.out
         have tf0 := tf 0
         have tf1 := tf 1
         clear tf
         clear hRw5 hGw5)
      | (go_at_call 63
         refine (below_any (w.heap.size + 1) n cap 9 9 a w3 rfl (by omega) (by omega) hn Rw3.out).mono ?_
         rintro e w4 ⟨k, hk, rfl, hRw4, hGw4⟩
         have sw4 : w2.heap.size + 1 ≤ w4.heap.size := (by have := hGw4.size; have := sw3; omega)
         have Sw4 : Hid (w4.cell? ⟨w2.heap.size, 0, none⟩ = some (.string ⟨s.toArray⟩) ∧ w4.cell? ⟨w2.heap.size, 1, none⟩ = some (.int .i64 u)) := ⟨(hGw4.cell_far ⟨w2.heap.size, 0, none⟩ (by simp; omega) (by simp; omega)).trans Sw3.out.1, (hGw4.cell_far ⟨w2.heap.size, 1, none⟩ (by simp; omega) (by simp; omega)).trans Sw3.out.2⟩
         have Zw4 : Hid (w4.heap[w.heap.size]? = some (.cells #[.string ⟨#[]⟩, .int .i64 0] 28 (0, 0))) := (hGw4.block w.heap.size (by omega) (by simp)).trans Zw3.out
         have Bw4 : Hid (Below w.heap.size w w4) := Bw3.out.trans ⟨hGw4.os, hGw4.tape, hGw4.output, hGw4.size, fun k hk => hGw4.block k (by omega) (by simp; omega)⟩
         have Rw4 : Hid (Rd (w.heap.size + 1) a n cap w4) := hRw4
         clear hRw4 hGw4)
      | (go_at_call 62
         refine H3.mono ?_
         rintro e w3 ⟨nd, rfl, hRw3, hGw3⟩
         have sw3 : w2.heap.size + 1 ≤ w3.heap.size := (by have := hGw3.size; simp at this; exact this)
         have Sw3 : Hid (w3.cell? ⟨w2.heap.size, 0, none⟩ = some (.string ⟨s.toArray⟩) ∧ w3.cell? ⟨w2.heap.size, 1, none⟩ = some (.int .i64 u)) := ⟨(hGw3.cell_far ⟨w2.heap.size, 0, none⟩ (by simp) (by simp; omega)).trans c0, (hGw3.cell_far ⟨w2.heap.size, 1, none⟩ (by simp) (by simp; omega)).trans c1⟩
         have Zw3 : Hid (w3.heap[w.heap.size]? = some (.cells #[.string ⟨#[]⟩, .int .i64 0] 28 (0, 0))) := (hGw3.block w.heap.size (by show _ < (w2.alloc _).heap.size; simp; omega) (by simp)).trans ((Below.heap_alloc w2 (.cells #[.string ⟨s.toArray⟩, .int .i64 u] 28) w.heap.size (by omega)).trans HZ2.out)
         have Bw3 : Hid (Below w.heap.size w w3) := HB2.out.trans ⟨hGw3.os, hGw3.tape, hGw3.output, hGw3.size, fun k hk => hGw3.block k (by show _ < (w2.alloc _).heap.size; simp; omega) (by simp; omega)⟩
         have Rw3 : Hid (Rd (w.heap.size + 1) a n cap w3) := hRw3
         clear hRw3 hGw3))
  all_goals
    go_wp2
    have F1 := duo_set (j := 1) (y := .int .i64 u) (duo_set (j := 0) (y := .string ⟨s.toArray⟩) Zw5.out)
    exact bodyPost_ret (v := .tuple #[.agg #[.string ⟨s.toArray⟩, .int .i64 u], .int .i64 nd, .int .i64 (k : Int), .string ⟨l.toArray⟩]) (results_csss rfl _ _ w.heap.size 28 _ _ rfl F1 Tryd.underlying28 rfl (by kernel_rfl) _ _ _ rfl rfl rfl) rfl ⟨s, u, nd, k, l, hs, hk, hl, rfl, (Bw5.out.setCell (by simp) _).setCell (by simp) _⟩
end Go.Proofs.YtajckopldkmcnaaDoor
