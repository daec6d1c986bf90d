/-
  Contract: the program's ReadNode (written by mkreadn.py).
-/
import Derived.Test.YtapmakefpmholaaGreatDoorRNode
import Derived.Test.YtapmakefpmholaaGreatDoorTextsL
namespace Go.Proofs.YtapmakefpmholaaGreatDoor
open Go.RowKit
set_option linter.unusedVariables false

theorem results_csN {P : Program} {fn : Func} {p r : Tmp} {ty : TypeId} (h : fn.results = #[.cell p ty, .tmp r]) (tmps : Array Value) (w : World) (g : Nat) (t : TypeId) (cs : Array Value) (d : TypeDesc)
    (hp : tmps.getD p undef = .pointer (some ⟨g, 0, none⟩)) (hg : w.heap[g]? = some (.cells cs t (0, 0))) (hu : P.underlying ty = some d) (hd : (match d with | .struct _ | .array _ _ => true | _ => false) = true) (hi : (P.info? ty).map (·.size) = some cs.size) (vb : Value) (hb : tmps.getD r undef = vb) :
    (results fn tmps).run P w = .ok (.tuple #[.agg cs, vb]) w := by
  subst hb
  have hp' : tmps[p]?.getD undef = .pointer (some ⟨g, 0, none⟩) := by simpa using hp
  simp [results, h, hp', asAddr, run_loadVar_row w g t ty cs (0, 0) d hg hu hd hi]

/-- What ReadNode tells. -/
def ReadPost (w : World) (o : Option NodeL) (e : Ending) (w' : World) : Prop :=
  ∃ (a : Option Addr) (m c : Nat), e = .returned (.tuple #[.agg #[.int .i64 (o.getD zeroN).k, .string ⟨(o.getD zeroN).p.toArray⟩, .slice a m c, .string ⟨(o.getD zeroN).v.toArray⟩], .bool o.isSome]) ∧ w'.ownsRow w.heap.size 9 1 (.slice a m c) (o.getD zeroN).ls.length (scells (o.getD zeroN).ls) ∧ Below w.heap.size w w'

set_option maxRecDepth 100000 in
set_option maxHeartbeats 2000000 in
theorem impl_readNode (s : List UInt8) (w : World) (hl : s.length ≤ 1048576) :
    Calls Tryz.prog 31 #[.string ⟨s.toArray⟩] w fun e w' => ReadPost w (readNode s) e w' := by
  have B0 : Below w.heap.size w (w.alloc (.cells #[.int .i64 0, .string ⟨#[]⟩, .slice none 0 0, .string ⟨#[]⟩] 53)) := (Below.refl _ _).alloc (Nat.le_refl _) _
  have HQ : Hid ((w.alloc (.cells #[.int .i64 0, .string ⟨#[]⟩, .slice none 0 0, .string ⟨#[]⟩] 53)).heap[w.heap.size]? = some (.cells #[.int .i64 0, .string ⟨#[]⟩, .slice none 0 0, .string ⟨#[]⟩] 53 (0, 0))) := heap_alloc_new w _
  have BX : Hid (Below w.heap.size w (w.alloc (.cells #[.int .i64 0, .string ⟨#[]⟩, .slice none 0 0, .string ⟨#[]⟩] 53))) := B0
  have HL : Hid (w.heap.size < (w.alloc (.cells #[.int .i64 0, .string ⟨#[]⟩, .slice none 0 0, .string ⟨#[]⟩] 53)).heap.size) := by rw [Hid]; simp
  have KT := impl_texts s (w.alloc (.cells #[.int .i64 0, .string ⟨#[]⟩, .slice none 0 0, .string ⟨#[]⟩] 53)) hl
  obtain ⟨o, ho⟩ : ∃ o, o = readNode s := ⟨_, rfl⟩
  rw [← ho]
  cases ht : textsL s with
  | none =>
    rw [ht] at KT
    have HZ : Hid (o = none) := by rw [Hid, ho]; simp only [readNode, ht]
    clear ht ho B0
    go_enter Tryz.func31, Tryz.ntmps31
    go_wp2_with fail
    refine KT.mono ?_
    rintro e w1 ⟨rfl, b1⟩
    have B1 : Hid (Below w.heap.size w w1) := BX.out.trans (b1.mono BX.out.size)
    have Q1 : Hid (w1.heap[w.heap.size]? = some (.cells #[.int .i64 0, .string ⟨#[]⟩, .slice none 0 0, .string ⟨#[]⟩] 53 (0, 0))) := (b1.block w.heap.size HL.out).trans HQ.out
    obtain ⟨q0, q1, q2, q3, qf⟩ := quad_cells Q1.out
    have qf0 := qf 0
    have qf1 := qf 1
    have qf2 := qf 2
    have qf3 := qf 3
    clear qf b1 KT
    go_wp2
    exact bodyPost_ret (v := .tuple #[.agg #[.int .i64 0, .string ⟨#[]⟩, .slice none 0 0, .string ⟨#[]⟩], .bool false]) (results_csN rfl _ _ w.heap.size 53 _ _ rfl (four_set (.int .i64 0) (.string ⟨#[]⟩) (.slice none 0 0) (.string ⟨#[]⟩) Q1.out) Tryz.underlying53 rfl (by kernel_rfl) (.bool false) rfl) rfl (by rw [HZ.out]; exact ⟨none, 0, 0, rfl, World.ownsRow_nil _ _ _ _, fourS_below B1.out (Nat.le_refl _) _ _ _ _⟩)
  | some ts =>
    rw [ht] at KT
    have hts := textsL_each s ts ht
    have HO : Hid (o = keepN s (nodeOfI ts)) := by rw [Hid, ho]; simp only [readNode, ht]
    have hsm := (node_small ts hts.2).1
    have HKN : Hid (∀ W a c, ts.length ≤ c → IsStrs W a ts → Calls Tryz.prog 49 #[.slice a ts.length c] W fun e w' => NodePost W (nodeOfI ts) e w') := fun W a c h1 h2 => impl_nodeOf a c ts W (by have := hts.1; omega) h1 hts.2 h2
    obtain ⟨n, hn⟩ : ∃ n, n = nodeOfI ts := ⟨_, rfl⟩
    rw [← hn] at HO HKN hsm
    have HKT : Hid (∀ W a c, IsStrs W a n.ls → Calls Tryz.prog 50 #[.agg #[.int .i64 n.k, .string ⟨n.p.toArray⟩, .slice a n.ls.length c, .string ⟨n.v.toArray⟩]] W fun e w' => e = .returned (.tuple #[.string ⟨n.text.toArray⟩, .bool n.ok]) ∧ Below W.heap.size W w') := fun W a c h => impl_nodeText n.k n.p a c n.ls n.v W hsm.1 hsm.2.1 hsm.2.2.1 hsm.2.2.2 h
    have HK1 : Hid (n.ok = true → n.text = s → o = some n) := fun h1 h2 => by rw [HO.out, keepN_yes s n h1 h2]
    have HK2 : Hid (n.ok = false → o = none) := fun h1 => by rw [HO.out, keepN_no s n h1]
    have HK3 : Hid (¬ n.text = s → o = none) := fun h1 => by rw [HO.out, keepN_un s n h1]
    obtain ⟨tx, htx⟩ : ∃ tx, tx = n.text := ⟨_, rfl⟩
    obtain ⟨ok, hok⟩ : ∃ ok, ok = n.ok := ⟨_, rfl⟩
    rw [← htx, ← hok] at HKT
    rw [← hok] at HK1 HK2
    rw [← htx] at HK1 HK3
    obtain ⟨k, p, ls, v⟩ := n
    simp only at HKT
    clear ht ho B0 hts hsm hn htx hok HO
    go_enter Tryz.func31, Tryz.ntmps31
    go_wp2_with fail
    refine KT.mono ?_
    rintro e w1 ⟨a1, c1, rfl, o1, b1, hc1⟩
    have B1 : Hid (Below w.heap.size w w1) := BX.out.trans (b1.mono BX.out.size)
    have Q1 : Hid (w1.heap[w.heap.size]? = some (.cells #[.int .i64 0, .string ⟨#[]⟩, .slice none 0 0, .string ⟨#[]⟩] 53 (0, 0))) := (b1.block w.heap.size HL.out).trans HQ.out
    have L1 : Hid (w.heap.size < w1.heap.size) := Nat.lt_of_lt_of_le HL.out b1.size
    have K2 := HKN.out w1 a1 c1 hc1 (strs_own o1).2.2
    clear KT o1 b1 hc1 HKN
    go_wp2_with fail
    refine K2.mono ?_
    rintro e w2 ⟨a2, m2, c2, rfl, o2, b2⟩
    simp only at o2 ⊢
    obtain ⟨rfl, _, is2⟩ := strs_own o2
    have B2 : Hid (Below w.heap.size w w2) := B1.out.trans (b2.mono B1.out.size)
    have Q2 : Hid (w2.heap[w.heap.size]? = some (.cells #[.int .i64 0, .string ⟨#[]⟩, .slice none 0 0, .string ⟨#[]⟩] 53 (0, 0))) := (b2.block w.heap.size L1.out).trans Q1.out
    have L2 : Hid (w.heap.size < w2.heap.size) := Nat.lt_of_lt_of_le L1.out b2.size
    have O2 := hidOwn (o2.mono (by have := L1.out; omega : w.heap.size + 1 ≤ w1.heap.size))
    have BA : Hid (Below w2.heap.size w2 (w2.alloc (.cells #[.int .i64 k, .string ⟨p.toArray⟩, .slice a2 ls.length c2, .string ⟨v.toArray⟩] 53))) := (Below.refl _ _).alloc (Nat.le_refl _) _
    have QA : Hid ((w2.alloc (.cells #[.int .i64 k, .string ⟨p.toArray⟩, .slice a2 ls.length c2, .string ⟨v.toArray⟩] 53)).heap[w2.heap.size]? = some (.cells #[.int .i64 k, .string ⟨p.toArray⟩, .slice a2 ls.length c2, .string ⟨v.toArray⟩] 53 (0, 0))) := heap_alloc_new w2 _
    have ZA : Hid ((w2.alloc (.cells #[.int .i64 k, .string ⟨p.toArray⟩, .slice a2 ls.length c2, .string ⟨v.toArray⟩] 53)).heap.size = w2.heap.size + 1) := by rw [Hid]; simp
    have K3 := HKT.out (w2.alloc (.cells #[.int .i64 k, .string ⟨p.toArray⟩, .slice a2 ls.length c2, .string ⟨v.toArray⟩] 53)) a2 c2 (strs_later is2 BA.out)
    clear K2 o2 b2 is2 HKT
    go_wp2_with fail
    refine K3.mono ?_
    rintro e w3 ⟨rfl, b3⟩
    have B2a : Below w.heap.size w (w2.alloc (.cells #[.int .i64 k, .string ⟨p.toArray⟩, .slice a2 ls.length c2, .string ⟨v.toArray⟩] 53)) := B2.out.trans (BA.out.mono B2.out.size)
    have B3 : Hid (Below w.heap.size w w3) := B2a.trans (b3.mono B2a.size)
    have Q3 : Hid (w3.heap[w.heap.size]? = some (.cells #[.int .i64 0, .string ⟨#[]⟩, .slice none 0 0, .string ⟨#[]⟩] 53 (0, 0))) := (b3.block w.heap.size (by have := ZA.out; have := L2.out; omega)).trans ((BA.out.block w.heap.size L2.out).trans Q2.out)
    have R3 : Hid (w3.heap[w2.heap.size]? = some (.cells #[.int .i64 k, .string ⟨p.toArray⟩, .slice a2 ls.length c2, .string ⟨v.toArray⟩] 53 (0, 0))) := (b3.block w2.heap.size (by have := ZA.out; omega)).trans QA.out
    have O3 := hidOwn (keptX (keptX O2.out BA.out) b3)
    obtain ⟨q0, q1, q2, q3, qf⟩ := quad_cells Q3.out
    have qf0 := qf 0
    have qf1 := qf 1
    have qf2 := qf 2
    have qf3 := qf 3
    obtain ⟨r0, r1, r2, r3, rf⟩ := quad_cells R3.out
    have rf0 := rf 0
    have rf1 := rf 1
    have rf2 := rf 2
    have rf3 := rf 3
    clear qf rf b3 B2a K3
    cases ok with
    | false =>
      have HZ : Hid (o = none) := HK2.out rfl
      clear HK1 HK2 HK3
      go_wp2
      exact bodyPost_ret (v := .tuple #[.agg #[.int .i64 0, .string ⟨#[]⟩, .slice none 0 0, .string ⟨#[]⟩], .bool false]) (results_csN rfl _ _ w.heap.size 53 _ _ rfl (four_set (.int .i64 0) (.string ⟨#[]⟩) (.slice none 0 0) (.string ⟨#[]⟩) Q3.out) Tryz.underlying53 rfl (by kernel_rfl) (.bool false) rfl) rfl (by rw [HZ.out]; exact ⟨none, 0, 0, rfl, World.ownsRow_nil _ _ _ _, fourS_below B3.out (Nat.le_refl _) _ _ _ _⟩)
    | true =>
      by_cases hts : tx = s
      · subst hts
        have HZ : Hid (o = some ⟨k, p, ls, v⟩) := HK1.out rfl rfl
        clear HK1 HK2 HK3
        go_wp2
        have hne : (Value.slice a2 ls.length c2).ownBlock ≠ some w.heap.size := fun h => by have := (O3.out.lt _ h).1; omega
        exact bodyPost_ret (v := .tuple #[.agg #[.int .i64 k, .string ⟨p.toArray⟩, .slice a2 ls.length c2, .string ⟨v.toArray⟩], .bool true]) (results_csN rfl _ _ w.heap.size 53 _ _ rfl (four_set (.int .i64 k) (.string ⟨p.toArray⟩) (.slice a2 ls.length c2) (.string ⟨v.toArray⟩) Q3.out) Tryz.underlying53 rfl (by kernel_rfl) (.bool true) rfl) rfl (by rw [HZ.out]; exact ⟨a2, ls.length, c2, rfl, (four_own O3.out hne _ _ _ _).mono (by omega), fourS_below B3.out (Nat.le_refl _) _ _ _ _⟩)
      · have HZ : Hid (o = none) := HK3.out hts
        have htb : (tx == s) = false := by rw [beq_eq_false_iff_ne]; exact hts
        clear HK1 HK2 HK3
        go_wp2
        exact bodyPost_ret (v := .tuple #[.agg #[.int .i64 0, .string ⟨#[]⟩, .slice none 0 0, .string ⟨#[]⟩], .bool false]) (results_csN rfl _ _ w.heap.size 53 _ _ rfl (four_set (.int .i64 0) (.string ⟨#[]⟩) (.slice none 0 0) (.string ⟨#[]⟩) Q3.out) Tryz.underlying53 rfl (by kernel_rfl) (.bool false) rfl) rfl (by rw [HZ.out]; exact ⟨none, 0, 0, rfl, World.ownsRow_nil _ _ _ _, fourS_below B3.out (Nat.le_refl _) _ _ _ _⟩)
end Go.Proofs.YtapmakefpmholaaGreatDoor
