/-
 Contracts: sessions that are right, two rows of nodes that are the same, of the program and of the model (written by mksesok.py).
-/
import Derived.Test.YthnddgdnialogaaGreatDoorMathOp
import Derived.Test.YthnddgdnialogaaGreatDoorRepAll
import Derived.Test.YthnddgdnialogaaGreatDoorSortAll
namespace Go.Proofs.YthnddgdnialogaaGreatDoor
open Go.RowKit
set_option linter.unusedVariables false
theorem lA {α : Type _} (l : List α) (i : Nat) (x : α) : l.toArray.setIfInBounds i x = (l.set i x).toArray := List.setIfInBounds_toArray l i x
theorem lB {α : Type _} (x y : α) (l : List α) : (x :: l).set 0 y = y :: l := List.set_cons_zero
theorem lC {α : Type _} (x y : α) (l : List α) (n : Nat) : (x :: l).set (n + 1) y = x :: l.set n y := List.set_cons_succ
theorem yH (i : Nat) (oi : Oper) (v : Value) {P : Program} {md : Region.Mode} {ops : Array Oper} {Q : Exit → Act → World → Prop} {S : World → Prop} {fuel : Nat} {listed : Array Bool} {a : Act} {w : World} (hy : YieldsIf P ops S oi v a) (hS : S w)
 (h : wpAnyH P md ops Q S fuel (listed.setIfInBounds i true) (a.put oi.dst v) w) (hi : ops[i]? = some oi := by rfl) (hs : Region.noSelect ops = true := by kernel_rfl) (hf : Region.free md ops listed i = true := by kernel_rfl) (hr : (Region.ready md ops listed).contains i = true := by kernel_rfl)
 (hQ : ∀ c a w, Q (.panic c) (a.put oi.dst v) w → Q (.panic c) a w := by exact fun _ _ _ h => h) : wpAnyH P md ops Q S (fuel + 1) listed a w := wpAnyH_take hi hs hf hr hQ hy hS h
theorem nH (i : Nat) (oi : Oper) {P : Program} {md : Region.Mode} {ops : Array Oper} {Q : Exit → Act → World → Prop} {S : World → Prop} {fuel : Nat} {listed : Array Bool} {a : Act} {w : World} (hS : S w)
 (h : wpAnyH P md ops Q S fuel (listed.setIfInBounds i true) (a.put oi.dst undef) w) (hi : ops[i]? = some oi := by rfl) (hs : Region.noSelect ops = true := by kernel_rfl) (hf : Region.free md ops listed i = true := by kernel_rfl) (hr : (Region.ready md ops listed).contains i = true := by kernel_rfl)
 (hQ : ∀ c a w, Q (.panic c) (a.put oi.dst undef) w → Q (.panic c) a w := by exact fun _ _ _ h => h) (hy : YieldsIf P ops S oi undef a := by exact Or.inr ⟨by rfl, rfl⟩) : wpAnyH P md ops Q S (fuel + 1) listed a w := wpAnyH_take hi hs hf hr hQ hy hS h
set_option maxRecDepth 100000 in
theorem impl_numbered (c n : Int) (w : World) :
 Calls Tryz.prog 64 #[.int .i64 c, .int .i64 n] w fun e w' => e = .returned (.bool (numOk c && numOk n)) ∧ Below w.heap.size w w' := by
 obtain ⟨r, hr⟩ : ∃ r, r = (numOk c && numOk n) := ⟨_, rfl⟩
 have HR : Hid (r = (decide (1 ≤ c ∧ c ≤ 1000000000000) && decide (1 ≤ n ∧ n ≤ 1000000000000))) := hr
 rw [← hr]
 clear hr
 by_cases h0 : 1 ≤ c
 · have b0 : decide (1 ≤ c) = true := decide_eq_true h0
   by_cases h1 : c ≤ 1000000000000
   · have b1 : decide (c ≤ 1000000000000) = true := decide_eq_true h1
     by_cases h2 : 1 ≤ n
     · have b2 : decide (1 ≤ n) = true := decide_eq_true h2
       by_cases h3 : n ≤ 1000000000000
       · have b3 : decide (n ≤ 1000000000000) = true := decide_eq_true h3
         have HO : Hid (r = true) := by rw [Hid, HR.out]; simp [h0, h1, h2, h3]
         clear HR
         go_enter Tryz.func64, Tryz.ntmps64
         go_wp2
         go_ret
         rw [HO.out]
         exact ⟨rfl, Below.refl _ _⟩
       · have b3 : decide (n ≤ 1000000000000) = false := decide_eq_false h3
         have HO : Hid (r = false) := by rw [Hid, HR.out]; simp [h3]
         clear HR
         go_enter Tryz.func64, Tryz.ntmps64
         go_wp2
         go_ret
         rw [HO.out]
         exact ⟨rfl, Below.refl _ _⟩
     · have b2 : decide (1 ≤ n) = false := decide_eq_false h2
       have HO : Hid (r = false) := by rw [Hid, HR.out]; simp [h2]
       clear HR
       go_enter Tryz.func64, Tryz.ntmps64
       go_wp2
       go_ret
       rw [HO.out]
       exact ⟨rfl, Below.refl _ _⟩
   · have b1 : decide (c ≤ 1000000000000) = false := decide_eq_false h1
     have HO : Hid (r = false) := by rw [Hid, HR.out]; simp [h1]
     clear HR
     go_enter Tryz.func64, Tryz.ntmps64
     go_wp2
     go_ret
     rw [HO.out]
     exact ⟨rfl, Below.refl _ _⟩
 · have b0 : decide (1 ≤ c) = false := decide_eq_false h0
   have HO : Hid (r = false) := by rw [Hid, HR.out]; simp [h0]
   clear HR
   go_enter Tryz.func64, Tryz.ntmps64
   go_wp2
   go_ret
   rw [HO.out]
   exact ⟨rfl, Below.refl _ _⟩
set_option maxRecDepth 100000 in
theorem spec_in (n lo hi : Int) (w : World) :
 Calls Tryz.prog 25 #[.int .i64 n, .int .i64 lo, .int .i64 hi] w fun e w' => e = .returned (.bool (decide (lo ≤ n ∧ n ≤ hi))) ∧ Below w.heap.size w w' := by
 obtain ⟨r, hr⟩ : ∃ r, r = decide (lo ≤ n ∧ n ≤ hi) := ⟨_, rfl⟩
 have HR : Hid (r = decide (lo ≤ n ∧ n ≤ hi)) := hr
 rw [← hr]
 clear hr
 by_cases h0 : lo ≤ n
 · have b0 : decide (lo ≤ n) = true := decide_eq_true h0
   by_cases h1 : n ≤ hi
   · have b1 : decide (n ≤ hi) = true := decide_eq_true h1
     have HO : Hid (r = true) := by rw [Hid, HR.out]; simp [h0, h1]
     clear HR
     go_enter Tryz.func25, Tryz.ntmps25
     go_wp2
     go_ret
     rw [HO.out]
     exact ⟨rfl, Below.refl _ _⟩
   · have b1 : decide (n ≤ hi) = false := decide_eq_false h1
     have HO : Hid (r = false) := by rw [Hid, HR.out]; simp [h1]
     clear HR
     go_enter Tryz.func25, Tryz.ntmps25
     go_wp2
     go_ret
     rw [HO.out]
     exact ⟨rfl, Below.refl _ _⟩
 · have b0 : decide (lo ≤ n) = false := decide_eq_false h0
   have HO : Hid (r = false) := by rw [Hid, HR.out]; simp [h0]
   clear HR
   go_enter Tryz.func25, Tryz.ntmps25
   go_wp2
   go_ret
   rw [HO.out]
   exact ⟨rfl, Below.refl _ _⟩
def seAt (ss : List SessL) (j : Nat) : SessL := ss.getD j (0, 0)
def seOk (ss : List SessL) (j : Nat) : Bool := (numOk (seAt ss j).1 && numOk (seAt ss j).2) && (decide (j = 0) || decide ((seAt ss (j - 1)).1 < (seAt ss j).1))
def sessOk (ss : List SessL) : Bool := decide (ss.length ≤ 6) && (List.range ss.length).all (seOk ss)
theorem sess_big (ss : List SessL) (h : ¬ ss.length ≤ 6) : sessOk ss = false := by simp [sessOk, h]
theorem sess_bad (ss : List SessL) (j : Nat) (h : j < ss.length) (hb : seOk ss j = false) : sessOk ss = false := by
 have : (List.range ss.length).all (seOk ss) = false := by
  rw [List.all_eq_false]
  exact ⟨j, List.mem_range.2 h, by simp [hb]⟩
 simp [sessOk, this]
theorem sess_all (ss : List SessL) (h6 : ss.length ≤ 6) (h : ∀ j, j < ss.length → seOk ss j = true) : sessOk ss = true := by
 simp only [sessOk, Bool.and_eq_true, decide_eq_true_eq, List.all_eq_true, List.mem_range]
 exact ⟨h6, h⟩
theorem seAt_lt (ss : List SessL) (j : Nat) (h : j < ss.length) : seAt ss j = ss[j] := by simp [seAt, h]
theorem seOk_num (ss : List SessL) (j : Nat) (h : (numOk (seAt ss j).1 && numOk (seAt ss j).2) = false) : seOk ss j = false := by unfold seOk; rw [h]; rfl
theorem seOk_zero (ss : List SessL) (h : (numOk (seAt ss 0).1 && numOk (seAt ss 0).2) = true) : seOk ss 0 = true := by unfold seOk; rw [h]; rfl
theorem seOk_succ (ss : List SessL) (j : Nat) (h : (numOk (seAt ss (j + 1)).1 && numOk (seAt ss (j + 1)).2) = true) : seOk ss (j + 1) = decide ((seAt ss j).1 < (seAt ss (j + 1)).1) := by unfold seOk; rw [h]; simp
theorem below_dr2 {B : Nat} {w w' : World} {q : Nat} (h : Below B w w') : Below B w (w'.drewN q) := ⟨h.os, h.tape, h.output, h.size, h.block⟩
set_option maxRecDepth 100000 in
set_option maxHeartbeats 1000000 in
theorem impl_areSessions (a : Option Addr) (cap : Nat) (ss : List SessL) (w : World) (hl : ss.length ≤ 1048576) (hs : IsSess w a ss) :
 Calls Tryz.prog 34 #[.slice a ss.length cap] w fun e w' => e = .returned (.bool (sessOk ss)) ∧ Below w.heap.size w w' := by
 by_cases h6 : ss.length ≤ 6
 · have h6' : (ss.length : Int) ≤ 6 := by omega
   rcases hs with rfl | ⟨b, off, rfl, hc⟩
   · go_enter Tryz.func34, Tryz.ntmps34
     go_wp2
     refine wp_loop_rounds 1 ?_
     rw [rounds_succ]
     go_wp2
     go_ret
     exact ⟨rfl, Below.refl _ _⟩
   · have hc' : ∀ j, j < ss.length → w.cell? ⟨b, off + j * 2, none⟩ = some (.int .i64 (seAt ss j).1) ∧ w.cell? ⟨b, off + j * 2 + 1, none⟩ = some (.int .i64 (seAt ss j).2) := fun j h => by rw [seAt_lt ss j h]; exact hc j h
     obtain ⟨r, hr⟩ : ∃ r, r = sessOk ss := ⟨_, rfl⟩
     have HBAD : Hid (∀ j, j < ss.length → seOk ss j = false → r = false) := fun j h hb => by rw [hr]; exact sess_bad ss j h hb
     have HALL : Hid ((∀ j, j < ss.length → seOk ss j = true) → r = true) := fun h => by rw [hr]; exact sess_all ss h6 h
     rw [← hr]
     clear hc hr
     go_enter Tryz.func34, Tryz.ntmps34
     go_wp2
     go_loopw [3, 4, 10] (fun _ _ i wr => ∃ j : Nat, j ≤ ss.length ∧ i = .int .i64 (j : Int) ∧ Hid (∀ k, k < j → seOk ss k = true) ∧ Below w.heap.size w wr) (fun _ _ i _ => ss.length - (intOf i).toNat)
     case atStart => exact ⟨0, Nat.zero_le _, rfl, fun k hk => by omega, Below.refl _ _⟩
     case round =>
      obtain ⟨j, hj, rfl, HA, hbel⟩ := hrel
      have hsz := hbel.size
      by_cases hlt : j < ss.length
      · obtain ⟨c1', c2'⟩ := hc' j hlt
        have c1 := (hbel.cell (p := ⟨b, off + j * 2, none⟩) (World.block_lt_of_cell? w _ c1')).trans c1'
        have c2 := (hbel.cell (p := ⟨b, off + j * 2 + 1, none⟩) (World.block_lt_of_cell? w _ c2')).trans c2'
        clear c1' c2'
        have hj0 : (0 : Int) ≤ (j : Int) := by omega
        have hj1 : (j : Int) < (ss.length : Int) := by omega
        have HB : Hid (seOk ss j = false → r = false) := HBAD.out j hlt
        have HN : Hid (seOk ss j = true → ∀ k, k < j + 1 → seOk ss k = true) := fun h k hk => by
         by_cases e : k = j
         · rw [e]; exact h
         · exact HA.out k (by omega)
        have HNUM : Hid ((numOk (seAt ss j).1 && numOk (seAt ss j).2) = false → seOk ss j = false) := seOk_num ss j
        have hbl := World.block_lt_of_cell? wr _ c1
        cases j with
        | zero =>
          have hz0 : ¬ (0 : Int) < ((0 : Nat) : Int) := by omega
          have hzb : decide ((0 : Int) < ((0 : Nat) : Int)) = false := decide_eq_false (by omega)
          simp only [Nat.zero_mul, Nat.add_zero] at c1 c2
          have HSZ : Hid ((numOk (seAt ss 0).1 && numOk (seAt ss 0).2) = true → seOk ss 0 = true) := seOk_zero ss
          obtain ⟨x, hx⟩ : ∃ x, x = (seAt ss 0).1 := ⟨_, rfl⟩
          obtain ⟨y, hy⟩ : ∃ y, y = (seAt ss 0).2 := ⟨_, rfl⟩
          rw [← hx, ← hy] at HSZ HNUM
          rw [← hx] at c1
          rw [← hy] at c2
          clear hc' hx hy HBAD HALL HA
          have K := fun W => impl_numbered x y W
          obtain ⟨nb, hnb⟩ : ∃ nb, nb = (numOk x && numOk y) := ⟨_, rfl⟩
          rw [← hnb] at K HSZ HNUM
          clear hnb
          have AB : Below wr.heap.size wr (wr.alloc (.cells #[.int .i64 x, .int .i64 y] 67)) := (Below.refl _ _).alloc (Nat.le_refl _) _
          have AN := heap_alloc_new wr (.cells #[.int .i64 x, .int .i64 y] 67)
          go_wp2_with fail
          refine (K _).mono ?_
          rintro e w1 ⟨rfl, b1⟩
          have AW := AB.trans (b1.mono AB.size)
          have B1 := hbel.trans (AW.mono hsz)
          have an := (b1.block wr.heap.size (by simp)).trans AN
          have z0 : w1.cell? ⟨wr.heap.size, 0, none⟩ = some (.int .i64 x) := by simp only [World.cell?, an]; rfl
          clear K b1 AN an AB
          cases nb with
          | false =>
            have HR : Hid (r = false) := HB.out (HNUM.out rfl)
            go_wp2
            go_ret
            obtain rfl := HR.out
            exact ⟨rfl, by first | exact B1 | exact below_dr2 B1⟩
          | true =>
            have HT : Hid (seOk ss 0 = true) := HSZ.out rfl
            go_wp2
            go_quiet (fail)
            go_wp2
            go_roundw
            case rel => exact ⟨0 + 1, by omega, by first | rfl | go_num, HN.out HT.out, by first | exact B1 | exact below_dr2 B1⟩
            case measure => simp [intOf]; omega
        | succ j' =>
          obtain ⟨d1', _⟩ := hc' j' (by omega)
          have d1 := (hbel.cell (p := ⟨b, off + j' * 2, none⟩) (World.block_lt_of_cell? w _ d1')).trans d1'
          clear d1'
          have HSU : Hid ((numOk (seAt ss (j' + 1)).1 && numOk (seAt ss (j' + 1)).2) = true → seOk ss (j' + 1) = decide ((seAt ss j').1 < (seAt ss (j' + 1)).1)) := seOk_succ ss j'
          have hz' : (0 : Int) < ((j' + 1 : Nat) : Int) := by omega
          have hz'' : 0 < j' + 1 := by omega
          have hzb : decide ((0 : Int) < ((j' + 1 : Nat) : Int)) = true := decide_eq_true (by omega)
          have hzi : IntKind.i64.wrap (((j' + 1 : Nat) : Int) - 1) = (j' : Int) := by rw [i64_wrap_small _ (by omega) (by omega)]; omega
          have hzt : ((j' : Int)).toNat = j' := by omega
          have hzw : IntKind.i64.wrap (j' : Int) = (j' : Int) := i64_wrap_small _ (by omega) (by omega)
          have hi2 : ((j' + 1 : Nat) : Int) - 1 = (j' : Int) := by omega
          have hi0 : (0 : Int) ≤ (j' : Int) := by omega
          have hi3 : (j' : Int) < (ss.length : Int) := by omega
          obtain ⟨i1, hi1⟩ : ∃ i1, i1 = j' + 1 := ⟨_, rfl⟩
          obtain ⟨x, hx⟩ : ∃ x, x = (seAt ss (j' + 1)).1 := ⟨_, rfl⟩
          obtain ⟨y, hy⟩ : ∃ y, y = (seAt ss (j' + 1)).2 := ⟨_, rfl⟩
          obtain ⟨z, hz⟩ : ∃ z, z = (seAt ss j').1 := ⟨_, rfl⟩
          rw [← hx, ← hy, ← hz] at HSU
          rw [← hx, ← hy] at HNUM
          rw [← hx] at c1
          rw [← hy] at c2
          rw [← hz] at d1
          rw [← hi1] at c1 c2 hj0 hj1 hz' hz'' hzb hzi hi2 HB HN HSU HNUM hlt hj ⊢
          have hj2 : i1 ≤ 6 := by omega
          have HI1 : Hid (i1 = j' + 1) := hi1
          clear hc' hx hy hz HBAD HALL HA hi1
          have K := fun W => impl_numbered x y W
          obtain ⟨nb, hnb⟩ : ∃ nb, nb = (numOk x && numOk y) := ⟨_, rfl⟩
          rw [← hnb] at K HSU HNUM
          clear hnb
          have AB : Below wr.heap.size wr (wr.alloc (.cells #[.int .i64 x, .int .i64 y] 67)) := (Below.refl _ _).alloc (Nat.le_refl _) _
          have AN := heap_alloc_new wr (.cells #[.int .i64 x, .int .i64 y] 67)
          go_wp2_with fail
          refine (K _).mono ?_
          rintro e w1 ⟨rfl, b1⟩
          have AW := AB.trans (b1.mono AB.size)
          have B1 := hbel.trans (AW.mono hsz)
          have an := (b1.block wr.heap.size (by simp)).trans AN
          have z0 : w1.cell? ⟨wr.heap.size, 0, none⟩ = some (.int .i64 x) := by simp only [World.cell?, an]; rfl
          have d2 := (AW.cell (p := ⟨b, off + j' * 2, none⟩) hbl).trans d1
          clear K b1 AN an AB d1
          cases nb with
          | false =>
            have HR : Hid (r = false) := HB.out (HNUM.out rfl)
            go_wp2
            go_ret
            obtain rfl := HR.out
            exact ⟨rfl, by first | exact B1 | exact below_dr2 B1⟩
          | true =>
            by_cases hge : z < x
            · have hgb : decide (x ≤ z) = false := decide_eq_false (by omega)
              have hgn : ¬ x ≤ z := by omega
              have HT : Hid (seOk ss i1 = true) := by rw [Hid, HSU.out rfl]; simpa using hge
              go_wp2
              go_quiet (fail)
              go_wp2
              go_roundw
              case rel => exact ⟨i1 + 1, by omega, by first | rfl | go_num, HN.out HT.out, by first | exact B1 | exact below_dr2 B1⟩
              case measure => simp [intOf]; omega
            · have hgb : decide (x ≤ z) = true := decide_eq_true (by omega)
              have hgn : x ≤ z := by omega
              have HR : Hid (r = false) := HB.out (by rw [HSU.out rfl]; simpa using hge)
              go_wp2
              go_quiet (fail)
              go_wp2
              go_ret
              obtain rfl := HR.out
              exact ⟨rfl, by first | exact B1 | exact below_dr2 B1⟩
      · have hjl : j = ss.length := by omega
        subst hjl
        have HR : Hid (r = true) := HALL.out HA.out
        clear hc' HBAD HALL HA
        go_wp2
        go_ret
        obtain rfl := HR.out
        exact ⟨rfl, hbel⟩
 · have h6' : ¬ (ss.length : Int) ≤ 6 := by omega
   have HR : Hid (sessOk ss = false) := sess_big ss h6
   rw [HR.out]
   clear hs HR
   go_enter Tryz.func34, Tryz.ntmps34
   go_wp2
   go_ret
   exact ⟨rfl, Below.refl _ _⟩
abbrev se0 : Oper := { dst := some 13, op := Op.move (Operand.tmp 0), type := 29, pos := "l10_replicas.go:22", after := #[], guard := none }
abbrev se1 : Oper := { dst := some 14, op := Op.move (Operand.tmp 3), type := 3, pos := "l10_replicas.go:22", after := #[], guard := none }
abbrev se2 : Oper := { dst := some 15, op := Op.indexAddr 29 (Operand.tmp 13) (Operand.tmp 14), type := 0, pos := "l10_replicas.go:22", after := #[{ on := 0, ground := Ground.data }, { on := 1, ground := Ground.data }], guard := none }
abbrev se3 : Oper := { dst := some 16, op := Op.fieldAddr 67 (Operand.tmp 15) 0, type := 0, pos := "l10_replicas.go:22", after := #[{ on := 2, ground := Ground.data }], guard := none }
abbrev se4 : Oper := { dst := some 17, op := Op.load 2 (Operand.tmp 16), type := 2, pos := "l10_replicas.go:22", after := #[{ on := 3, ground := Ground.data }], guard := none }
abbrev se5 : Oper := { dst := some 18, op := Op.call { callee := Callee.value (Operand.func 25), args := #[Operand.tmp 17, Operand.const (Value.int IntKind.i64 1), Operand.const (Value.int IntKind.i64 1000000000000)], argTypes := #[2, 2, 2] }, type := 4, pos := "l10_replicas.go:22", after := #[{ on := 4, ground := Ground.data }], guard := none }
abbrev se6 : Oper := { dst := some 19, op := Op.unOp UnOp.not 4 (Operand.tmp 18), type := 4, pos := "l10_replicas.go:22", after := #[{ on := 5, ground := Ground.data }], guard := none }
abbrev se7 : Oper := { dst := some 20, op := Op.move (Operand.tmp 19), type := 4, pos := "l10_replicas.go:22", after := #[{ on := 6, ground := Ground.data }, { on := 5, ground := Ground.chain }], guard := none }
abbrev se8 : Oper := { dst := some 21, op := Op.move (Operand.tmp 0), type := 29, pos := "l10_replicas.go:22", after := #[{ on := 7, ground := Ground.guard }], guard := some (7, false) }
abbrev se9 : Oper := { dst := some 22, op := Op.move (Operand.tmp 3), type := 3, pos := "l10_replicas.go:22", after := #[{ on := 7, ground := Ground.guard }], guard := some (7, false) }
abbrev se10 : Oper := { dst := some 23, op := Op.indexAddr 29 (Operand.tmp 21) (Operand.tmp 22), type := 0, pos := "l10_replicas.go:22", after := #[{ on := 8, ground := Ground.data }, { on := 9, ground := Ground.data }, { on := 7, ground := Ground.guard }], guard := some (7, false) }
abbrev se11 : Oper := { dst := some 24, op := Op.fieldAddr 67 (Operand.tmp 23) 1, type := 0, pos := "l10_replicas.go:22", after := #[{ on := 10, ground := Ground.data }, { on := 7, ground := Ground.guard }], guard := some (7, false) }
abbrev se12 : Oper := { dst := some 25, op := Op.load 2 (Operand.tmp 24), type := 2, pos := "l10_replicas.go:22", after := #[{ on := 11, ground := Ground.data }, { on := 7, ground := Ground.guard }], guard := some (7, false) }
abbrev se13 : Oper := { dst := some 26, op := Op.call { callee := Callee.value (Operand.func 25), args := #[Operand.tmp 25, Operand.const (Value.int IntKind.i64 1), Operand.const (Value.int IntKind.i64 1000000000000)], argTypes := #[2, 2, 2] }, type := 4, pos := "l10_replicas.go:22", after := #[{ on := 12, ground := Ground.data }, { on := 7, ground := Ground.chain }, { on := 7, ground := Ground.guard }], guard := some (7, false) }
abbrev se14 : Oper := { dst := some 27, op := Op.unOp UnOp.not 4 (Operand.tmp 26), type := 4, pos := "l10_replicas.go:22", after := #[{ on := 13, ground := Ground.data }, { on := 7, ground := Ground.guard }], guard := some (7, false) }
abbrev se15 : Oper := { dst := some 28, op := Op.pick (Operand.tmp 20) (Operand.const (Value.bool true)) (Operand.tmp 27), type := 4, pos := "l10_replicas.go:22", after := #[{ on := 7, ground := Ground.data }, { on := 14, ground := Ground.data }], guard := none }
abbrev se16 : Oper := { dst := some 29, op := Op.move (Operand.tmp 28), type := 4, pos := "l10_replicas.go:22", after := #[{ on := 15, ground := Ground.data }, { on := 13, ground := Ground.chain }], guard := none }
abbrev se17 : Oper := { dst := some 30, op := Op.move (Operand.tmp 3), type := 3, pos := "l10_replicas.go:22", after := #[{ on := 16, ground := Ground.guard }], guard := some (16, false) }
abbrev se18 : Oper := { dst := some 31, op := Op.binOp BinOp.gtr 3 (Operand.tmp 30) (Operand.const (Value.int IntKind.i64 0)) 3, type := 4, pos := "l10_replicas.go:22", after := #[{ on := 17, ground := Ground.data }, { on := 16, ground := Ground.guard }], guard := some (16, false) }
abbrev se19 : Oper := { dst := some 32, op := Op.move (Operand.tmp 31), type := 4, pos := "l10_replicas.go:22", after := #[{ on := 18, ground := Ground.data }, { on := 16, ground := Ground.chain }, { on := 16, ground := Ground.guard }], guard := some (16, false) }
abbrev se20 : Oper := { dst := some 33, op := Op.move (Operand.tmp 0), type := 29, pos := "l10_replicas.go:22", after := #[{ on := 19, ground := Ground.guard }], guard := some (19, true) }
abbrev se21 : Oper := { dst := some 34, op := Op.move (Operand.tmp 3), type := 3, pos := "l10_replicas.go:22", after := #[{ on := 19, ground := Ground.guard }], guard := some (19, true) }
abbrev se22 : Oper := { dst := some 35, op := Op.binOp BinOp.sub 3 (Operand.tmp 34) (Operand.const (Value.int IntKind.i64 1)) 3, type := 3, pos := "l10_replicas.go:22", after := #[{ on := 21, ground := Ground.data }, { on := 19, ground := Ground.guard }], guard := some (19, true) }
abbrev se23 : Oper := { dst := some 36, op := Op.indexAddr 29 (Operand.tmp 33) (Operand.tmp 35), type := 0, pos := "l10_replicas.go:22", after := #[{ on := 20, ground := Ground.data }, { on := 22, ground := Ground.data }, { on := 19, ground := Ground.guard }], guard := some (19, true) }
abbrev se24 : Oper := { dst := some 37, op := Op.fieldAddr 67 (Operand.tmp 36) 0, type := 0, pos := "l10_replicas.go:22", after := #[{ on := 23, ground := Ground.data }, { on := 19, ground := Ground.guard }], guard := some (19, true) }
abbrev se25 : Oper := { dst := some 38, op := Op.load 2 (Operand.tmp 37), type := 2, pos := "l10_replicas.go:22", after := #[{ on := 24, ground := Ground.data }, { on := 19, ground := Ground.guard }], guard := some (19, true) }
abbrev se26 : Oper := { dst := some 39, op := Op.move (Operand.tmp 0), type := 29, pos := "l10_replicas.go:22", after := #[{ on := 19, ground := Ground.guard }], guard := some (19, true) }
abbrev se27 : Oper := { dst := some 40, op := Op.move (Operand.tmp 3), type := 3, pos := "l10_replicas.go:22", after := #[{ on := 19, ground := Ground.guard }], guard := some (19, true) }
abbrev se28 : Oper := { dst := some 41, op := Op.indexAddr 29 (Operand.tmp 39) (Operand.tmp 40), type := 0, pos := "l10_replicas.go:22", after := #[{ on := 26, ground := Ground.data }, { on := 27, ground := Ground.data }, { on := 19, ground := Ground.guard }], guard := some (19, true) }
abbrev se29 : Oper := { dst := some 42, op := Op.fieldAddr 67 (Operand.tmp 41) 0, type := 0, pos := "l10_replicas.go:22", after := #[{ on := 28, ground := Ground.data }, { on := 19, ground := Ground.guard }], guard := some (19, true) }
abbrev se30 : Oper := { dst := some 43, op := Op.load 2 (Operand.tmp 42), type := 2, pos := "l10_replicas.go:22", after := #[{ on := 29, ground := Ground.data }, { on := 19, ground := Ground.guard }], guard := some (19, true) }
abbrev se31 : Oper := { dst := some 44, op := Op.binOp BinOp.geq 2 (Operand.tmp 38) (Operand.tmp 43) 2, type := 4, pos := "l10_replicas.go:22", after := #[{ on := 25, ground := Ground.data }, { on := 30, ground := Ground.data }, { on := 19, ground := Ground.guard }], guard := some (19, true) }
abbrev se32 : Oper := { dst := some 45, op := Op.pick (Operand.tmp 32) (Operand.tmp 44) (Operand.const (Value.bool false)), type := 4, pos := "l10_replicas.go:22", after := #[{ on := 19, ground := Ground.data }, { on := 31, ground := Ground.data }, { on := 16, ground := Ground.guard }], guard := some (16, false) }
abbrev se33 : Oper := { dst := some 46, op := Op.pick (Operand.tmp 29) (Operand.const (Value.bool true)) (Operand.tmp 45), type := 4, pos := "l10_replicas.go:22", after := #[{ on := 16, ground := Ground.data }, { on := 32, ground := Ground.data }], guard := none }
set_option maxRecDepth 100000 in
set_option maxHeartbeats 1000000 in
theorem spec_l10Sessions (a : Option Addr) (cap : Nat) (ss : List SessL) (w : World) (hl : ss.length ≤ 1048576) (hs : IsSess w a ss) :
 Calls Tryz.prog 26 #[.slice a ss.length cap] w fun e w' => e = .returned (.bool (sessOk ss)) ∧ Below w.heap.size w w' := by
 by_cases h6 : ss.length ≤ 6
 · have h6' : (ss.length : Int) ≤ 6 := by omega
   rcases hs with rfl | ⟨b, off, rfl, hc⟩
   · go_enter Tryz.func26, Tryz.ntmps26
     go_wp2
     refine wp_loop_rounds 1 ?_
     rw [rounds_succ]
     go_wp2
     go_ret
     exact ⟨rfl, Below.refl _ _⟩
   · have hc' : ∀ j, j < ss.length → w.cell? ⟨b, off + j * 2, none⟩ = some (.int .i64 (seAt ss j).1) ∧ w.cell? ⟨b, off + j * 2 + 1, none⟩ = some (.int .i64 (seAt ss j).2) := fun j h => by rw [seAt_lt ss j h]; exact hc j h
     obtain ⟨r, hr⟩ : ∃ r, r = sessOk ss := ⟨_, rfl⟩
     have HBAD : Hid (∀ j, j < ss.length → seOk ss j = false → r = false) := fun j h hb => by rw [hr]; exact sess_bad ss j h hb
     have HALL : Hid ((∀ j, j < ss.length → seOk ss j = true) → r = true) := fun h => by rw [hr]; exact sess_all ss h6 h
     rw [← hr]
     clear hc hr
     go_enter Tryz.func26, Tryz.ntmps26
     go_wp2
     go_loopw [3] (fun i wr => ∃ j : Nat, j ≤ ss.length ∧ i = .int .i64 (j : Int) ∧ Hid (∀ k, k < j → seOk ss k = true) ∧ Below w.heap.size w wr) (fun i _ => ss.length - (intOf i).toNat)
     case atStart => exact ⟨0, Nat.zero_le _, rfl, fun k hk => by omega, Below.refl _ _⟩
     case round =>
      obtain ⟨j, hj, rfl, HA, hbel⟩ := hrel
      have hsz := hbel.size
      by_cases hlt : j < ss.length
      · obtain ⟨c1', c2'⟩ := hc' j hlt
        have c1 := (hbel.cell (p := ⟨b, off + j * 2, none⟩) (World.block_lt_of_cell? w _ c1')).trans c1'
        have c2 := (hbel.cell (p := ⟨b, off + j * 2 + 1, none⟩) (World.block_lt_of_cell? w _ c2')).trans c2'
        clear c1' c2'
        have hj0 : (0 : Int) ≤ (j : Int) := by omega
        have hj1 : (j : Int) < (ss.length : Int) := by omega
        have HB : Hid (seOk ss j = false → r = false) := HBAD.out j hlt
        have HN : Hid (seOk ss j = true → ∀ k, k < j + 1 → seOk ss k = true) := fun h k hk => by
         by_cases e : k = j
         · rw [e]; exact h
         · exact HA.out k (by omega)
        have HNUM : Hid ((numOk (seAt ss j).1 && numOk (seAt ss j).2) = false → seOk ss j = false) := seOk_num ss j
        have hbl := World.block_lt_of_cell? wr _ c1
        obtain ⟨i0, hi0⟩ : ∃ i0, i0 = j - 1 := ⟨_, rfl⟩
        obtain ⟨d1', _⟩ := hc' i0 (by omega)
        have d1 := (hbel.cell (p := ⟨b, off + i0 * 2, none⟩) (World.block_lt_of_cell? w _ d1')).trans d1'
        have HSU : Hid ((numOk (seAt ss j).1 && numOk (seAt ss j).2) = true → seOk ss j = (decide (j = 0) || decide ((seAt ss i0).1 < (seAt ss j).1))) := fun h => by unfold seOk; rw [h, hi0]; simp
        obtain ⟨x, hx⟩ : ∃ x, x = (seAt ss j).1 := ⟨_, rfl⟩
        obtain ⟨y, hy⟩ : ∃ y, y = (seAt ss j).2 := ⟨_, rfl⟩
        obtain ⟨z, hz⟩ : ∃ z, z = (seAt ss i0).1 := ⟨_, rfl⟩
        rw [← hx, ← hy, ← hz] at HSU
        rw [← hx, ← hy] at HNUM
        rw [← hx] at c1
        rw [← hy] at c2
        rw [← hz] at d1
        have KS : Hid (∀ W, Below wr.heap.size wr W → W.cell? ⟨b, off + j * 2, none⟩ = some (.int .i64 x) ∧ W.cell? ⟨b, off + j * 2 + 1, none⟩ = some (.int .i64 y) ∧ W.cell? ⟨b, off + i0 * 2, none⟩ = some (.int .i64 z)) := fun W hW => ⟨(hW.cell (p := ⟨b, off + j * 2, none⟩) hbl).trans c1, (hW.cell (p := ⟨b, off + j * 2 + 1, none⟩) hbl).trans c2, (hW.cell (p := ⟨b, off + i0 * 2, none⟩) hbl).trans d1⟩
        have BD : Below wr.heap.size wr wr.drew := ⟨rfl, rfl, rfl, Nat.le_refl _, fun _ _ => rfl⟩
        have HBB : Hid (∀ W, Below wr.heap.size wr W → Below w.heap.size w W) := fun W hW => hbel.trans (hW.mono hsz)
        have K1 := fun W => spec_in x 1 1000000000000 W
        have K2 := fun W => spec_in y 1 1000000000000 W
        have HX : Hid (numOk x = decide (1 ≤ x ∧ x ≤ 1000000000000) ∧ numOk y = decide (1 ≤ y ∧ y ≤ 1000000000000)) := ⟨rfl, rfl⟩
        obtain ⟨xo, hxo⟩ : ∃ xo, xo = decide (1 ≤ x ∧ x ≤ 1000000000000) := ⟨_, rfl⟩
        obtain ⟨yo, hyo⟩ : ∃ yo, yo = decide (1 ≤ y ∧ y ≤ 1000000000000) := ⟨_, rfl⟩
        rw [← hxo] at K1 HX
        rw [← hyo] at K2 HX
        rw [HX.out.1, HX.out.2] at HSU HNUM
        have HI0 : Hid (i0 = j - 1) := hi0
        clear hxo hyo HX hbel c1 c2 d1 d1' hx hy hz hi0 hc' HBAD HALL HA
        go_wp2_with fail
        refine wp_region_held_drew (S := (fun w' => w'.cell? ⟨b, off + j * 2, none⟩ = some (.int .i64 x) ∧ w'.cell? ⟨b, off + j * 2 + 1, none⟩ = some (.int .i64 y) ∧ w'.cell? ⟨b, off + i0 * 2, none⟩ = some (.int .i64 z))) (by kernel_rfl) (KS.out _ BD) (fun hHeld => ?_)
        refine yH 0 se0 ?v1 (.inl ⟨by rfl, ?y1⟩) hHeld ?r1
        case y1 => (intro w hSw; (try dsimp only at hSw); go_simp; (try with_reducible rfl))
        refine yH 1 se1 ?v2 (.inl ⟨by rfl, ?y2⟩) hHeld ?r2
        case y2 => (intro w hSw; (try dsimp only at hSw); go_simp; (try with_reducible rfl))
        refine yH 2 se2 ?v3 (.inl ⟨by rfl, ?y3⟩) hHeld ?r3
        case y3 => (intro w hSw; (try dsimp only at hSw); go_simp; (try with_reducible rfl))
        try simp only [Act.put, lA, lB, lC]
        refine yH 3 se3 ?v4 (.inl ⟨by rfl, ?y4⟩) hHeld ?r4
        case y4 => (intro w hSw; (try dsimp only at hSw); go_simp; (try with_reducible rfl))
        refine yH 4 se4 ?v5 (.inl ⟨by rfl, ?y5⟩) hHeld ?r5
        case y5 => (intro w hSw; (try dsimp only at hSw); go_simp; (try with_reducible rfl))
        try simp only [Act.put, lA, lB, lC]
        refine wpAnyH_ready (rs := [5]) (by kernel_rfl) (by simp) ?_
        refine AllReadyH.cons (o := se5) rfl (fun K hK => ?_) AllReadyH.nil
        go_simp
        go_at_call 25
        with_reducible refine (K1 _).mono ?_
        rintro e wa ⟨rfl, bwa⟩
        have Bwa := BD.trans (bwa.mono BD.size)
        clear hHeld
        refine hK.out _ _ (KS.out wa Bwa) (fun hHeld => ?_)
        clear hK K
        try simp only [Act.put, lA, lB, lC]
        refine yH 6 se6 ?v6 (.inl ⟨by rfl, ?y6⟩) hHeld ?r6
        case y6 => (intro w hSw; (try dsimp only at hSw); go_simp; (try with_reducible rfl))
        refine yH 7 se7 ?v7 (.inl ⟨by rfl, ?y7⟩) hHeld ?r7
        case y7 => (intro w hSw; (try dsimp only at hSw); go_simp; (try with_reducible rfl))
        try simp only [Act.put, lA, lB, lC]
        cases xo with
        | false =>
          have HR : Hid (r = false) := HB.out (HNUM.out rfl)
          refine nH 8 se8 hHeld ?_
          refine nH 9 se9 hHeld ?_
          refine nH 10 se10 hHeld ?_
          try simp only [Act.put, lA, lB, lC]
          refine nH 11 se11 hHeld ?_
          refine nH 12 se12 hHeld ?_
          refine nH 13 se13 hHeld ?_
          try simp only [Act.put, lA, lB, lC]
          refine nH 14 se14 hHeld ?_
          refine yH 15 se15 ?v8 (.inl ⟨by rfl, ?y8⟩) hHeld ?r8
          case y8 => (intro w hSw; (try dsimp only at hSw); go_simp; (try with_reducible rfl))
          refine yH 16 se16 ?v9 (.inl ⟨by rfl, ?y9⟩) hHeld ?r9
          case y9 => (intro w hSw; (try dsimp only at hSw); go_simp; (try with_reducible rfl))
          try simp only [Act.put, lA, lB, lC]
          refine nH 17 se17 hHeld ?_
          refine nH 18 se18 hHeld ?_
          refine nH 19 se19 hHeld ?_
          try simp only [Act.put, lA, lB, lC]
          refine nH 20 se20 hHeld ?_
          refine nH 21 se21 hHeld ?_
          refine nH 22 se22 hHeld ?_
          try simp only [Act.put, lA, lB, lC]
          refine nH 23 se23 hHeld ?_
          refine nH 24 se24 hHeld ?_
          refine nH 25 se25 hHeld ?_
          try simp only [Act.put, lA, lB, lC]
          refine nH 26 se26 hHeld ?_
          refine nH 27 se27 hHeld ?_
          refine nH 28 se28 hHeld ?_
          try simp only [Act.put, lA, lB, lC]
          refine nH 29 se29 hHeld ?_
          refine nH 30 se30 hHeld ?_
          refine nH 31 se31 hHeld ?_
          try simp only [Act.put, lA, lB, lC]
          refine nH 32 se32 hHeld ?_
          refine yH 33 se33 ?v10 (.inl ⟨by rfl, ?y10⟩) hHeld ?r10
          case y10 => (intro w hSw; (try dsimp only at hSw); go_simp; (try with_reducible rfl))
          try simp only [Act.put, lA, lB, lC]
          refine wpAnyH_done (by kernel_rfl) ?_ _
          go_wp2
          go_ret
          obtain rfl := HR.out
          exact ⟨rfl, HBB.out _ Bwa⟩
        | true =>
          refine yH 8 se8 ?v11 (.inl ⟨by rfl, ?y11⟩) hHeld ?r11
          case y11 => (intro w hSw; (try dsimp only at hSw); go_simp; (try with_reducible rfl))
          refine yH 9 se9 ?v12 (.inl ⟨by rfl, ?y12⟩) hHeld ?r12
          case y12 => (intro w hSw; (try dsimp only at hSw); go_simp; (try with_reducible rfl))
          refine yH 10 se10 ?v13 (.inl ⟨by rfl, ?y13⟩) hHeld ?r13
          case y13 => (intro w hSw; (try dsimp only at hSw); go_simp; (try with_reducible rfl))
          try simp only [Act.put, lA, lB, lC]
          refine yH 11 se11 ?v14 (.inl ⟨by rfl, ?y14⟩) hHeld ?r14
          case y14 => (intro w hSw; (try dsimp only at hSw); go_simp; (try with_reducible rfl))
          refine yH 12 se12 ?v15 (.inl ⟨by rfl, ?y15⟩) hHeld ?r15
          case y15 => (intro w hSw; (try dsimp only at hSw); go_simp; (try with_reducible rfl))
          try simp only [Act.put, lA, lB, lC]
          refine wpAnyH_ready (rs := [13]) (by kernel_rfl) (by simp) ?_
          refine AllReadyH.cons (o := se13) rfl (fun K hK => ?_) AllReadyH.nil
          go_simp
          go_at_call 25
          with_reducible refine (K2 _).mono ?_
          rintro e wb ⟨rfl, bwb⟩
          have Bwb := Bwa.trans (bwb.mono Bwa.size)
          clear hHeld
          refine hK.out _ _ (KS.out wb Bwb) (fun hHeld => ?_)
          clear hK K
          try simp only [Act.put, lA, lB, lC]
          refine yH 14 se14 ?v16 (.inl ⟨by rfl, ?y16⟩) hHeld ?r16
          case y16 => (intro w hSw; (try dsimp only at hSw); go_simp; (try with_reducible rfl))
          refine yH 15 se15 ?v17 (.inl ⟨by rfl, ?y17⟩) hHeld ?r17
          case y17 => (intro w hSw; (try dsimp only at hSw); go_simp; (try with_reducible rfl))
          refine yH 16 se16 ?v18 (.inl ⟨by rfl, ?y18⟩) hHeld ?r18
          case y18 => (intro w hSw; (try dsimp only at hSw); go_simp; (try with_reducible rfl))
          try simp only [Act.put, lA, lB, lC]
          cases yo with
          | false =>
            have HR : Hid (r = false) := HB.out (HNUM.out rfl)
            refine nH 17 se17 hHeld ?_
            refine nH 18 se18 hHeld ?_
            refine nH 19 se19 hHeld ?_
            try simp only [Act.put, lA, lB, lC]
            refine nH 20 se20 hHeld ?_
            refine nH 21 se21 hHeld ?_
            refine nH 22 se22 hHeld ?_
            try simp only [Act.put, lA, lB, lC]
            refine nH 23 se23 hHeld ?_
            refine nH 24 se24 hHeld ?_
            refine nH 25 se25 hHeld ?_
            try simp only [Act.put, lA, lB, lC]
            refine nH 26 se26 hHeld ?_
            refine nH 27 se27 hHeld ?_
            refine nH 28 se28 hHeld ?_
            try simp only [Act.put, lA, lB, lC]
            refine nH 29 se29 hHeld ?_
            refine nH 30 se30 hHeld ?_
            refine nH 31 se31 hHeld ?_
            try simp only [Act.put, lA, lB, lC]
            refine nH 32 se32 hHeld ?_
            refine yH 33 se33 ?v19 (.inl ⟨by rfl, ?y19⟩) hHeld ?r19
            case y19 => (intro w hSw; (try dsimp only at hSw); go_simp; (try with_reducible rfl))
            try simp only [Act.put, lA, lB, lC]
            refine wpAnyH_done (by kernel_rfl) ?_ _
            go_wp2
            go_ret
            obtain rfl := HR.out
            exact ⟨rfl, HBB.out _ Bwb⟩
          | true =>
            by_cases hz : j = 0
            · have hz0 : ¬ (0 : Int) < (j : Int) := by omega
              have hz1 : ¬ 0 < j := by omega
              have hzb : decide ((0 : Int) < (j : Int)) = false := decide_eq_false hz0
              have HT : Hid (seOk ss j = true) := by rw [Hid, HSU.out rfl, decide_eq_true hz]; rfl
              clear hz
              refine yH 17 se17 ?v20 (.inl ⟨by rfl, ?y20⟩) hHeld ?r20
              case y20 => (intro w hSw; (try dsimp only at hSw); go_simp; (try with_reducible rfl))
              refine yH 18 se18 ?v21 (.inl ⟨by rfl, ?y21⟩) hHeld ?r21
              case y21 => (intro w hSw; (try dsimp only at hSw); go_simp; (try with_reducible rfl))
              refine yH 19 se19 ?v22 (.inl ⟨by rfl, ?y22⟩) hHeld ?r22
              case y22 => (intro w hSw; (try dsimp only at hSw); go_simp; (try with_reducible rfl))
              try simp only [Act.put, lA, lB, lC]
              refine nH 20 se20 hHeld ?_
              refine nH 21 se21 hHeld ?_
              refine nH 22 se22 hHeld ?_
              try simp only [Act.put, lA, lB, lC]
              refine nH 23 se23 hHeld ?_
              refine nH 24 se24 hHeld ?_
              refine nH 25 se25 hHeld ?_
              try simp only [Act.put, lA, lB, lC]
              refine nH 26 se26 hHeld ?_
              refine nH 27 se27 hHeld ?_
              refine nH 28 se28 hHeld ?_
              try simp only [Act.put, lA, lB, lC]
              refine nH 29 se29 hHeld ?_
              refine nH 30 se30 hHeld ?_
              refine nH 31 se31 hHeld ?_
              try simp only [Act.put, lA, lB, lC]
              refine yH 32 se32 ?v23 (.inl ⟨by rfl, ?y23⟩) hHeld ?r23
              case y23 => (intro w hSw; (try dsimp only at hSw); go_simp; (try with_reducible rfl))
              refine yH 33 se33 ?v24 (.inl ⟨by rfl, ?y24⟩) hHeld ?r24
              case y24 => (intro w hSw; (try dsimp only at hSw); go_simp; (try with_reducible rfl))
              try simp only [Act.put, lA, lB, lC]
              refine wpAnyH_done (by kernel_rfl) ?_ _
              go_wp2
              go_roundw
              case rel => exact ⟨j + 1, by omega, by first | rfl | go_num, HN.out HT.out, HBB.out _ Bwb⟩
              case measure => simp [intOf]; omega
            · have hz' : (0 : Int) < (j : Int) := by omega
              have hz'' : 0 < j := by omega
              have hzb : decide ((0 : Int) < (j : Int)) = true := decide_eq_true hz'
              have hi2 : (j : Int) - 1 = (i0 : Int) := by have := HI0.out; omega
              have hzi : IntKind.i64.wrap ((j : Int) - 1) = (i0 : Int) := by rw [i64_wrap_small _ (by omega) (by omega)]; exact hi2
              have hzt : ((i0 : Int)).toNat = i0 := by omega
              have hzw : IntKind.i64.wrap (i0 : Int) = (i0 : Int) := i64_wrap_small _ (by omega) (by omega)
              have hi0 : (0 : Int) ≤ (i0 : Int) := by omega
              have hi3 : (i0 : Int) < (ss.length : Int) := by omega
              refine yH 17 se17 ?v25 (.inl ⟨by rfl, ?y25⟩) hHeld ?r25
              case y25 => (intro w hSw; (try dsimp only at hSw); go_simp; (try with_reducible rfl))
              refine yH 18 se18 ?v26 (.inl ⟨by rfl, ?y26⟩) hHeld ?r26
              case y26 => (intro w hSw; (try dsimp only at hSw); go_simp; (try with_reducible rfl))
              refine yH 19 se19 ?v27 (.inl ⟨by rfl, ?y27⟩) hHeld ?r27
              case y27 => (intro w hSw; (try dsimp only at hSw); go_simp; (try with_reducible rfl))
              try simp only [Act.put, lA, lB, lC]
              refine yH 20 se20 ?v28 (.inl ⟨by rfl, ?y28⟩) hHeld ?r28
              case y28 => (intro w hSw; (try dsimp only at hSw); go_simp; (try with_reducible rfl))
              refine yH 21 se21 ?v29 (.inl ⟨by rfl, ?y29⟩) hHeld ?r29
              case y29 => (intro w hSw; (try dsimp only at hSw); go_simp; (try with_reducible rfl))
              refine yH 22 se22 ?v30 (.inl ⟨by rfl, ?y30⟩) hHeld ?r30
              case y30 => (intro w hSw; (try dsimp only at hSw); go_simp; (try with_reducible rfl))
              try simp only [Act.put, lA, lB, lC]
              refine yH 23 se23 ?v31 (.inl ⟨by rfl, ?y31⟩) hHeld ?r31
              case y31 => (intro w hSw; (try dsimp only at hSw); go_simp; (try with_reducible rfl))
              refine yH 24 se24 ?v32 (.inl ⟨by rfl, ?y32⟩) hHeld ?r32
              case y32 => (intro w hSw; (try dsimp only at hSw); go_simp; (try with_reducible rfl))
              refine yH 25 se25 ?v33 (.inl ⟨by rfl, ?y33⟩) hHeld ?r33
              case y33 => (intro w hSw; (try dsimp only at hSw); go_simp; (try with_reducible rfl))
              try simp only [Act.put, lA, lB, lC]
              refine yH 26 se26 ?v34 (.inl ⟨by rfl, ?y34⟩) hHeld ?r34
              case y34 => (intro w hSw; (try dsimp only at hSw); go_simp; (try with_reducible rfl))
              refine yH 27 se27 ?v35 (.inl ⟨by rfl, ?y35⟩) hHeld ?r35
              case y35 => (intro w hSw; (try dsimp only at hSw); go_simp; (try with_reducible rfl))
              refine yH 28 se28 ?v36 (.inl ⟨by rfl, ?y36⟩) hHeld ?r36
              case y36 => (intro w hSw; (try dsimp only at hSw); go_simp; (try with_reducible rfl))
              try simp only [Act.put, lA, lB, lC]
              refine yH 29 se29 ?v37 (.inl ⟨by rfl, ?y37⟩) hHeld ?r37
              case y37 => (intro w hSw; (try dsimp only at hSw); go_simp; (try with_reducible rfl))
              refine yH 30 se30 ?v38 (.inl ⟨by rfl, ?y38⟩) hHeld ?r38
              case y38 => (intro w hSw; (try dsimp only at hSw); go_simp; (try with_reducible rfl))
              try simp only [Act.put, lA, lB, lC]
              by_cases hge : z < x
              · have hgb : decide (x ≤ z) = false := decide_eq_false (by omega)
                have hgn : ¬ x ≤ z := by omega
                have HT : Hid (seOk ss j = true) := by rw [Hid, HSU.out rfl, decide_eq_true hge]; simp
                refine yH 31 se31 ?v39 (.inl ⟨by rfl, ?y39⟩) hHeld ?r39
                case y39 => (intro w hSw; (try dsimp only at hSw); go_simp; (try with_reducible rfl))
                refine yH 32 se32 ?v40 (.inl ⟨by rfl, ?y40⟩) hHeld ?r40
                case y40 => (intro w hSw; (try dsimp only at hSw); go_simp; (try with_reducible rfl))
                refine yH 33 se33 ?v41 (.inl ⟨by rfl, ?y41⟩) hHeld ?r41
                case y41 => (intro w hSw; (try dsimp only at hSw); go_simp; (try with_reducible rfl))
                try simp only [Act.put, lA, lB, lC]
                refine wpAnyH_done (by kernel_rfl) ?_ _
                go_wp2
                go_roundw
                case rel => exact ⟨j + 1, by omega, by first | rfl | go_num, HN.out HT.out, HBB.out _ Bwb⟩
                case measure => simp [intOf]; omega
              · have hgb : decide (x ≤ z) = true := decide_eq_true (by omega)
                have hgn : x ≤ z := by omega
                have HR : Hid (r = false) := HB.out (by rw [HSU.out rfl, decide_eq_false hge, decide_eq_false hz]; rfl)
                refine yH 31 se31 ?v42 (.inl ⟨by rfl, ?y42⟩) hHeld ?r42
                case y42 => (intro w hSw; (try dsimp only at hSw); go_simp; (try with_reducible rfl))
                refine yH 32 se32 ?v43 (.inl ⟨by rfl, ?y43⟩) hHeld ?r43
                case y43 => (intro w hSw; (try dsimp only at hSw); go_simp; (try with_reducible rfl))
                refine yH 33 se33 ?v44 (.inl ⟨by rfl, ?y44⟩) hHeld ?r44
                case y44 => (intro w hSw; (try dsimp only at hSw); go_simp; (try with_reducible rfl))
                try simp only [Act.put, lA, lB, lC]
                refine wpAnyH_done (by kernel_rfl) ?_ _
                go_wp2
                go_ret
                obtain rfl := HR.out
                exact ⟨rfl, HBB.out _ Bwb⟩
      · have hjl : j = ss.length := by omega
        subst hjl
        have HR : Hid (r = true) := HALL.out HA.out
        clear hc' HBAD HALL HA
        go_wp2
        go_ret
        obtain rfl := HR.out
        exact ⟨rfl, hbel⟩
 · have h6' : ¬ (ss.length : Int) ≤ 6 := by omega
   have HR : Hid (sessOk ss = false) := sess_big ss h6
   rw [HR.out]
   clear hs HR
   go_enter Tryz.func26, Tryz.ntmps26
   go_wp2
   go_ret
   exact ⟨rfl, Below.refl _ _⟩
set_option maxRecDepth 100000 in
set_option maxHeartbeats 1000000 in
theorem slices_equalSt (ps qs : List PairL) (a c : Option Addr) (n m : Nat) (w : World) (hl : ps.length ≤ 16777216) (hl2 : qs.length ≤ 16777216) (hu : IsPairs w a ps) (hv : IsPairs w c qs) :
 Calls Tryz.prog 37 #[.slice a ps.length n, .slice c qs.length m] w fun e w' => e = .returned (.bool (decide (ps = qs))) ∧ Below w.heap.size w w' := by
 by_cases hlen : ps.length = qs.length
 · have h0 : (ps.length : Int) = (qs.length : Int) := by omega
   rw [← hlen]
   rcases hu with rfl | ⟨b, off, rfl, h1⟩
   · have hq : qs = [] := List.length_eq_zero_iff.1 hlen.symm
     subst hq
     go_enter Tryz.func37, Tryz.ntmps37
     go_wp2
     refine wp_loop_rounds 1 ?_
     rw [rounds_succ]
     go_wp2
     go_ret
     exact ⟨rfl, Below.refl _ _⟩
   · rcases hv with rfl | ⟨d, of2, rfl, h2⟩
     · have hq : ps = [] := List.length_eq_zero_iff.1 hlen
       subst hq
       go_enter Tryz.func37, Tryz.ntmps37
       go_wp2
       refine wp_loop_rounds 1 ?_
       rw [rounds_succ]
       go_wp2
       go_ret
       exact ⟨rfl, Below.refl _ _⟩
     · obtain ⟨res, hres⟩ : ∃ res, res = decide (ps = qs) := ⟨_, rfl⟩
       have HNO : Hid (∀ j (h : j < ps.length) (h' : j < qs.length), ps[j] ≠ qs[j] → res = false) := fun j h h' hne => by
        rw [hres, decide_eq_false_iff_not]
        intro e
        subst e
        exact hne rfl
       have HYES : Hid ((∀ j (h : j < ps.length) (h' : j < qs.length), ps[j] = qs[j]) → res = true) := fun h => by
        rw [hres, decide_eq_true_eq]
        exact List.ext_getElem hlen (fun j h1 h2 => h j h1 h2)
       rw [← hres]
       have HLEN : Hid (ps.length = qs.length) := hlen
       clear hres hlen
       go_enter Tryz.func37, Tryz.ntmps37
       go_wp2
       go_loopw [5, 13] (fun _ i wr => ∃ j : Nat, j ≤ ps.length ∧ i = .int .i64 (j : Int) ∧ Hid (∀ k (h : k < ps.length) (h' : k < qs.length), k < j → ps[k] = qs[k]) ∧ Below w.heap.size w wr) (fun _ i _ => ps.length - (intOf i).toNat)
       case atStart => exact ⟨0, Nat.zero_le _, rfl, fun k _ _ hk => by omega, Below.refl _ _⟩
       case round =>
        obtain ⟨j, hj, rfl, HA, hbel⟩ := hrel
        have hsz := hbel.size
        by_cases hlt : j < ps.length
        · have hlt2 : j < qs.length := by have := HLEN.out; omega
          have c1 := (hbel.cell (p := ⟨b, off + j * 2, none⟩) (World.block_lt_of_cell? w _ (h1 j hlt).1)).trans (h1 j hlt).1
          have c2 := (hbel.cell (p := ⟨b, off + j * 2 + 1, none⟩) (World.block_lt_of_cell? w _ (h1 j hlt).2)).trans (h1 j hlt).2
          have d1 := (hbel.cell (p := ⟨d, of2 + j * 2, none⟩) (World.block_lt_of_cell? w _ (h2 j hlt2).1)).trans (h2 j hlt2).1
          have d2 := (hbel.cell (p := ⟨d, of2 + j * 2 + 1, none⟩) (World.block_lt_of_cell? w _ (h2 j hlt2).2)).trans (h2 j hlt2).2
          have hj0 : (0 : Int) ≤ (j : Int) := by omega
          have hj1 : (j : Int) < (ps.length : Int) := by omega
          have HB : Hid (ps[j] ≠ qs[j] → res = false) := HNO.out j hlt hlt2
          have HN : Hid (ps[j] = qs[j] → ∀ k (h : k < ps.length) (h' : k < qs.length), k < j + 1 → ps[k] = qs[k]) := fun e k h h' hk => by
           by_cases ek : k = j
           · subst ek; exact e
           · exact HA.out k h h' (by omega)
          obtain ⟨⟨u1, u2⟩, hu⟩ : ∃ u, u = ps[j] := ⟨_, rfl⟩
          obtain ⟨⟨v1, v2⟩, hv⟩ : ∃ v, v = qs[j] := ⟨_, rfl⟩
          rw [← hu] at c1 c2 HB HN
          rw [← hv] at d1 d2 HB HN
          simp only at c1 c2 d1 d2
          have heq : ∀ W : World, (binOp .neq 57 (.agg #[.string ⟨u1.toArray⟩, .string ⟨u2.toArray⟩]) (.agg #[.string ⟨v1.toArray⟩, .string ⟨v2.toArray⟩])).run Tryz.prog W = .ok (.bool (!decide ((u1, u2) = (v1, v2)))) W := fun W => neq_st u1 u2 v1 v2 W
          clear h1 h2 hu hv HA HNO HYES
          by_cases huv : (u1, u2) = (v1, v2)
          · have hdc : decide ((u1, u2) = (v1, v2)) = true := by simpa using huv
            rw [hdc] at heq
            have HE : Hid ((u1, u2) = (v1, v2)) := huv
            clear hdc huv
            go_wp2
            go_quiet (fail)
            go_wp2
            go_roundw
            case rel => exact ⟨j + 1, by omega, by go_num, HN.out HE.out, by first | exact hbel | exact below_dr2 hbel⟩
            case measure => simp [intOf]; omega
          · have hdc : decide ((u1, u2) = (v1, v2)) = false := by simpa using huv
            rw [hdc] at heq
            have HR : Hid (res = false) := HB.out huv
            clear hdc huv
            go_wp2
            go_quiet (fail)
            go_wp2
            go_ret
            obtain rfl := HR.out
            exact ⟨rfl, by first | exact hbel | exact below_dr2 hbel⟩
        · have HR : Hid (res = true) := HYES.out (fun k h h' => HA.out k h h' (by omega))
          have hjn : j = ps.length := by omega
          subst hjn
          clear h1 h2 HNO HYES HA
          go_wp2
          go_ret
          obtain rfl := HR.out
          exact ⟨rfl, hbel⟩
 · have h0 : ¬ (ps.length : Int) = (qs.length : Int) := by omega
   have HR : Hid (decide (ps = qs) = false) := by rw [Hid, decide_eq_false_iff_not]; intro e; exact hlen (by rw [e])
   rw [HR.out]
   clear hu hv HR
   go_enter Tryz.func37, Tryz.ntmps37
   go_wp2
   go_ret
   exact ⟨rfl, Below.refl _ _⟩
end Go.Proofs.YthnddgdnialogaaGreatDoor
