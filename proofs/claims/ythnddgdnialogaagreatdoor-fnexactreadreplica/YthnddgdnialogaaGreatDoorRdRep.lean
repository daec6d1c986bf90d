/-
 Texts that are laid as one: MathRr, RdRepI, RdRepS.
-/
import Derived.Test.YthnddgdnialogaaGreatDoorNumR
import Derived.Test.YthnddgdnialogaaGreatDoorRepOk
import Derived.Test.YthnddgdnialogaaGreatDoorBackM
import Derived.Test.YthnddgdnialogaaGreatDoorLaidAll
namespace Go.Proofs.YthnddgdnialogaaGreatDoor
open Go.RowKit
set_option linter.unusedVariables false
abbrev RepL := Int × List UInt8 × List PairL × List SessL
def zeroR : RepL := (0, [], [], [])
def numP (p : PairL) : Option SessL := match numL p.1, numL p.2 with
 | some a, some b => some ((a : Int), (b : Int))
 | _, _ => none
def sesL (rs : List PairL) : List SessL := rs.map fun p => (numP p).getD (0, 0)
def allP (rs : List PairL) : Bool := rs.all fun p => (numP p).isSome
def finR (ix : Int) (ses : List SessL) (l : List PairL) : Option RepL := if sessOk ses = true ∧ rootOk l = true then some (ix, rootR l, nodesR l, ses) else none
def rdRows (x y : Option Nat) (rs : List PairL) : Option RepL := match x, y with
 | some ix, some n => if n ≤ rs.length ∧ allP (rs.take n) = true then finR ix (sesL (rs.take n)) (rs.drop n) else none
 | _, _ => none
def readRep (s : List UInt8) : Option RepL := match rowsL s with
 | some (r :: rs) => rdRows (numL r.1) (numL r.2) rs
 | _ => none
theorem sesL_take (rs : List PairL) (j : Nat) (h : j < rs.length) (a b : Nat) (ha : numL rs[j].1 = some a) (hb : numL rs[j].2 = some b) : sesL (rs.take (j + 1)) = sesL (rs.take j) ++ [((a : Int), (b : Int))] := by
 rw [take_snocP rs j h]
 simp only [sesL, List.map_append, List.map_cons, List.map_nil]
 have : numP rs[j] = some ((a : Int), (b : Int)) := by simp only [numP, ha, hb]
 rw [this]; rfl
theorem sesL_length (rs : List PairL) : (sesL rs).length = rs.length := by simp [sesL]
theorem allP_bad (rs : List PairL) (n j : Nat) (hj : j < n) (hn : n ≤ rs.length) (h : numL (rs[j]'(by omega)).1 = none ∨ numL (rs[j]'(by omega)).2 = none) : allP (rs.take n) = false := by
 unfold allP
 rw [List.all_eq_false]
 have hl : j < (rs.take n).length := by rw [List.length_take]; omega
 refine ⟨(rs.take n)[j], List.getElem_mem _, ?_⟩
 rw [List.getElem_take]
 unfold numP
 rcases h with h | h <;> rw [h]
 · simp
 · cases numL (rs[j]'(by omega)).1 <;> simp
theorem allP_all (rs : List PairL) (n : Nat) (hn : n ≤ rs.length) (h : ∀ j (hj : j < rs.length), j < n → ∃ a b, numL rs[j].1 = some a ∧ numL rs[j].2 = some b) : allP (rs.take n) = true := by
 unfold allP
 rw [List.all_eq_true]
 intro p hp
 obtain ⟨j, hj, rfl⟩ := List.getElem_of_mem hp
 rw [List.length_take] at hj
 obtain ⟨a, b, ha, hb⟩ := h j (by omega) (by omega)
 rw [List.getElem_take]
 simp only [numP, ha, hb]; rfl
theorem rd_none1 (y : Option Nat) (rs : List PairL) : rdRows none y rs = none := by cases y <;> rfl
theorem rd_none2 (x : Option Nat) (rs : List PairL) : rdRows x none rs = none := by cases x <;> rfl
theorem rd_no {ix n : Nat} {rs : List PairL} (h : ¬ (n ≤ rs.length ∧ allP (rs.take n) = true)) : rdRows (some ix) (some n) rs = none := if_neg h
theorem rd_yes {ix n : Nat} {rs : List PairL} (h : n ≤ rs.length ∧ allP (rs.take n) = true) : rdRows (some ix) (some n) rs = finR ix (sesL (rs.take n)) (rs.drop n) := if_pos h
theorem fin_yes {ix : Int} {ses : List SessL} {l : List PairL} (h1 : sessOk ses = true) (h2 : rootOk l = true) : finR ix ses l = some (ix, rootR l, nodesR l, ses) := if_pos ⟨h1, h2⟩
theorem fin_no1 {ix : Int} {ses : List SessL} {l : List PairL} (h : sessOk ses = false) : finR ix ses l = none := if_neg fun e => by rw [h] at e; cases e.1
theorem fin_no2 {ix : Int} {ses : List SessL} {l : List PairL} (h : rootOk l = false) : finR ix ses l = none := if_neg fun e => by rw [h] at e; cases e.2
theorem rep_made {ix : Int} {ses : List SessL} {l : List PairL} (hi : 0 ≤ ix ∧ ix ≤ 1000000000000) (h : rootOk l = true) : (repR ix (rootR l) (nodesR l) ses).isSome = sessOk ses := by
 cases hs : sessOk ses with
 | false => rw [rep_no (fun e => by rw [hs] at e; cases e.2)]; rfl
 | true => rw [rep_some ⟨hi, hs⟩ (pairs_back h), if_pos ⟨h, rfl⟩]; rfl
def RRPost (w : World) (o : Option RepL) (e : Ending) (w' : World) : Prop :=
 ∃ (a1 : Option Addr) (m1 c1 : Nat) (a2 : Option Addr) (m2 c2 : Nat), e = .returned (.tuple #[.agg #[.int .i64 (o.getD zeroR).1, .string ⟨(o.getD zeroR).2.1.toArray⟩, .slice a1 m1 c1, .slice a2 m2 c2], .bool o.isSome]) ∧
   w'.ownsRow w.heap.size 57 2 (.slice a1 m1 c1) (o.getD zeroR).2.2.1.length (pcells (o.getD zeroR).2.2.1) ∧ w'.ownsRow w.heap.size 67 2 (.slice a2 m2 c2) (o.getD zeroR).2.2.2.length (secells (o.getD zeroR).2.2.2) ∧
   (∀ q, (Value.slice a1 m1 c1).ownBlock = some q → (Value.slice a2 m2 c2).ownBlock ≠ some q) ∧ Below w.heap.size w w'
theorem rr_none {w w' : World} {o : Option RepL} (h : o = none) (hb : Below w.heap.size w w') : RRPost w o (.returned (.tuple #[.agg #[.int .i64 0, .string ⟨#[]⟩, .slice none 0 0, .slice none 0 0], .bool false])) w' := by
 subst h
 exact ⟨none, 0, 0, none, 0, 0, rfl, World.ownsRow_nil _ _ _ _, World.ownsRow_nil _ _ _ _, fun q hq => by simp [Value.ownBlock] at hq, hb⟩
theorem results_rp {P : Program} {fn : Func} {p r : Tmp} {ty : TypeId} (h : fn.results = #[.cell p ty, .tmp r]) (tmps : Array Value) (w : World) (g : Nat) (t : TypeId) (cs : Array Value) (d : TypeDesc)
 (hp : tmps.getD p undef = .pointer (some ⟨g, 0, none⟩)) (hg : w.heap[g]? = some (.cells cs t (0, 0))) (hu : P.underlying ty = some d) (hd : (match d with | .struct _ | .array _ _ => true | _ => false) = true) (hi : (P.info? ty).map (·.size) = some cs.size) (vb : Value) (hb : tmps.getD r undef = vb) :
 (results fn tmps).run P w = .ok (.tuple #[.agg cs, vb]) w := by
 subst hb
 have hp' : tmps[p]?.getD undef = .pointer (some ⟨g, 0, none⟩) := by simpa using hp
 simp [results, h, hp', asAddr, run_loadVar_row w g t ty cs (0, 0) d hg hu hd hi]
theorem rp_quad {w : World} {b : Nat} {u v x y : Value} {t : TypeId} (z0 z1 z2 z3 : Value) (h : w.heap[b]? = some (.cells #[u, v, x, y] t (0, 0))) : ((((w.setCell ⟨b, 0, none⟩ z0).setCell ⟨b, 1, none⟩ z1).setCell ⟨b, 2, none⟩ z2).setCell ⟨b, 3, none⟩ z3).heap[b]? = some (.cells #[z0, z1, z2, z3] t (0, 0)) :=
 rp_set (j := 3) (rp_set (j := 2) (rp_set (j := 1) (rp_set (j := 0) h)))
theorem quad_below {B b : Nat} {w0 w : World} (h : Below B w0 w) (hb : B ≤ b) (z0 z1 z2 z3 : Value) : Below B w0 ((((w.setCell ⟨b, 0, none⟩ z0).setCell ⟨b, 1, none⟩ z1).setCell ⟨b, 2, none⟩ z2).setCell ⟨b, 3, none⟩ z3) := (((h.setCell hb _).setCell hb _).setCell hb _).setCell hb _
theorem quad_own {w : World} {b base e s n : Nat} {v : Value} {xs : List Value} (h : w.ownsRow base e s v n xs) (hv : v.ownBlock ≠ some b) (z0 z1 z2 z3 : Value) : ((((w.setCell ⟨b, 0, none⟩ z0).setCell ⟨b, 1, none⟩ z1).setCell ⟨b, 2, none⟩ z2).setCell ⟨b, 3, none⟩ z3).ownsRow base e s v n xs :=
 ownsRow_setCell_other (ownsRow_setCell_other (ownsRow_setCell_other (ownsRow_setCell_other h hv _) hv _) hv _) hv _
end Go.Proofs.YthnddgdnialogaaGreatDoor
namespace Go.Proofs.YthnddgdnialogaaGreatDoor
open Go.RowKit
set_option linter.unusedVariables false
set_option maxRecDepth 100000 in
set_option maxHeartbeats 1000000 in
theorem impl_replicaOf (ix : Int) (c : Option Addr) (n2 cap2 : Nat) (a : Option Addr) (cp : Nat) (l : List PairL) (w : World) (hl : l.length ≤ 1048576) (hm : ∀ p ∈ l, p.1.length ≤ 1048576 ∧ p.2.length ≤ 1048576) (hs : IsPairs w a l) (hT : Tab w) :
 Calls Tryz.prog 52 #[.int .i64 ix, .slice c n2 cap2, .slice a l.length cp] w fun e w' => match rootOk l with
  | false => e = .returned (.tuple #[.agg #[.int .i64 0, .string ⟨#[]⟩, .slice none 0 0, .slice none 0 0], .bool false]) ∧ Below w.heap.size w w'
  | true => ∃ (a' : Option Addr) (c' : Nat), e = .returned (.tuple #[.agg #[.int .i64 ix, .string ⟨(rootR l).toArray⟩, .slice a' (nodesR l).length c', .slice c n2 cap2], .bool true]) ∧ w'.ownsRow w.heap.size 57 2 (.slice a' (nodesR l).length c') (nodesR l).length (pcells (nodesR l)) ∧ Below w.heap.size w w' := by
 have B0 : Below w.heap.size w (w.alloc (.cells #[.int .i64 0, .string ⟨#[]⟩, .slice none 0 0, .slice none 0 0] 31)) := (Below.refl _ _).alloc (Nat.le_refl _) _
 have HQ : Hid ((w.alloc (.cells #[.int .i64 0, .string ⟨#[]⟩, .slice none 0 0, .slice none 0 0] 31)).heap[w.heap.size]? = some (.cells #[.int .i64 0, .string ⟨#[]⟩, .slice none 0 0, .slice none 0 0] 31 (0, 0))) := heap_alloc_new w _
 have K := impl_laidOut a cp l _ hl hm (hs.later B0) (hT.later B0)
 obtain ⟨rt, hrt⟩ : ∃ rt, rt = rootR l := ⟨_, rfl⟩
 obtain ⟨ns, hns⟩ : ∃ ns, ns = nodesR l := ⟨_, rfl⟩
 obtain ⟨ok, hok⟩ : ∃ ok, ok = rootOk l := ⟨_, rfl⟩
 rw [← hrt, ← hns, ← hok] at K
 rw [← hrt, ← hns, ← hok]
 clear hs hm hT hrt hns hok
 cases ok with
 | false =>
   go_enter Tryz.func52, Tryz.ntmps52
   go_wp2_with fail
   refine K.mono ?_
   rintro e w1 ⟨a1, m1, c1, rfl, _, b1⟩
   have B1 := B0.trans (b1.mono B0.size)
   have Q1 : Hid (w1.heap[w.heap.size]? = some (.cells #[.int .i64 0, .string ⟨#[]⟩, .slice none 0 0, .slice none 0 0] 31 (0, 0))) := (b1.block w.heap.size (by simp)).trans HQ.out
   obtain ⟨q0, q1, q2, q3, qf⟩ := rp_cells Q1.out
   have qf0 := qf 0
   have qf1 := qf 1
   have qf2 := qf 2
   have qf3 := qf 3
   clear qf b1 K HQ
   go_wp2
   exact bodyPost_ret (v := .tuple #[.agg #[.int .i64 0, .string ⟨#[]⟩, .slice none 0 0, .slice none 0 0], .bool false]) (results_rp rfl _ _ w.heap.size 31 _ _ rfl (rp_quad (.int .i64 0) (.string ⟨#[]⟩) (.slice none 0 0) (.slice none 0 0) Q1.out) Tryz.underlying31 rfl (by kernel_rfl) (.bool false) rfl) rfl ⟨rfl, quad_below B1 (Nat.le_refl _) _ _ _ _⟩
 | true =>
   go_enter Tryz.func52, Tryz.ntmps52
   go_wp2_with fail
   refine K.mono ?_
   rintro e w1 ⟨a1, m1, c1, rfl, o1, b1⟩
   obtain ⟨rfl, _, _⟩ := isPairs_own o1
   have B1 := B0.trans (b1.mono B0.size)
   have Q1 : Hid (w1.heap[w.heap.size]? = some (.cells #[.int .i64 0, .string ⟨#[]⟩, .slice none 0 0, .slice none 0 0] 31 (0, 0))) := (b1.block w.heap.size (by simp)).trans HQ.out
   have O1 := hidOwn (o1.mono B0.size)
   have N1 : Hid ((Value.slice a1 ns.length c1).ownBlock ≠ some w.heap.size) := fun e => by have := (o1.lt _ e).1; simp at this; omega
   obtain ⟨q0, q1, q2, q3, qf⟩ := rp_cells Q1.out
   have qf0 := qf 0
   have qf1 := qf 1
   have qf2 := qf 2
   have qf3 := qf 3
   clear qf b1 K HQ o1
   go_wp2
   exact bodyPost_ret (v := .tuple #[.agg #[.int .i64 ix, .string ⟨rt.toArray⟩, .slice a1 ns.length c1, .slice c n2 cap2], .bool true]) (results_rp rfl _ _ w.heap.size 31 _ _ rfl (rp_quad (.int .i64 ix) (.string ⟨rt.toArray⟩) (.slice a1 ns.length c1) (.slice c n2 cap2) Q1.out) Tryz.underlying31 rfl (by kernel_rfl) (.bool true) rfl) rfl ⟨a1, c1, rfl, quad_own O1.out N1.out _ _ _ _, quad_below B1 (Nat.le_refl _) _ _ _ _⟩
set_option maxRecDepth 100000 in
set_option maxHeartbeats 4000000 in
theorem impl_readReplica (s : List UInt8) (w : World) (hl : s.length ≤ 1048576) (hT : Tab w) :
 Calls Tryz.prog 21 #[.string ⟨s.toArray⟩] w fun e w' => RRPost w (readRep s) e w' := by
 obtain ⟨i0, hi0, hz0, hz1, hz2⟩ := info_parts infoSession
 have B0 : Below w.heap.size w (w.alloc (.cells #[.int .i64 0, .string ⟨#[]⟩, .slice none 0 0, .slice none 0 0] 31)) := (Below.refl _ _).alloc (Nat.le_refl _) _
 have HQ : Hid ((w.alloc (.cells #[.int .i64 0, .string ⟨#[]⟩, .slice none 0 0, .slice none 0 0] 31)).heap[w.heap.size]? = some (.cells #[.int .i64 0, .string ⟨#[]⟩, .slice none 0 0, .slice none 0 0] 31 (0, 0))) := heap_alloc_new w _
 have HT : Hid (Tab w) := hT
 have K := impl_rows s (w.alloc (.cells #[.int .i64 0, .string ⟨#[]⟩, .slice none 0 0, .slice none 0 0] 31)) hl
 obtain ⟨o, ho⟩ : ∃ o, o = readRep s := ⟨_, rfl⟩
 rw [← ho]
 clear hT
 cases hr : rowsL s with
 | none =>
   rw [hr] at K
   have HZ : Hid (o = none) := by rw [Hid, ho]; simp only [readRep, hr]
   clear hr ho
   go_enter Tryz.func21, Tryz.ntmps21
   go_wp2_with fail
   refine K.mono ?_
   rintro e w1 ⟨rfl, b1⟩
   have B1 := B0.trans (b1.mono B0.size)
   have Q1 : Hid (w1.heap[w.heap.size]? = some (.cells #[.int .i64 0, .string ⟨#[]⟩, .slice none 0 0, .slice none 0 0] 31 (0, 0))) := (b1.block w.heap.size (by simp)).trans HQ.out
   obtain ⟨q0, q1, q2, q3, qf⟩ := rp_cells Q1.out
   have qf0 := qf 0
   have qf1 := qf 1
   have qf2 := qf 2
   have qf3 := qf 3
   clear qf b1 K HQ
   go_wp2
   exact bodyPost_ret (v := .tuple #[.agg #[.int .i64 0, .string ⟨#[]⟩, .slice none 0 0, .slice none 0 0], .bool false]) (results_rp rfl _ _ w.heap.size 31 _ _ rfl (rp_quad (.int .i64 0) (.string ⟨#[]⟩) (.slice none 0 0) (.slice none 0 0) Q1.out) Tryz.underlying31 rfl (by kernel_rfl) (.bool false) rfl) rfl (rr_none HZ.out (quad_below B1 (Nat.le_refl _) _ _ _ _))
 | some rs0 =>
   rw [hr] at K
   obtain ⟨h1, hrl, hrm⟩ := rows_small s rs0 hr
   cases rs0 with
   | nil => simp at h1
   | cons r rs =>
     obtain ⟨x0, y0⟩ := r
     have HO : Hid (o = rdRows (numL x0) (numL y0) rs) := by rw [Hid, ho]; simp only [readRep, hr]
     have hx0 := (hrm (x0, y0) (by simp)).1
     have hy0 := (hrm (x0, y0) (by simp)).2
     have HM : Hid (∀ p ∈ rs, p.1.length ≤ 1048576 ∧ p.2.length ≤ 1048576) := fun p hp => by
      have := hrm p (by simp [hp])
      exact ⟨by omega, by omega⟩
     have KN := fun W => impl_numbersOfRow x0 y0 W (by simp only at hx0; omega) (by simp only at hy0; omega)
     have hrl' : rs.length ≤ 1048576 := by simp at hrl; omega
     have HB1 : Hid (∀ n, numL x0 = some n → n ≤ 1000000000000) := fun n h => (numL_of _ _ h).2.2
     have HB2 : Hid (∀ n, numL y0 = some n → n ≤ 1000000000000) := fun n h => (numL_of _ _ h).2.2
     rw [show RowsPost (w.alloc (.cells #[.int .i64 0, .string ⟨#[]⟩, .slice none 0 0, .slice none 0 0] 31)) (some ((x0, y0) :: rs)) = fun e w' => ∃ g c : Nat, e = .returned (.tuple #[.slice (some ⟨g, 0, none⟩) (rs.length + 1) c, .bool true]) ∧ w'.ownsRow (w.alloc (.cells #[.int .i64 0, .string ⟨#[]⟩, .slice none 0 0, .slice none 0 0] 31)).heap.size 60 2 (.slice (some ⟨g, 0, none⟩) (rs.length + 1) c) (rs.length + 1) (pcells ((x0, y0) :: rs)) ∧ Below (w.alloc (.cells #[.int .i64 0, .string ⟨#[]⟩, .slice none 0 0, .slice none 0 0] 31)).heap.size (w.alloc (.cells #[.int .i64 0, .string ⟨#[]⟩, .slice none 0 0, .slice none 0 0] 31)) w' from rfl] at K
     obtain ⟨nx, hnx⟩ : ∃ nx, nx = numL x0 := ⟨_, rfl⟩
     obtain ⟨ny, hny⟩ : ∃ ny, ny = numL y0 := ⟨_, rfl⟩
     rw [← hnx] at KN HO HB1
     rw [← hny] at KN HO HB2
     clear hr ho h1 hrm hrl hx0 hy0 hnx hny
     go_enter Tryz.func21, Tryz.ntmps21
     go_wp2_with fail
     refine K.mono ?_
     rintro e w1 ⟨g, c1, rfl, o1, b1⟩
     have B1 := B0.trans (b1.mono B0.size)
     have Q1 : Hid (w1.heap[w.heap.size]? = some (.cells #[.int .i64 0, .string ⟨#[]⟩, .slice none 0 0, .slice none 0 0] 31 (0, 0))) := (b1.block w.heap.size (by simp)).trans HQ.out
     have hcap : rs.length + 1 ≤ c1 := by
      rcases o1.2 with ⟨h', h0⟩ | ⟨g', cap', cur, h', hb, hg, hc, _⟩
      · cases h'
      · cases h'; exact hc
     have hc1m : c1 ≤ 9223372036854775807 := by
      rcases o1.2 with ⟨h', h0⟩ | ⟨g', cap', cur, h', hb, hg, hc, hm, _⟩
      · cases h'
      · cases h'; unfold maxLen at hm; omega
     have I1 := (isPairs_own o1).2.2
     have H1C : Hid (∀ j (h : j < rs.length + 1), w1.cell? ⟨g, j * 2, none⟩ = some (.string ⟨(((x0, y0) :: rs)[j]).1.toArray⟩) ∧ w1.cell? ⟨g, j * 2 + 1, none⟩ = some (.string ⟨(((x0, y0) :: rs)[j]).2.toArray⟩)) := fun j h => by
      rcases I1 with h' | ⟨b', off', h', hc⟩
      · simp at h'
      · cases h'; have := hc j (by simpa using h); simpa using this
     have e0 : w1.cell? ⟨g, 0, none⟩ = some (.string ⟨x0.toArray⟩) := (H1C.out 0 (by omega)).1
     have e1 : w1.cell? ⟨g, 1, none⟩ = some (.string ⟨y0.toArray⟩) := (H1C.out 0 (by omega)).2
     have hgl1 : g < w1.heap.size := World.block_lt_of_cell? w1 _ e0
     have hpos : (0 : Int) < ((rs.length + 1 : Nat) : Int) := by omega
     have hs1 : (1 : Int) ≤ ((rs.length + 1 : Nat) : Int) := by omega
     have hs2 : ((rs.length + 1 : Nat) : Int) ≤ (c1 : Int) := by omega
     clear b1 K o1 I1 HQ
     go_wp2_with fail
     refine (KN _).mono ?_
     rintro e w2 ⟨rfl, b2⟩
     have B2 := B1.trans (b2.mono B1.size)
     have Q2 : Hid (w2.heap[w.heap.size]? = some (.cells #[.int .i64 0, .string ⟨#[]⟩, .slice none 0 0, .slice none 0 0] 31 (0, 0))) := (b2.block w.heap.size (lt_of_block Q1.out)).trans Q1.out
     have H2C : Hid (∀ j (h : j < rs.length), w2.cell? ⟨g, 2 + j * 2, none⟩ = some (.string ⟨rs[j].1.toArray⟩) ∧ w2.cell? ⟨g, 2 + j * 2 + 1, none⟩ = some (.string ⟨rs[j].2.toArray⟩)) := fun j h => by
      have h1 := H1C.out (j + 1) (by omega)
      rw [show (j + 1) * 2 = 2 + j * 2 by omega] at h1
      exact ⟨(b2.cell (p := ⟨g, 2 + j * 2, none⟩) hgl1).trans h1.1, (b2.cell (p := ⟨g, 2 + j * 2 + 1, none⟩) hgl1).trans h1.2⟩
     have hgl2 : g < w2.heap.size := Nat.lt_of_lt_of_le hgl1 b2.size
     clear b2 KN e0 e1 H1C Q1 B1
     by_cases hn : nx.isSome = true ∧ ny.isSome = true
     · obtain ⟨ixn, rfl⟩ := Option.isSome_iff_exists.1 hn.1
       obtain ⟨n, rfl⟩ := Option.isSome_iff_exists.1 hn.2
       have hix := HB1.out ixn rfl
       have hnn := HB2.out n rfl
       clear hn HB1 HB2
       simp only [numsV]
       by_cases hcnt : n ≤ rs.length
       · have hcb : decide ((rs.length : Int) < (n : Int)) = false := decide_eq_false (by omega)
         have hcn : ¬ (rs.length : Int) < (n : Int) := by omega
         have hk1 : (0 : Int) ≤ (n : Int) := by omega
         have hk2 : (n : Int) ≤ ((c1 - 1 : Nat) : Int) := by omega
         have hk3 : (n : Int) ≤ (rs.length : Int) := by omega
         have hk4 : ((rs.length : Nat) : Int) ≤ ((c1 - 1 : Nat) : Int) := by omega
         have HNOB : Hid (∀ j (hj : j < rs.length), j < n → (numL rs[j].1 = none ∨ numL rs[j].2 = none) → o = none) := fun j hj hjn h => by
          rw [HO.out, rd_no (fun e => by rw [allP_bad rs n j hjn hcnt h] at e; cases e.2)]
         have HYES : Hid ((∀ j (hj : j < rs.length), j < n → ∃ a b, numL rs[j].1 = some a ∧ numL rs[j].2 = some b) → o = finR ixn (sesL (rs.take n)) (rs.drop n)) := fun h => by rw [HO.out, rd_yes ⟨hcnt, allP_all rs n hcnt h⟩]
         clear HO
         by_cases hc1 : c1 = 1
         · have hrs0 : rs.length = 0 := by omega
           obtain rfl : n = 0 := by omega
           have HF : Hid (o = finR ixn (sesL (rs.take 0)) (rs.drop 0)) := HYES.out (fun k hk hkj => by omega)
           have hsl : (sesL (rs.take 0)).length = 0 := by simp [sesL]
           have HIS : Hid (IsSess w2 none (sesL (rs.take 0))) := .inl (by simp [sesL])
           have HOS : Hid (w2.ownsRow w2.heap.size 67 2 (.slice none 0 0) 0 (secells (sesL (rs.take 0)))) := by rw [Hid, List.take_zero]; exact World.ownsRow_nil _ _ _ _
           have hdl : (rs.drop 0).length = 0 := by simpa using hrs0
           have KR' : ∀ ad cp, IsPairs w2 (some ad) (rs.drop 0) → _ := fun ad cp h => impl_replicaOf ixn none 0 0 (some ad) cp (rs.drop 0) w2 (by omega) (fun p hp => HM.out p (List.mem_of_mem_drop hp)) h (HT.out.later B2)
           rw [hdl] at KR'
           have HIN : Hid (rs.length ≤ 0 → ∀ ad, IsPairs w2 (some ad) (rs.drop 0)) := fun h ad => .inl (List.drop_eq_nil_of_le h)
           have HID : Hid (True) := trivial
           have hbel : Below w2.heap.size w2 w2 := Below.refl _ _
           have hwb := B2
           have Qr := Q2
           have hID := HID
           have hown := HOS
           have HA := HOS
           go_wp2
           refine wp_loop_rounds 1 ?_
           rw [rounds_succ]
           have hnl := nodesR_len (rs.drop 0)
           have HMADE : Hid (rootOk (rs.drop 0) = true → (repR ixn (rootR (rs.drop 0)) (nodesR (rs.drop 0)) (sesL (rs.take 0))).isSome = sessOk (sesL (rs.take 0))) := fun h => rep_made ⟨by omega, by omega⟩ h
           have HNS : Hid (∀ p ∈ nodesR (rs.drop 0), p.1.length ≤ 1048576 ∧ p.2.length ≤ 1048576) := nodes_small _
           have HRT : Hid ((rootR (rs.drop 0)).length ≤ 1048576) := root_le _
           have HF1 : Hid (sessOk (sesL (rs.take 0)) = false → o = none) := fun h => by rw [HF.out, fin_no1 h]
           have HF2 : Hid (rootOk (rs.drop 0) = false → o = none) := fun h => by rw [HF.out, fin_no2 h]
           have HF3 : Hid (sessOk (sesL (rs.take 0)) = true → rootOk (rs.drop 0) = true → o = some ((ixn : Int), rootR (rs.drop 0), nodesR (rs.drop 0), sesL (rs.take 0))) := fun h1 h2 => by rw [HF.out, fin_yes h1 h2]
           obtain ⟨ses, hses⟩ : ∃ ses, ses = sesL (rs.take 0) := ⟨_, rfl⟩
           obtain ⟨ns, hns⟩ : ∃ ns, ns = nodesR (rs.drop 0) := ⟨_, rfl⟩
           obtain ⟨rt, hrt⟩ : ∃ rt, rt = rootR (rs.drop 0) := ⟨_, rfl⟩
           obtain ⟨ok, hok⟩ : ∃ ok, ok = rootOk (rs.drop 0) := ⟨_, rfl⟩
           obtain ⟨so, hso⟩ : ∃ so, so = sessOk ses := ⟨_, rfl⟩
           rw [← hses] at HIS HOS HMADE HF1 HF3 hsl
           rw [← hns] at KR' hnl HMADE HNS HF3
           rw [← hrt] at KR' HMADE HRT HF3
           rw [← hok] at KR' HMADE HF2 HF3
           rw [← hso] at HMADE HF1 HF3
           have hjj : (0 : Int) ≤ (rs.length : Int) := by omega
           have hWB : Hid (Below w.heap.size w w2) := hwb
           have hBE : Hid (Below w2.heap.size w2 w2) := hbel
           clear HF hown hID HNOB HYES HA H2C HM hses hns hrt hok hso hdl hwb hbel
           cases ok with
           | false =>
             have HZ : Hid (o = none) := HF2.out rfl
             clear HF1 HF2 HF3 HMADE
             go_wp2_with fail
             all_goals
              refine (KR' _ _ (by first | exact HID.out | exact HIN.out (by omega) _)).mono ?_
              rintro e w3 ⟨rfl, b3⟩
              have W3 := hWB.out.trans (b3.mono hWB.out.size)
              have Q3 : Hid (w3.heap[w.heap.size]? = some (.cells #[.int .i64 0, .string ⟨#[]⟩, .slice none 0 0, .slice none 0 0] 31 (0, 0))) := (b3.block w.heap.size (lt_of_block Qr.out)).trans Qr.out
              have XR : Below w3.heap.size w3 (w3.alloc (.cells #[.int .i64 0, .string ⟨#[]⟩, .slice none 0 0, .slice none 0 0] 31)) := (Below.refl _ _).alloc (Nat.le_refl _) _
              have W4 := W3.trans (XR.mono W3.size)
              have Q4 : Hid ((w3.alloc (.cells #[.int .i64 0, .string ⟨#[]⟩, .slice none 0 0, .slice none 0 0] 31)).heap[w.heap.size]? = some (.cells #[.int .i64 0, .string ⟨#[]⟩, .slice none 0 0, .slice none 0 0] 31 (0, 0))) := (XR.block w.heap.size (lt_of_block Q3.out)).trans Q3.out
              obtain ⟨q0, q1, q2, q3, qf⟩ := rp_cells Q4.out
              have qf0 := qf 0
              have qf1 := qf 1
              have qf2 := qf 2
              have qf3 := qf 3
              clear qf b3 KR' XR
              go_wp2
              exact bodyPost_ret (v := .tuple #[.agg #[.int .i64 0, .string ⟨#[]⟩, .slice none 0 0, .slice none 0 0], .bool false]) (results_rp rfl _ _ w.heap.size 31 _ _ rfl (rp_quad (.int .i64 0) (.string ⟨#[]⟩) (.slice none 0 0) (.slice none 0 0) Q4.out) Tryz.underlying31 rfl (by kernel_rfl) (.bool false) rfl) rfl (rr_none HZ.out (quad_below W4 (Nat.le_refl _) _ _ _ _))
           | true =>
             have HMD : Hid ((repR ixn rt ns ses).isSome = so) := HMADE.out rfl
             have HG1 : Hid (so = false → o = none) := HF1.out
             have HG3 : Hid (so = true → o = some ((ixn : Int), rt, ns, ses)) := fun h => HF3.out h rfl
             clear HMADE HF1 HF2 HF3
             go_wp2_with fail
             all_goals
              refine (KR' _ _ (by first | exact HID.out | exact HIN.out (by omega) _)).mono ?_
              rintro e w3 ⟨a3, c3, rfl, o3, b3⟩
              have W3 := hWB.out.trans (b3.mono hWB.out.size)
              have Q3 : Hid (w3.heap[w.heap.size]? = some (.cells #[.int .i64 0, .string ⟨#[]⟩, .slice none 0 0, .slice none 0 0] 31 (0, 0))) := (b3.block w.heap.size (lt_of_block Qr.out)).trans Qr.out
              have hQl := lt_of_block Q3.out
              have OS3 := hidOwn (kept2 HOS.out b3)
              have i3 := (isPairs_own o3).2.2
              have OO3 := hidOwn o3
              have XR : Below w3.heap.size w3 (w3.alloc (.cells #[.int .i64 (ixn : Int), .string ⟨rt.toArray⟩, .slice a3 ns.length c3, .slice none 0 0] 31)) := (Below.refl _ _).alloc (Nat.le_refl _) _
              have WA := W3.trans (XR.mono W3.size)
              have KO := impl_replicaOk ixn rt a3 c3 ns none 0 ses (w3.alloc (.cells #[.int .i64 (ixn : Int), .string ⟨rt.toArray⟩, .slice a3 ns.length c3, .slice none 0 0] 31)) (HT.out.later WA) HRT.out (by omega) HNS.out (i3.later XR) (by omega) ((HIS.out.later b3).later XR)
              rw [HMD.out, hsl] at KO
              have QR : Hid ((w3.alloc (.cells #[.int .i64 (ixn : Int), .string ⟨rt.toArray⟩, .slice a3 ns.length c3, .slice none 0 0] 31)).heap[w3.heap.size]? = some (.cells #[.int .i64 (ixn : Int), .string ⟨rt.toArray⟩, .slice a3 ns.length c3, .slice none 0 0] 31 (0, 0))) := heap_alloc_new w3 _
              have QA : Hid ((w3.alloc (.cells #[.int .i64 (ixn : Int), .string ⟨rt.toArray⟩, .slice a3 ns.length c3, .slice none 0 0] 31)).heap[w.heap.size]? = some (.cells #[.int .i64 0, .string ⟨#[]⟩, .slice none 0 0, .slice none 0 0] 31 (0, 0))) := (XR.block w.heap.size hQl).trans Q3.out
              obtain ⟨r0, r1, r2, r3, _⟩ := rp_cells QR.out
              clear KR' b3 o3 i3
              cases so with
              | false =>
                have HZ : Hid (o = none) := HG1.out rfl
                clear HG1 HG3 HMD
                go_wp2_with fail
                refine KO.mono ?_
                rintro e w5 ⟨rfl, b5⟩
                have W5 := WA.trans (b5.mono WA.size)
                have Q5 : Hid (w5.heap[w.heap.size]? = some (.cells #[.int .i64 0, .string ⟨#[]⟩, .slice none 0 0, .slice none 0 0] 31 (0, 0))) := (b5.block w.heap.size (lt_of_block QA.out)).trans QA.out
                obtain ⟨q0, q1, q2, q3, qf⟩ := rp_cells Q5.out
                have qf0 := qf 0
                have qf1 := qf 1
                have qf2 := qf 2
                have qf3 := qf 3
                clear qf b5 KO r0 r1 r2 r3
                go_wp2
                exact bodyPost_ret (v := .tuple #[.agg #[.int .i64 0, .string ⟨#[]⟩, .slice none 0 0, .slice none 0 0], .bool false]) (results_rp rfl _ _ w.heap.size 31 _ _ rfl (rp_quad (.int .i64 0) (.string ⟨#[]⟩) (.slice none 0 0) (.slice none 0 0) Q5.out) Tryz.underlying31 rfl (by kernel_rfl) (.bool false) rfl) rfl (rr_none HZ.out (quad_below W5 (Nat.le_refl _) _ _ _ _))
              | true =>
                have HZ : Hid (o = some ((ixn : Int), rt, ns, ses)) := HG3.out rfl
                clear HG1 HG3 HMD
                go_wp2_with fail
                refine KO.mono ?_
                rintro e w5 ⟨rfl, b5⟩
                have W5 := WA.trans (b5.mono WA.size)
                have X5 := XR.trans (b5.mono XR.size)
                have Q5 : Hid (w5.heap[w.heap.size]? = some (.cells #[.int .i64 0, .string ⟨#[]⟩, .slice none 0 0, .slice none 0 0] 31 (0, 0))) := (b5.block w.heap.size (lt_of_block QA.out)).trans QA.out
                obtain ⟨r0, r1, r2, r3, _⟩ := rp_cells ((b5.block w3.heap.size (lt_of_block QR.out)).trans QR.out)
                obtain ⟨q0, q1, q2, q3, qf⟩ := rp_cells Q5.out
                have qf0 := qf 0
                have qf1 := qf 1
                have qf2 := qf 2
                have qf3 := qf 3
                have OS5 := hidOwn (kept2 OS3.out X5)
                have OO5 := hidOwn (kept2 OO3.out X5)
                have hwr : w.heap.size < w2.heap.size := lt_of_block Qr.out
                have hw2 : w.heap.size < w2.heap.size := lt_of_block Q2.out
                have N1 : Hid ((Value.slice a3 ns.length c3).ownBlock ≠ some w.heap.size) := fun e => by have := (OO5.out.lt _ e).1; omega
                have N2 : Hid ((Value.slice none 0 0).ownBlock ≠ some w.heap.size) := fun e => by have := (OS5.out.lt _ e).1; omega
                have N3 : Hid (∀ q, (Value.slice a3 ns.length c3).ownBlock = some q → (Value.slice none 0 0).ownBlock ≠ some q) := fun q h1 h2 => by
                 have g1 := (OO5.out.lt q h1).1
                 have g2 := (HOS.out.lt q h2).2
                 omega
                have HSL : Hid (ses.length = 0) := hsl
                clear qf b5 KO
                go_wp2
                exact bodyPost_ret (v := .tuple #[.agg #[.int .i64 (ixn : Int), .string ⟨rt.toArray⟩, .slice a3 ns.length c3, .slice none 0 0], .bool true]) (results_rp rfl _ _ w.heap.size 31 _ _ rfl (rp_quad (.int .i64 (ixn : Int)) (.string ⟨rt.toArray⟩) (.slice a3 ns.length c3) (.slice none 0 0) Q5.out) Tryz.underlying31 rfl (by kernel_rfl) (.bool true) rfl) rfl (by
                 rw [HZ.out]
                 refine ⟨a3, ns.length, c3, none, 0, 0, rfl, ?_, ?_, N3.out, quad_below W5 (Nat.le_refl _) _ _ _ _⟩
                 · exact quad_own (OO5.out.mono (by omega)) N1.out _ _ _ _
                 · show World.ownsRow _ _ _ _ _ ses.length (secells ses)
                   rw [HSL.out]
                   exact quad_own (OS5.out.mono (by omega)) N2.out _ _ _ _)
         · have hc1b : ¬ c1 - 1 = 0 := by omega
           go_wp2
           go_loopw [8, 10, 11, 12, 13, 46] (fun v _ _ _ _ i wr => ∃ j c2 : Nat, ∃ a2 : Option Addr, j ≤ n ∧ i = .int .i64 (j : Int) ∧ v = .slice a2 j c2 ∧ wr.ownsRow w2.heap.size 67 2 (.slice a2 j c2) j (secells (sesL (rs.take j))) ∧ Hid (∀ k (hk : k < rs.length), k < j → ∃ a b, numL rs[k].1 = some a ∧ numL rs[k].2 = some b) ∧ Below w2.heap.size w2 wr) (fun _ _ _ _ _ i _ => n - (intOf i).toNat)
           case atStart => exact ⟨0, 0, none, Nat.zero_le _, rfl, rfl, World.ownsRow_nil _ _ _ _, fun k _ hk => by omega, Below.refl _ _⟩
           case round =>
            obtain ⟨j, c2, a2, hj, rfl, rfl, hown, HA, hbel⟩ := hrel
            have hsz := hbel.size
            have hwb : Below w.heap.size w wr := B2.trans (hbel.mono B2.size)
            have Qr : Hid (wr.heap[w.heap.size]? = some (.cells #[.int .i64 0, .string ⟨#[]⟩, .slice none 0 0, .slice none 0 0] 31 (0, 0))) := (hbel.block w.heap.size (lt_of_block Q2.out)).trans Q2.out
            by_cases hlt : j < n
            · have hjr : j < rs.length := by omega
              have d1 := (hbel.cell (p := ⟨g, 2 + j * 2, none⟩) hgl2).trans (H2C.out j hjr).1
              have d2 := (hbel.cell (p := ⟨g, 2 + j * 2 + 1, none⟩) hgl2).trans (H2C.out j hjr).2
              have hj0 : (0 : Int) ≤ (j : Int) := by omega
              have hj1 : (j : Int) < (n : Int) := by omega
              have hmj := HM.out _ (List.getElem_mem (h := hjr))
              have KM := fun W => impl_numbersOfRow rs[j].1 rs[j].2 W hmj.1 hmj.2
              have HNO : Hid ((numL rs[j].1 = none ∨ numL rs[j].2 = none) → o = none) := HNOB.out j hjr hlt
              have HST : Hid (∀ a b, numL rs[j].1 = some a → numL rs[j].2 = some b → (secells (sesL (rs.take (j + 1))) = secells (sesL (rs.take j)) ++ [.int .i64 (a : Int), .int .i64 (b : Int)]) ∧ (∀ k (hk : k < rs.length), k < j + 1 → ∃ a b, numL rs[k].1 = some a ∧ numL rs[k].2 = some b)) := fun a b ha hb => by
               refine ⟨by rw [sesL_take rs j hjr a b ha hb, secells_app]; rfl, fun k hk hkj => ?_⟩
               by_cases e : k = j
               · subst e; exact ⟨a, b, ha, hb⟩
               · exact HA.out k hk (by omega)
              obtain ⟨x, hx⟩ : ∃ x, x = rs[j].1 := ⟨_, rfl⟩
              obtain ⟨y, hy⟩ : ∃ y, y = rs[j].2 := ⟨_, rfl⟩
              rw [← hx] at d1 KM HNO HST
              rw [← hy] at d2 KM HNO HST
              obtain ⟨mx, hmx⟩ : ∃ mx, mx = numL x := ⟨_, rfl⟩
              obtain ⟨my, hmy⟩ : ∃ my, my = numL y := ⟨_, rfl⟩
              rw [← hmx, ← hmy] at KM HNO HST
              have XA : Below wr.heap.size wr (wr.alloc (.cells #[.string ⟨x.toArray⟩, .string ⟨y.toArray⟩] 60)) := (Below.refl _ _).alloc (Nat.le_refl _) _
              have HOW := hidOwn hown
              have HBE : Hid (Below w2.heap.size w2 wr) := hbel
              clear hx hy hmx hmy hmj HNOB HYES HA hown hbel
              go_wp2_with fail
              refine (KM _).mono ?_
              rintro e w3 ⟨rfl, b3⟩
              have X3 := XA.trans (b3.mono XA.size)
              have B3 := HBE.out.trans (X3.mono hsz)
              have W3 := hwb.trans (X3.mono hwb.size)
              by_cases hn2 : mx.isSome = true ∧ my.isSome = true
              · obtain ⟨ca, rfl⟩ := Option.isSome_iff_exists.1 hn2.1
                obtain ⟨cb, rfl⟩ := Option.isSome_iff_exists.1 hn2.2
                obtain ⟨HS1, HS2⟩ := HST.out ca cb rfl rfl
                have HS1' : Hid (_ = _) := HS1
                have HS2' : Hid (∀ k (hk : k < rs.length), k < j + 1 → ∃ a b, numL rs[k].1 = some a ∧ numL rs[k].2 = some b) := HS2
                simp only [numsV]
                have hown3 := (kept2 HOW.out X3).alloc (.cells #[.int .i64 (ca : Int), .int .i64 (cb : Int)] 67)
                have B3a := B3.alloc B3.size (.cells #[.int .i64 (ca : Int), .int .i64 (cb : Int)] 67)
                have hs3 := B3.size
                have hlow : ∀ k, (Value.slice a2 j c2).ownBlock = some k → w2.heap.size ≤ k := fun k hk => (HOW.out.lt k hk).1
                clear b3 X3 XA KM HOW HBE hn2 HST HNO HS1 HS2
                go_wp2_with (at_builtin; refine wpList_append_lies _ rfl _ _ 29 rfl w2.heap.size 67 i0 (.agg #[.int .i64 0, .int .i64 0]) 2 16 Tryz.underlying29 hi0 hz0 hz1 hz2 rfl (by decide) (.slice a2 j c2) j _ rfl hown3 ⟨w3.heap.size, 0, none⟩ 1 1 [.int .i64 (ca : Int), .int .i64 (cb : Int)] rfl rfl (World.news_of_block (cs := #[.int .i64 (ca : Int), .int .i64 (cb : Int)]) (t := 67) (fr := (0, 0)) (heap_alloc_new w3 _)) (by simp [Value.oneCell']) (by omega) (by unfold maxLen; omega) (by omega) (by simp; omega) (w3.heap.size + 1) (by simp) ?_; intro g2 cap3 w4 hown4 hgrow hat hlt4)
                have hbel4 : Below w2.heap.size w2 w4 := B3a.grown hgrow (by simp; omega) hlow
                have HO4 : Hid (w4.ownsRow w2.heap.size 67 2 (.slice (some ⟨g2, 0, none⟩) (j + 1) cap3) (j + 1) (secells (sesL (rs.take (j + 1))))) := by rw [Hid, HS1'.out]; exact hown4
                clear hgrow hown4 hown3 B3a
                first | go_roundw | (go_wp2; go_roundw)
                case rel => exact ⟨j + 1, cap3, some ⟨g2, 0, none⟩, by omega, by go_num, rfl, HO4.out, HS2'.out, hbel4⟩
                case measure => simp [intOf]; omega
              · have HZ : Hid (o = none) := HNO.out (by
                 cases mx with
                 | none => exact .inl rfl
                 | some _ => cases my with
                   | none => exact .inr rfl
                   | some _ => simp at hn2)
                have hv : numsV mx my = .tuple #[.int .i64 0, .int .i64 0, .bool false] := by
                 cases mx with
                 | none => cases my <;> rfl
                 | some _ => cases my with
                   | none => rfl
                   | some _ => simp at hn2
                rw [hv]
                have Q3 : Hid (w3.heap[w.heap.size]? = some (.cells #[.int .i64 0, .string ⟨#[]⟩, .slice none 0 0, .slice none 0 0] 31 (0, 0))) := ((XA.trans (b3.mono XA.size)).block w.heap.size (lt_of_block Qr.out)).trans Qr.out
                obtain ⟨q0, q1, q2, q3, qf⟩ := rp_cells Q3.out
                have qf0 := qf 0
                have qf1 := qf 1
                have qf2 := qf 2
                have qf3 := qf 3
                clear qf b3 X3 XA KM HOW HBE hn2 HST HNO hv B3
                go_wp2
                exact bodyPost_ret (v := .tuple #[.agg #[.int .i64 0, .string ⟨#[]⟩, .slice none 0 0, .slice none 0 0], .bool false]) (results_rp rfl _ _ w.heap.size 31 _ _ rfl (rp_quad (.int .i64 0) (.string ⟨#[]⟩) (.slice none 0 0) (.slice none 0 0) Q3.out) Tryz.underlying31 rfl (by kernel_rfl) (.bool false) rfl) rfl (rr_none HZ.out (quad_below W3 (Nat.le_refl _) _ _ _ _))
            · have hjl : j = n := by omega
              subst hjl
              have HF : Hid (o = finR ixn (sesL (rs.take j)) (rs.drop j)) := HYES.out (fun k hk hkj => HA.out k hk hkj)
              have hsl : (sesL (rs.take j)).length = j := by rw [sesL_length, List.length_take]; omega
              have HIS : Hid (IsSess wr a2 (sesL (rs.take j))) := (isSess_own hown).2.2
              have HOS : Hid (wr.ownsRow w2.heap.size 67 2 (.slice a2 j c2) j (secells (sesL (rs.take j)))) := hown
              have hdl : (rs.drop j).length = rs.length - j := by simp
              have hID : IsPairs wr (some ⟨g, 2 + j * 2, none⟩) (rs.drop j) := .inr ⟨g, 2 + j * 2, rfl, fun k hk => by
               rw [hdl] at hk
               have := H2C.out (j + k) (by omega)
               rw [List.getElem_drop, show 2 + j * 2 + k * 2 = 2 + (j + k) * 2 by omega]
               exact ⟨(hbel.cell (p := ⟨g, 2 + (j + k) * 2, none⟩) hgl2).trans this.1, (hbel.cell (p := ⟨g, 2 + (j + k) * 2 + 1, none⟩) hgl2).trans this.2⟩⟩
              have KR' : ∀ ad cp, IsPairs wr (some ad) (rs.drop j) → _ := fun ad cp h => impl_replicaOf ixn a2 j c2 (some ad) cp (rs.drop j) wr (by omega) (fun p hp => HM.out p (List.mem_of_mem_drop hp)) h (HT.out.later hwb)
              rw [hdl] at KR'
              have HIN : Hid (rs.length ≤ j → ∀ ad, IsPairs wr (some ad) (rs.drop j)) := fun h ad => .inl (List.drop_eq_nil_of_le h)
              have HID : Hid (IsPairs wr (some ⟨g, 2 + j * 2, none⟩) (rs.drop j)) := hID
              have hnl := nodesR_len (rs.drop j)
              have HMADE : Hid (rootOk (rs.drop j) = true → (repR ixn (rootR (rs.drop j)) (nodesR (rs.drop j)) (sesL (rs.take j))).isSome = sessOk (sesL (rs.take j))) := fun h => rep_made ⟨by omega, by omega⟩ h
              have HNS : Hid (∀ p ∈ nodesR (rs.drop j), p.1.length ≤ 1048576 ∧ p.2.length ≤ 1048576) := nodes_small _
              have HRT : Hid ((rootR (rs.drop j)).length ≤ 1048576) := root_le _
              have HF1 : Hid (sessOk (sesL (rs.take j)) = false → o = none) := fun h => by rw [HF.out, fin_no1 h]
              have HF2 : Hid (rootOk (rs.drop j) = false → o = none) := fun h => by rw [HF.out, fin_no2 h]
              have HF3 : Hid (sessOk (sesL (rs.take j)) = true → rootOk (rs.drop j) = true → o = some ((ixn : Int), rootR (rs.drop j), nodesR (rs.drop j), sesL (rs.take j))) := fun h1 h2 => by rw [HF.out, fin_yes h1 h2]
              obtain ⟨ses, hses⟩ : ∃ ses, ses = sesL (rs.take j) := ⟨_, rfl⟩
              obtain ⟨ns, hns⟩ : ∃ ns, ns = nodesR (rs.drop j) := ⟨_, rfl⟩
              obtain ⟨rt, hrt⟩ : ∃ rt, rt = rootR (rs.drop j) := ⟨_, rfl⟩
              obtain ⟨ok, hok⟩ : ∃ ok, ok = rootOk (rs.drop j) := ⟨_, rfl⟩
              obtain ⟨so, hso⟩ : ∃ so, so = sessOk ses := ⟨_, rfl⟩
              rw [← hses] at HIS HOS HMADE HF1 HF3 hsl
              rw [← hns] at KR' hnl HMADE HNS HF3
              rw [← hrt] at KR' HMADE HRT HF3
              rw [← hok] at KR' HMADE HF2 HF3
              rw [← hso] at HMADE HF1 HF3
              have hjj : (j : Int) ≤ (rs.length : Int) := by omega
              have hWB : Hid (Below w.heap.size w wr) := hwb
              have hBE : Hid (Below w2.heap.size w2 wr) := hbel
              clear HF hown hID HNOB HYES HA H2C HM hses hns hrt hok hso hdl hwb hbel
              cases ok with
              | false =>
                have HZ : Hid (o = none) := HF2.out rfl
                clear HF1 HF2 HF3 HMADE
                go_wp2_with fail
                all_goals
                 refine (KR' _ _ (by first | exact HID.out | exact HIN.out (by omega) _)).mono ?_
                 rintro e w3 ⟨rfl, b3⟩
                 have W3 := hWB.out.trans (b3.mono hWB.out.size)
                 have Q3 : Hid (w3.heap[w.heap.size]? = some (.cells #[.int .i64 0, .string ⟨#[]⟩, .slice none 0 0, .slice none 0 0] 31 (0, 0))) := (b3.block w.heap.size (lt_of_block Qr.out)).trans Qr.out
                 have XR : Below w3.heap.size w3 (w3.alloc (.cells #[.int .i64 0, .string ⟨#[]⟩, .slice none 0 0, .slice none 0 0] 31)) := (Below.refl _ _).alloc (Nat.le_refl _) _
                 have W4 := W3.trans (XR.mono W3.size)
                 have Q4 : Hid ((w3.alloc (.cells #[.int .i64 0, .string ⟨#[]⟩, .slice none 0 0, .slice none 0 0] 31)).heap[w.heap.size]? = some (.cells #[.int .i64 0, .string ⟨#[]⟩, .slice none 0 0, .slice none 0 0] 31 (0, 0))) := (XR.block w.heap.size (lt_of_block Q3.out)).trans Q3.out
                 obtain ⟨q0, q1, q2, q3, qf⟩ := rp_cells Q4.out
                 have qf0 := qf 0
                 have qf1 := qf 1
                 have qf2 := qf 2
                 have qf3 := qf 3
                 clear qf b3 KR' XR
                 go_wp2
                 exact bodyPost_ret (v := .tuple #[.agg #[.int .i64 0, .string ⟨#[]⟩, .slice none 0 0, .slice none 0 0], .bool false]) (results_rp rfl _ _ w.heap.size 31 _ _ rfl (rp_quad (.int .i64 0) (.string ⟨#[]⟩) (.slice none 0 0) (.slice none 0 0) Q4.out) Tryz.underlying31 rfl (by kernel_rfl) (.bool false) rfl) rfl (rr_none HZ.out (quad_below W4 (Nat.le_refl _) _ _ _ _))
              | true =>
                have HMD : Hid ((repR ixn rt ns ses).isSome = so) := HMADE.out rfl
                have HG1 : Hid (so = false → o = none) := HF1.out
                have HG3 : Hid (so = true → o = some ((ixn : Int), rt, ns, ses)) := fun h => HF3.out h rfl
                clear HMADE HF1 HF2 HF3
                go_wp2_with fail
                all_goals
                 refine (KR' _ _ (by first | exact HID.out | exact HIN.out (by omega) _)).mono ?_
                 rintro e w3 ⟨a3, c3, rfl, o3, b3⟩
                 have W3 := hWB.out.trans (b3.mono hWB.out.size)
                 have Q3 : Hid (w3.heap[w.heap.size]? = some (.cells #[.int .i64 0, .string ⟨#[]⟩, .slice none 0 0, .slice none 0 0] 31 (0, 0))) := (b3.block w.heap.size (lt_of_block Qr.out)).trans Qr.out
                 have hQl := lt_of_block Q3.out
                 have OS3 := hidOwn (kept2 HOS.out b3)
                 have i3 := (isPairs_own o3).2.2
                 have OO3 := hidOwn o3
                 have XR : Below w3.heap.size w3 (w3.alloc (.cells #[.int .i64 (ixn : Int), .string ⟨rt.toArray⟩, .slice a3 ns.length c3, .slice a2 j c2] 31)) := (Below.refl _ _).alloc (Nat.le_refl _) _
                 have WA := W3.trans (XR.mono W3.size)
                 have KO := impl_replicaOk ixn rt a3 c3 ns a2 c2 ses (w3.alloc (.cells #[.int .i64 (ixn : Int), .string ⟨rt.toArray⟩, .slice a3 ns.length c3, .slice a2 j c2] 31)) (HT.out.later WA) HRT.out (by omega) HNS.out (i3.later XR) (by omega) ((HIS.out.later b3).later XR)
                 rw [HMD.out, hsl] at KO
                 have QR : Hid ((w3.alloc (.cells #[.int .i64 (ixn : Int), .string ⟨rt.toArray⟩, .slice a3 ns.length c3, .slice a2 j c2] 31)).heap[w3.heap.size]? = some (.cells #[.int .i64 (ixn : Int), .string ⟨rt.toArray⟩, .slice a3 ns.length c3, .slice a2 j c2] 31 (0, 0))) := heap_alloc_new w3 _
                 have QA : Hid ((w3.alloc (.cells #[.int .i64 (ixn : Int), .string ⟨rt.toArray⟩, .slice a3 ns.length c3, .slice a2 j c2] 31)).heap[w.heap.size]? = some (.cells #[.int .i64 0, .string ⟨#[]⟩, .slice none 0 0, .slice none 0 0] 31 (0, 0))) := (XR.block w.heap.size hQl).trans Q3.out
                 obtain ⟨r0, r1, r2, r3, _⟩ := rp_cells QR.out
                 clear KR' b3 o3 i3
                 cases so with
                 | false =>
                   have HZ : Hid (o = none) := HG1.out rfl
                   clear HG1 HG3 HMD
                   go_wp2_with fail
                   refine KO.mono ?_
                   rintro e w5 ⟨rfl, b5⟩
                   have W5 := WA.trans (b5.mono WA.size)
                   have Q5 : Hid (w5.heap[w.heap.size]? = some (.cells #[.int .i64 0, .string ⟨#[]⟩, .slice none 0 0, .slice none 0 0] 31 (0, 0))) := (b5.block w.heap.size (lt_of_block QA.out)).trans QA.out
                   obtain ⟨q0, q1, q2, q3, qf⟩ := rp_cells Q5.out
                   have qf0 := qf 0
                   have qf1 := qf 1
                   have qf2 := qf 2
                   have qf3 := qf 3
                   clear qf b5 KO r0 r1 r2 r3
                   go_wp2
                   exact bodyPost_ret (v := .tuple #[.agg #[.int .i64 0, .string ⟨#[]⟩, .slice none 0 0, .slice none 0 0], .bool false]) (results_rp rfl _ _ w.heap.size 31 _ _ rfl (rp_quad (.int .i64 0) (.string ⟨#[]⟩) (.slice none 0 0) (.slice none 0 0) Q5.out) Tryz.underlying31 rfl (by kernel_rfl) (.bool false) rfl) rfl (rr_none HZ.out (quad_below W5 (Nat.le_refl _) _ _ _ _))
                 | true =>
                   have HZ : Hid (o = some ((ixn : Int), rt, ns, ses)) := HG3.out rfl
                   clear HG1 HG3 HMD
                   go_wp2_with fail
                   refine KO.mono ?_
                   rintro e w5 ⟨rfl, b5⟩
                   have W5 := WA.trans (b5.mono WA.size)
                   have X5 := XR.trans (b5.mono XR.size)
                   have Q5 : Hid (w5.heap[w.heap.size]? = some (.cells #[.int .i64 0, .string ⟨#[]⟩, .slice none 0 0, .slice none 0 0] 31 (0, 0))) := (b5.block w.heap.size (lt_of_block QA.out)).trans QA.out
                   obtain ⟨r0, r1, r2, r3, _⟩ := rp_cells ((b5.block w3.heap.size (lt_of_block QR.out)).trans QR.out)
                   obtain ⟨q0, q1, q2, q3, qf⟩ := rp_cells Q5.out
                   have qf0 := qf 0
                   have qf1 := qf 1
                   have qf2 := qf 2
                   have qf3 := qf 3
                   have OS5 := hidOwn (kept2 OS3.out X5)
                   have OO5 := hidOwn (kept2 OO3.out X5)
                   have hwr : w.heap.size < wr.heap.size := lt_of_block Qr.out
                   have hw2 : w.heap.size < w2.heap.size := lt_of_block Q2.out
                   have N1 : Hid ((Value.slice a3 ns.length c3).ownBlock ≠ some w.heap.size) := fun e => by have := (OO5.out.lt _ e).1; omega
                   have N2 : Hid ((Value.slice a2 j c2).ownBlock ≠ some w.heap.size) := fun e => by have := (OS5.out.lt _ e).1; omega
                   have N3 : Hid (∀ q, (Value.slice a3 ns.length c3).ownBlock = some q → (Value.slice a2 j c2).ownBlock ≠ some q) := fun q h1 h2 => by
                    have g1 := (OO5.out.lt q h1).1
                    have g2 := (HOS.out.lt q h2).2
                    omega
                   have HSL : Hid (ses.length = j) := hsl
                   clear qf b5 KO
                   go_wp2
                   exact bodyPost_ret (v := .tuple #[.agg #[.int .i64 (ixn : Int), .string ⟨rt.toArray⟩, .slice a3 ns.length c3, .slice a2 j c2], .bool true]) (results_rp rfl _ _ w.heap.size 31 _ _ rfl (rp_quad (.int .i64 (ixn : Int)) (.string ⟨rt.toArray⟩) (.slice a3 ns.length c3) (.slice a2 j c2) Q5.out) Tryz.underlying31 rfl (by kernel_rfl) (.bool true) rfl) rfl (by
                    rw [HZ.out]
                    refine ⟨a3, ns.length, c3, a2, j, c2, rfl, ?_, ?_, N3.out, quad_below W5 (Nat.le_refl _) _ _ _ _⟩
                    · exact quad_own (OO5.out.mono (by omega)) N1.out _ _ _ _
                    · show World.ownsRow _ _ _ _ _ ses.length (secells ses)
                      rw [HSL.out]
                      exact quad_own (OS5.out.mono (by omega)) N2.out _ _ _ _)
       · have hcb : decide ((rs.length : Int) < (n : Int)) = true := decide_eq_true (by omega)
         have hcn : (rs.length : Int) < (n : Int) := by omega
         have HZ : Hid (o = none) := by rw [Hid, HO.out, rd_no (fun e => hcnt e.1)]
         obtain ⟨q0, q1, q2, q3, qf⟩ := rp_cells Q2.out
         have qf0 := qf 0
         have qf1 := qf 1
         have qf2 := qf 2
         have qf3 := qf 3
         clear qf HO
         go_wp2
         all_goals exact bodyPost_ret (v := .tuple #[.agg #[.int .i64 0, .string ⟨#[]⟩, .slice none 0 0, .slice none 0 0], .bool false]) (results_rp rfl _ _ w.heap.size 31 _ _ rfl (rp_quad (.int .i64 0) (.string ⟨#[]⟩) (.slice none 0 0) (.slice none 0 0) Q2.out) Tryz.underlying31 rfl (by kernel_rfl) (.bool false) rfl) rfl (rr_none HZ.out (quad_below B2 (Nat.le_refl _) _ _ _ _))
     · have HZ : Hid (o = none) := by
        rw [Hid, HO.out]
        cases nx with
        | none => exact rd_none1 _ _
        | some _ => cases ny with
          | none => exact rd_none2 _ _
          | some _ => simp at hn
       have hv : numsV nx ny = .tuple #[.int .i64 0, .int .i64 0, .bool false] := by
        cases nx with
        | none => cases ny <;> rfl
        | some _ => cases ny with
          | none => rfl
          | some _ => simp at hn
       rw [hv]
       obtain ⟨q0, q1, q2, q3, qf⟩ := rp_cells Q2.out
       have qf0 := qf 0
       have qf1 := qf 1
       have qf2 := qf 2
       have qf3 := qf 3
       clear qf HO hv hn
       go_wp2
       all_goals exact bodyPost_ret (v := .tuple #[.agg #[.int .i64 0, .string ⟨#[]⟩, .slice none 0 0, .slice none 0 0], .bool false]) (results_rp rfl _ _ w.heap.size 31 _ _ rfl (rp_quad (.int .i64 0) (.string ⟨#[]⟩) (.slice none 0 0) (.slice none 0 0) Q2.out) Tryz.underlying31 rfl (by kernel_rfl) (.bool false) rfl) rfl (rr_none HZ.out (quad_below B2 (Nat.le_refl _) _ _ _ _))
end Go.Proofs.YthnddgdnialogaaGreatDoor
namespace Go.Proofs.YthnddgdnialogaaGreatDoor
open Go.RowKit
set_option linter.unusedVariables false
theorem rowsOf_drop2 (ts : List (List UInt8)) (h : 2 ≤ ts.length) : rowsOf ts = (ts.getD 0 [], ts.getD 1 []) :: rowsOf (ts.drop 2) := by
 match ts, h with
 | k :: v :: r, _ => simp [rowsOf]
theorem readRep_ts (s : List UInt8) (ts : List (List UInt8)) (h : textsL s = some ts) : readRep s = if ts.length < 2 ∨ ts.length % 2 = 1 then none else rdRows (numL (ts.getD 0 [])) (numL (ts.getD 1 [])) (rowsOf (ts.drop 2)) := by
 have hr : rowsL s = if ts.length = 0 ∨ ts.length % 2 = 1 then none else some (rowsOf ts) := by simp only [rowsL, h]
 by_cases h1 : ts.length = 0 ∨ ts.length % 2 = 1
 · rw [if_pos h1] at hr
   rw [if_pos (by omega)]
   simp only [readRep, hr]
 · rw [if_neg h1, rowsOf_drop2 ts (by omega)] at hr
   simp only [readRep, hr]
   rw [if_neg (by omega)]
theorem rows2_at (ts : List (List UInt8)) (j : Nat) (h : j < (rowsOf (ts.drop 2)).length) : (rowsOf (ts.drop 2))[j] = (ts.getD (2 * j + 2) [], ts.getD (2 * j + 3) []) := by
 rw [rowsOf_at]
 simp only [List.getD, List.getElem?_drop]
 rw [show 2 + 2 * j = 2 * j + 2 by omega, show 2 + (2 * j + 1) = 2 * j + 3 by omega]
theorem rd_big {ix n : Nat} {rs : List PairL} (h : 6 < n) : rdRows (some ix) (some n) rs = none := by
 by_cases hc : n ≤ rs.length ∧ allP (rs.take n) = true
 · rw [rd_yes hc]
   exact fin_no1 (sess_big _ (by rw [sesL_length, List.length_take]; omega))
 · exact rd_no hc
theorem made_root {l : List PairL} (hp : pairsOkL l = true) : rootOk l = madeOk (allL l) ∧ (madeOk (allL l) = true → rootR l = rootOr (allL l) ∧ nodesR l = sortedL (allL l)) := by
 have h : rootOk l = madeOk (allL l) := by simp [rootOk, hp]
 exact ⟨h, fun hm => ⟨by rw [rootR, h, if_pos hm], by rw [nodesR, h, if_pos hm]⟩⟩
set_option maxRecDepth 100000 in
set_option maxHeartbeats 1000000 in
theorem spec_l10Of (ix : Int) (c : Option Addr) (n2 cap2 : Nat) (a : Option Addr) (cp : Nat) (l : List PairL) (w : World) (hp : pairsOkL l = true) (hs : IsPairs w a l) :
 Calls Tryz.prog 49 #[.int .i64 ix, .slice a l.length cp, .slice c n2 cap2] w fun e w' => match rootOk l with
  | false => e = .returned (.tuple #[.agg #[.int .i64 0, .string ⟨#[]⟩, .slice none 0 0, .slice none 0 0], .bool false]) ∧ Below w.heap.size w w'
  | true => ∃ (a' : Option Addr) (c' : Nat), e = .returned (.tuple #[.agg #[.int .i64 ix, .string ⟨(rootR l).toArray⟩, .slice a' (nodesR l).length c', .slice c n2 cap2], .bool true]) ∧ w'.ownsRow w.heap.size 57 2 (.slice a' (nodesR l).length c') (nodesR l).length (pcells (nodesR l)) ∧ Below w.heap.size w w' := by
 have B0 : Below w.heap.size w (w.alloc (.cells #[.int .i64 0, .string ⟨#[]⟩, .slice none 0 0, .slice none 0 0] 31)) := (Below.refl _ _).alloc (Nat.le_refl _) _
 have HQ : Hid ((w.alloc (.cells #[.int .i64 0, .string ⟨#[]⟩, .slice none 0 0, .slice none 0 0] 31)).heap[w.heap.size]? = some (.cells #[.int .i64 0, .string ⟨#[]⟩, .slice none 0 0, .slice none 0 0] 31 (0, 0))) := heap_alloc_new w _
 have K := spec_l5Made a cp l (w.alloc (.cells #[.int .i64 0, .string ⟨#[]⟩, .slice none 0 0, .slice none 0 0] 31)) (fit_of l hp) (hs.later B0)
 obtain ⟨e1, e2⟩ := made_root hp
 rw [e1]
 cases hm : madeOk (allL l) with
 | false =>
   rw [hm] at K
   simp only [Bool.false_eq_true, if_false] at K
   clear hs hp e1 e2 hm
   go_enter Tryz.func49, Tryz.ntmps49
   go_wp2_with fail
   refine K.mono ?_
   rintro e w1 ⟨a1, m1, c1, rfl, _, b1⟩
   have B1 := B0.trans (b1.mono B0.size)
   have Q1 : Hid (w1.heap[w.heap.size]? = some (.cells #[.int .i64 0, .string ⟨#[]⟩, .slice none 0 0, .slice none 0 0] 31 (0, 0))) := (b1.block w.heap.size (by simp)).trans HQ.out
   obtain ⟨q0, q1, q2, q3, qf⟩ := rp_cells Q1.out
   have qf0 := qf 0
   have qf1 := qf 1
   have qf2 := qf 2
   have qf3 := qf 3
   clear qf b1 K HQ
   go_wp2
   exact bodyPost_ret (v := .tuple #[.agg #[.int .i64 0, .string ⟨#[]⟩, .slice none 0 0, .slice none 0 0], .bool false]) (results_rp rfl _ _ w.heap.size 31 _ _ rfl (rp_quad (.int .i64 0) (.string ⟨#[]⟩) (.slice none 0 0) (.slice none 0 0) Q1.out) Tryz.underlying31 rfl (by kernel_rfl) (.bool false) rfl) rfl ⟨rfl, quad_below B1 (Nat.le_refl _) _ _ _ _⟩
 | true =>
   obtain ⟨e3, e4⟩ := e2 hm
   rw [hm] at K
   simp only [if_true] at K
   rw [← e3, ← e4] at K
   obtain ⟨rt, hrt⟩ : ∃ rt, rt = rootR l := ⟨_, rfl⟩
   obtain ⟨ns, hns⟩ : ∃ ns, ns = nodesR l := ⟨_, rfl⟩
   rw [← hrt, ← hns] at K ⊢
   clear hs hp e1 e2 hm e3 e4 hrt hns
   go_enter Tryz.func49, Tryz.ntmps49
   go_wp2_with fail
   refine K.mono ?_
   rintro e w1 ⟨a1, m1, c1, rfl, ⟨o1, _⟩, b1⟩
   obtain ⟨rfl, _, _⟩ := isPairs_own o1
   have B1 := B0.trans (b1.mono B0.size)
   have Q1 : Hid (w1.heap[w.heap.size]? = some (.cells #[.int .i64 0, .string ⟨#[]⟩, .slice none 0 0, .slice none 0 0] 31 (0, 0))) := (b1.block w.heap.size (by simp)).trans HQ.out
   have O1 := hidOwn (o1.mono B0.size)
   have N1 : Hid ((Value.slice a1 ns.length c1).ownBlock ≠ some w.heap.size) := fun e => by have := (o1.lt _ e).1; simp at this; omega
   obtain ⟨q0, q1, q2, q3, qf⟩ := rp_cells Q1.out
   have qf0 := qf 0
   have qf1 := qf 1
   have qf2 := qf 2
   have qf3 := qf 3
   clear qf b1 K HQ o1
   go_wp2
   exact bodyPost_ret (v := .tuple #[.agg #[.int .i64 ix, .string ⟨rt.toArray⟩, .slice a1 ns.length c1, .slice c n2 cap2], .bool true]) (results_rp rfl _ _ w.heap.size 31 _ _ rfl (rp_quad (.int .i64 ix) (.string ⟨rt.toArray⟩) (.slice a1 ns.length c1) (.slice c n2 cap2) Q1.out) Tryz.underlying31 rfl (by kernel_rfl) (.bool true) rfl) rfl ⟨a1, c1, rfl, quad_own O1.out N1.out _ _ _ _, quad_below B1 (Nat.le_refl _) _ _ _ _⟩
set_option maxRecDepth 100000 in
set_option maxHeartbeats 8000000 in
theorem spec_readReplica (s : List UInt8) (w : World) (hl : s.length ≤ 1048576) :
 Calls Tryz.prog 20 #[.string ⟨s.toArray⟩] w fun e w' => RRPost w (readRep s) e w' := by
 obtain ⟨i0, hi0, hz0, hz1, hz2⟩ := info_parts infoSession
 obtain ⟨j0, hj0i, hy0z, hy1, hy2⟩ := info_parts infoPr
 have B0 : Below w.heap.size w (w.alloc (.cells #[.int .i64 0, .string ⟨#[]⟩, .slice none 0 0, .slice none 0 0] 31)) := (Below.refl _ _).alloc (Nat.le_refl _) _
 have HQ : Hid ((w.alloc (.cells #[.int .i64 0, .string ⟨#[]⟩, .slice none 0 0, .slice none 0 0] 31)).heap[w.heap.size]? = some (.cells #[.int .i64 0, .string ⟨#[]⟩, .slice none 0 0, .slice none 0 0] 31 (0, 0))) := heap_alloc_new w _
 have K := spec_texts s (w.alloc (.cells #[.int .i64 0, .string ⟨#[]⟩, .slice none 0 0, .slice none 0 0] 31)) hl
 obtain ⟨o, ho⟩ : ∃ o, o = readRep s := ⟨_, rfl⟩
 rw [← ho]
 cases ht : textsL s with
 | none =>
   rw [ht] at K
   have HZ : Hid (o = none) := by rw [Hid, ho]; simp only [readRep, rowsL, ht]
   clear ht ho
   go_enter Tryz.func20, Tryz.ntmps20
   go_wp2_with fail
   refine K.mono ?_
   rintro e w1 ⟨rfl, b1⟩
   have B1 := B0.trans (b1.mono B0.size)
   have Q1 : Hid (w1.heap[w.heap.size]? = some (.cells #[.int .i64 0, .string ⟨#[]⟩, .slice none 0 0, .slice none 0 0] 31 (0, 0))) := (b1.block w.heap.size (by simp)).trans HQ.out
   obtain ⟨q0, q1, q2, q3, qf⟩ := rp_cells Q1.out
   have qf0 := qf 0
   have qf1 := qf 1
   have qf2 := qf 2
   have qf3 := qf 3
   clear qf
   clear b1 K HQ
   go_wp2
   exact bodyPost_ret (v := .tuple #[.agg #[.int .i64 0, .string ⟨#[]⟩, .slice none 0 0, .slice none 0 0], .bool false]) (results_rp rfl _ _ w.heap.size 31 _ _ rfl (rp_quad (.int .i64 0) (.string ⟨#[]⟩) (.slice none 0 0) (.slice none 0 0) Q1.out) Tryz.underlying31 rfl (by kernel_rfl) (.bool false) rfl) rfl (rr_none HZ.out (quad_below B1 (Nat.le_refl _) _ _ _ _))
 | some ts =>
   rw [ht] at K
   have hts := textsL_each s ts ht
   have hln : ts.length ≤ 1048576 := by omega
   have HR : Hid (o = if ts.length < 2 ∨ ts.length % 2 = 1 then none else rdRows (numL (ts.getD 0 [])) (numL (ts.getD 1 [])) (rowsOf (ts.drop 2))) := by rw [Hid, ho]; exact readRep_ts s ts ht
   have HG : Hid (∀ i, (ts.getD i []).length ≤ 60000) := getD_small ts hts.2
   clear ho ht hts
   by_cases h0 : ts.length < 2
   · have HZ : Hid (o = none) := by rw [Hid, HR.out, if_pos (.inl h0)]
     have h0b : decide ((ts.length : Int) < 2) = true := decide_eq_true (by omega)
     have h0' : (ts.length : Int) < 2 := by omega
     clear HR h0
     go_enter Tryz.func20, Tryz.ntmps20
     go_wp2_with fail
     refine K.mono ?_
     rintro e w1 ⟨a1, c1, rfl, o1, b1, hc1⟩
     have B1 := B0.trans (b1.mono B0.size)
     have Q1 : Hid (w1.heap[w.heap.size]? = some (.cells #[.int .i64 0, .string ⟨#[]⟩, .slice none 0 0, .slice none 0 0] 31 (0, 0))) := (b1.block w.heap.size (by simp)).trans HQ.out
     obtain ⟨q0, q1, q2, q3, qf⟩ := rp_cells Q1.out
     have qf0 := qf 0
     have qf1 := qf 1
     have qf2 := qf 2
     have qf3 := qf 3
     clear qf
     clear b1 K HQ o1
     go_wp2
     exact bodyPost_ret (v := .tuple #[.agg #[.int .i64 0, .string ⟨#[]⟩, .slice none 0 0, .slice none 0 0], .bool false]) (results_rp rfl _ _ w.heap.size 31 _ _ rfl (rp_quad (.int .i64 0) (.string ⟨#[]⟩) (.slice none 0 0) (.slice none 0 0) Q1.out) Tryz.underlying31 rfl (by kernel_rfl) (.bool false) rfl) rfl (rr_none HZ.out (quad_below B1 (Nat.le_refl _) _ _ _ _))
   · have h0b : decide ((ts.length : Int) < 2) = false := decide_eq_false (by omega)
     have h0' : ¬ (ts.length : Int) < 2 := by omega
     by_cases h2 : ts.length % 2 = 1
     · have HZ : Hid (o = none) := by rw [Hid, HR.out, if_pos (.inr h2)]
       have h2b : ((ts.length : Int) % 2 == 1) = true := by rw [beq_iff_eq]; omega
       have h2e : (ts.length : Int) % 2 = 1 := by omega
       clear HR h2 h0
       go_enter Tryz.func20, Tryz.ntmps20
       go_wp2_with fail
       refine K.mono ?_
       rintro e w1 ⟨a1, c1, rfl, o1, b1, hc1⟩
       have B1 := B0.trans (b1.mono B0.size)
       have Q1 : Hid (w1.heap[w.heap.size]? = some (.cells #[.int .i64 0, .string ⟨#[]⟩, .slice none 0 0, .slice none 0 0] 31 (0, 0))) := (b1.block w.heap.size (by simp)).trans HQ.out
       obtain ⟨q0, q1, q2, q3, qf⟩ := rp_cells Q1.out
       have qf0 := qf 0
       have qf1 := qf 1
       have qf2 := qf 2
       have qf3 := qf 3
       clear qf
       clear b1 K HQ o1
       go_wp2
       exact bodyPost_ret (v := .tuple #[.agg #[.int .i64 0, .string ⟨#[]⟩, .slice none 0 0, .slice none 0 0], .bool false]) (results_rp rfl _ _ w.heap.size 31 _ _ rfl (rp_quad (.int .i64 0) (.string ⟨#[]⟩) (.slice none 0 0) (.slice none 0 0) Q1.out) Tryz.underlying31 rfl (by kernel_rfl) (.bool false) rfl) rfl (rr_none HZ.out (quad_below B1 (Nat.le_refl _) _ _ _ _))
     · have h2b : ((ts.length : Int) % 2 == 1) = false := by rw [beq_eq_false_iff_ne]; omega
       have h2e : ¬ (ts.length : Int) % 2 = 1 := by omega
       obtain ⟨k, hk⟩ : ∃ k, ts.length = 2 * k + 2 := ⟨(ts.length - 2) / 2, by omega⟩
       have hrl : (rowsOf (ts.drop 2)).length = k := by rw [rowsOf_length, List.length_drop]; omega
       have HO : Hid (o = rdRows (numL (ts.getD 0 [])) (numL (ts.getD 1 [])) (rowsOf (ts.drop 2))) := by rw [Hid, HR.out, if_neg (by omega)]
       have HRA : Hid (∀ j (h : j < (rowsOf (ts.drop 2)).length), (rowsOf (ts.drop 2))[j] = (ts.getD (2 * j + 2) [], ts.getD (2 * j + 3) [])) := rows2_at ts
       have HK : Hid (ts.length = 2 * k + 2) := hk
       obtain ⟨rs, hrs⟩ : ∃ rs, rs = rowsOf (ts.drop 2) := ⟨_, rfl⟩
       have HM : Hid (∀ p ∈ rs, p.1.length ≤ 1048576 ∧ p.2.length ≤ 1048576) := fun p hp => by
        rw [hrs] at hp
        obtain ⟨j, hj, rfl⟩ := List.getElem_of_mem hp
        rw [HRA.out j hj]
        exact ⟨Nat.le_trans (HG.out _) (by omega), Nat.le_trans (HG.out _) (by omega)⟩
       rw [← hrs] at HO hrl HRA
       have K0 := fun W => spec_l1Int (ts.getD 0 []) W (Nat.le_trans (HG.out _) (by omega))
       have K1 := fun W => spec_l1Int (ts.getD 1 []) W (Nat.le_trans (HG.out _) (by omega))
       have HB1 : Hid (∀ n, numL (ts.getD 0 []) = some n → n ≤ 1000000000000) := fun n h => (numL_of _ _ h).2.2
       have HB2 : Hid (∀ n, numL (ts.getD 1 []) = some n → n ≤ 1000000000000) := fun n h => (numL_of _ _ h).2.2
       obtain ⟨x0, hx0⟩ : ∃ x, x = ts.getD 0 [] := ⟨_, rfl⟩
       obtain ⟨y0, hy0⟩ : ∃ x, x = ts.getD 1 [] := ⟨_, rfl⟩
       have HX0 : Hid (x0 = ts.getD 0 [] ∧ y0 = ts.getD 1 []) := ⟨hx0, hy0⟩
       rw [← hx0] at HO K0 HB1
       rw [← hy0] at HO K1 HB2
       clear HR h2 h0 hrs hx0 hy0 hk
       go_enter Tryz.func20, Tryz.ntmps20
       go_wp2_with fail
       refine K.mono ?_
       rintro e w1 ⟨a1, c1, rfl, o1, b1, hc1⟩
       have B1 := B0.trans (b1.mono B0.size)
       have Q1 : Hid (w1.heap[w.heap.size]? = some (.cells #[.int .i64 0, .string ⟨#[]⟩, .slice none 0 0, .slice none 0 0] 31 (0, 0))) := (b1.block w.heap.size (by simp)).trans HQ.out
       have I1 := (strs_own o1).2.2
       obtain ⟨b, off, rfl, hcs⟩ : ∃ b off, a1 = some ⟨b, off, none⟩ ∧ ∀ j, j < ts.length → w1.cell? ⟨b, off + j, none⟩ = some (.string ⟨(ts.getD j []).toArray⟩) := by
        rcases I1 with h | ⟨b, off, h, hc⟩
        · have := HK.out; rw [h] at this; simp at this
        · exact ⟨b, off, h, fun j hj => by rw [hc j hj]; simp [List.getD, List.getElem?_eq_getElem hj]⟩
       have HC1 : Hid (∀ j, j < ts.length → w1.cell? ⟨b, off + j, none⟩ = some (.string ⟨(ts.getD j []).toArray⟩)) := hcs
       have hbl1 : b < w1.heap.size := World.block_lt_of_cell? w1 _ (hcs 0 (by have := HK.out; omega))
       have d0 : w1.cell? ⟨b, off, none⟩ = some (.string ⟨x0.toArray⟩) := by have := hcs 0 (by have := HK.out; omega); rw [HX0.out.1]; exact this
       have hp1 : (1 : Int) < (ts.length : Int) := by have := HK.out; omega
       have hp0 : (0 : Int) < (ts.length : Int) := by have := HK.out; omega
       clear b1 K o1 I1 hcs HQ
       go_wp2_with fail
       refine (K0 _).mono ?_
       rintro e w2 ⟨⟨cx, rfl, hcb, hcx⟩, b2⟩
       have B2 := B1.trans (b2.mono B1.size)
       have Q2 : Hid (w2.heap[w.heap.size]? = some (.cells #[.int .i64 0, .string ⟨#[]⟩, .slice none 0 0, .slice none 0 0] 31 (0, 0))) := (b2.block w.heap.size (lt_of_block Q1.out)).trans Q1.out
       have d1 : w2.cell? ⟨b, off + 1, none⟩ = some (.string ⟨y0.toArray⟩) := by rw [HX0.out.2]; exact (b2.cell (p := ⟨b, off + 1, none⟩) hbl1).trans (HC1.out 1 (by have := HK.out; omega))
       have HCX : Hid (∀ n, numL x0 = some n → cx = n) := hcx
       have Hb2 : Hid (Below w1.heap.size w1 w2) := b2
       clear b2 K0 d0 hcx
       go_wp2_with fail
       refine (K1 _).mono ?_
       rintro e w3 ⟨⟨cn, rfl, hnb, hnx⟩, b3⟩
       have B3 := B2.trans (b3.mono B2.size)
       have Q3 : Hid (w3.heap[w.heap.size]? = some (.cells #[.int .i64 0, .string ⟨#[]⟩, .slice none 0 0, .slice none 0 0] 31 (0, 0))) := (b3.block w.heap.size (lt_of_block Q2.out)).trans Q2.out
       have b13 : Below w1.heap.size w1 w3 := Hb2.out.trans (b3.mono Hb2.out.size)
       have HC3 : Hid (∀ j (h : j < rs.length), w3.cell? ⟨b, off + (2 * j + 2), none⟩ = some (.string ⟨rs[j].1.toArray⟩) ∧ w3.cell? ⟨b, off + (2 * j + 3), none⟩ = some (.string ⟨rs[j].2.toArray⟩)) := fun j h => by
        rw [HRA.out j h]
        have := HK.out
        exact ⟨(b13.cell (p := ⟨b, off + (2 * j + 2), none⟩) hbl1).trans (HC1.out _ (by omega)), (b13.cell (p := ⟨b, off + (2 * j + 3), none⟩) hbl1).trans (HC1.out _ (by omega))⟩
       have hbl3 : b < w3.heap.size := Nat.lt_of_lt_of_le hbl1 b13.size
       have HNX : Hid (∀ m, numL y0 = some m → cn = m) := hnx
       clear b3 K1 d1 B1 B2 Q1 Q2 hnx Hb2 HC1 b13 HRA
       obtain ⟨nx, hnx'⟩ : ∃ nx, nx = numL x0 := ⟨_, rfl⟩
       obtain ⟨ny, hny'⟩ : ∃ ny, ny = numL y0 := ⟨_, rfl⟩
       rw [← hnx'] at HO HCX HB1 ⊢
       rw [← hny'] at HO HNX HB2 ⊢
       clear hnx' hny' HX0
       cases nx with
       | none =>
         have HZ : Hid (o = none) := by rw [Hid, HO.out]; exact rd_none1 _ _
         clear HO
         simp only [Option.isSome_none]
         obtain ⟨q0, q1, q2, q3, qf⟩ := rp_cells Q3.out
         have qf0 := qf 0
         have qf1 := qf 1
         have qf2 := qf 2
         have qf3 := qf 3
         clear qf
         go_wp2
         exact bodyPost_ret (v := .tuple #[.agg #[.int .i64 0, .string ⟨#[]⟩, .slice none 0 0, .slice none 0 0], .bool false]) (results_rp rfl _ _ w.heap.size 31 _ _ rfl (rp_quad (.int .i64 0) (.string ⟨#[]⟩) (.slice none 0 0) (.slice none 0 0) Q3.out) Tryz.underlying31 rfl (by kernel_rfl) (.bool false) rfl) rfl (rr_none HZ.out (quad_below B3 (Nat.le_refl _) _ _ _ _))
       | some ixn =>
         obtain rfl : cx = ixn := HCX.out ixn rfl
         have hix := HB1.out cx rfl
         simp only [Option.isSome_some]
         cases ny with
         | none =>
           have HZ : Hid (o = none) := by rw [Hid, HO.out]; exact rd_none2 _ _
           clear HO
           simp only [Option.isSome_none]
           obtain ⟨q0, q1, q2, q3, qf⟩ := rp_cells Q3.out
           have qf0 := qf 0
           have qf1 := qf 1
           have qf2 := qf 2
           have qf3 := qf 3
           clear qf
           go_wp2
           exact bodyPost_ret (v := .tuple #[.agg #[.int .i64 0, .string ⟨#[]⟩, .slice none 0 0, .slice none 0 0], .bool false]) (results_rp rfl _ _ w.heap.size 31 _ _ rfl (rp_quad (.int .i64 0) (.string ⟨#[]⟩) (.slice none 0 0) (.slice none 0 0) Q3.out) Tryz.underlying31 rfl (by kernel_rfl) (.bool false) rfl) rfl (rr_none HZ.out (quad_below B3 (Nat.le_refl _) _ _ _ _))
         | some n =>
           obtain rfl : cn = n := HNX.out n rfl
           have hnn := HB2.out cn rfl
           simp only [Option.isSome_some]
           obtain ⟨n, hn⟩ : ∃ n, n = cn := ⟨_, rfl⟩
           rw [← hn] at HO hnn ⊢
           clear HCX HNX HB1 HB2 hnb hn
           by_cases h6 : n ≤ 6
           · have h6b : decide ((6 : Int) < (n : Int)) = false := decide_eq_false (by omega)
             have h6' : ¬ (6 : Int) < (n : Int) := by omega
             have hw1 : IntKind.i64.wrap (2 * (n : Int)) = 2 * (n : Int) := i64_wrap_small _ (by omega) (by omega)
             have hw2 : IntKind.i64.wrap (2 + 2 * (n : Int)) = 2 + 2 * (n : Int) := i64_wrap_small _ (by omega) (by omega)
             by_cases hcnt : n ≤ rs.length
             · have hcb' : decide ((ts.length : Int) < 2 + 2 * (n : Int)) = false := decide_eq_false (by have := HK.out; omega)
               have hcn' : ¬ (ts.length : Int) < 2 + 2 * (n : Int) := by have := HK.out; omega
               have HNOB : Hid (∀ j (hj : j < rs.length), j < n → (numL rs[j].1 = none ∨ numL rs[j].2 = none) → o = none) := fun j hj hjn h => by
                rw [HO.out, rd_no (fun e => by rw [allP_bad rs n j hjn hcnt h] at e; cases e.2)]
               have HYES : Hid ((∀ j (hj : j < rs.length), j < n → ∃ a b, numL rs[j].1 = some a ∧ numL rs[j].2 = some b) → o = finR cx (sesL (rs.take n)) (rs.drop n)) := fun h => by rw [HO.out, rd_yes ⟨hcnt, allP_all rs n hcnt h⟩]
               have XE : Hid (Below w3.heap.size w3 (w3.alloc (.cells #[] 67))) := (Below.refl _ _).alloc (Nat.le_refl _) _
               have OE : Hid ((w3.alloc (.cells #[] 67)).ownsRow w3.heap.size 67 2 (.slice (some ⟨w3.heap.size, 0, none⟩) 0 0) 0 (secells (sesL (rs.take 0)))) := World.ownsRow_lit (e := 67) (size := 2) (base := w3.heap.size) w3 #[] 0 (Nat.le_refl _) (Nat.zero_le _) rfl
               clear HO
               go_wp2
               go_loopw [10, 11, 12, 13, 14, 15] (fun v i _ _ _ _ wr => ∃ j c2 g2 : Nat, j ≤ n ∧ i = .int .i64 (j : Int) ∧ v = .slice (some ⟨g2, 0, none⟩) j c2 ∧ wr.ownsRow w3.heap.size 67 2 (.slice (some ⟨g2, 0, none⟩) j c2) j (secells (sesL (rs.take j))) ∧ Hid (∀ k (hk : k < rs.length), k < j → ∃ a b, numL rs[k].1 = some a ∧ numL rs[k].2 = some b) ∧ Below w3.heap.size w3 wr) (fun _ i _ _ _ _ _ => n - (intOf i).toNat)
               case atStart => exact ⟨0, 0, w3.heap.size, Nat.zero_le _, rfl, rfl, OE.out, fun k _ hk => by omega, XE.out⟩
               case round =>
                obtain ⟨j, c2, g2, hj, rfl, rfl, hown, HA, hbel⟩ := hrel
                have hsz := hbel.size
                have hwb : Below w.heap.size w wr := B3.trans (hbel.mono B3.size)
                have Qr : Hid (wr.heap[w.heap.size]? = some (.cells #[.int .i64 0, .string ⟨#[]⟩, .slice none 0 0, .slice none 0 0] 31 (0, 0))) := (hbel.block w.heap.size (lt_of_block Q3.out)).trans Q3.out
                by_cases hlt : j < n
                · have hjr : j < rs.length := by omega
                  have d1 := (hbel.cell (p := ⟨b, off + (2 * j + 2), none⟩) hbl3).trans (HC3.out j hjr).1
                  have hd2 := (hbel.cell (p := ⟨b, off + (2 * j + 3), none⟩) hbl3).trans (HC3.out j hjr).2
                  have hj0 : (0 : Int) ≤ (j : Int) := by omega
                  have hj1 : (j : Int) < (n : Int) := by omega
                  obtain ⟨q, hq⟩ : ∃ q, q = 2 * j + 2 := ⟨_, rfl⟩
                  have hv1 : IntKind.i64.wrap (2 * (j : Int)) = 2 * (j : Int) := i64_wrap_small _ (by omega) (by omega)
                  have hv2 : IntKind.i64.wrap (2 + 2 * (j : Int)) = (q : Int) := by rw [i64_wrap_small _ (by omega) (by omega)]; omega
                  have hv3 : IntKind.i64.wrap (3 + 2 * (j : Int)) = ((q + 1 : Nat) : Int) := by rw [i64_wrap_small _ (by omega) (by omega)]; omega
                  have hv4 : (2 : Int) + 2 * (j : Int) = (q : Int) := by omega
                  have hv5 : (3 : Int) + 2 * (j : Int) = ((q + 1 : Nat) : Int) := by omega
                  have hq0 : (0 : Int) ≤ (q : Int) := by omega
                  have hq1 : (q : Int) < (ts.length : Int) := by have := HK.out; omega
                  have hq2 : ((q + 1 : Nat) : Int) < (ts.length : Int) := by have := HK.out; omega
                  have hq3 : (0 : Int) ≤ ((q + 1 : Nat) : Int) := by omega
                  have hq4 : ((q : Int)).toNat = q := by omega
                  have hq5 : (((q + 1 : Nat) : Int)).toNat = q + 1 := by omega
                  rw [← hq] at d1
                  rw [show 2 * j + 3 = q + 1 by omega] at hd2
                  have hmj := HM.out _ (List.getElem_mem (h := hjr))
                  have KX := fun W => spec_l1Int rs[j].1 W hmj.1
                  have KY := fun W => spec_l1Int rs[j].2 W hmj.2
                  have HNO : Hid ((numL rs[j].1 = none ∨ numL rs[j].2 = none) → o = none) := HNOB.out j hjr hlt
                  have HST : Hid (∀ a b, numL rs[j].1 = some a → numL rs[j].2 = some b → (secells (sesL (rs.take (j + 1))) = secells (sesL (rs.take j)) ++ [.int .i64 (a : Int), .int .i64 (b : Int)]) ∧ (∀ k (hk : k < rs.length), k < j + 1 → ∃ a b, numL rs[k].1 = some a ∧ numL rs[k].2 = some b)) := fun a b ha hb => by
                   refine ⟨by rw [sesL_take rs j hjr a b ha hb, secells_app]; rfl, fun k hk hkj => ?_⟩
                   by_cases e : k = j
                   · subst e; exact ⟨a, b, ha, hb⟩
                   · exact HA.out k hk (by omega)
                  obtain ⟨x, hx⟩ : ∃ x, x = rs[j].1 := ⟨_, rfl⟩
                  obtain ⟨y, hy⟩ : ∃ y, y = rs[j].2 := ⟨_, rfl⟩
                  rw [← hx] at d1 KX HNO HST
                  rw [← hy] at hd2 KY HNO HST
                  obtain ⟨mx, hmx⟩ : ∃ mx, mx = numL x := ⟨_, rfl⟩
                  obtain ⟨my, hmy⟩ : ∃ my, my = numL y := ⟨_, rfl⟩
                  rw [← hmx] at KX HNO HST
                  rw [← hmy] at KY HNO HST
                  have HD2 : Hid (wr.cell? ⟨b, off + (q + 1), none⟩ = some (.string ⟨y.toArray⟩)) := hd2
                  have hblr : b < wr.heap.size := Nat.lt_of_lt_of_le hbl3 hsz
                  have HOW := hidOwn hown
                  have HBE : Hid (Below w3.heap.size w3 wr) := hbel
                  have HQQ : Hid (q = 2 * j + 2) := hq
                  clear hx hy hmx hmy hmj HNOB HYES HA hown hbel hd2 hq XE OE
                  go_wp2_with fail
                  refine (KX _).mono ?_
                  rintro e w4 ⟨⟨va, rfl, hva, hvx⟩, b4⟩
                  have d2 := (b4.cell (p := ⟨b, off + (q + 1), none⟩) hblr).trans HD2.out
                  have HVX : Hid (∀ n, mx = some n → va = n) := hvx
                  have Hb4 : Hid (Below wr.heap.size wr w4) := b4
                  clear KX b4 hvx d1
                  go_wp2_with fail
                  refine (KY _).mono ?_
                  rintro e w5 ⟨⟨vb, rfl, hvb, hvy⟩, b5⟩
                  have X5 := Hb4.out.trans (b5.mono Hb4.out.size)
                  have B5 := HBE.out.trans (X5.mono hsz)
                  have W5 := hwb.trans (X5.mono hwb.size)
                  have Q5 : Hid (w5.heap[w.heap.size]? = some (.cells #[.int .i64 0, .string ⟨#[]⟩, .slice none 0 0, .slice none 0 0] 31 (0, 0))) := (X5.block w.heap.size (lt_of_block Qr.out)).trans Qr.out
                  have HVY : Hid (∀ n, my = some n → vb = n) := hvy
                  clear KY b5 hvy d2 Hb4 HD2
                  cases mx with
                  | none =>
                    have HZ : Hid (o = none) := HNO.out (.inl rfl)
                    simp only [Option.isSome_none]
                    obtain ⟨q0, q1, q2, q3, qf⟩ := rp_cells Q5.out
                    have qf0 := qf 0
                    have qf1 := qf 1
                    have qf2 := qf 2
                    have qf3 := qf 3
                    clear qf
                    clear HST HNO
                    go_wp2
                    exact bodyPost_ret (v := .tuple #[.agg #[.int .i64 0, .string ⟨#[]⟩, .slice none 0 0, .slice none 0 0], .bool false]) (results_rp rfl _ _ w.heap.size 31 _ _ rfl (rp_quad (.int .i64 0) (.string ⟨#[]⟩) (.slice none 0 0) (.slice none 0 0) Q5.out) Tryz.underlying31 rfl (by kernel_rfl) (.bool false) rfl) rfl (rr_none HZ.out (quad_below W5 (Nat.le_refl _) _ _ _ _))
                  | some ca =>
                    obtain rfl : va = ca := HVX.out ca rfl
                    simp only [Option.isSome_some]
                    cases my with
                    | none =>
                      have HZ : Hid (o = none) := HNO.out (.inr rfl)
                      simp only [Option.isSome_none]
                      obtain ⟨q0, q1, q2, q3, qf⟩ := rp_cells Q5.out
                      have qf0 := qf 0
                      have qf1 := qf 1
                      have qf2 := qf 2
                      have qf3 := qf 3
                      clear qf
                      clear HST HNO
                      go_wp2
                      exact bodyPost_ret (v := .tuple #[.agg #[.int .i64 0, .string ⟨#[]⟩, .slice none 0 0, .slice none 0 0], .bool false]) (results_rp rfl _ _ w.heap.size 31 _ _ rfl (rp_quad (.int .i64 0) (.string ⟨#[]⟩) (.slice none 0 0) (.slice none 0 0) Q5.out) Tryz.underlying31 rfl (by kernel_rfl) (.bool false) rfl) rfl (rr_none HZ.out (quad_below W5 (Nat.le_refl _) _ _ _ _))
                    | some cb =>
                      obtain rfl : vb = cb := HVY.out cb rfl
                      simp only [Option.isSome_some]
                      obtain ⟨HS1, HS2⟩ := HST.out va vb rfl rfl
                      have HS1' : Hid (_ = _) := HS1
                      have HS2' : Hid (∀ k (hk : k < rs.length), k < j + 1 → ∃ a b, numL rs[k].1 = some a ∧ numL rs[k].2 = some b) := HS2
                      have hown3 := (kept2 HOW.out X5).alloc (.cells #[.int .i64 (va : Int), .int .i64 (vb : Int)] 67)
                      have B5a := B5.alloc B5.size (.cells #[.int .i64 (va : Int), .int .i64 (vb : Int)] 67)
                      have hs5 := B5.size
                      have hlow : ∀ k, (Value.slice (some ⟨g2, 0, none⟩) j c2).ownBlock = some k → w3.heap.size ≤ k := fun k hk => (HOW.out.lt k hk).1
                      clear X5 HOW HBE HST HNO HS1 HS2 HVX HVY
                      go_wp2_with (at_builtin; refine wpList_append_lies _ rfl _ _ 29 rfl w3.heap.size 67 i0 (.agg #[.int .i64 0, .int .i64 0]) 2 16 Tryz.underlying29 hi0 hz0 hz1 hz2 rfl (by decide) (.slice (some ⟨g2, 0, none⟩) j c2) j _ rfl hown3 ⟨w5.heap.size, 0, none⟩ 1 1 [.int .i64 (va : Int), .int .i64 (vb : Int)] rfl rfl (World.news_of_block (cs := #[.int .i64 (va : Int), .int .i64 (vb : Int)]) (t := 67) (fr := (0, 0)) (heap_alloc_new w5 _)) (by simp [Value.oneCell']) (by omega) (by unfold maxLen; omega) (by omega) (by simp; omega) (w5.heap.size + 1) (by simp) ?_; intro g3 cap3 w6 hown6 hgrow hat hlt6)
                      have hbel6 : Below w3.heap.size w3 w6 := B5a.grown hgrow (by simp; omega) hlow
                      have HO6 : Hid (w6.ownsRow w3.heap.size 67 2 (.slice (some ⟨g3, 0, none⟩) (j + 1) cap3) (j + 1) (secells (sesL (rs.take (j + 1))))) := by rw [Hid, HS1'.out]; exact hown6
                      clear hgrow hown6 hown3 B5a
                      first | go_roundw | (go_wp2; go_roundw)
                      case rel => exact ⟨j + 1, cap3, g3, by omega, by go_num, rfl, HO6.out, HS2'.out, hbel6⟩
                      case measure => simp [intOf]; omega
                · have hjl : j = n := by omega
                  subst hjl
                  have HF : Hid (o = finR cx (sesL (rs.take j)) (rs.drop j)) := HYES.out (fun k hk hkj => HA.out k hk hkj)
                  have HOS := hidOwn hown
                  have HBE : Hid (Below w3.heap.size w3 wr) := hbel
                  have XP : Hid (Below wr.heap.size wr (wr.alloc (.cells #[] 60))) := (Below.refl _ _).alloc (Nat.le_refl _) _
                  have OP : Hid ((wr.alloc (.cells #[] 60)).ownsRow wr.heap.size 60 2 (.slice (some ⟨wr.heap.size, 0, none⟩) 0 0) 0 (pcells ((rs.drop j).take 0))) := World.ownsRow_lit (e := 60) (size := 2) (base := wr.heap.size) wr #[] 0 (Nat.le_refl _) (Nat.zero_le _) rfl
                  obtain ⟨wj, hwj⟩ : ∃ W, W = wr := ⟨_, rfl⟩
                  obtain ⟨dl, hdl⟩ : ∃ dl, dl = rs.drop j := ⟨_, rfl⟩
                  have hdlen : dl.length = k - j := by rw [hdl, List.length_drop, hrl]
                  have HCD : Hid (∀ i (h : i < dl.length), wj.cell? ⟨b, off + (2 * (j + i) + 2), none⟩ = some (.string ⟨dl[i].1.toArray⟩) ∧ wj.cell? ⟨b, off + (2 * (j + i) + 3), none⟩ = some (.string ⟨dl[i].2.toArray⟩)) := fun i h => by
                   have := HC3.out (j + i) (by omega)
                   simp only [hdl, List.getElem_drop]
                   rw [hwj]
                   exact ⟨(hbel.cell (p := ⟨b, off + (2 * (j + i) + 2), none⟩) hbl3).trans this.1, (hbel.cell (p := ⟨b, off + (2 * (j + i) + 3), none⟩) hbl3).trans this.2⟩
                  have HMD : Hid (∀ p ∈ dl, p.1.length ≤ 1048576 ∧ p.2.length ≤ 1048576) := fun p hp => HM.out p (List.mem_of_mem_drop (by rw [← hdl]; exact hp))
                  have hblj : b < wj.heap.size := by rw [hwj]; exact Nat.lt_of_lt_of_le hbl3 hsz
                  rw [← hwj] at XP OP HOS HBE Qr hwb ⊢
                  rw [← hdl] at OP HF
                  have hsl : (sesL (rs.take j)).length = j := by rw [sesL_length, List.length_take]; omega
                  obtain ⟨ses, hses⟩ : ∃ ses, ses = sesL (rs.take j) := ⟨_, rfl⟩
                  rw [← hses] at HOS HF hsl
                  have HWB : Hid (Below w.heap.size w wj) := hwb
                  have hd60 : dl.length ≤ 1048576 := by have := HK.out; omega
                  have HDL : Hid (dl.length = k - j) := hdlen
                  clear hdlen hown hbel HNOB HYES HA HC3 HM hdl hwj hses XE OE hwb
                  go_wp2
                  go_loopw [16, 17] (fun v i wr => ∃ i2 q c3 g3 : Nat, i2 ≤ dl.length ∧ Hid (q = 2 * (j + i2) + 2) ∧ i = .int .i64 (q : Int) ∧ v = .slice (some ⟨g3, 0, none⟩) i2 c3 ∧ wr.ownsRow wj.heap.size 60 2 (.slice (some ⟨g3, 0, none⟩) i2 c3) i2 (pcells (dl.take i2)) ∧ Below wj.heap.size wj wr) (fun _ i _ => ts.length - (intOf i).toNat)
                  case atStart => exact ⟨0, 2 * j + 2, 0, wj.heap.size, Nat.zero_le _, rfl, by simp only [Value.int.injEq, true_and]; omega, rfl, OP.out, XP.out⟩
                  case round =>
                   obtain ⟨i2, q, c3, g3, hi2, HQ2, rfl, rfl, hown, hbel⟩ := hrel
                   have hsz := hbel.size
                   have hqk := HQ2.out
                   have hkk := HK.out
                   have hdk := HDL.out
                   by_cases hlt2 : i2 < dl.length
                   · obtain ⟨r, hr⟩ : ∃ r, r = q + 1 := ⟨_, rfl⟩
                     have hz1 : IntKind.i64.wrap ((q : Int) + 1) = (r : Int) := by rw [i64_wrap_small _ (by omega) (by omega)]; omega
                     have hz2' : (q : Int) + 1 = (r : Int) := by omega
                     have hzw : IntKind.i64.wrap (r : Int) = (r : Int) := i64_wrap_small _ (by omega) (by omega)
                     have hz3 : (r : Int) < (ts.length : Int) := by omega
                     have hz4 : (q : Int) < (ts.length : Int) := by omega
                     have hz5 : (0 : Int) ≤ (q : Int) := by omega
                     have hz6 : (0 : Int) ≤ (r : Int) := by omega
                     have hz7 : ((q : Int)).toNat = q := by omega
                     have hz8 : ((r : Int)).toNat = r := by omega
                     obtain ⟨d1', d2'⟩ := HCD.out i2 hlt2
                     rw [← hqk] at d1'
                     rw [show 2 * (j + i2) + 3 = r by omega] at d2'
                     have d1 := (hbel.cell (p := ⟨b, off + q, none⟩) hblj).trans d1'
                     have d2 := (hbel.cell (p := ⟨b, off + r, none⟩) hblj).trans d2'
                     have HTK : Hid (pcells (dl.take (i2 + 1)) = pcells (dl.take i2) ++ [.string ⟨dl[i2].1.toArray⟩, .string ⟨dl[i2].2.toArray⟩]) := by rw [Hid, take_snocP dl i2 hlt2, pcells_app]; rfl
                     obtain ⟨x, hx⟩ : ∃ x, x = dl[i2].1 := ⟨_, rfl⟩
                     obtain ⟨y, hy⟩ : ∃ y, y = dl[i2].2 := ⟨_, rfl⟩
                     rw [← hx] at d1 HTK
                     rw [← hy] at d2 HTK
                     have hbr : b < wr.heap.size := Nat.lt_of_lt_of_le hblj hsz
                     have Sr : Hid (wr.cell? ⟨b, off + q, none⟩ = some (.string ⟨x.toArray⟩) ∧ wr.cell? ⟨b, off + r, none⟩ = some (.string ⟨y.toArray⟩)) := ⟨d1, d2⟩
                     have Srd : Hid (wr.drew.cell? ⟨b, off + q, none⟩ = some (.string ⟨x.toArray⟩) ∧ wr.drew.cell? ⟨b, off + r, none⟩ = some (.string ⟨y.toArray⟩)) := ⟨d1, d2⟩
                     have Sa : Hid ((wr.alloc (.cells #[.string ⟨x.toArray⟩, .string ⟨y.toArray⟩] 60)).drew.cell? ⟨b, off + q, none⟩ = some (.string ⟨x.toArray⟩) ∧ (wr.alloc (.cells #[.string ⟨x.toArray⟩, .string ⟨y.toArray⟩] 60)).drew.cell? ⟨b, off + r, none⟩ = some (.string ⟨y.toArray⟩)) := ⟨(World.cell?_alloc_lt wr _ ⟨b, off + q, none⟩ hbr).trans d1, (World.cell?_alloc_lt wr _ ⟨b, off + r, none⟩ hbr).trans d2⟩
                     have Oa : Hid ((wr.alloc (.cells #[.string ⟨x.toArray⟩, .string ⟨y.toArray⟩] 60)).drew.ownsRow wj.heap.size 60 2 (.slice (some ⟨g3, 0, none⟩) i2 c3) i2 (pcells (dl.take i2))) := hown.alloc _
                     have Na : Hid (∀ q u, [Value.string ⟨x.toArray⟩, Value.string ⟨y.toArray⟩][q]? = some u → (wr.alloc (.cells #[.string ⟨x.toArray⟩, .string ⟨y.toArray⟩] 60)).drew.cell? ((⟨wr.heap.size, 0, none⟩ : Addr).add q) = some u) := World.news_of_block (cs := #[.string ⟨x.toArray⟩, .string ⟨y.toArray⟩]) (t := 60) (fr := (0, 0)) (heap_alloc_new wr _)
                     have Ba : Hid (Below wj.heap.size wj (wr.alloc (.cells #[.string ⟨x.toArray⟩, .string ⟨y.toArray⟩] 60)).drew) := (fun h => ⟨h.os, h.tape, h.output, h.size, h.block⟩ : Below wj.heap.size wj (wr.alloc (.cells #[.string ⟨x.toArray⟩, .string ⟨y.toArray⟩] 60)) → Below wj.heap.size wj (wr.alloc (.cells #[.string ⟨x.toArray⟩, .string ⟨y.toArray⟩] 60)).drew) (hbel.alloc hsz _)
                     have Za : Hid (wj.heap.size ≤ (wr.alloc (.cells #[.string ⟨x.toArray⟩, .string ⟨y.toArray⟩] 60)).heap.size) := by rw [Hid]; simp; omega
                     have HLO : Hid (∀ k, (Value.slice (some ⟨g3, 0, none⟩) i2 c3).ownBlock = some k → wj.heap.size ≤ k) := fun k hk => (hown.lt k hk).1
                     have HKB : Hid ((Value.slice (some ⟨g3, 0, none⟩) i2 c3).ownBlock ≠ some b) := fun e => by have := HLO.out _ e; omega
                     have hb3 : Hid (b < (wr.alloc (.cells #[.string ⟨x.toArray⟩, .string ⟨y.toArray⟩] 60)).heap.size) := by rw [Hid]; simp; omega
                     clear hx hy hown hbel d1' d2' HCD hkk hqk hr hdk
                     go_wp2_with fail
                     go_region_held3 (fun w' => w'.cell? ⟨b, off + q, none⟩ = some (.string ⟨x.toArray⟩) ∧ w'.cell? ⟨b, off + r, none⟩ = some (.string ⟨y.toArray⟩))
                      (first | with_reducible exact S4.out | with_reducible exact Sa.out | with_reducible exact Sr.out | with_reducible exact Srd.out)
                      ((refine step_append_lies _ rfl (.tmp 120) (.tmp 131) 35 rfl wj.heap.size 60 j0 (.agg #[.string ⟨#[]⟩, .string ⟨#[]⟩]) 2 32 Tryz.underlying35 hj0i hy0z hy1 hy2 rfl (by decide) (.slice (some ⟨g3, 0, none⟩) i2 c3) i2 (pcells (dl.take i2)) (by simp [Act.eval]) Oa.out ⟨wr.heap.size, 0, none⟩ 1 1 [.string ⟨x.toArray⟩, .string ⟨y.toArray⟩] (by simp [Act.eval]) rfl Na.out (by simp [Value.oneCell']) (by decide) (by unfold maxLen; omega) (by omega) Za.out _ rfl ?_
                        intro g4 c4 wg hown4 hgrow4 hat4 hlt4
                        have HO4 : Hid (wg.ownsRow wj.heap.size 60 2 (.slice (some ⟨g4, 0, none⟩) (i2 + 1) c4) (i2 + 1) (pcells (dl.take (i2 + 1)))) := by rw [Hid, HTK.out]; exact hown4
                        have B4 : Hid (Below wj.heap.size wj wg) := Ba.out.grown hgrow4 Za.out HLO.out
                        have S4 : Hid (wg.cell? ⟨b, off + q, none⟩ = some (.string ⟨x.toArray⟩) ∧ wg.cell? ⟨b, off + r, none⟩ = some (.string ⟨y.toArray⟩)) := ⟨(hgrow4.cell_far ⟨b, off + q, none⟩ hb3.out HKB.out.symm).trans Sa.out.1, (hgrow4.cell_far ⟨b, off + r, none⟩ hb3.out HKB.out.symm).trans Sa.out.2⟩
                        clear hown4 hgrow4 hat4 hlt4))
                     all_goals
                      clear Sa Oa Na Ba Sr
                      obtain ⟨q2, hq2⟩ : ∃ q2, q2 = q + 2 := ⟨_, rfl⟩
                      have hz9 : IntKind.i64.wrap ((q : Int) + 2) = (q2 : Int) := by rw [i64_wrap_small _ (by omega) (by omega)]; omega
                      have hz10 : (q : Int) + 2 = (q2 : Int) := by omega
                      have hz11 : IntKind.i64.wrap (q2 : Int) = (q2 : Int) := i64_wrap_small _ (by omega) (by omega)
                      have HQ3 : Hid (q2 = q + 2) := hq2
                      clear hq2
                      go_wp2
                      go_roundw
                      case rel => exact ⟨i2 + 1, q2, c4, g4, by omega, by rw [Hid]; have := HQ2.out; have := HQ3.out; omega, by first | rfl | go_num, rfl, HO4.out, B4.out⟩
                      case measure => have := HQ2.out; have := HQ3.out; have := HK.out; have := HDL.out; simp [intOf]; omega
                   · have hi2e : i2 = dl.length := by omega
                     subst hi2e
                     rw [List.take_length] at hown
                     have hz1 : IntKind.i64.wrap ((q : Int) + 1) = (q : Int) + 1 := i64_wrap_small _ (by omega) (by omega)
                     have hz2' : ¬ (q : Int) + 1 < (ts.length : Int) := by omega
                     have hz3 : decide ((q : Int) + 1 < (ts.length : Int)) = false := decide_eq_false hz2'
                     have ID := (isPairs_own hown).2.2
                     have OS := kept2 HOS.out hbel
                     have WR := HWB.out.trans (hbel.mono HWB.out.size)
                     have QR : Hid (wr.heap[w.heap.size]? = some (.cells #[.int .i64 0, .string ⟨#[]⟩, .slice none 0 0, .slice none 0 0] 31 (0, 0))) := (hbel.block w.heap.size (lt_of_block Qr.out)).trans Qr.out
                     have K5 := spec_l10Sessions (some ⟨g2, 0, none⟩) c2 ses wr (by omega) (isSess_own OS).2.2
                     have HK6 : Hid (∀ W, Below wr.heap.size wr W → _) := fun W hW => spec_pairsOk (some ⟨g3, 0, none⟩) c3 dl W hd60 HMD.out (ID.later hW)
                     have HK7 : Hid (pairsOkL dl = true → ∀ W, Below wr.heap.size wr W → _) := fun hp W hW => spec_l10Of cx (some ⟨g2, 0, none⟩) j c2 (some ⟨g3, 0, none⟩) c3 dl W hp (ID.later hW)
                     have HOSr := hidOwn OS
                     rw [hsl] at K5
                     have HF1 : Hid (sessOk ses = false → o = none) := fun h => by rw [HF.out, fin_no1 h]
                     have HF2 : Hid (rootOk dl = false → o = none) := fun h => by rw [HF.out, fin_no2 h]
                     have HF3 : Hid (sessOk ses = true → rootOk dl = true → o = some ((cx : Int), rootR dl, nodesR dl, ses)) := fun h1 h2 => by rw [HF.out, fin_yes h1 h2]
                     have HPR : Hid (pairsOkL dl = false → rootOk dl = false) := fun h => by simp [rootOk, h]
                     clear HF hown hbel HCD HMD ID OS hqk hkk hdk
                     cases hso : sessOk ses with
                     | false =>
                       have HZ : Hid (o = none) := HF1.out hso
                       rw [hso] at K5
                       clear HF1 HF2 HF3 HPR HK6 HK7 hso
                       go_wp2_with fail
                       refine K5.mono ?_
                       rintro e w6 ⟨rfl, b6⟩
                       have W6 := WR.trans (b6.mono WR.size)
                       have Q6 : Hid (w6.heap[w.heap.size]? = some (.cells #[.int .i64 0, .string ⟨#[]⟩, .slice none 0 0, .slice none 0 0] 31 (0, 0))) := (b6.block w.heap.size (lt_of_block QR.out)).trans QR.out
                       obtain ⟨q0, q1, q2, q3, qf⟩ := rp_cells Q6.out
                       have qf0 := qf 0
                       have qf1 := qf 1
                       have qf2 := qf 2
                       have qf3 := qf 3
                       clear qf
                       clear b6 K5
                       go_wp2
                       exact bodyPost_ret (v := .tuple #[.agg #[.int .i64 0, .string ⟨#[]⟩, .slice none 0 0, .slice none 0 0], .bool false]) (results_rp rfl _ _ w.heap.size 31 _ _ rfl (rp_quad (.int .i64 0) (.string ⟨#[]⟩) (.slice none 0 0) (.slice none 0 0) Q6.out) Tryz.underlying31 rfl (by kernel_rfl) (.bool false) rfl) rfl (rr_none HZ.out (quad_below W6 (Nat.le_refl _) _ _ _ _))
                     | true =>
                       rw [hso] at K5
                       cases hpo : pairsOkL dl with
                       | false =>
                         have HZ : Hid (o = none) := HF2.out (HPR.out hpo)
                         rw [hpo] at HK6
                         clear HF1 HF2 HF3 HPR HK7 hso hpo
                         go_wp2_with fail
                         refine K5.mono ?_
                         rintro e w6 ⟨rfl, b6⟩
                         have K6 := HK6.out w6 b6
                         have W6 := WR.trans (b6.mono WR.size)
                         have Q6 : Hid (w6.heap[w.heap.size]? = some (.cells #[.int .i64 0, .string ⟨#[]⟩, .slice none 0 0, .slice none 0 0] 31 (0, 0))) := (b6.block w.heap.size (lt_of_block QR.out)).trans QR.out
                         clear b6 K5 HK6
                         go_wp2_with fail
                         refine K6.mono ?_
                         rintro e w7 ⟨rfl, b7⟩
                         have W7 := W6.trans (b7.mono W6.size)
                         have Q7 : Hid (w7.heap[w.heap.size]? = some (.cells #[.int .i64 0, .string ⟨#[]⟩, .slice none 0 0, .slice none 0 0] 31 (0, 0))) := (b7.block w.heap.size (lt_of_block Q6.out)).trans Q6.out
                         obtain ⟨q0, q1, q2, q3, qf⟩ := rp_cells Q7.out
                         have qf0 := qf 0
                         have qf1 := qf 1
                         have qf2 := qf 2
                         have qf3 := qf 3
                         clear qf
                         clear b7 K6
                         go_wp2
                         exact bodyPost_ret (v := .tuple #[.agg #[.int .i64 0, .string ⟨#[]⟩, .slice none 0 0, .slice none 0 0], .bool false]) (results_rp rfl _ _ w.heap.size 31 _ _ rfl (rp_quad (.int .i64 0) (.string ⟨#[]⟩) (.slice none 0 0) (.slice none 0 0) Q7.out) Tryz.underlying31 rfl (by kernel_rfl) (.bool false) rfl) rfl (rr_none HZ.out (quad_below W7 (Nat.le_refl _) _ _ _ _))
                       | true =>
                         rw [hpo] at HK6
                         have HK8 : Hid (∀ W, Below wr.heap.size wr W → Calls Tryz.prog 49 #[.int .i64 (cx : Int), .slice (some ⟨g3, 0, none⟩) dl.length c3, .slice (some ⟨g2, 0, none⟩) j c2] W fun e w' => match rootOk dl with
                          | false => e = .returned (.tuple #[.agg #[.int .i64 0, .string ⟨#[]⟩, .slice none 0 0, .slice none 0 0], .bool false]) ∧ Below W.heap.size W w'
                          | true => ∃ (a' : Option Addr) (c' : Nat), e = .returned (.tuple #[.agg #[.int .i64 (cx : Int), .string ⟨(rootR dl).toArray⟩, .slice a' (nodesR dl).length c', .slice (some ⟨g2, 0, none⟩) j c2], .bool true]) ∧ w'.ownsRow W.heap.size 57 2 (.slice a' (nodesR dl).length c') (nodesR dl).length (pcells (nodesR dl)) ∧ Below W.heap.size W w') := HK7.out hpo
                         have HG3 : Hid (rootOk dl = true → o = some ((cx : Int), rootR dl, nodesR dl, ses)) := HF3.out hso
                         have HG2 : Hid (rootOk dl = false → o = none) := HF2.out
                         obtain ⟨ns, hns⟩ : ∃ ns, ns = nodesR dl := ⟨_, rfl⟩
                         obtain ⟨rt, hrt⟩ : ∃ rt, rt = rootR dl := ⟨_, rfl⟩
                         obtain ⟨ok, hok⟩ : ∃ ok, ok = rootOk dl := ⟨_, rfl⟩
                         rw [← hns, ← hrt, ← hok] at HK8 HG3
                         rw [← hok] at HG2
                         clear HF1 HF2 HF3 HPR HK7 hso hpo hns hrt hok
                         have HSL : Hid (ses.length = j) := hsl
                         cases ok with
                         | false =>
                           have HZ : Hid (o = none) := HG2.out rfl
                           clear HG2 HG3
                           go_wp2_with fail
                           refine K5.mono ?_
                           rintro e w6 ⟨rfl, b6⟩
                           have K6 := HK6.out w6 b6
                           have W6 := WR.trans (b6.mono WR.size)
                           have Q6 : Hid (w6.heap[w.heap.size]? = some (.cells #[.int .i64 0, .string ⟨#[]⟩, .slice none 0 0, .slice none 0 0] 31 (0, 0))) := (b6.block w.heap.size (lt_of_block QR.out)).trans QR.out
                           have Hb6 : Hid (Below wr.heap.size wr w6) := b6
                           clear b6 K5 HK6
                           go_wp2_with fail
                           refine K6.mono ?_
                           rintro e w7 ⟨rfl, b7⟩
                           have W7 := W6.trans (b7.mono W6.size)
                           have Q7 : Hid (w7.heap[w.heap.size]? = some (.cells #[.int .i64 0, .string ⟨#[]⟩, .slice none 0 0, .slice none 0 0] 31 (0, 0))) := (b7.block w.heap.size (lt_of_block Q6.out)).trans Q6.out
                           have K8 := HK8.out w7 (Hb6.out.trans (b7.mono Hb6.out.size))
                           clear b7 K6 HK8 Hb6
                           go_wp2_with fail
                           refine K8.mono ?_
                           rintro e w8 ⟨rfl, b8⟩
                           have W8 := W7.trans (b8.mono W7.size)
                           have Q8 : Hid (w8.heap[w.heap.size]? = some (.cells #[.int .i64 0, .string ⟨#[]⟩, .slice none 0 0, .slice none 0 0] 31 (0, 0))) := (b8.block w.heap.size (lt_of_block Q7.out)).trans Q7.out
                           obtain ⟨q0, q1, q2, q3, qf⟩ := rp_cells Q8.out
                           have qf0 := qf 0
                           have qf1 := qf 1
                           have qf2 := qf 2
                           have qf3 := qf 3
                           clear qf
                           clear b8 K8
                           go_wp2
                           exact bodyPost_ret (v := .tuple #[.agg #[.int .i64 0, .string ⟨#[]⟩, .slice none 0 0, .slice none 0 0], .bool false]) (results_rp rfl _ _ w.heap.size 31 _ _ rfl (rp_quad (.int .i64 0) (.string ⟨#[]⟩) (.slice none 0 0) (.slice none 0 0) Q8.out) Tryz.underlying31 rfl (by kernel_rfl) (.bool false) rfl) rfl (rr_none HZ.out (quad_below W8 (Nat.le_refl _) _ _ _ _))
                         | true =>
                           have HZ : Hid (o = some ((cx : Int), rt, ns, ses)) := HG3.out rfl
                           clear HG2 HG3
                           go_wp2_with fail
                           refine K5.mono ?_
                           rintro e w6 ⟨rfl, b6⟩
                           have K6 := HK6.out w6 b6
                           have W6 := WR.trans (b6.mono WR.size)
                           have Q6 : Hid (w6.heap[w.heap.size]? = some (.cells #[.int .i64 0, .string ⟨#[]⟩, .slice none 0 0, .slice none 0 0] 31 (0, 0))) := (b6.block w.heap.size (lt_of_block QR.out)).trans QR.out
                           have Hb6 : Hid (Below wr.heap.size wr w6) := b6
                           clear b6 K5 HK6
                           go_wp2_with fail
                           refine K6.mono ?_
                           rintro e w7 ⟨rfl, b7⟩
                           have W7 := W6.trans (b7.mono W6.size)
                           have Q7 : Hid (w7.heap[w.heap.size]? = some (.cells #[.int .i64 0, .string ⟨#[]⟩, .slice none 0 0, .slice none 0 0] 31 (0, 0))) := (b7.block w.heap.size (lt_of_block Q6.out)).trans Q6.out
                           have X7 := Hb6.out.trans (b7.mono Hb6.out.size)
                           have K8 := HK8.out w7 X7
                           have OS7 := hidOwn (kept2 HOSr.out X7)
                           clear b7 K6 HK8 Hb6
                           go_wp2_with fail
                           refine K8.mono ?_
                           rintro e w8 ⟨a8, c8, rfl, o8, b8⟩
                           have W8 := W7.trans (b8.mono W7.size)
                           have Q8 : Hid (w8.heap[w.heap.size]? = some (.cells #[.int .i64 0, .string ⟨#[]⟩, .slice none 0 0, .slice none 0 0] 31 (0, 0))) := (b8.block w.heap.size (lt_of_block Q7.out)).trans Q7.out
                           obtain ⟨q0, q1, q2, q3, qf⟩ := rp_cells Q8.out
                           have qf0 := qf 0
                           have qf1 := qf 1
                           have qf2 := qf 2
                           have qf3 := qf 3
                           clear qf
                           have OS8 := hidOwn (kept2 OS7.out b8)
                           have OO8 := hidOwn o8
                           have hw7 : w.heap.size < w7.heap.size := lt_of_block Q7.out
                           have hw3 : w.heap.size < w3.heap.size := lt_of_block Q3.out
                           have N1 : Hid ((Value.slice a8 ns.length c8).ownBlock ≠ some w.heap.size) := fun e => by have := (OO8.out.lt _ e).1; omega
                           have N2 : Hid ((Value.slice (some ⟨g2, 0, none⟩) j c2).ownBlock ≠ some w.heap.size) := fun e => by have := (OS8.out.lt _ e).1; omega
                           have N3 : Hid (∀ q, (Value.slice a8 ns.length c8).ownBlock = some q → (Value.slice (some ⟨g2, 0, none⟩) j c2).ownBlock ≠ some q) := fun q h1 h2 => by
                            have g1 := (OO8.out.lt q h1).1
                            have g2' := (OS7.out.lt q h2).2
                            omega
                           clear b8 K8 o8
                           go_wp2
                           exact bodyPost_ret (v := .tuple #[.agg #[.int .i64 (cx : Int), .string ⟨rt.toArray⟩, .slice a8 ns.length c8, .slice (some ⟨g2, 0, none⟩) j c2], .bool true]) (results_rp rfl _ _ w.heap.size 31 _ _ rfl (rp_quad (.int .i64 (cx : Int)) (.string ⟨rt.toArray⟩) (.slice a8 ns.length c8) (.slice (some ⟨g2, 0, none⟩) j c2) Q8.out) Tryz.underlying31 rfl (by kernel_rfl) (.bool true) rfl) rfl (by
                            rw [HZ.out]
                            refine ⟨a8, ns.length, c8, some ⟨g2, 0, none⟩, j, c2, rfl, ?_, ?_, N3.out, quad_below W8 (Nat.le_refl _) _ _ _ _⟩
                            · exact quad_own (OO8.out.mono (by omega)) N1.out _ _ _ _
                            · show World.ownsRow _ _ _ _ _ ses.length (secells ses)
                              rw [HSL.out]
                              exact quad_own (OS8.out.mono (by omega)) N2.out _ _ _ _)
             · have hcb' : decide ((ts.length : Int) < 2 + 2 * (n : Int)) = true := decide_eq_true (by have := HK.out; omega)
               have hcn' : (ts.length : Int) < 2 + 2 * (n : Int) := by have := HK.out; omega
               have HZ : Hid (o = none) := by rw [Hid, HO.out, rd_no (fun e => hcnt e.1)]
               clear HO
               obtain ⟨q0, q1, q2, q3, qf⟩ := rp_cells Q3.out
               have qf0 := qf 0
               have qf1 := qf 1
               have qf2 := qf 2
               have qf3 := qf 3
               clear qf
               go_wp2
               exact bodyPost_ret (v := .tuple #[.agg #[.int .i64 0, .string ⟨#[]⟩, .slice none 0 0, .slice none 0 0], .bool false]) (results_rp rfl _ _ w.heap.size 31 _ _ rfl (rp_quad (.int .i64 0) (.string ⟨#[]⟩) (.slice none 0 0) (.slice none 0 0) Q3.out) Tryz.underlying31 rfl (by kernel_rfl) (.bool false) rfl) rfl (rr_none HZ.out (quad_below B3 (Nat.le_refl _) _ _ _ _))
           · have h6b : decide ((6 : Int) < (n : Int)) = true := decide_eq_true (by omega)
             have h6' : (6 : Int) < (n : Int) := by omega
             have HZ : Hid (o = none) := by rw [Hid, HO.out]; exact rd_big (by omega)
             clear HO
             obtain ⟨q0, q1, q2, q3, qf⟩ := rp_cells Q3.out
             have qf0 := qf 0
             have qf1 := qf 1
             have qf2 := qf 2
             have qf3 := qf 3
             clear qf
             go_wp2
             exact bodyPost_ret (v := .tuple #[.agg #[.int .i64 0, .string ⟨#[]⟩, .slice none 0 0, .slice none 0 0], .bool false]) (results_rp rfl _ _ w.heap.size 31 _ _ rfl (rp_quad (.int .i64 0) (.string ⟨#[]⟩) (.slice none 0 0) (.slice none 0 0) Q3.out) Tryz.underlying31 rfl (by kernel_rfl) (.bool false) rfl) rfl (rr_none HZ.out (quad_below B3 (Nat.le_refl _) _ _ _ _))
end Go.Proofs.YthnddgdnialogaaGreatDoor
