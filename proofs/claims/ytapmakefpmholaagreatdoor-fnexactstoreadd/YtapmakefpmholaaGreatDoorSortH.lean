/-
  Contracts: nodes are sorted by hash (slices.SortFunc of stored; written by mksorth.py).
-/
import Derived.Test.YtapmakefpmholaaGreatDoorCmp
import Derived.Test.YtapmakefpmholaaGreatDoorShelfS
import Derived.Test.YtapmakefpmholaaGreatDoorStAll
import Derived.Deep.RegionHeld3
import Derived.Lib.SliceRun
namespace Go.Proofs.YtapmakefpmholaaGreatDoor
open Go.RowKit
set_option linter.unusedVariables false

theorem new_cell9 (w : World) (cs : Array Value) (t : TypeId) (k : Nat) (v : Value) (h : cs[k]? = some v) : (w.alloc (.cells cs t)).cell? ⟨w.heap.size, k, none⟩ = some v := by
  have hb := heap_alloc_new w (.cells cs t)
  simp only [World.cell?, hb]
  simpa using h

theorem st_cells (W : World) (ca cb : Array Value) (t : TypeId) (a0 a1 b0 b1 : Value) (ha0 : ca[0]? = some a0) (ha1 : ca[1]? = some a1) (hb0 : cb[0]? = some b0) (hb1 : cb[1]? = some b1) :
    ((W.alloc (.cells ca t)).alloc (.cells cb t)).cell? ⟨W.heap.size, 0, none⟩ = some a0 ∧ ((W.alloc (.cells ca t)).alloc (.cells cb t)).cell? ⟨W.heap.size, 1, none⟩ = some a1 ∧
    ((W.alloc (.cells ca t)).alloc (.cells cb t)).cell? ⟨W.heap.size + 1, 0, none⟩ = some b0 ∧ ((W.alloc (.cells ca t)).alloc (.cells cb t)).cell? ⟨W.heap.size + 1, 1, none⟩ = some b1 := by
  have h1 : ((W.alloc (.cells ca t)).alloc (.cells cb t)).heap[W.heap.size]? = some (.cells ca t (0, 0)) := by
    rw [Below.heap_alloc _ _ _ (by simp)]; exact heap_alloc_new W _
  have h2 : ((W.alloc (.cells ca t)).alloc (.cells cb t)).heap[W.heap.size + 1]? = some (.cells cb t (0, 0)) := by
    have := heap_alloc_new (W.alloc (.cells ca t)) (.cells cb t)
    simpa using this
  refine ⟨?_, ?_, ?_, ?_⟩ <;> simp only [World.cell?, h1, h2] <;> assumption

theorem fin_grow {W V : World} {A : Array Obj} (h : V = Sort.grow W A) (o : Obj) : ∃ os', (V.alloc o).drew = Sort.grow (W.drewN 1) os' :=
  ⟨A ++ #[o], by rw [h, Sort.alloc_eq_grow, Sort.grow_grow]; rfl⟩

/-- How two nodes stand to each other: by hash. -/
def cmpH (x y : PairL) : Int := Lib.compareBytes x.1 y.1

set_option maxRecDepth 100000 in
set_option maxHeartbeats 4000000 in
theorem cmpH_any (x y : PairL) (W : World) :
    Calls Tryz.prog 35 #[.agg #[.string ⟨x.1.toArray⟩, .string ⟨x.2.toArray⟩], .agg #[.string ⟨y.1.toArray⟩, .string ⟨y.2.toArray⟩]] W fun e w' => e = .returned (.int .i64 (cmpH x y)) ∧ ∃ q os', w' = Sort.grow (W.drewN q) os' := by
  obtain ⟨x1, x2⟩ := x
  obtain ⟨y1, y2⟩ := y
  have K1 := fun W => compare_any x1 y1 W
  have HR : Hid (cmpH (x1, x2) (y1, y2) = Lib.compareBytes x1 y1) := rfl
  obtain ⟨c1, hc1⟩ : ∃ c, c = Lib.compareBytes x1 y1 := ⟨_, rfl⟩
  rw [← hc1] at K1 HR
  have hS : _ ∧ _ ∧ _ ∧ _ := st_cells W #[.string ⟨x1.toArray⟩, .string ⟨x2.toArray⟩] #[.string ⟨y1.toArray⟩, .string ⟨y2.toArray⟩] 43 _ _ _ _ rfl rfl rfl rfl
  obtain ⟨p0, p1, q0, q1⟩ := hS
  have HV : Hid (((W.alloc (.cells #[.string ⟨x1.toArray⟩, .string ⟨x2.toArray⟩] 43)).alloc (.cells #[.string ⟨y1.toArray⟩, .string ⟨y2.toArray⟩] 43)) = Sort.grow (W.drewN 0) (#[(.cells #[.string ⟨x1.toArray⟩, .string ⟨x2.toArray⟩] 43)] ++ #[(.cells #[.string ⟨y1.toArray⟩, .string ⟨y2.toArray⟩] 43)])) := by
    rw [Hid, Sort.alloc_eq_grow, Sort.alloc_eq_grow, Sort.grow_grow]; rfl
  clear hc1
  go_enter Tryz.func35, Tryz.ntmps35
  go_wp2_with fail
  refine (K1 _).mono ?_
  rintro e w1 ⟨rfl, rfl⟩
  go_wp2
  go_ret
  exact ⟨by rw [HR.out]; rfl, 0, _, HV.out⟩

/-- One node ahead of another one. -/
def ahH (x y : PairL) : Prop := x.1 < y.1

theorem less_iff : ∀ (x y : List UInt8), Op.bytesLess x y = true ↔ x < y
  | [], [] => by simp [Op.bytesLess]
  | _ :: _, [] => by simp [Op.bytesLess]
  | [], _ :: _ => by simp [Op.bytesLess]
  | a :: x, b :: y => by
    have := less_iff x y
    rw [Op.bytesLess, List.cons_lt_cons_iff]
    by_cases h1 : a < b <;> by_cases h2 : a = b <;> simp_all

theorem cmp_lt (a b : List UInt8) : Lib.compareBytes a b < 0 ↔ a < b := by
  rw [cmp_neg, less_iff]

theorem lt_ltH (x y : PairL) : Go.Proofs.ltOf cmpH x y = true ↔ ahH x y := by
  unfold Go.Proofs.ltOf cmpH ahH
  rw [decide_eq_true_iff, cmp_lt]

theorem tri (a b : List UInt8) : a < b ∨ a = b ∨ b < a := by
  by_cases h : a < b
  · exact .inl h
  · by_cases h2 : b < a
    · exact .inr (.inr h2)
    · exact .inr (.inl (List.le_antisymm (List.not_lt.1 h2) (List.not_lt.1 h)))

theorem swoH : Go.Sort.SWO (Go.Proofs.ltOf cmpH) := by
  refine ⟨fun x => ?_, fun x y z h1 h2 => ?_, fun x y z h1 h2 => ?_⟩
  · rw [Bool.eq_false_iff]; intro h; exact List.lt_irrefl _ ((lt_ltH x x).1 h)
  · exact (lt_ltH x z).2 (List.lt_trans ((lt_ltH x y).1 h1) ((lt_ltH y z).1 h2))
  · have n1 : ¬ ahH x y := fun h => by rw [(lt_ltH x y).2 h] at h1; cases h1
    have n2 : ¬ ahH y z := fun h => by rw [(lt_ltH y z).2 h] at h2; cases h2
    rw [Bool.eq_false_iff]; intro h
    have h3 : x.1 < z.1 := (lt_ltH x z).1 h
    rcases tri x.1 y.1 with h4 | h4 | h4
    · exact n1 h4
    · exact n2 (by unfold ahH; rw [← h4]; exact h3)
    · exact n2 (List.lt_trans h4 h3)

def encP (x : PairL) : List Value := [.string ⟨x.1.toArray⟩, .string ⟨x.2.toArray⟩]

theorem pcells_get (ns : List PairL) (t : Nat) (h : t < ns.length * 2) : (pcells ns)[t]? = some ((encP (ns.toArray[t / 2]!))[t % 2]!) := by
  have hd : t / 2 < ns.length := by omega
  have e1 : ns.toArray[t / 2]! = ns[t / 2] := by simp [hd]
  obtain ⟨h1, h2⟩ := pcells_at ns (t / 2) hd
  rw [e1]
  rcases Nat.mod_two_eq_zero_or_one t with hm | hm
  · have : t = t / 2 * 2 := by omega
    rw [hm]
    rw [← this] at h1
    rw [h1]; rfl
  · have : t = t / 2 * 2 + 1 := by omega
    rw [hm]
    rw [← this] at h2
    rw [h2]; rfl

theorem flat_pc (d : Array PairL) : (Go.Sort.flatK encP 2 d).toList = pcells d.toList := by
  apply List.ext_getElem?
  intro t
  by_cases ht : t < d.size * 2
  · rw [pcells_get d.toList t (by simpa using ht)]
    have hs : t < (Go.Sort.flatK encP 2 d).size := by simpa using ht
    have := Go.Sort.get_flatK encP 2 d t ht
    rw [getElem!_pos _ t hs] at this
    rw [Array.getElem?_toList, Array.getElem?_eq_getElem hs, this]
  · rw [List.getElem?_eq_none (by simp; omega), List.getElem?_eq_none (by rw [pcells_length]; simp; omega)]

theorem holdsP {w : World} {B e g n c : Nat} {ns : List PairL} (h : w.ownsRow B e 2 (.slice (some ⟨g, 0, none⟩) n c) n (pcells ns)) (hn : n = ns.length) : Go.Sort.HoldsK encP 2 w g 0 ns.toArray := by
  subst hn
  intro t ht
  have ht' : t < ns.length * 2 := by simpa using ht
  rcases own_cases2 h with ⟨h1, _⟩ | ⟨g', c', h1, _, _, hc, hf⟩
  · cases h1
  · cases h1
    rw [Nat.zero_add]
    refine ⟨?_, hf t⟩
    rw [hc t ht', pcells_get ns t ht', Go.Sort.get_flatK encP 2 _ t (by simpa using ht')]
    rfl

theorem own_put {w : World} {B e g n c : Nat} {xs : List Value} (h : w.ownsRow B e 2 (.slice (some ⟨g, 0, none⟩) n c) n xs) (F : Array Value) (hF : F.size = n * 2) (m : Nat) (os : Array Obj) :
    (Go.Sort.grow (Go.Sort.putRow id (Go.Sort.ahead w m) g 0 F) os).ownsRow B e 2 (.slice (some ⟨g, 0, none⟩) n c) n F.toList ∧ Below B w (Go.Sort.grow (Go.Sort.putRow id (Go.Sort.ahead w m) g 0 F) os) := by
  rcases h.2 with ⟨h1, _⟩ | ⟨g', c', cur, h1, hb, hg, hnc, hcm, hcs, htk⟩
  · cases h1
  · cases h1
    have hlt : g < w.heap.size := lt_of_block hg
    have hh : ∀ k, k < w.heap.size → (Go.Sort.grow (Go.Sort.putRow id (Go.Sort.ahead w m) g 0 F) os).heap[k]? = (if g = k then (w.heap[k]?).map (Go.Sort.onCells (Go.Sort.putCells id 0 F)) else w.heap[k]?) := by
      intro k hk
      simp only [Go.Sort.grow, Go.Sort.putRow, Go.Sort.mapBlock, Go.Sort.ahead]
      rw [Array.getElem?_append_left (by simpa using hk), Array.getElem?_modify]
    refine ⟨⟨by simp [hF], .inr ⟨g, c, Go.Sort.putCells id 0 F cur, rfl, hb, ?_, hnc, hcm, ?_, ?_⟩⟩, ⟨rfl, rfl, rfl, ?_, ?_⟩⟩
    · rw [hh g hlt, if_pos rfl, hg]; rfl
    · simp [Go.Sort.putCells, hcs]
    · apply List.ext_getElem?
      intro t
      have hn2 : n * 2 ≤ c * 2 := Nat.mul_le_mul_right 2 hnc
      by_cases ht : t < n * 2
      · rw [List.getElem?_take_of_lt ht, Array.getElem?_toList, Array.getElem?_toList]
        have h1 : t < cur.size := by omega
        have h2 : t < F.size := by omega
        simp only [Go.Sort.putCells, Array.getElem?_mapIdx, Array.getElem?_eq_getElem h1, Option.map_some, Nat.zero_le, true_and, Nat.zero_add, h2, if_true, Nat.sub_zero, id]
        rw [getElem!_pos F t h2, Array.getElem?_eq_getElem h2]
      · rw [List.getElem?_eq_none (by simp; omega), List.getElem?_eq_none (by simp; omega)]
    · simp [Go.Sort.grow]
    · intro k hk
      rw [hh k (by omega), if_neg (by omega)]

/-- Of two nodes in the row the later one is not ahead of the earlier one. -/
def RisesH (ns : List PairL) : Prop := ∀ i j (hi : i < j) (hj : j < ns.length), ¬ ahH ns[j] (ns[i]'(by omega))

set_option maxRecDepth 100000 in
set_option maxHeartbeats 1000000 in
theorem sortH_any (B g c : Nat) (ns : List PairL) (w : World) (hl : ns.length ≤ 10000) (ho : w.ownsRow B 43 2 (.slice (some ⟨g, 0, none⟩) ns.length c) ns.length (pcells ns)) :
    Calls Tryz.prog 34 #[.slice (some ⟨g, 0, none⟩) ns.length c, .func (.func 35) #[] #[]] w fun e w' => e = .returned (.tuple #[]) ∧
      ∃ ns' : List PairL, ns'.Perm ns ∧ RisesH ns' ∧ w'.ownsRow B 43 2 (.slice (some ⟨g, 0, none⟩) ns.length c) ns.length (pcells ns') ∧ Below B w w' := by
  have eg : ∀ args w, (callFunc 35 args).run Tryz.prog w = .ok (.enter 35 args) w := enters_of Tryz.func35 (by kernel_rfl) rfl
  have hlt : g < w.heap.size := by
    rcases own_cases2 ho with ⟨h1, _⟩ | ⟨g', c', h1, _, h2, _⟩
    · cases h1
    · cases h1; exact h2
  have hcl : Go.Proofs.CmpLays Tryz.prog 35 #[] encP 2 cmpH g 0 ns.toArray.size w := fun _ _ _ _ x y => cmpH_any x y _
  have hcon := Go.Proofs.AnyQ.slices_SortFunc Tryz.sortSt 2 Tryz.isAgg43 Tryz.sizeOf43 encP (fun _ => rfl) (fun x v hv => by simp [encP] at hv; rcases hv with rfl | rfl <;> rfl) cmpH swoH 35 #[] g 0 c ns.toArray w eg hcl (holdsP ho rfl) hlt (by simp; omega)
  have hz : ns.toArray.size = ns.length := by simp
  rw [hz] at hcon
  change Calls Tryz.prog 34 _ _ _ at hcon
  refine hcon.mono ?_
  rintro e w' ⟨rfl, d', m, os, ⟨hps, _, hp⟩, hs, rfl⟩
  have hps' : d'.size = ns.length := by simpa using hps
  refine ⟨rfl, d'.toList, ?_, ?_, ?_⟩
  · have e1 : ns.take d'.size = ns := List.take_of_length_le (by omega)
    have hp' : d'.toList.Perm (ns.take d'.size) := by simpa [← hps'] using hp
    rw [e1] at hp'; exact hp'
  · intro i j hi hj hah
    have hj' : j < d'.size := by simpa using hj
    have := hs i j (Nat.zero_le _) hi (by simpa [hps'] using hj')
    rw [getElem!_pos d' j hj', getElem!_pos d' i (by omega)] at this
    have h2 := (lt_ltH _ _).2 hah
    simp only [Array.getElem_toList] at h2
    rw [h2] at this; cases this
  · have := own_put ho (Go.Sort.flatK encP 2 d') (by simp [hps']) m os
    rw [flat_pc] at this
    exact this
end Go.Proofs.YtapmakefpmholaaGreatDoor
