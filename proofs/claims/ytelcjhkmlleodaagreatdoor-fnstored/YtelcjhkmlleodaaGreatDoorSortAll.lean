/-
 Texts that are laid as one: Cmp, SortC, SortW, EqSt, CompM, CompW, Once1.
-/
import Derived.Test.YtelcjhkmlleodaaGreatDoorMath2
import Derived.Lib.Bytealg
import Derived.Test.YtelcjhkmlleodaaGreatDoorHashAll
import Derived.Test.YtelcjhkmlleodaaGreatDoorShelfS
import Derived.Deep.RegionWith
import Derived.Deep.RegionHeld3
import Derived.Lib.SliceRun
import Derived.Laws.StructEq
import Derived.Lib.SlicesCompact
import Derived.Deep.QuietTactic
import Derived.BigQuiet
import Derived.Test.YtelcjhkmlleodaaGreatDoorEmptyR
import Derived.Test.YtelcjhkmlleodaaGreatDoorSMades
namespace Go.Proofs.YtelcjhkmlleodaaGreatDoor
open Go.RowKit
set_option linter.unusedVariables false
theorem cmp_neg : ∀ a b : List UInt8, (Lib.compareBytes a b < 0) = (Op.bytesLess a b = true)
 | [], [] => by simp [Lib.compareBytes, Op.bytesLess]
 | [], _ :: _ => by simp [Lib.compareBytes, Op.bytesLess]
 | _ :: _, [] => by simp [Lib.compareBytes, Op.bytesLess]
 | a :: ra, b :: rb => by
   have ih := cmp_neg ra rb
   simp only [Lib.compareBytes, Op.bytesLess]
   by_cases h1 : a < b
   · simp [h1]
   · by_cases h2 : b < a
     · have hne : (a == b) = false := by simp; intro e; rw [e] at h2; exact absurd h2 (UInt8.lt_irrefl b)
       simp [h1, h2, hne]
     · have he : a = b := UInt8.le_antisymm (UInt8.not_lt.1 h2) (UInt8.not_lt.1 h1)
       subst he
       simp [h1, ih]
set_option maxHeartbeats 1000000 in
set_option maxRecDepth 100000 in
theorem compareString_any (a b : List UInt8) (w : World) :
 Calls Tryz.prog 52 #[.string ⟨a.toArray⟩, .string ⟨b.toArray⟩] w fun e w' => e = .returned (.int .i64 (Lib.compareBytes a b)) ∧ w' = w := by
 go_enter Tryz.func52, Tryz.ntmps52
 go_wp2
 rw [run_callFunc_extern Tryz.func77 (by kernel_rfl) (by kernel_rfl) (by kernel_rfl) (e := Extern.BytealgCompare.compare) (by kernel_rfl), Lib.run_compareString]
 simp only [Result.andThen]
 rw [Oper.upon_value]
 go_wp2
 go_ret
 exact ⟨rfl, rfl⟩
set_option maxHeartbeats 1000000 in
set_option maxRecDepth 100000 in
theorem compare_any (a b : List UInt8) (w : World) :
 Calls Tryz.prog 31 #[.string ⟨a.toArray⟩, .string ⟨b.toArray⟩] w fun e w' => e = .returned (.int .i64 (Lib.compareBytes a b)) ∧ w' = w := by
 have K := compareString_any a b w
 go_enter Tryz.func31, Tryz.ntmps31
 go_wp2_with fail
 refine K.mono ?_
 rintro e w1 ⟨rfl, rfl⟩
 go_wp2
 go_ret
 exact ⟨rfl, rfl⟩
end Go.Proofs.YtelcjhkmlleodaaGreatDoor
namespace Go.Proofs.YtelcjhkmlleodaaGreatDoor
open Go.RowKit
set_option linter.unusedVariables false
theorem st_cells (W : World) (ca cb : Array Value) (t : TypeId) (a0 a1 b0 b1 : Value) (ha0 : ca[0]? = some a0) (ha1 : ca[1]? = some a1) (hb0 : cb[0]? = some b0) (hb1 : cb[1]? = some b1) :
 ((W.alloc (.cells ca t)).alloc (.cells cb t)).cell? ⟨W.heap.size, 0, none⟩ = some a0 ∧ ((W.alloc (.cells ca t)).alloc (.cells cb t)).cell? ⟨W.heap.size, 1, none⟩ = some a1 ∧
 ((W.alloc (.cells ca t)).alloc (.cells cb t)).cell? ⟨W.heap.size + 1, 0, none⟩ = some b0 ∧ ((W.alloc (.cells ca t)).alloc (.cells cb t)).cell? ⟨W.heap.size + 1, 1, none⟩ = some b1 := by
 have h1 : ((W.alloc (.cells ca t)).alloc (.cells cb t)).heap[W.heap.size]? = some (.cells ca t (0, 0)) := by
  rw [Below.heap_alloc _ _ _ (by simp)]; exact heap_alloc_new W _
 have h2 : ((W.alloc (.cells ca t)).alloc (.cells cb t)).heap[W.heap.size + 1]? = some (.cells cb t (0, 0)) := by
  have := heap_alloc_new (W.alloc (.cells ca t)) (.cells cb t)
  simpa using this
 refine ⟨?_, ?_, ?_, ?_⟩ <;> simp only [World.cell?, h1, h2] <;> assumption
end Go.Proofs.YtelcjhkmlleodaaGreatDoor
namespace Go.Proofs.YtelcjhkmlleodaaGreatDoor
open Go.RowKit
set_option linter.unusedVariables false
theorem less_iff : ∀ (x y : List UInt8), Op.bytesLess x y = true ↔ x < y
 | [], [] => by simp [Op.bytesLess]
 | _ :: _, [] => by simp [Op.bytesLess]
 | [], _ :: _ => by simp [Op.bytesLess]
 | a :: x, b :: y => by
   have := less_iff x y
   rw [Op.bytesLess, List.cons_lt_cons_iff]
   by_cases h1 : a < b <;> by_cases h2 : a = b <;> simp_all
theorem cmp_lt (a b : List UInt8) : Lib.compareBytes a b < 0 ↔ a < b := by
 rw [cmp_neg, less_iff]
theorem tri (a b : List UInt8) : a < b ∨ a = b ∨ b < a := by
 by_cases h : a < b
 · exact .inl h
 · by_cases h2 : b < a
   · exact .inr (.inr h2)
   · exact .inr (.inl (List.le_antisymm (List.not_lt.1 h2) (List.not_lt.1 h)))
def encP (x : PairL) : List Value := [.string ⟨x.1.toArray⟩, .string ⟨x.2.toArray⟩]
theorem pcells_get (ns : List PairL) (t : Nat) (h : t < ns.length * 2) : (pcells ns)[t]? = some ((encP (ns.toArray[t / 2]!))[t % 2]!) := by
 have hd : t / 2 < ns.length := by omega
 have e1 : ns.toArray[t / 2]! = ns[t / 2] := by simp [hd]
 obtain ⟨h1, h2⟩ := pcells_at ns (t / 2) hd
 rw [e1]
 rcases Nat.mod_two_eq_zero_or_one t with hm | hm
 · have : t = t / 2 * 2 := by omega
   rw [hm]
   rw [← this] at h1
   rw [h1]; rfl
 · have : t = t / 2 * 2 + 1 := by omega
   rw [hm]
   rw [← this] at h2
   rw [h2]; rfl
theorem flat_pc (d : Array PairL) : (Go.Sort.flatK encP 2 d).toList = pcells d.toList := by
 apply List.ext_getElem?
 intro t
 by_cases ht : t < d.size * 2
 · rw [pcells_get d.toList t (by simpa using ht)]
   have hs : t < (Go.Sort.flatK encP 2 d).size := by simpa using ht
   have := Go.Sort.get_flatK encP 2 d t ht
   rw [getElem!_pos _ t hs] at this
   rw [Array.getElem?_toList, Array.getElem?_eq_getElem hs, this]
 · rw [List.getElem?_eq_none (by simp; omega), List.getElem?_eq_none (by rw [pcells_length]; simp; omega)]
theorem holdsP {w : World} {B e g n c : Nat} {ns : List PairL} (h : w.ownsRow B e 2 (.slice (some ⟨g, 0, none⟩) n c) n (pcells ns)) (hn : n = ns.length) : Go.Sort.HoldsK encP 2 w g 0 ns.toArray := by
 subst hn
 intro t ht
 have ht' : t < ns.length * 2 := by simpa using ht
 rcases own_cases2 h with ⟨h1, _⟩ | ⟨g', c', h1, _, _, hc, hf⟩
 · cases h1
 · cases h1
   rw [Nat.zero_add]
   refine ⟨?_, hf t⟩
   rw [hc t ht', pcells_get ns t ht', Go.Sort.get_flatK encP 2 _ t (by simpa using ht')]
   rfl
theorem own_put {w : World} {B e g n c : Nat} {xs : List Value} (h : w.ownsRow B e 2 (.slice (some ⟨g, 0, none⟩) n c) n xs) (F : Array Value) (hF : F.size = n * 2) (m : Nat) (os : Array Obj) :
 (Go.Sort.grow (Go.Sort.putRow id (Go.Sort.ahead w m) g 0 F) os).ownsRow B e 2 (.slice (some ⟨g, 0, none⟩) n c) n F.toList ∧ Below B w (Go.Sort.grow (Go.Sort.putRow id (Go.Sort.ahead w m) g 0 F) os) := by
 rcases h.2 with ⟨h1, _⟩ | ⟨g', c', cur, h1, hb, hg, hnc, hcm, hcs, htk⟩
 · cases h1
 · cases h1
   have hlt : g < w.heap.size := lt_of_block hg
   have hh : ∀ k, k < w.heap.size → (Go.Sort.grow (Go.Sort.putRow id (Go.Sort.ahead w m) g 0 F) os).heap[k]? = (if g = k then (w.heap[k]?).map (Go.Sort.onCells (Go.Sort.putCells id 0 F)) else w.heap[k]?) := by
    intro k hk
    simp only [Go.Sort.grow, Go.Sort.putRow, Go.Sort.mapBlock, Go.Sort.ahead]
    rw [Array.getElem?_append_left (by simpa using hk), Array.getElem?_modify]
   refine ⟨⟨by simp [hF], .inr ⟨g, c, Go.Sort.putCells id 0 F cur, rfl, hb, ?_, hnc, hcm, ?_, ?_⟩⟩, ⟨rfl, rfl, rfl, ?_, ?_⟩⟩
   · rw [hh g hlt, if_pos rfl, hg]; rfl
   · simp [Go.Sort.putCells, hcs]
   · apply List.ext_getElem?
     intro t
     have hn2 : n * 2 ≤ c * 2 := Nat.mul_le_mul_right 2 hnc
     by_cases ht : t < n * 2
     · rw [List.getElem?_take_of_lt ht, Array.getElem?_toList, Array.getElem?_toList]
       have h1 : t < cur.size := by omega
       have h2 : t < F.size := by omega
       simp only [Go.Sort.putCells, Array.getElem?_mapIdx, Array.getElem?_eq_getElem h1, Option.map_some, Nat.zero_le, true_and, Nat.zero_add, h2, if_true, Nat.sub_zero, id]
       rw [getElem!_pos F t h2, Array.getElem?_eq_getElem h2]
     · rw [List.getElem?_eq_none (by simp; omega), List.getElem?_eq_none (by simp; omega)]
   · simp [Go.Sort.grow]
   · intro k hk
     rw [hh k (by omega), if_neg (by omega)]
end Go.Proofs.YtelcjhkmlleodaaGreatDoor
namespace Go.Proofs.YtelcjhkmlleodaaGreatDoor
open Go.RowKit
set_option linter.unusedVariables false
end Go.Proofs.YtelcjhkmlleodaaGreatDoor
namespace Go.Proofs.YtelcjhkmlleodaaGreatDoor
open Go.RowKit
set_option linter.unusedVariables false
end Go.Proofs.YtelcjhkmlleodaaGreatDoor
namespace Go.Proofs.YtelcjhkmlleodaaGreatDoor
open Go.RowKit
set_option linter.unusedVariables false
end Go.Proofs.YtelcjhkmlleodaaGreatDoor
namespace Go.Proofs.YtelcjhkmlleodaaGreatDoor
open Go.RowKit
set_option linter.unusedVariables false
end Go.Proofs.YtelcjhkmlleodaaGreatDoor
