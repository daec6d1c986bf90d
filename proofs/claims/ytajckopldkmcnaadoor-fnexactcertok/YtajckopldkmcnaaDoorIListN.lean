/-
  The contract of the program's RlpList at a row that a call owns, nil or not.
-/
import Derived.Test.YtajckopldkmcnaaDoorIList
namespace Go.Proofs.YtajckopldkmcnaaDoor
open Go.RowKit
set_option linter.unusedVariables false

set_option maxRecDepth 100000 in
set_option maxHeartbeats 400000 in
theorem impl_list_nil (w : World) :
    Calls Tryd.prog 82 #[.slice none 0 0] w fun e w' => e = .returned (.string ⟨(listL []).toArray⟩) ∧ Below w.heap.size w w' := by
  have H1 := fun W => Tryd.strings_Join_none none 0 ⟨#[]⟩ W
  have H2 := fun W => impl_headed ⟨#[]⟩ 192 W (by simp [ByteArray.size]) (by omega)
  have e1 : listL [] = wrapB (ByteArray.mk #[]).data.toList 192 := listL_yes [] (by simp) rfl
  rw [e1]
  obtain ⟨out, hout⟩ : ∃ out, out = wrapB (ByteArray.mk #[]).data.toList 192 := ⟨_, rfl⟩
  rw [← hout] at H2 ⊢
  clear e1 hout
  go_enter Tryd.func82, Tryd.ntmps82
  go_wp2
  refine wp_loop_rounds 1 ?_
  rw [rounds_succ]
  go_wp2
  refine wp_loop_rounds 1 ?_
  rw [rounds_succ]
  go_wp2_with fail
  refine (H1 _).mono ?_
  rintro e w1 ⟨rfl, rfl⟩
  go_wp2_with fail
  refine (H2 _).mono ?_
  rintro e w2 ⟨rfl, hb2⟩
  go_wp2
  go_ret
  exact ⟨rfl, hb2⟩

theorem own_cap {w : World} {base e n g cap : Nat} {xs : List Value} (h : w.ownsRow base e 1 (.slice (some ⟨g, 0, none⟩) n cap) n xs) : n ≤ cap := by
  rcases h.2 with ⟨h', _⟩ | ⟨g', cap', cur, h', _, _, hc, _⟩
  · cases h'
  · cases h'; exact hc

theorem impl_list_any (ls : List (List UInt8)) (v : Value) (b0 : Nat) (w : World) (hl : ls.length + ls.flatten.length ≤ 1048576) (hv : w.ownsRow b0 9 1 v ls.length (scells ls)) :
    Calls Tryd.prog 82 #[v] w fun e w' => e = .returned (.string ⟨(listL ls).toArray⟩) ∧ Below w.heap.size w w' := by
  rcases own_cases hv with ⟨rfl, hn, hx⟩ | ⟨g, cap, rfl, _⟩
  · obtain rfl : ls = [] := List.length_eq_zero_iff.1 hn
    exact impl_list_nil w
  · exact impl_list g cap ls b0 w hl (own_cap hv) hv
end Go.Proofs.YtajckopldkmcnaaDoor
