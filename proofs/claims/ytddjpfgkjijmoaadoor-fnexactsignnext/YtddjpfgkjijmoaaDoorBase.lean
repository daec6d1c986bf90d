/-
  The byte's row of the table of types; a string made of bytes written out.
-/
import Derived.Test.YtddjpfgkjijmoaaDoorRows
import Derived.Test.YtddjpfgkjijmoaaDoorMathAll
namespace Go.Proofs.YtddjpfgkjijmoaaDoor
open Go.RowKit

theorem info5 : (Tryd.prog.info? 5).map (fun i => (i.zero, i.size, i.bytes)) = some (some (.int .u8 0), 1, 1) := by kernel_rfl

/-- 'string([]byte{..})': the bytes of a new row, written out. -/
theorem lit_string (l : List UInt8) (cs : Array Value) (hc : cs.toList = bcells l) (n : Nat) (hn : l.length = n) (hm : n ≤ maxLen) (W : World) :
    (convert 22 9 (.slice (some ⟨W.heap.size, 0, none⟩) n n)).run Tryd.prog (W.alloc (.cells cs 5)) = .ok (.string ⟨l.toArray⟩) (W.alloc (.cells cs 5)) := by
  have hsz : cs.size = n * 1 := by rw [← Array.length_toList, hc, bcells_length]; omega
  have := World.ownsRow_lit (base := 0) (e := 5) (size := 1) W cs n (Nat.zero_le _) hm hsz
  rw [hc] at this
  exact own_string Tryd.underlying22 Tryd.underlying5 Tryd.underlying9 this

theorem lit_string_drew (l : List UInt8) (cs : Array Value) (hc : cs.toList = bcells l) (n : Nat) (hn : l.length = n) (hm : n ≤ maxLen) (W : World) :
    (convert 22 9 (.slice (some ⟨W.heap.size, 0, none⟩) n n)).run Tryd.prog (W.alloc (.cells cs 5)).drew = .ok (.string ⟨l.toArray⟩) (W.alloc (.cells cs 5)).drew := by
  have hsz : cs.size = n * 1 := by rw [← Array.length_toList, hc, bcells_length]; omega
  have := (World.ownsRow_lit (base := 0) (e := 5) (size := 1) W cs n (Nat.zero_le _) hm hsz).drew
  rw [hc] at this
  exact own_string Tryd.underlying22 Tryd.underlying5 Tryd.underlying9 this

end Go.Proofs.YtddjpfgkjijmoaaDoor
