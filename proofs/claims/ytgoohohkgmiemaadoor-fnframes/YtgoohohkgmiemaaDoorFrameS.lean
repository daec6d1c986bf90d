/-
  Contracts: FrameOf of the model.
-/
import Derived.Test.YtgoohohkgmiemaaDoorMathFr
import Derived.Test.YtgoohohkgmiemaaDoorWrap
import Derived.Test.YtgoohohkgmiemaaDoorSSum
namespace Go.Proofs.YtgoohohkgmiemaaDoor
open Go.RowKit
set_option linter.unusedVariables false

set_option maxRecDepth 100000 in
set_option maxHeartbeats 1000000 in
theorem spec_frameOf (l : List UInt8) (w : World) (hl : l.length ≤ 1048576) :
    Calls Tryd.prog 13 #[.string ⟨l.toArray⟩] w fun e w' => e = .returned (.string ⟨(frameL l).toArray⟩) ∧ Below w.heap.size w w' := by
  have hz : (ByteArray.mk l.toArray).size = l.length := by simp [ByteArray.size]
  by_cases h6 : l.length ≤ 60000
  · have HR : Hid (frameL l = bigB l.length 4 ++ ((sumL l).take 8 ++ l)) := by rw [Hid, frameL, if_pos h6]; rfl
    have HS := fun W => spec_sum l W hl
    have HB := spec_l1Big l.length 4 w (by omega) (by omega)
    have h32 := sum_len32 l
    have hb4 := bigB_length l.length 4
    obtain ⟨sm, hsm⟩ : ∃ sm, sm = sumL l := ⟨_, rfl⟩
    rw [← hsm] at HS h32 HR
    obtain ⟨y, hy⟩ : ∃ y, y = bigB l.length 4 := ⟨_, rfl⟩
    rw [← hy] at HB HR hb4
    have hx8 := ext_to sm 8 (by omega)
    have hzs : (ByteArray.mk sm.toArray).size = 32 := by simp [ByteArray.size, h32]
    clear hsm h32 hy
    go_enter Tryd.func13, Tryd.ntmps13
    go_wp2_with fail
    refine HB.mono ?_
    rintro e w1 ⟨rfl, b1⟩
    go_wp2_with fail
    refine (HS _).mono ?_
    rintro e w2 ⟨rfl, b2⟩
    have hb := b1.trans (b2.mono b1.size)
    go_wp2
    go_ret
    refine ⟨?_, hb⟩
    rw [HR.out]
    simp [ba_app]
  · have HR : Hid (frameL l = []) := by rw [Hid, frameL, if_neg h6]
    rw [HR.out]
    clear HR
    go_enter Tryd.func13, Tryd.ntmps13
    go_wp2
    go_ret
    exact ⟨rfl, Below.refl _ _⟩
end Go.Proofs.YtgoohohkgmiemaaDoor
