/-
  DERIVED. GIVEN WITH THE SEED: THE PROGRAM's TIES (one call each: nine closed facts by the kernel) AND EACH ROW's TIE, after the 31st guide's Derived/Test/Toyas{Tie, Card}.lean. No idea stands in it: it is a product of the set-up. Laid BY PROGRAM, IN A SANDBOX (cutbox-door.mjs). By AI agents, Wed Nov 11 2026. No macro, syntax, notation, axiom, sorry.
-/
import Derived.Test.YtllmclmcncolcaaGreatDoorRows
import Derived.LaidByTextLater
import Derived.SevenTiedAt
import Derived.LaidSub
import Derived.LaidOnce
namespace Go.Proofs.YtllmclmcncolcaaGreatDoor
open Go
set_option maxRecDepth 100000
theorem seatTie1 : Tryz.prog.laidByTextLater [("errors.errorType", Rows.laid_errors_errorType), ("loop.example/g00226/impl.roundWords", Rows.laid_loop_example_g00226_impl_roundWords), ("loop.example/g00226/impl.errClient", Rows.laid_loop_example_g00226_impl_errClient), ("loop.example/g00226/impl.errCert", Rows.laid_loop_example_g00226_impl_errCert), ("loop.example/g00226/impl.errOld", Rows.laid_loop_example_g00226_impl_errOld), ("loop.example/g00226/impl.errProof", Rows.laid_loop_example_g00226_impl_errProof)] [.handle, .data, .sentinel, .sentinel, .sentinel, .sentinel] true :=
  Program.laidByTextLater_by_one 97 8 65 (by kernel_rfl) (by kernel_rfl) (by kernel_rfl) (by kernel_rfl) (by kernel_rfl) (by kernel_rfl) (fun _ _ => by kernel_rfl)
theorem noOwnUnsafe : Tryz.pinned.checked.prog.headLifts.contains "ownunsafe" = false := by kernel_rfl
theorem tie : Tryz.prog.laidByTextLater [("errors.errorType", Rows.laid_errors_errorType), ("loop.example/g00226/impl.roundWords", Rows.laid_loop_example_g00226_impl_roundWords), ("loop.example/g00226/impl.errClient", Rows.laid_loop_example_g00226_impl_errClient), ("loop.example/g00226/impl.errCert", Rows.laid_loop_example_g00226_impl_errCert), ("loop.example/g00226/impl.errOld", Rows.laid_loop_example_g00226_impl_errOld), ("loop.example/g00226/impl.errProof", Rows.laid_loop_example_g00226_impl_errProof)] [.handle, .data, .sentinel, .sentinel, .sentinel, .sentinel] true :=
  Program.laidByTextLater.sub seatTie1 ["errors.errorType", "loop.example/g00226/impl.roundWords", "loop.example/g00226/impl.errClient", "loop.example/g00226/impl.errCert", "loop.example/g00226/impl.errOld", "loop.example/g00226/impl.errProof"] (by kernel_rfl) (by kernel_rfl)
theorem fnExactReadAt_row_tie : Rows.fnExactReadAtRow.laidByTextAt .later Tryz.pinned [.handle, .data, .sentinel, .sentinel, .sentinel, .sentinel] true :=
  OpenClaim.laidByTextAt_later rfl rfl tie noOwnUnsafe
theorem fnExactReadAtUpto_row_tie : Rows.fnExactReadAtUptoRow.laidByTextAt .later Tryz.pinned [.handle, .data, .sentinel, .sentinel, .sentinel, .sentinel] true :=
  OpenClaim.laidByTextAt_later rfl rfl tie noOwnUnsafe
end Go.Proofs.YtllmclmcncolcaaGreatDoor
