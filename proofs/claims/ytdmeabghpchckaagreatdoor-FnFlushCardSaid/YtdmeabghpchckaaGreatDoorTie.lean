/-
  DERIVED. GIVEN WITH THE SEED: THE PROGRAM's TIES (one call each: nine closed facts by the kernel) AND EACH ROW's TIE, after the 31st guide's Derived/Test/Toyas{Tie, Card}.lean. No idea stands in it: it is a product of the set-up. Laid BY PROGRAM, IN A SANDBOX (cutbox-door.mjs). By AI agents, Wed Nov 11 2026. No macro, syntax, notation, axiom, sorry.
-/
import Derived.Test.YtdmeabghpchckaaGreatDoorRows
import Derived.LaidByTextLater
import Derived.SevenTiedAt
import Derived.LaidSub
import Derived.LaidOnce
namespace Go.Proofs.YtdmeabghpchckaaGreatDoor
open Go
set_option maxRecDepth 100000
theorem seatTie1 : Tryz.prog.laidByTextLater [("errors.errorType", Rows.laid_errors_errorType), ("loop.example/g00336/impl.errPool", Rows.laid_loop_example_g00336_impl_errPool), ("loop.example/g00336/impl.errOp", Rows.laid_loop_example_g00336_impl_errOp), ("loop.example/g00336/impl.errVolume", Rows.laid_loop_example_g00336_impl_errVolume), ("loop.example/g00336/impl.errFile", Rows.laid_loop_example_g00336_impl_errFile), ("loop.example/g00336/impl.errBytes", Rows.laid_loop_example_g00336_impl_errBytes), ("loop.example/g00336/impl.errThere", Rows.laid_loop_example_g00336_impl_errThere), ("loop.example/g00336/impl.errFixed", Rows.laid_loop_example_g00336_impl_errFixed), ("loop.example/g00336/impl.errRoom", Rows.laid_loop_example_g00336_impl_errRoom), ("loop.example/g00336/impl.errParts", Rows.laid_loop_example_g00336_impl_errParts), ("loop.example/g00336/impl.errAfter", Rows.laid_loop_example_g00336_impl_errAfter)] [.handle, .sentinel, .sentinel, .sentinel, .sentinel, .sentinel, .sentinel, .sentinel, .sentinel, .sentinel, .sentinel] true :=
  Program.laidByTextLater_by_one 206 8 2 (by kernel_rfl) (by kernel_rfl) (by kernel_rfl) (by kernel_rfl) (by kernel_rfl) (by kernel_rfl) (fun _ _ => by kernel_rfl)
theorem noOwnUnsafe : Tryz.pinned.checked.prog.headLifts.contains "ownunsafe" = false := by kernel_rfl
theorem tie : Tryz.prog.laidByTextLater [("errors.errorType", Rows.laid_errors_errorType), ("loop.example/g00336/impl.errPool", Rows.laid_loop_example_g00336_impl_errPool), ("loop.example/g00336/impl.errOp", Rows.laid_loop_example_g00336_impl_errOp), ("loop.example/g00336/impl.errVolume", Rows.laid_loop_example_g00336_impl_errVolume), ("loop.example/g00336/impl.errFile", Rows.laid_loop_example_g00336_impl_errFile), ("loop.example/g00336/impl.errBytes", Rows.laid_loop_example_g00336_impl_errBytes), ("loop.example/g00336/impl.errThere", Rows.laid_loop_example_g00336_impl_errThere), ("loop.example/g00336/impl.errFixed", Rows.laid_loop_example_g00336_impl_errFixed), ("loop.example/g00336/impl.errRoom", Rows.laid_loop_example_g00336_impl_errRoom), ("loop.example/g00336/impl.errParts", Rows.laid_loop_example_g00336_impl_errParts), ("loop.example/g00336/impl.errAfter", Rows.laid_loop_example_g00336_impl_errAfter)] [.handle, .sentinel, .sentinel, .sentinel, .sentinel, .sentinel, .sentinel, .sentinel, .sentinel, .sentinel, .sentinel] true :=
  Program.laidByTextLater.sub seatTie1 ["errors.errorType", "loop.example/g00336/impl.errPool", "loop.example/g00336/impl.errOp", "loop.example/g00336/impl.errVolume", "loop.example/g00336/impl.errFile", "loop.example/g00336/impl.errBytes", "loop.example/g00336/impl.errThere", "loop.example/g00336/impl.errFixed", "loop.example/g00336/impl.errRoom", "loop.example/g00336/impl.errParts", "loop.example/g00336/impl.errAfter"] (by kernel_rfl) (by kernel_rfl)
theorem fnFlush_row_tie : Rows.fnFlushRow.laidByTextAt .later Tryz.pinned [.handle, .sentinel, .sentinel, .sentinel, .sentinel, .sentinel, .sentinel, .sentinel, .sentinel, .sentinel, .sentinel] true :=
  OpenClaim.laidByTextAt_later rfl rfl tie noOwnUnsafe
theorem fnDropped_row_tie : Rows.fnDroppedRow.laidByTextAt .later Tryz.pinned [.handle, .sentinel, .sentinel, .sentinel, .sentinel, .sentinel, .sentinel, .sentinel, .sentinel, .sentinel, .sentinel] true :=
  OpenClaim.laidByTextAt_later rfl rfl tie noOwnUnsafe
theorem fnFlushUpto_row_tie : Rows.fnFlushUptoRow.laidByTextAt .later Tryz.pinned [.handle, .sentinel, .sentinel, .sentinel, .sentinel, .sentinel, .sentinel, .sentinel, .sentinel, .sentinel, .sentinel] true :=
  OpenClaim.laidByTextAt_later rfl rfl tie noOwnUnsafe
theorem fnDroppedUpto_row_tie : Rows.fnDroppedUptoRow.laidByTextAt .later Tryz.pinned [.handle, .sentinel, .sentinel, .sentinel, .sentinel, .sentinel, .sentinel, .sentinel, .sentinel, .sentinel, .sentinel] true :=
  OpenClaim.laidByTextAt_later rfl rfl tie noOwnUnsafe
end Go.Proofs.YtdmeabghpchckaaGreatDoor
