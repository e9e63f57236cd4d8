/-
  DERIVED. GIVEN WITH THE SEED: THE PROGRAM's TIES (one call each: nine closed facts by the kernel) AND EACH ROW's TIE, after the 31st guide's Derived/Test/Toyas{Tie, Card}.lean. No idea stands in it: it is a product of the set-up. Laid BY PROGRAM, IN A SANDBOX (cutbox-door.mjs). By AI agents, Wed Nov 11 2026. No macro, syntax, notation, axiom, sorry.
-/
import Derived.Test.YtbimcammjohaoadGreatDoorRows
import Derived.LaidByTextLater
import Derived.SevenTiedAt
import Derived.LaidSub
import Derived.LaidOnce
namespace Go.Proofs.YtbimcammjohaoadGreatDoor
open Go
set_option maxRecDepth 100000
theorem seatTie1 : Tryz.prog.laidByTextLater [("errors.errorType", Rows.laid_errors_errorType), ("loop.example/s02772/impl.errEnds", Rows.laid_loop_example_s02772_impl_errEnds), ("loop.example/s02772/impl.errTenth", Rows.laid_loop_example_s02772_impl_errTenth), ("loop.example/s02772/impl.errShorter", Rows.laid_loop_example_s02772_impl_errShorter), ("loop.example/s02772/impl.errLimit", Rows.laid_loop_example_s02772_impl_errLimit), ("loop.example/s02772/impl.errOrder", Rows.laid_loop_example_s02772_impl_errOrder), ("loop.example/s02772/impl.errNoRuns", Rows.laid_loop_example_s02772_impl_errNoRuns)] [.handle, .sentinel, .sentinel, .sentinel, .sentinel, .sentinel, .sentinel] true :=
  Program.laidByTextLater_by_one 130 8 2 (by kernel_rfl) (by kernel_rfl) (by kernel_rfl) (by kernel_rfl) (by kernel_rfl) (by kernel_rfl) (fun _ _ => by kernel_rfl)
theorem noOwnUnsafe : Tryz.pinned.checked.prog.headLifts.contains "ownunsafe" = false := by kernel_rfl
theorem tie : Tryz.prog.laidByTextLater [("errors.errorType", Rows.laid_errors_errorType), ("loop.example/s02772/impl.errEnds", Rows.laid_loop_example_s02772_impl_errEnds), ("loop.example/s02772/impl.errTenth", Rows.laid_loop_example_s02772_impl_errTenth), ("loop.example/s02772/impl.errShorter", Rows.laid_loop_example_s02772_impl_errShorter), ("loop.example/s02772/impl.errLimit", Rows.laid_loop_example_s02772_impl_errLimit), ("loop.example/s02772/impl.errOrder", Rows.laid_loop_example_s02772_impl_errOrder), ("loop.example/s02772/impl.errNoRuns", Rows.laid_loop_example_s02772_impl_errNoRuns)] [.handle, .sentinel, .sentinel, .sentinel, .sentinel, .sentinel, .sentinel] true :=
  Program.laidByTextLater.sub seatTie1 ["errors.errorType", "loop.example/s02772/impl.errEnds", "loop.example/s02772/impl.errTenth", "loop.example/s02772/impl.errShorter", "loop.example/s02772/impl.errLimit", "loop.example/s02772/impl.errOrder", "loop.example/s02772/impl.errNoRuns"] (by kernel_rfl) (by kernel_rfl)
theorem fnContext_row_tie : Rows.fnContextRow.laidByTextAt .later Tryz.pinned [.handle, .sentinel, .sentinel, .sentinel, .sentinel, .sentinel, .sentinel] true :=
  OpenClaim.laidByTextAt_later rfl rfl tie noOwnUnsafe
theorem fnContextUpto_row_tie : Rows.fnContextUptoRow.laidByTextAt .later Tryz.pinned [.handle, .sentinel, .sentinel, .sentinel, .sentinel, .sentinel, .sentinel] true :=
  OpenClaim.laidByTextAt_later rfl rfl tie noOwnUnsafe
end Go.Proofs.YtbimcammjohaoadGreatDoor
