/-
  DERIVED. GIVEN WITH THE SEED: THE PROGRAM's TIES (one call each: nine closed facts by the kernel) AND EACH ROW's TIE, after the 31st guide's Derived/Test/Toyas{Tie, Card}.lean. No idea stands in it: it is a product of the set-up. Laid BY PROGRAM, IN A SANDBOX (cutbox-door.mjs). By AI agents, Wed Nov 11 2026. No macro, syntax, notation, axiom, sorry.
-/
import Derived.Test.YthkppnmnjboiaaaDoorRows
import Derived.LaidByTextLater
import Derived.SevenTiedAt
import Derived.LaidSub
import Derived.LaidOnce
namespace Go.Proofs.YthkppnmnjboiaaaDoor
open Go
set_option maxRecDepth 100000
theorem seatTie1 : Tryd.prog.laidByTextLater [("loop.example/s02772/impl.errEnds", Rows.laid_loop_example_s02772_impl_errEnds), ("loop.example/s02772/impl.errTenth", Rows.laid_loop_example_s02772_impl_errTenth), ("loop.example/s02772/impl.errShorter", Rows.laid_loop_example_s02772_impl_errShorter)] [.sentinel, .sentinel, .sentinel] true :=
  Program.laidByTextLater_by_one 66 8 2 (by kernel_rfl) (by kernel_rfl) (by kernel_rfl) (by kernel_rfl) (by kernel_rfl) (by kernel_rfl) (fun _ _ => by kernel_rfl)
theorem noOwnUnsafe : Tryd.pinned.checked.prog.headLifts.contains "ownunsafe" = false := by kernel_rfl
theorem tie : Tryd.prog.laidByTextLater [("loop.example/s02772/impl.errEnds", Rows.laid_loop_example_s02772_impl_errEnds), ("loop.example/s02772/impl.errTenth", Rows.laid_loop_example_s02772_impl_errTenth), ("loop.example/s02772/impl.errShorter", Rows.laid_loop_example_s02772_impl_errShorter)] [.sentinel, .sentinel, .sentinel] true :=
  Program.laidByTextLater.sub seatTie1 ["loop.example/s02772/impl.errEnds", "loop.example/s02772/impl.errTenth", "loop.example/s02772/impl.errShorter"] (by kernel_rfl) (by kernel_rfl)
theorem fnChunks_row_tie : Rows.fnChunksRow.laidByTextAt .later Tryd.pinned [.sentinel, .sentinel, .sentinel] true :=
  OpenClaim.laidByTextAt_later rfl rfl tie noOwnUnsafe
theorem fnChunksUpto_row_tie : Rows.fnChunksUptoRow.laidByTextAt .later Tryd.pinned [.sentinel, .sentinel, .sentinel] true :=
  OpenClaim.laidByTextAt_later rfl rfl tie noOwnUnsafe
end Go.Proofs.YthkppnmnjboiaaaDoor
