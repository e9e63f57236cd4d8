/-
  DERIVED. GIVEN WITH THE SEED: THE PROGRAM's TIES (one call each: nine closed facts by the kernel) AND EACH ROW's TIE, after the 31st guide's Derived/Test/Toyas{Tie, Card}.lean. No idea stands in it: it is a product of the set-up. Laid BY PROGRAM, IN A SANDBOX (cutbox-door.mjs). By AI agents, Wed Nov 11 2026. No macro, syntax, notation, axiom, sorry.
-/
import Derived.Test.YtemfhnnkkmiamaaGreatDoorRows
import Derived.LaidByTextLater
import Derived.SevenTiedAt
import Derived.LaidSub
import Derived.LaidOnce
namespace Go.Proofs.YtemfhnnkkmiamaaGreatDoor
open Go
set_option maxRecDepth 100000
theorem seatTie1 : Tryz.prog.laidByTextLater [("unicode/utf8.acceptRanges", Rows.laid_unicode_utf8_acceptRanges), ("errors.errorType", Rows.laid_errors_errorType), ("loop.example/s02772/impl.errEnds", Rows.laid_loop_example_s02772_impl_errEnds), ("loop.example/s02772/impl.errTenth", Rows.laid_loop_example_s02772_impl_errTenth), ("loop.example/s02772/impl.errShorter", Rows.laid_loop_example_s02772_impl_errShorter), ("loop.example/s02772/impl.errTooLong", Rows.laid_loop_example_s02772_impl_errTooLong), ("loop.example/s02772/impl.errLimit", Rows.laid_loop_example_s02772_impl_errLimit), ("loop.example/s02772/impl.errOrder", Rows.laid_loop_example_s02772_impl_errOrder), ("loop.example/s02772/impl.errNoRuns", Rows.laid_loop_example_s02772_impl_errNoRuns), ("loop.example/s02772/impl.errBehind", Rows.laid_loop_example_s02772_impl_errBehind), ("loop.example/s02772/impl.errNoName", Rows.laid_loop_example_s02772_impl_errNoName), ("loop.example/s02772/impl.errKind", Rows.laid_loop_example_s02772_impl_errKind), ("loop.example/s02772/impl.errDeep", Rows.laid_loop_example_s02772_impl_errDeep), ("loop.example/s02772/impl.errNoKeys", Rows.laid_loop_example_s02772_impl_errNoKeys), ("loop.example/s02772/impl.errNoLeaves", Rows.laid_loop_example_s02772_impl_errNoLeaves), ("loop.example/s02772/impl.errUnknown", Rows.laid_loop_example_s02772_impl_errUnknown), ("loop.example/s02772/impl.errTwice", Rows.laid_loop_example_s02772_impl_errTwice), ("loop.example/s02772/impl.errReplica", Rows.laid_loop_example_s02772_impl_errReplica), ("loop.example/s02772/impl.errOp", Rows.laid_loop_example_s02772_impl_errOp), ("loop.example/s02772/impl.errChange", Rows.laid_loop_example_s02772_impl_errChange), ("loop.example/s02772/impl.errHello", Rows.laid_loop_example_s02772_impl_errHello), ("loop.example/s02772/impl.errNoRoom", Rows.laid_loop_example_s02772_impl_errNoRoom)] [.data, .handle, .sentinel, .sentinel, .sentinel, .sentinel, .sentinel, .sentinel, .sentinel, .sentinel, .sentinel, .sentinel, .sentinel, .sentinel, .sentinel, .sentinel, .sentinel, .sentinel, .sentinel, .sentinel, .sentinel, .sentinel] true :=
  Program.laidByTextLater_by_one 406 8 33 (by kernel_rfl) (by kernel_rfl) (by kernel_rfl) (by kernel_rfl) (by kernel_rfl) (by kernel_rfl) (fun _ _ => by kernel_rfl)
theorem pin_laid_unicode_utf8_first : Tryz.pinned.checked.prog.pinnedFits "unicode/utf8.first" = true := by kernel_rfl
theorem noOwnUnsafe : Tryz.pinned.checked.prog.headLifts.contains "ownunsafe" = false := by kernel_rfl
theorem fits1 : Tryz.pinned.checked.prog.listedFits [("unicode/utf8.acceptRanges", Rows.laid_unicode_utf8_acceptRanges), ("errors.errorType", Rows.laid_errors_errorType), ("loop.example/s02772/impl.errEnds", Rows.laid_loop_example_s02772_impl_errEnds), ("loop.example/s02772/impl.errTenth", Rows.laid_loop_example_s02772_impl_errTenth), ("loop.example/s02772/impl.errShorter", Rows.laid_loop_example_s02772_impl_errShorter), ("loop.example/s02772/impl.errTooLong", Rows.laid_loop_example_s02772_impl_errTooLong), ("loop.example/s02772/impl.errLimit", Rows.laid_loop_example_s02772_impl_errLimit), ("loop.example/s02772/impl.errOrder", Rows.laid_loop_example_s02772_impl_errOrder), ("loop.example/s02772/impl.errNoRuns", Rows.laid_loop_example_s02772_impl_errNoRuns), ("loop.example/s02772/impl.errBehind", Rows.laid_loop_example_s02772_impl_errBehind), ("loop.example/s02772/impl.errNoName", Rows.laid_loop_example_s02772_impl_errNoName), ("loop.example/s02772/impl.errKind", Rows.laid_loop_example_s02772_impl_errKind), ("loop.example/s02772/impl.errDeep", Rows.laid_loop_example_s02772_impl_errDeep), ("loop.example/s02772/impl.errNoKeys", Rows.laid_loop_example_s02772_impl_errNoKeys), ("loop.example/s02772/impl.errNoLeaves", Rows.laid_loop_example_s02772_impl_errNoLeaves), ("loop.example/s02772/impl.errUnknown", Rows.laid_loop_example_s02772_impl_errUnknown), ("loop.example/s02772/impl.errTwice", Rows.laid_loop_example_s02772_impl_errTwice), ("loop.example/s02772/impl.errReplica", Rows.laid_loop_example_s02772_impl_errReplica), ("loop.example/s02772/impl.errOp", Rows.laid_loop_example_s02772_impl_errOp), ("loop.example/s02772/impl.errChange", Rows.laid_loop_example_s02772_impl_errChange), ("loop.example/s02772/impl.errHello", Rows.laid_loop_example_s02772_impl_errHello), ("loop.example/s02772/impl.errNoRoom", Rows.laid_loop_example_s02772_impl_errNoRoom), ("unicode/utf8.first", Rows.laid_unicode_utf8_first)] = true := by
  unfold Program.listedFits
  rw [noOwnUnsafe]
  kernel_rfl
theorem tie : Tryz.prog.laidByTextLater [("unicode/utf8.acceptRanges", Rows.laid_unicode_utf8_acceptRanges), ("errors.errorType", Rows.laid_errors_errorType), ("loop.example/s02772/impl.errEnds", Rows.laid_loop_example_s02772_impl_errEnds), ("loop.example/s02772/impl.errTenth", Rows.laid_loop_example_s02772_impl_errTenth), ("loop.example/s02772/impl.errShorter", Rows.laid_loop_example_s02772_impl_errShorter), ("loop.example/s02772/impl.errTooLong", Rows.laid_loop_example_s02772_impl_errTooLong), ("loop.example/s02772/impl.errLimit", Rows.laid_loop_example_s02772_impl_errLimit), ("loop.example/s02772/impl.errOrder", Rows.laid_loop_example_s02772_impl_errOrder), ("loop.example/s02772/impl.errNoRuns", Rows.laid_loop_example_s02772_impl_errNoRuns), ("loop.example/s02772/impl.errBehind", Rows.laid_loop_example_s02772_impl_errBehind), ("loop.example/s02772/impl.errNoName", Rows.laid_loop_example_s02772_impl_errNoName), ("loop.example/s02772/impl.errKind", Rows.laid_loop_example_s02772_impl_errKind), ("loop.example/s02772/impl.errDeep", Rows.laid_loop_example_s02772_impl_errDeep), ("loop.example/s02772/impl.errNoKeys", Rows.laid_loop_example_s02772_impl_errNoKeys), ("loop.example/s02772/impl.errNoLeaves", Rows.laid_loop_example_s02772_impl_errNoLeaves), ("loop.example/s02772/impl.errUnknown", Rows.laid_loop_example_s02772_impl_errUnknown), ("loop.example/s02772/impl.errTwice", Rows.laid_loop_example_s02772_impl_errTwice), ("loop.example/s02772/impl.errReplica", Rows.laid_loop_example_s02772_impl_errReplica), ("loop.example/s02772/impl.errOp", Rows.laid_loop_example_s02772_impl_errOp), ("loop.example/s02772/impl.errChange", Rows.laid_loop_example_s02772_impl_errChange), ("loop.example/s02772/impl.errHello", Rows.laid_loop_example_s02772_impl_errHello), ("loop.example/s02772/impl.errNoRoom", Rows.laid_loop_example_s02772_impl_errNoRoom)] [.data, .handle, .sentinel, .sentinel, .sentinel, .sentinel, .sentinel, .sentinel, .sentinel, .sentinel, .sentinel, .sentinel, .sentinel, .sentinel, .sentinel, .sentinel, .sentinel, .sentinel, .sentinel, .sentinel, .sentinel, .sentinel] true :=
  Program.laidByTextLater.sub seatTie1 ["unicode/utf8.acceptRanges", "errors.errorType", "loop.example/s02772/impl.errEnds", "loop.example/s02772/impl.errTenth", "loop.example/s02772/impl.errShorter", "loop.example/s02772/impl.errTooLong", "loop.example/s02772/impl.errLimit", "loop.example/s02772/impl.errOrder", "loop.example/s02772/impl.errNoRuns", "loop.example/s02772/impl.errBehind", "loop.example/s02772/impl.errNoName", "loop.example/s02772/impl.errKind", "loop.example/s02772/impl.errDeep", "loop.example/s02772/impl.errNoKeys", "loop.example/s02772/impl.errNoLeaves", "loop.example/s02772/impl.errUnknown", "loop.example/s02772/impl.errTwice", "loop.example/s02772/impl.errReplica", "loop.example/s02772/impl.errOp", "loop.example/s02772/impl.errChange", "loop.example/s02772/impl.errHello", "loop.example/s02772/impl.errNoRoom"] (by kernel_rfl) (by kernel_rfl)
theorem fnExactParseCmd_row_tie : Rows.fnExactParseCmdRow.laidByTextAt .later Tryz.pinned [.data, .handle, .sentinel, .sentinel, .sentinel, .sentinel, .sentinel, .sentinel, .sentinel, .sentinel, .sentinel, .sentinel, .sentinel, .sentinel, .sentinel, .sentinel, .sentinel, .sentinel, .sentinel, .sentinel, .sentinel, .sentinel, .pinned] true :=
  OpenClaim.laidByTextAt_pinned rfl rfl tie rfl rfl rfl rfl (fun y hy _e => by
    simp only [Rows.fnExactParseCmdRow, List.zip_cons_cons, List.zip_nil_right, List.mem_cons, List.mem_nil_iff, or_false] at hy
    rcases hy with rfl | rfl | rfl | rfl | rfl | rfl | rfl | rfl | rfl | rfl | rfl | rfl | rfl | rfl | rfl | rfl | rfl | rfl | rfl | rfl | rfl | rfl | rfl
    · cases _e
    · cases _e
    · cases _e
    · cases _e
    · cases _e
    · cases _e
    · cases _e
    · cases _e
    · cases _e
    · cases _e
    · cases _e
    · cases _e
    · cases _e
    · cases _e
    · cases _e
    · cases _e
    · cases _e
    · cases _e
    · cases _e
    · cases _e
    · cases _e
    · cases _e
    · exact ⟨pin_laid_unicode_utf8_first, by kernel_rfl⟩) fits1
theorem fnExactParseCmdUpto_row_tie : Rows.fnExactParseCmdUptoRow.laidByTextAt .later Tryz.pinned [.data, .handle, .sentinel, .sentinel, .sentinel, .sentinel, .sentinel, .sentinel, .sentinel, .sentinel, .sentinel, .sentinel, .sentinel, .sentinel, .sentinel, .sentinel, .sentinel, .sentinel, .sentinel, .sentinel, .sentinel, .sentinel, .pinned] true :=
  OpenClaim.laidByTextAt_pinned rfl rfl tie rfl rfl rfl rfl (fun y hy _e => by
    simp only [Rows.fnExactParseCmdUptoRow, List.zip_cons_cons, List.zip_nil_right, List.mem_cons, List.mem_nil_iff, or_false] at hy
    rcases hy with rfl | rfl | rfl | rfl | rfl | rfl | rfl | rfl | rfl | rfl | rfl | rfl | rfl | rfl | rfl | rfl | rfl | rfl | rfl | rfl | rfl | rfl | rfl
    · cases _e
    · cases _e
    · cases _e
    · cases _e
    · cases _e
    · cases _e
    · cases _e
    · cases _e
    · cases _e
    · cases _e
    · cases _e
    · cases _e
    · cases _e
    · cases _e
    · cases _e
    · cases _e
    · cases _e
    · cases _e
    · cases _e
    · cases _e
    · cases _e
    · cases _e
    · exact ⟨pin_laid_unicode_utf8_first, by kernel_rfl⟩) fits1
end Go.Proofs.YtemfhnnkkmiamaaGreatDoor
