/-
  DERIVED. GIVEN WITH THE SEED: THE PROGRAM's TIES (one call each: nine closed facts by the kernel) AND EACH ROW's TIE, after the 31st guide's Derived/Test/Toyas{Tie, Card}.lean. No idea stands in it: it is a product of the set-up. Laid BY PROGRAM, IN A SANDBOX (cutbox-door.mjs). By AI agents, Wed Nov 11 2026. No macro, syntax, notation, axiom, sorry.
-/
import Derived.Test.YtcgdckphpjfmhaaGreatDoorRows
import Derived.LaidByTextLater
import Derived.SevenTiedAt
import Derived.LaidSub
import Derived.LaidOnce
namespace Go.Proofs.YtcgdckphpjfmhaaGreatDoor
open Go
set_option maxRecDepth 100000
theorem seatTie1 : Tryz.prog.laidByTextLater [("errors.errorType", Rows.laid_errors_errorType), ("loop.example/g00297/impl.errWrong", Rows.laid_loop_example_g00297_impl_errWrong), ("loop.example/g00297/impl.errForm", Rows.laid_loop_example_g00297_impl_errForm), ("loop.example/g00297/impl.errFits", Rows.laid_loop_example_g00297_impl_errFits), ("loop.example/g00297/impl.errThere", Rows.laid_loop_example_g00297_impl_errThere), ("loop.example/g00297/impl.errNone", Rows.laid_loop_example_g00297_impl_errNone), ("loop.example/g00297/impl.errFull", Rows.laid_loop_example_g00297_impl_errFull)] [.handle, .sentinel, .sentinel, .sentinel, .sentinel, .sentinel, .sentinel] true :=
  Program.laidByTextLater_by_one 130 8 2 (by kernel_rfl) (by kernel_rfl) (by kernel_rfl) (by kernel_rfl) (by kernel_rfl) (by kernel_rfl) (fun _ _ => by kernel_rfl)
theorem noOwnUnsafe : Tryz.pinned.checked.prog.headLifts.contains "ownunsafe" = false := by kernel_rfl
theorem tie : Tryz.prog.laidByTextLater [("errors.errorType", Rows.laid_errors_errorType), ("loop.example/g00297/impl.errWrong", Rows.laid_loop_example_g00297_impl_errWrong), ("loop.example/g00297/impl.errForm", Rows.laid_loop_example_g00297_impl_errForm), ("loop.example/g00297/impl.errFits", Rows.laid_loop_example_g00297_impl_errFits), ("loop.example/g00297/impl.errThere", Rows.laid_loop_example_g00297_impl_errThere), ("loop.example/g00297/impl.errNone", Rows.laid_loop_example_g00297_impl_errNone), ("loop.example/g00297/impl.errFull", Rows.laid_loop_example_g00297_impl_errFull)] [.handle, .sentinel, .sentinel, .sentinel, .sentinel, .sentinel, .sentinel] true :=
  Program.laidByTextLater.sub seatTie1 ["errors.errorType", "loop.example/g00297/impl.errWrong", "loop.example/g00297/impl.errForm", "loop.example/g00297/impl.errFits", "loop.example/g00297/impl.errThere", "loop.example/g00297/impl.errNone", "loop.example/g00297/impl.errFull"] (by kernel_rfl) (by kernel_rfl)
theorem fnDelta_row_tie : Rows.fnDeltaRow.laidByTextAt .later Tryz.pinned [.handle, .sentinel, .sentinel, .sentinel, .sentinel, .sentinel, .sentinel] true :=
  OpenClaim.laidByTextAt_later rfl rfl tie noOwnUnsafe
theorem fnHistory_row_tie : Rows.fnHistoryRow.laidByTextAt .later Tryz.pinned [.handle, .sentinel, .sentinel, .sentinel, .sentinel, .sentinel, .sentinel] true :=
  OpenClaim.laidByTextAt_later rfl rfl tie noOwnUnsafe
theorem fnExactDelta_row_tie : Rows.fnExactDeltaRow.laidByTextAt .later Tryz.pinned [.handle, .sentinel, .sentinel, .sentinel, .sentinel, .sentinel, .sentinel] true :=
  OpenClaim.laidByTextAt_later rfl rfl tie noOwnUnsafe
theorem fnDeltaUpto_row_tie : Rows.fnDeltaUptoRow.laidByTextAt .later Tryz.pinned [.handle, .sentinel, .sentinel, .sentinel, .sentinel, .sentinel, .sentinel] true :=
  OpenClaim.laidByTextAt_later rfl rfl tie noOwnUnsafe
theorem fnHistoryUpto_row_tie : Rows.fnHistoryUptoRow.laidByTextAt .later Tryz.pinned [.handle, .sentinel, .sentinel, .sentinel, .sentinel, .sentinel, .sentinel] true :=
  OpenClaim.laidByTextAt_later rfl rfl tie noOwnUnsafe
theorem fnExactDeltaUpto_row_tie : Rows.fnExactDeltaUptoRow.laidByTextAt .later Tryz.pinned [.handle, .sentinel, .sentinel, .sentinel, .sentinel, .sentinel, .sentinel] true :=
  OpenClaim.laidByTextAt_later rfl rfl tie noOwnUnsafe
end Go.Proofs.YtcgdckphpjfmhaaGreatDoor
