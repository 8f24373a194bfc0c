/-
  DERIVED. GIVEN WITH THE SEED: THE PROGRAM's TIES (one call each: nine closed facts by the kernel) AND EACH ROW's TIE, after the 31st guide's Derived/Test/Toyas{Tie, Card}.lean. No idea stands in it: it is a product of the set-up. Laid BY PROGRAM, IN A SANDBOX (cutbox-door.mjs). By AI agents, Wed Nov 11 2026. No macro, syntax, notation, axiom, sorry.
-/
import Derived.Test.YthkgppfgidlicaaGreatDoorRows
import Derived.LaidByTextLater
import Derived.SevenTiedAt
import Derived.LaidSub
import Derived.LaidOnce
namespace Go.Proofs.YthkgppfgidlicaaGreatDoor
open Go
set_option maxRecDepth 100000
theorem seatTie1 : Tryz.prog.laidByTextLater [("errors.errorType", Rows.laid_errors_errorType), ("loop.example/g00362/impl.errForm", Rows.laid_loop_example_g00362_impl_errForm), ("loop.example/g00362/impl.errNone", Rows.laid_loop_example_g00362_impl_errNone), ("loop.example/g00362/impl.errThere", Rows.laid_loop_example_g00362_impl_errThere), ("loop.example/g00362/impl.errFrozen", Rows.laid_loop_example_g00362_impl_errFrozen), ("loop.example/g00362/impl.errShort", Rows.laid_loop_example_g00362_impl_errShort), ("loop.example/g00362/impl.errFull", Rows.laid_loop_example_g00362_impl_errFull), ("loop.example/g00362/impl.errBusy", Rows.laid_loop_example_g00362_impl_errBusy)] [.handle, .sentinel, .sentinel, .sentinel, .sentinel, .sentinel, .sentinel, .sentinel] true :=
  Program.laidByTextLater_by_one 149 8 2 (by kernel_rfl) (by kernel_rfl) (by kernel_rfl) (by kernel_rfl) (by kernel_rfl) (by kernel_rfl) (fun _ _ => by kernel_rfl)
theorem noOwnUnsafe : Tryz.pinned.checked.prog.headLifts.contains "ownunsafe" = false := by kernel_rfl
theorem tie : Tryz.prog.laidByTextLater [("errors.errorType", Rows.laid_errors_errorType), ("loop.example/g00362/impl.errForm", Rows.laid_loop_example_g00362_impl_errForm), ("loop.example/g00362/impl.errNone", Rows.laid_loop_example_g00362_impl_errNone), ("loop.example/g00362/impl.errThere", Rows.laid_loop_example_g00362_impl_errThere), ("loop.example/g00362/impl.errFrozen", Rows.laid_loop_example_g00362_impl_errFrozen), ("loop.example/g00362/impl.errShort", Rows.laid_loop_example_g00362_impl_errShort), ("loop.example/g00362/impl.errFull", Rows.laid_loop_example_g00362_impl_errFull), ("loop.example/g00362/impl.errBusy", Rows.laid_loop_example_g00362_impl_errBusy)] [.handle, .sentinel, .sentinel, .sentinel, .sentinel, .sentinel, .sentinel, .sentinel] true :=
  Program.laidByTextLater.sub seatTie1 ["errors.errorType", "loop.example/g00362/impl.errForm", "loop.example/g00362/impl.errNone", "loop.example/g00362/impl.errThere", "loop.example/g00362/impl.errFrozen", "loop.example/g00362/impl.errShort", "loop.example/g00362/impl.errFull", "loop.example/g00362/impl.errBusy"] (by kernel_rfl) (by kernel_rfl)
theorem fnDoneForest_row_tie : Rows.fnDoneForestRow.laidByTextAt .later Tryz.pinned [.handle, .sentinel, .sentinel, .sentinel, .sentinel, .sentinel, .sentinel, .sentinel] true :=
  OpenClaim.laidByTextAt_later rfl rfl tie noOwnUnsafe
theorem fnLimits_row_tie : Rows.fnLimitsRow.laidByTextAt .later Tryz.pinned [.handle, .sentinel, .sentinel, .sentinel, .sentinel, .sentinel, .sentinel, .sentinel] true :=
  OpenClaim.laidByTextAt_later rfl rfl tie noOwnUnsafe
theorem fnFrozen_row_tie : Rows.fnFrozenRow.laidByTextAt .later Tryz.pinned [.handle, .sentinel, .sentinel, .sentinel, .sentinel, .sentinel, .sentinel, .sentinel] true :=
  OpenClaim.laidByTextAt_later rfl rfl tie noOwnUnsafe
theorem fnPaid_row_tie : Rows.fnPaidRow.laidByTextAt .later Tryz.pinned [.handle, .sentinel, .sentinel, .sentinel, .sentinel, .sentinel, .sentinel, .sentinel] true :=
  OpenClaim.laidByTextAt_later rfl rfl tie noOwnUnsafe
theorem fnDonePieces_row_tie : Rows.fnDonePiecesRow.laidByTextAt .later Tryz.pinned [.handle, .sentinel, .sentinel, .sentinel, .sentinel, .sentinel, .sentinel, .sentinel] true :=
  OpenClaim.laidByTextAt_later rfl rfl tie noOwnUnsafe
theorem fnExactDoneAll_row_tie : Rows.fnExactDoneAllRow.laidByTextAt .later Tryz.pinned [.handle, .sentinel, .sentinel, .sentinel, .sentinel, .sentinel, .sentinel, .sentinel] true :=
  OpenClaim.laidByTextAt_later rfl rfl tie noOwnUnsafe
theorem fnDoneForestUpto_row_tie : Rows.fnDoneForestUptoRow.laidByTextAt .later Tryz.pinned [.handle, .sentinel, .sentinel, .sentinel, .sentinel, .sentinel, .sentinel, .sentinel] true :=
  OpenClaim.laidByTextAt_later rfl rfl tie noOwnUnsafe
theorem fnLimitsUpto_row_tie : Rows.fnLimitsUptoRow.laidByTextAt .later Tryz.pinned [.handle, .sentinel, .sentinel, .sentinel, .sentinel, .sentinel, .sentinel, .sentinel] true :=
  OpenClaim.laidByTextAt_later rfl rfl tie noOwnUnsafe
theorem fnFrozenUpto_row_tie : Rows.fnFrozenUptoRow.laidByTextAt .later Tryz.pinned [.handle, .sentinel, .sentinel, .sentinel, .sentinel, .sentinel, .sentinel, .sentinel] true :=
  OpenClaim.laidByTextAt_later rfl rfl tie noOwnUnsafe
theorem fnPaidUpto_row_tie : Rows.fnPaidUptoRow.laidByTextAt .later Tryz.pinned [.handle, .sentinel, .sentinel, .sentinel, .sentinel, .sentinel, .sentinel, .sentinel] true :=
  OpenClaim.laidByTextAt_later rfl rfl tie noOwnUnsafe
theorem fnDonePiecesUpto_row_tie : Rows.fnDonePiecesUptoRow.laidByTextAt .later Tryz.pinned [.handle, .sentinel, .sentinel, .sentinel, .sentinel, .sentinel, .sentinel, .sentinel] true :=
  OpenClaim.laidByTextAt_later rfl rfl tie noOwnUnsafe
theorem fnExactDoneAllUpto_row_tie : Rows.fnExactDoneAllUptoRow.laidByTextAt .later Tryz.pinned [.handle, .sentinel, .sentinel, .sentinel, .sentinel, .sentinel, .sentinel, .sentinel] true :=
  OpenClaim.laidByTextAt_later rfl rfl tie noOwnUnsafe
end Go.Proofs.YthkgppfgidlicaaGreatDoor
