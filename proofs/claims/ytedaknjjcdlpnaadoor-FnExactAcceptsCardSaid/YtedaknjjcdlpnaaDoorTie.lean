/-
  DERIVED. GIVEN WITH THE SEED: THE PROGRAM's TIES (one call each: nine closed facts by the kernel) AND EACH ROW's TIE, after the 31st guide's Derived/Test/Toyas{Tie, Card}.lean. No idea stands in it: it is a product of the set-up. Laid BY PROGRAM, IN A SANDBOX (cutbox-door.mjs). By AI agents, Wed Nov 11 2026. No macro, syntax, notation, axiom, sorry.
-/
import Derived.Test.YtedaknjjcdlpnaaDoorRows
import Derived.LaidByTextLater
import Derived.SevenTiedAt
import Derived.LaidSub
import Derived.LaidOnce
namespace Go.Proofs.YtedaknjjcdlpnaaDoor
open Go
set_option maxRecDepth 100000
theorem seatTie1 : Tryd.prog.laidByTextLater [("errors.errorType", Rows.laid_errors_errorType), ("loop.example/g00805/impl.errNotRight", Rows.laid_loop_example_g00805_impl_errNotRight), ("loop.example/g00805/impl.errNotOwned", Rows.laid_loop_example_g00805_impl_errNotOwned), ("loop.example/g00805/impl.errTooHigh", Rows.laid_loop_example_g00805_impl_errTooHigh)] [.handle, .sentinel, .sentinel, .sentinel] true :=
  Program.laidByTextLater_by_one 73 8 2 (by kernel_rfl) (by kernel_rfl) (by kernel_rfl) (by kernel_rfl) (by kernel_rfl) (by kernel_rfl) (fun _ _ => by kernel_rfl)
theorem noOwnUnsafe : Tryd.pinned.checked.prog.headLifts.contains "ownunsafe" = false := by kernel_rfl
theorem tie : Tryd.prog.laidByTextLater [("errors.errorType", Rows.laid_errors_errorType), ("loop.example/g00805/impl.errNotRight", Rows.laid_loop_example_g00805_impl_errNotRight), ("loop.example/g00805/impl.errNotOwned", Rows.laid_loop_example_g00805_impl_errNotOwned), ("loop.example/g00805/impl.errTooHigh", Rows.laid_loop_example_g00805_impl_errTooHigh)] [.handle, .sentinel, .sentinel, .sentinel] true :=
  Program.laidByTextLater.sub seatTie1 ["errors.errorType", "loop.example/g00805/impl.errNotRight", "loop.example/g00805/impl.errNotOwned", "loop.example/g00805/impl.errTooHigh"] (by kernel_rfl) (by kernel_rfl)
theorem fnTerms_row_tie : Rows.fnTermsRow.laidByTextAt .later Tryd.pinned [.handle, .sentinel, .sentinel, .sentinel] true :=
  OpenClaim.laidByTextAt_later rfl rfl tie noOwnUnsafe
theorem tie2 : Tryd.prog.laidByTextLater [("errors.errorType", Rows.laid_errors_errorType), ("loop.example/g00805/impl.errNotRight", Rows.laid_loop_example_g00805_impl_errNotRight), ("loop.example/g00805/impl.errNotOwned", Rows.laid_loop_example_g00805_impl_errNotOwned)] [.handle, .sentinel, .sentinel] true :=
  Program.laidByTextLater.sub seatTie1 ["errors.errorType", "loop.example/g00805/impl.errNotRight", "loop.example/g00805/impl.errNotOwned"] (by kernel_rfl) (by kernel_rfl)
theorem fnExactAllowed_row_tie : Rows.fnExactAllowedRow.laidByTextAt .later Tryd.pinned [.handle, .sentinel, .sentinel] true :=
  OpenClaim.laidByTextAt_later rfl rfl tie2 noOwnUnsafe
theorem tie3 : Tryd.prog.laidByTextLater [("errors.errorType", Rows.laid_errors_errorType), ("loop.example/g00805/impl.errNotRight", Rows.laid_loop_example_g00805_impl_errNotRight), ("loop.example/g00805/impl.errTooHigh", Rows.laid_loop_example_g00805_impl_errTooHigh)] [.handle, .sentinel, .sentinel] true :=
  Program.laidByTextLater.sub seatTie1 ["errors.errorType", "loop.example/g00805/impl.errNotRight", "loop.example/g00805/impl.errTooHigh"] (by kernel_rfl) (by kernel_rfl)
theorem fnExactAccepts_row_tie : Rows.fnExactAcceptsRow.laidByTextAt .later Tryd.pinned [.handle, .sentinel, .sentinel] true :=
  OpenClaim.laidByTextAt_later rfl rfl tie3 noOwnUnsafe
theorem fnTermsUpto_row_tie : Rows.fnTermsUptoRow.laidByTextAt .later Tryd.pinned [.handle, .sentinel, .sentinel, .sentinel] true :=
  OpenClaim.laidByTextAt_later rfl rfl tie noOwnUnsafe
theorem fnExactAllowedUpto_row_tie : Rows.fnExactAllowedUptoRow.laidByTextAt .later Tryd.pinned [.handle, .sentinel, .sentinel] true :=
  OpenClaim.laidByTextAt_later rfl rfl tie2 noOwnUnsafe
theorem fnExactAcceptsUpto_row_tie : Rows.fnExactAcceptsUptoRow.laidByTextAt .later Tryd.pinned [.handle, .sentinel, .sentinel] true :=
  OpenClaim.laidByTextAt_later rfl rfl tie3 noOwnUnsafe
end Go.Proofs.YtedaknjjcdlpnaaDoor
