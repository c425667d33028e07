/-
  DERIVED. GIVEN WITH THE SEED: THE PROGRAM's TIES (one call each: nine closed facts by the kernel) AND EACH ROW's TIE, after the 31st guide's Derived/Test/Toyas{Tie, Card}.lean. No idea stands in it: it is a product of the set-up. Laid BY PROGRAM, IN A SANDBOX (cutbox-door.mjs). By AI agents, Wed Nov 11 2026. No macro, syntax, notation, axiom, sorry.
-/
import Derived.Test.YtaokopipgolmbaaGreatDoorRows
import Derived.LaidByTextLater
import Derived.SevenTiedAt
import Derived.LaidSub
import Derived.LaidOnce
namespace Go.Proofs.YtaokopipgolmbaaGreatDoor
open Go
set_option maxRecDepth 100000
theorem seatTie1 : Tryz.prog.laidByTextLater [("errors.errorType", Rows.laid_errors_errorType), ("loop.example/latimer/impl.opShapes", Rows.laid_loop_example_latimer_impl_opShapes), ("loop.example/latimer/impl.endShapes", Rows.laid_loop_example_latimer_impl_endShapes)] [.handle, .wider, .wider] true :=
  Program.laidByTextLater_by_one 38 8 46 (by kernel_rfl) (by kernel_rfl) (by kernel_rfl) (by kernel_rfl) (by kernel_rfl) (by kernel_rfl) (fun _ _ => by kernel_rfl)
theorem noOwnUnsafe : Tryz.pinned.checked.prog.headLifts.contains "ownunsafe" = false := by kernel_rfl
theorem tie : Tryz.prog.laidByTextLater [("errors.errorType", Rows.laid_errors_errorType), ("loop.example/latimer/impl.opShapes", Rows.laid_loop_example_latimer_impl_opShapes), ("loop.example/latimer/impl.endShapes", Rows.laid_loop_example_latimer_impl_endShapes)] [.handle, .wider, .wider] true :=
  Program.laidByTextLater.sub seatTie1 ["errors.errorType", "loop.example/latimer/impl.opShapes", "loop.example/latimer/impl.endShapes"] (by kernel_rfl) (by kernel_rfl)
theorem fnExactIrRun_row_tie : Rows.fnExactIrRunRow.laidByTextAt .later Tryz.pinned [.handle, .wider, .wider] true :=
  OpenClaim.laidByTextAt_later rfl rfl tie noOwnUnsafe
theorem fnExactIrRunUpto_row_tie : Rows.fnExactIrRunUptoRow.laidByTextAt .later Tryz.pinned [.handle, .wider, .wider] true :=
  OpenClaim.laidByTextAt_later rfl rfl tie noOwnUnsafe
end Go.Proofs.YtaokopipgolmbaaGreatDoor
