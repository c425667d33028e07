/-
  DERIVED. GIVEN WITH THE SEED: THE PROGRAM's TIES (one call each: nine closed facts by the kernel) AND EACH ROW's TIE, after the 31st guide's Derived/Test/Toyas{Tie, Card}.lean. No idea stands in it: it is a product of the set-up. Laid BY PROGRAM, IN A SANDBOX (cutbox-door.mjs). By AI agents, Wed Nov 11 2026. No macro, syntax, notation, axiom, sorry.
-/
import Derived.Test.YtkeelacobknfbaaDoorRows
import Derived.LaidByTextLater
import Derived.SevenTiedAt
import Derived.LaidSub
import Derived.LaidOnce
namespace Go.Proofs.YtkeelacobknfbaaDoor
open Go
set_option maxRecDepth 100000
theorem seatTie1 : Tryd.prog.laidByTextLater [("loop.example/latimer/impl.errTooFew", Rows.laid_loop_example_latimer_impl_errTooFew), ("loop.example/latimer/impl.errTooMany", Rows.laid_loop_example_latimer_impl_errTooMany), ("loop.example/latimer/impl.errNotOk", Rows.laid_loop_example_latimer_impl_errNotOk), ("loop.example/latimer/impl.opShapes", Rows.laid_loop_example_latimer_impl_opShapes), ("loop.example/latimer/impl.endShapes", Rows.laid_loop_example_latimer_impl_endShapes)] [.sentinel, .sentinel, .sentinel, .wider, .wider] true :=
  Program.laidByTextLater_by_one 88 8 46 (by kernel_rfl) (by kernel_rfl) (by kernel_rfl) (by kernel_rfl) (by kernel_rfl) (by kernel_rfl) (fun _ _ => by kernel_rfl)
theorem noOwnUnsafe : Tryd.pinned.checked.prog.headLifts.contains "ownunsafe" = false := by kernel_rfl
theorem tie : Tryd.prog.laidByTextLater [("loop.example/latimer/impl.opShapes", Rows.laid_loop_example_latimer_impl_opShapes), ("loop.example/latimer/impl.endShapes", Rows.laid_loop_example_latimer_impl_endShapes)] [.wider, .wider] true :=
  Program.laidByTextLater.sub seatTie1 ["loop.example/latimer/impl.opShapes", "loop.example/latimer/impl.endShapes"] (by kernel_rfl) (by kernel_rfl)
theorem fnIrSame_row_tie : Rows.fnIrSameRow.laidByTextAt .later Tryd.pinned [.wider, .wider] true :=
  OpenClaim.laidByTextAt_later rfl rfl tie noOwnUnsafe
theorem fnExactIrBytes_row_tie : Rows.fnExactIrBytesRow.laidByTextAt .later Tryd.pinned [.wider, .wider] true :=
  OpenClaim.laidByTextAt_later rfl rfl tie noOwnUnsafe
theorem tie2 : Tryd.prog.laidByTextLater [("loop.example/latimer/impl.errTooFew", Rows.laid_loop_example_latimer_impl_errTooFew), ("loop.example/latimer/impl.errTooMany", Rows.laid_loop_example_latimer_impl_errTooMany), ("loop.example/latimer/impl.errNotOk", Rows.laid_loop_example_latimer_impl_errNotOk), ("loop.example/latimer/impl.opShapes", Rows.laid_loop_example_latimer_impl_opShapes), ("loop.example/latimer/impl.endShapes", Rows.laid_loop_example_latimer_impl_endShapes)] [.sentinel, .sentinel, .sentinel, .wider, .wider] true :=
  Program.laidByTextLater.sub seatTie1 ["loop.example/latimer/impl.errTooFew", "loop.example/latimer/impl.errTooMany", "loop.example/latimer/impl.errNotOk", "loop.example/latimer/impl.opShapes", "loop.example/latimer/impl.endShapes"] (by kernel_rfl) (by kernel_rfl)
theorem fnIrBytes_row_tie : Rows.fnIrBytesRow.laidByTextAt .later Tryd.pinned [.sentinel, .sentinel, .sentinel, .wider, .wider] true :=
  OpenClaim.laidByTextAt_later rfl rfl tie2 noOwnUnsafe
theorem fnExactIrRead_row_tie : Rows.fnExactIrReadRow.laidByTextAt .later Tryd.pinned [.sentinel, .sentinel, .sentinel, .wider, .wider] true :=
  OpenClaim.laidByTextAt_later rfl rfl tie2 noOwnUnsafe
theorem fnIrSameUpto_row_tie : Rows.fnIrSameUptoRow.laidByTextAt .later Tryd.pinned [.wider, .wider] true :=
  OpenClaim.laidByTextAt_later rfl rfl tie noOwnUnsafe
theorem fnIrBytesUpto_row_tie : Rows.fnIrBytesUptoRow.laidByTextAt .later Tryd.pinned [.sentinel, .sentinel, .sentinel, .wider, .wider] true :=
  OpenClaim.laidByTextAt_later rfl rfl tie2 noOwnUnsafe
theorem fnExactIrBytesUpto_row_tie : Rows.fnExactIrBytesUptoRow.laidByTextAt .later Tryd.pinned [.wider, .wider] true :=
  OpenClaim.laidByTextAt_later rfl rfl tie noOwnUnsafe
theorem fnExactIrReadUpto_row_tie : Rows.fnExactIrReadUptoRow.laidByTextAt .later Tryd.pinned [.sentinel, .sentinel, .sentinel, .wider, .wider] true :=
  OpenClaim.laidByTextAt_later rfl rfl tie2 noOwnUnsafe
end Go.Proofs.YtkeelacobknfbaaDoor
