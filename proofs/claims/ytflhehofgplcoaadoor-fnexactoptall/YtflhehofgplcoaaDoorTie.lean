/-
  DERIVED. GIVEN WITH THE SEED: THE PROGRAM's TIES (one call each: nine closed facts by the kernel) AND EACH ROW's TIE, after the 31st guide's Derived/Test/Toyas{Tie, Card}.lean. No idea stands in it: it is a product of the set-up. Laid BY PROGRAM, IN A SANDBOX (cutbox-door.mjs). By AI agents, Wed Nov 11 2026. No macro, syntax, notation, axiom, sorry.
-/
import Derived.Test.YtflhehofgplcoaaDoorRows
import Derived.LaidByTextLater
import Derived.SevenTiedAt
import Derived.LaidSub
import Derived.LaidOnce
namespace Go.Proofs.YtflhehofgplcoaaDoor
open Go
set_option maxRecDepth 100000
theorem seatTie1 : Tryd.prog.laidByTextLater [("loop.example/latimer/impl.opShapes", Rows.laid_loop_example_latimer_impl_opShapes), ("loop.example/latimer/impl.endShapes", Rows.laid_loop_example_latimer_impl_endShapes)] [.wider, .wider] true :=
  Program.laidByTextLater_by_one 31 8 46 (by kernel_rfl) (by kernel_rfl) (by kernel_rfl) (by kernel_rfl) (by kernel_rfl) (by kernel_rfl) (fun _ _ => by kernel_rfl)
theorem noOwnUnsafe : Tryd.pinned.checked.prog.headLifts.contains "ownunsafe" = false := by kernel_rfl
theorem tie : Tryd.prog.laidByTextLater [("loop.example/latimer/impl.opShapes", Rows.laid_loop_example_latimer_impl_opShapes), ("loop.example/latimer/impl.endShapes", Rows.laid_loop_example_latimer_impl_endShapes)] [.wider, .wider] true :=
  Program.laidByTextLater.sub seatTie1 ["loop.example/latimer/impl.opShapes", "loop.example/latimer/impl.endShapes"] (by kernel_rfl) (by kernel_rfl)
theorem fnExactOptSets_row_tie : Rows.fnExactOptSetsRow.laidByTextAt .later Tryd.pinned [.wider, .wider] true :=
  OpenClaim.laidByTextAt_later rfl rfl tie noOwnUnsafe
theorem fnExactOptUsed_row_tie : Rows.fnExactOptUsedRow.laidByTextAt .later Tryd.pinned [.wider, .wider] true :=
  OpenClaim.laidByTextAt_later rfl rfl tie noOwnUnsafe
theorem fnExactOptDead_row_tie : Rows.fnExactOptDeadRow.laidByTextAt .later Tryd.pinned [.wider, .wider] true :=
  OpenClaim.laidByTextAt_later rfl rfl tie noOwnUnsafe
theorem fnExactOptAll_row_tie : Rows.fnExactOptAllRow.laidByTextAt .later Tryd.pinned [.wider, .wider] true :=
  OpenClaim.laidByTextAt_later rfl rfl tie noOwnUnsafe
theorem fnExactOptSetsUpto_row_tie : Rows.fnExactOptSetsUptoRow.laidByTextAt .later Tryd.pinned [.wider, .wider] true :=
  OpenClaim.laidByTextAt_later rfl rfl tie noOwnUnsafe
theorem fnExactOptUsedUpto_row_tie : Rows.fnExactOptUsedUptoRow.laidByTextAt .later Tryd.pinned [.wider, .wider] true :=
  OpenClaim.laidByTextAt_later rfl rfl tie noOwnUnsafe
theorem fnExactOptDeadUpto_row_tie : Rows.fnExactOptDeadUptoRow.laidByTextAt .later Tryd.pinned [.wider, .wider] true :=
  OpenClaim.laidByTextAt_later rfl rfl tie noOwnUnsafe
theorem fnExactOptAllUpto_row_tie : Rows.fnExactOptAllUptoRow.laidByTextAt .later Tryd.pinned [.wider, .wider] true :=
  OpenClaim.laidByTextAt_later rfl rfl tie noOwnUnsafe
end Go.Proofs.YtflhehofgplcoaaDoor
