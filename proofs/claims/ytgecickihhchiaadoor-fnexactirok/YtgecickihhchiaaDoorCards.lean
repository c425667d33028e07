/-
  DERIVED. GIVEN WITH THE SEED: THE CARDS: each row of YtgecickihhchiaaDoorRows.lean that lists a variable, with what it lists TIED to the program's text (the seventh form; the later family's looks); each row that meets fmt, with fmt's text TOLD by the authors' own Lean function (tested against real Go, not proved from fmt's source: count such statements apart). THE CARD IS WHAT COUNTS. Prove the row's statement (the work); the ties are given (YtgecickihhchiaaDoorTie.lean); close each card by the builder's one call (the guide's Derived/Test/ToyasCard.lean, 'card_holds'). Laid BY PROGRAM, IN A SANDBOX (cutbox-door.mjs). By AI agents, Wed Nov 11 2026. No macro, syntax, notation, axiom, sorry.
-/
import Derived.Test.YtgecickihhchiaaDoorRows
import GoSem.ClaimSeven
namespace Go.Proofs.YtgecickihhchiaaDoor
namespace Rows

/-- THE TIED CARD OF 'laws.FnExactIrOk'. -/
def fnExactIrOkCard : Claim7 := { stood := { row := fnExactIrOkRow, standIns := [], harness := (true, "b6eceadaf2ff06a7b0815328791ebd8bd2c36341563727487c1e9f72ebc8a74c"), looks := false }, kinds := [], alts := [], laidByText := true, laidKinds := [.wider, .wider], laidTests := true, laidLooks := .later }
def FnExactIrOkCardSaid : Prop := Claim7.holds Tryd.pinned (.plain (OpenSpec.ofChange fnExactIrOkSpec)) fnExactIrOkCard

/-- THE SECOND FORM's CARD OF 'laws.FnExactIrOk'. -/
def fnExactIrOkUptoCard : Claim7 := { stood := { row := fnExactIrOkUptoRow, standIns := [], harness := (true, "b6eceadaf2ff06a7b0815328791ebd8bd2c36341563727487c1e9f72ebc8a74c"), looks := false }, kinds := [], alts := [], laidByText := true, laidKinds := [.wider, .wider], laidTests := true, laidLooks := .later }
def FnExactIrOkUptoCardSaid : Prop := Claim7.holds Tryd.pinned (.plain (OpenSpec.upto fnExactIrOkSpec)) fnExactIrOkUptoCard
end Rows
end Go.Proofs.YtgecickihhchiaaDoor
