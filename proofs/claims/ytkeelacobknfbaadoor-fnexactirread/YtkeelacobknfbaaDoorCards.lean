/-
  DERIVED. GIVEN WITH THE SEED: THE CARDS: each row of YtkeelacobknfbaaDoorRows.lean that lists a variable, with what it lists TIED to the program's text (the seventh form; the later family's looks); each row that meets fmt, with fmt's text TOLD by the authors' own Lean function (tested against real Go, not proved from fmt's source: count such statements apart). THE CARD IS WHAT COUNTS. Prove the row's statement (the work); the ties are given (YtkeelacobknfbaaDoorTie.lean); close each card by the builder's one call (the guide's Derived/Test/ToyasCard.lean, 'card_holds'). Laid BY PROGRAM, IN A SANDBOX (cutbox-door.mjs). By AI agents, Wed Nov 11 2026. No macro, syntax, notation, axiom, sorry.
-/
import Derived.Test.YtkeelacobknfbaaDoorRows
import GoSem.ClaimSeven
namespace Go.Proofs.YtkeelacobknfbaaDoor
namespace Rows

/-- THE TIED CARD OF 'laws.FnIrSame'. -/
def fnIrSameCard : Claim7 := { stood := { row := fnIrSameRow, standIns := [], harness := (true, "7edb4a81e00b71114e2b05156062a8d6a0e458d3490f5484cb37f66b1b269180"), looks := false }, kinds := [], alts := [], laidByText := true, laidKinds := [.wider, .wider], laidTests := true, laidLooks := .later }
def FnIrSameCardSaid : Prop := Claim7.holds Tryd.pinned (.plain (OpenSpec.ofChange fnIrSameSpec)) fnIrSameCard

/-- THE TIED CARD OF 'laws.FnIrBytes'. -/
def fnIrBytesCard : Claim7 := { stood := { row := fnIrBytesRow, standIns := [], harness := (true, "7edb4a81e00b71114e2b05156062a8d6a0e458d3490f5484cb37f66b1b269180"), looks := false }, kinds := [], alts := [], laidByText := true, laidKinds := [.sentinel, .sentinel, .sentinel, .wider, .wider], laidTests := true, laidLooks := .later }
def FnIrBytesCardSaid : Prop := Claim7.holds Tryd.pinned (.plain (OpenSpec.ofChange fnIrBytesSpec)) fnIrBytesCard

/-- THE TIED CARD OF 'laws.FnExactIrBytes'. -/
def fnExactIrBytesCard : Claim7 := { stood := { row := fnExactIrBytesRow, standIns := [], harness := (true, "7edb4a81e00b71114e2b05156062a8d6a0e458d3490f5484cb37f66b1b269180"), looks := false }, kinds := [], alts := [], laidByText := true, laidKinds := [.wider, .wider], laidTests := true, laidLooks := .later }
def FnExactIrBytesCardSaid : Prop := Claim7.holds Tryd.pinned (.plain (OpenSpec.ofChange fnExactIrBytesSpec)) fnExactIrBytesCard

/-- THE TIED CARD OF 'laws.FnExactIrRead'. -/
def fnExactIrReadCard : Claim7 := { stood := { row := fnExactIrReadRow, standIns := [], harness := (true, "7edb4a81e00b71114e2b05156062a8d6a0e458d3490f5484cb37f66b1b269180"), looks := false }, kinds := [], alts := [], laidByText := true, laidKinds := [.sentinel, .sentinel, .sentinel, .wider, .wider], laidTests := true, laidLooks := .later }
def FnExactIrReadCardSaid : Prop := Claim7.holds Tryd.pinned (.plain (OpenSpec.ofChange fnExactIrReadSpec)) fnExactIrReadCard

/-- THE SECOND FORM's CARD OF 'laws.FnIrSame'. -/
def fnIrSameUptoCard : Claim7 := { stood := { row := fnIrSameUptoRow, standIns := [], harness := (true, "7edb4a81e00b71114e2b05156062a8d6a0e458d3490f5484cb37f66b1b269180"), looks := false }, kinds := [], alts := [], laidByText := true, laidKinds := [.wider, .wider], laidTests := true, laidLooks := .later }
def FnIrSameUptoCardSaid : Prop := Claim7.holds Tryd.pinned (.plain (OpenSpec.upto fnIrSameSpec)) fnIrSameUptoCard

/-- THE SECOND FORM's CARD OF 'laws.FnIrBytes'. -/
def fnIrBytesUptoCard : Claim7 := { stood := { row := fnIrBytesUptoRow, standIns := [], harness := (true, "7edb4a81e00b71114e2b05156062a8d6a0e458d3490f5484cb37f66b1b269180"), looks := false }, kinds := [], alts := [], laidByText := true, laidKinds := [.sentinel, .sentinel, .sentinel, .wider, .wider], laidTests := true, laidLooks := .later }
def FnIrBytesUptoCardSaid : Prop := Claim7.holds Tryd.pinned (.plain (OpenSpec.upto fnIrBytesSpec)) fnIrBytesUptoCard

/-- THE SECOND FORM's CARD OF 'laws.FnExactIrBytes'. -/
def fnExactIrBytesUptoCard : Claim7 := { stood := { row := fnExactIrBytesUptoRow, standIns := [], harness := (true, "7edb4a81e00b71114e2b05156062a8d6a0e458d3490f5484cb37f66b1b269180"), looks := false }, kinds := [], alts := [], laidByText := true, laidKinds := [.wider, .wider], laidTests := true, laidLooks := .later }
def FnExactIrBytesUptoCardSaid : Prop := Claim7.holds Tryd.pinned (.plain (OpenSpec.upto fnExactIrBytesSpec)) fnExactIrBytesUptoCard

/-- THE SECOND FORM's CARD OF 'laws.FnExactIrRead'. -/
def fnExactIrReadUptoCard : Claim7 := { stood := { row := fnExactIrReadUptoRow, standIns := [], harness := (true, "7edb4a81e00b71114e2b05156062a8d6a0e458d3490f5484cb37f66b1b269180"), looks := false }, kinds := [], alts := [], laidByText := true, laidKinds := [.sentinel, .sentinel, .sentinel, .wider, .wider], laidTests := true, laidLooks := .later }
def FnExactIrReadUptoCardSaid : Prop := Claim7.holds Tryd.pinned (.plain (OpenSpec.upto fnExactIrReadSpec)) fnExactIrReadUptoCard
end Rows
end Go.Proofs.YtkeelacobknfbaaDoor
