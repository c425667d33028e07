/-
  DERIVED. GIVEN WITH THE SEED: THE CARDS: each row of YtaokopipgolmbaaGreatDoorRows.lean that lists a variable, with what it lists TIED to the program's text (the seventh form; the later family's looks); each row that meets fmt, with fmt's text TOLD by the authors' own Lean function (tested against real Go, not proved from fmt's source: count such statements apart). THE CARD IS WHAT COUNTS. Prove the row's statement (the work); the ties are given (YtaokopipgolmbaaGreatDoorTie.lean); close each card by the builder's one call (the guide's Derived/Test/ToyasCard.lean, 'card_holds'). Laid BY PROGRAM, IN A SANDBOX (cutbox-door.mjs). By AI agents, Wed Nov 11 2026. No macro, syntax, notation, axiom, sorry.
-/
import Derived.Test.YtaokopipgolmbaaGreatDoorRows
import GoSem.ClaimSeven
namespace Go.Proofs.YtaokopipgolmbaaGreatDoor
namespace Rows

/-- THE TIED CARD OF 'laws.FnExactIrRun'. -/
def fnExactIrRunCard : Claim7 := { stood := { row := fnExactIrRunRow, standIns := [], harness := (true, "fdabc3ea3a3a876ee7d1cc37f23c1b83a21771ec7d7055eb93e997fa63728abf"), looks := true }, kinds := [], alts := [], laidByText := true, laidKinds := [.handle, .wider, .wider], laidTests := true, laidLooks := .later }
def FnExactIrRunCardSaid : Prop := Claim7.holds Tryz.pinned (.plain (OpenSpec.ofChange fnExactIrRunSpec)) fnExactIrRunCard

/-- THE SECOND FORM's CARD OF 'laws.FnExactIrRun'. -/
def fnExactIrRunUptoCard : Claim7 := { stood := { row := fnExactIrRunUptoRow, standIns := [], harness := (true, "fdabc3ea3a3a876ee7d1cc37f23c1b83a21771ec7d7055eb93e997fa63728abf"), looks := true }, kinds := [], alts := [], laidByText := true, laidKinds := [.handle, .wider, .wider], laidTests := true, laidLooks := .later }
def FnExactIrRunUptoCardSaid : Prop := Claim7.holds Tryz.pinned (.plain (OpenSpec.upto fnExactIrRunSpec)) fnExactIrRunUptoCard
end Rows
end Go.Proofs.YtaokopipgolmbaaGreatDoor
