/-
  DERIVED. GIVEN WITH THE SEED: THE CARDS: each row of YtapohghigmalcabDoorRows.lean that lists a variable, with what it lists TIED to the program's text (the seventh form; the later family's looks); each row that meets fmt, with fmt's text TOLD by the authors' own Lean function (tested against real Go, not proved from fmt's source: count such statements apart). THE CARD IS WHAT COUNTS. Prove the row's statement (the work); the ties are given (YtapohghigmalcabDoorTie.lean); close each card by the builder's one call (the guide's Derived/Test/ToyasCard.lean, 'card_holds'). Laid BY PROGRAM, IN A SANDBOX (cutbox-door.mjs). By AI agents, Wed Nov 11 2026. No macro, syntax, notation, axiom, sorry.
-/
import Derived.Test.YtapohghigmalcabDoorRows
import GoSem.ClaimSeven
namespace Go.Proofs.YtapohghigmalcabDoor
namespace Rows

/-- THE TIED CARD OF 'laws.FnExactWrdText'. -/
def fnExactWrdTextCard : Claim7 := { stood := { row := fnExactWrdTextRow, standIns := [], harness := (true, "01a4395e2f95d4bba7d2f3de067aa088a73b880a2d4f9a98605b1f45fead5525"), looks := true }, kinds := [], alts := [], laidByText := true, laidKinds := [.data, .data, .data], laidTests := true, laidLooks := .later }
def FnExactWrdTextCardSaid : Prop := Claim7.holds Tryd.pinned (.plain (OpenSpec.ofChange fnExactWrdTextSpec)) fnExactWrdTextCard

/-- THE TIED CARD OF 'laws.FnExactWrdRead'. -/
def fnExactWrdReadCard : Claim7 := { stood := { row := fnExactWrdReadRow, standIns := [], harness := (true, "01a4395e2f95d4bba7d2f3de067aa088a73b880a2d4f9a98605b1f45fead5525"), looks := true }, kinds := [], alts := [], laidByText := true, laidKinds := [.data, .data, .data, .sentinel, .sentinel], laidTests := true, laidLooks := .later }
def FnExactWrdReadCardSaid : Prop := Claim7.holds Tryd.pinned (.plain (OpenSpec.ofChange fnExactWrdReadSpec)) fnExactWrdReadCard

/-- THE SECOND FORM's CARD OF 'laws.FnExactWrdText'. -/
def fnExactWrdTextUptoCard : Claim7 := { stood := { row := fnExactWrdTextUptoRow, standIns := [], harness := (true, "01a4395e2f95d4bba7d2f3de067aa088a73b880a2d4f9a98605b1f45fead5525"), looks := true }, kinds := [], alts := [], laidByText := true, laidKinds := [.data, .data, .data], laidTests := true, laidLooks := .later }
def FnExactWrdTextUptoCardSaid : Prop := Claim7.holds Tryd.pinned (.plain (OpenSpec.upto fnExactWrdTextSpec)) fnExactWrdTextUptoCard

/-- THE SECOND FORM's CARD OF 'laws.FnExactWrdRead'. -/
def fnExactWrdReadUptoCard : Claim7 := { stood := { row := fnExactWrdReadUptoRow, standIns := [], harness := (true, "01a4395e2f95d4bba7d2f3de067aa088a73b880a2d4f9a98605b1f45fead5525"), looks := true }, kinds := [], alts := [], laidByText := true, laidKinds := [.data, .data, .data, .sentinel, .sentinel], laidTests := true, laidLooks := .later }
def FnExactWrdReadUptoCardSaid : Prop := Claim7.holds Tryd.pinned (.plain (OpenSpec.upto fnExactWrdReadSpec)) fnExactWrdReadUptoCard
end Rows
end Go.Proofs.YtapohghigmalcabDoor
