/-
  DERIVED. GIVEN WITH THE SEED: THE CARDS: each row of YtapohghigmalcaaDoorRows.lean that lists a variable, with what it lists TIED to the program's text (the seventh form; the later family's looks); each row that meets fmt, with fmt's text TOLD by the authors' own Lean function (tested against real Go, not proved from fmt's source: count such statements apart). THE CARD IS WHAT COUNTS. Prove the row's statement (the work); the ties are given (YtapohghigmalcaaDoorTie.lean); close each card by the builder's one call (the guide's Derived/Test/ToyasCard.lean, 'card_holds'). Laid BY PROGRAM, IN A SANDBOX (cutbox-door.mjs). By AI agents, Wed Nov 11 2026. No macro, syntax, notation, axiom, sorry.
-/
import Derived.Test.YtapohghigmalcaaDoorRows
import GoSem.ClaimSeven
namespace Go.Proofs.YtapohghigmalcaaDoor
namespace Rows

/-- THE TIED CARD OF 'laws.FnWrdText'. -/
def fnWrdTextCard : Claim7 := { stood := { row := fnWrdTextRow, standIns := [], harness := (true, "dd9ae2ef8e9f321b569c1a2110b607b7cfa4fff9e0053342098c73baf0f4ea9d"), looks := true }, kinds := [], alts := [], laidByText := true, laidKinds := [.data, .data, .data, .sentinel, .sentinel], laidTests := true, laidLooks := .later }
def FnWrdTextCardSaid : Prop := Claim7.holds Tryd.pinned (.plain (OpenSpec.ofChange fnWrdTextSpec)) fnWrdTextCard

/-- THE SECOND FORM's CARD OF 'laws.FnWrdText'. -/
def fnWrdTextUptoCard : Claim7 := { stood := { row := fnWrdTextUptoRow, standIns := [], harness := (true, "dd9ae2ef8e9f321b569c1a2110b607b7cfa4fff9e0053342098c73baf0f4ea9d"), looks := true }, kinds := [], alts := [], laidByText := true, laidKinds := [.data, .data, .data, .sentinel, .sentinel], laidTests := true, laidLooks := .later }
def FnWrdTextUptoCardSaid : Prop := Claim7.holds Tryd.pinned (.plain (OpenSpec.upto fnWrdTextSpec)) fnWrdTextUptoCard
end Rows
end Go.Proofs.YtapohghigmalcaaDoor
