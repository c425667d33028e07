/-
  DERIVED. GIVEN WITH THE SEED: THE CARDS: each row of YtflhehofgplcoaaDoorRows.lean that lists a variable, with what it lists TIED to the program's text (the seventh form; the later family's looks); each row that meets fmt, with fmt's text TOLD by the authors' own Lean function (tested against real Go, not proved from fmt's source: count such statements apart). THE CARD IS WHAT COUNTS. Prove the row's statement (the work); the ties are given (YtflhehofgplcoaaDoorTie.lean); close each card by the builder's one call (the guide's Derived/Test/ToyasCard.lean, 'card_holds'). Laid BY PROGRAM, IN A SANDBOX (cutbox-door.mjs). By AI agents, Wed Nov 11 2026. No macro, syntax, notation, axiom, sorry.
-/
import Derived.Test.YtflhehofgplcoaaDoorRows
import GoSem.ClaimSeven
namespace Go.Proofs.YtflhehofgplcoaaDoor
namespace Rows

/-- THE TIED CARD OF 'laws.FnExactOptSets'. -/
def fnExactOptSetsCard : Claim7 := { stood := { row := fnExactOptSetsRow, standIns := [], harness := (true, "54d714f4598a57e46a7e73a67a6f32884a25d8bb5527eac329a44020e5f4a364"), looks := false }, kinds := [], alts := [], laidByText := true, laidKinds := [.wider, .wider], laidTests := true, laidLooks := .later }
def FnExactOptSetsCardSaid : Prop := Claim7.holds Tryd.pinned (.plain (OpenSpec.ofChange fnExactOptSetsSpec)) fnExactOptSetsCard

/-- THE TIED CARD OF 'laws.FnExactOptUsed'. -/
def fnExactOptUsedCard : Claim7 := { stood := { row := fnExactOptUsedRow, standIns := [], harness := (true, "54d714f4598a57e46a7e73a67a6f32884a25d8bb5527eac329a44020e5f4a364"), looks := false }, kinds := [], alts := [], laidByText := true, laidKinds := [.wider, .wider], laidTests := true, laidLooks := .later }
def FnExactOptUsedCardSaid : Prop := Claim7.holds Tryd.pinned (.plain (OpenSpec.ofChange fnExactOptUsedSpec)) fnExactOptUsedCard

/-- THE TIED CARD OF 'laws.FnExactOptDead'. -/
def fnExactOptDeadCard : Claim7 := { stood := { row := fnExactOptDeadRow, standIns := [], harness := (true, "54d714f4598a57e46a7e73a67a6f32884a25d8bb5527eac329a44020e5f4a364"), looks := false }, kinds := [], alts := [], laidByText := true, laidKinds := [.wider, .wider], laidTests := true, laidLooks := .later }
def FnExactOptDeadCardSaid : Prop := Claim7.holds Tryd.pinned (.plain (OpenSpec.ofChange fnExactOptDeadSpec)) fnExactOptDeadCard

/-- THE TIED CARD OF 'laws.FnExactOptAll'. -/
def fnExactOptAllCard : Claim7 := { stood := { row := fnExactOptAllRow, standIns := [], harness := (true, "54d714f4598a57e46a7e73a67a6f32884a25d8bb5527eac329a44020e5f4a364"), looks := false }, kinds := [], alts := [], laidByText := true, laidKinds := [.wider, .wider], laidTests := true, laidLooks := .later }
def FnExactOptAllCardSaid : Prop := Claim7.holds Tryd.pinned (.plain (OpenSpec.ofChange fnExactOptAllSpec)) fnExactOptAllCard

/-- THE SECOND FORM's CARD OF 'laws.FnExactOptSets'. -/
def fnExactOptSetsUptoCard : Claim7 := { stood := { row := fnExactOptSetsUptoRow, standIns := [], harness := (true, "54d714f4598a57e46a7e73a67a6f32884a25d8bb5527eac329a44020e5f4a364"), looks := false }, kinds := [], alts := [], laidByText := true, laidKinds := [.wider, .wider], laidTests := true, laidLooks := .later }
def FnExactOptSetsUptoCardSaid : Prop := Claim7.holds Tryd.pinned (.plain (OpenSpec.upto fnExactOptSetsSpec)) fnExactOptSetsUptoCard

/-- THE SECOND FORM's CARD OF 'laws.FnExactOptUsed'. -/
def fnExactOptUsedUptoCard : Claim7 := { stood := { row := fnExactOptUsedUptoRow, standIns := [], harness := (true, "54d714f4598a57e46a7e73a67a6f32884a25d8bb5527eac329a44020e5f4a364"), looks := false }, kinds := [], alts := [], laidByText := true, laidKinds := [.wider, .wider], laidTests := true, laidLooks := .later }
def FnExactOptUsedUptoCardSaid : Prop := Claim7.holds Tryd.pinned (.plain (OpenSpec.upto fnExactOptUsedSpec)) fnExactOptUsedUptoCard

/-- THE SECOND FORM's CARD OF 'laws.FnExactOptDead'. -/
def fnExactOptDeadUptoCard : Claim7 := { stood := { row := fnExactOptDeadUptoRow, standIns := [], harness := (true, "54d714f4598a57e46a7e73a67a6f32884a25d8bb5527eac329a44020e5f4a364"), looks := false }, kinds := [], alts := [], laidByText := true, laidKinds := [.wider, .wider], laidTests := true, laidLooks := .later }
def FnExactOptDeadUptoCardSaid : Prop := Claim7.holds Tryd.pinned (.plain (OpenSpec.upto fnExactOptDeadSpec)) fnExactOptDeadUptoCard

/-- THE SECOND FORM's CARD OF 'laws.FnExactOptAll'. -/
def fnExactOptAllUptoCard : Claim7 := { stood := { row := fnExactOptAllUptoRow, standIns := [], harness := (true, "54d714f4598a57e46a7e73a67a6f32884a25d8bb5527eac329a44020e5f4a364"), looks := false }, kinds := [], alts := [], laidByText := true, laidKinds := [.wider, .wider], laidTests := true, laidLooks := .later }
def FnExactOptAllUptoCardSaid : Prop := Claim7.holds Tryd.pinned (.plain (OpenSpec.upto fnExactOptAllSpec)) fnExactOptAllUptoCard
end Rows
end Go.Proofs.YtflhehofgplcoaaDoor
