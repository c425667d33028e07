/-
  DERIVED. GIVEN WITH THE SEED: THE CARDS: each row of YtjpdmcbechgjfaaDoorRows.lean that lists a variable, with what it lists TIED to the program's text (the seventh form; the later family's looks); each row that meets fmt, with fmt's text TOLD by the authors' own Lean function (tested against real Go, not proved from fmt's source: count such statements apart). THE CARD IS WHAT COUNTS. Prove the row's statement (the work); the ties are given (YtjpdmcbechgjfaaDoorTie.lean); close each card by the builder's one call (the guide's Derived/Test/ToyasCard.lean, 'card_holds'). Laid BY PROGRAM, IN A SANDBOX (cutbox-door.mjs). By AI agents, Wed Nov 11 2026. No macro, syntax, notation, axiom, sorry.
-/
import Derived.Test.YtjpdmcbechgjfaaDoorRows
import GoSem.ClaimSeven
namespace Go.Proofs.YtjpdmcbechgjfaaDoor
namespace Rows

/-- THE TIED CARD OF 'laws.FnExactOptConst'. -/
def fnExactOptConstCard : Claim7 := { stood := { row := fnExactOptConstRow, standIns := [], harness := (true, "b2ec2b9cb3222035f06d65ed76d3a49e77c0b2e02769b7e9da4adaadb1a7d777"), looks := false }, kinds := [], alts := [], laidByText := true, laidKinds := [.wider, .wider], laidTests := true, laidLooks := .later }
def FnExactOptConstCardSaid : Prop := Claim7.holds Tryd.pinned (.plain (OpenSpec.ofChange fnExactOptConstSpec)) fnExactOptConstCard

/-- THE TIED CARD OF 'laws.FnExactOptCopy'. -/
def fnExactOptCopyCard : Claim7 := { stood := { row := fnExactOptCopyRow, standIns := [], harness := (true, "b2ec2b9cb3222035f06d65ed76d3a49e77c0b2e02769b7e9da4adaadb1a7d777"), looks := false }, kinds := [], alts := [], laidByText := true, laidKinds := [.wider, .wider], laidTests := true, laidLooks := .later }
def FnExactOptCopyCardSaid : Prop := Claim7.holds Tryd.pinned (.plain (OpenSpec.ofChange fnExactOptCopySpec)) fnExactOptCopyCard

/-- THE TIED CARD OF 'laws.FnExactOptSets'. -/
def fnExactOptSetsCard : Claim7 := { stood := { row := fnExactOptSetsRow, standIns := [], harness := (true, "b2ec2b9cb3222035f06d65ed76d3a49e77c0b2e02769b7e9da4adaadb1a7d777"), looks := false }, kinds := [], alts := [], laidByText := true, laidKinds := [.wider, .wider], laidTests := true, laidLooks := .later }
def FnExactOptSetsCardSaid : Prop := Claim7.holds Tryd.pinned (.plain (OpenSpec.ofChange fnExactOptSetsSpec)) fnExactOptSetsCard

/-- THE TIED CARD OF 'laws.FnExactOptUsed'. -/
def fnExactOptUsedCard : Claim7 := { stood := { row := fnExactOptUsedRow, standIns := [], harness := (true, "b2ec2b9cb3222035f06d65ed76d3a49e77c0b2e02769b7e9da4adaadb1a7d777"), looks := false }, kinds := [], alts := [], laidByText := true, laidKinds := [.wider, .wider], laidTests := true, laidLooks := .later }
def FnExactOptUsedCardSaid : Prop := Claim7.holds Tryd.pinned (.plain (OpenSpec.ofChange fnExactOptUsedSpec)) fnExactOptUsedCard

/-- THE TIED CARD OF 'laws.FnExactOptDead'. -/
def fnExactOptDeadCard : Claim7 := { stood := { row := fnExactOptDeadRow, standIns := [], harness := (true, "b2ec2b9cb3222035f06d65ed76d3a49e77c0b2e02769b7e9da4adaadb1a7d777"), looks := false }, kinds := [], alts := [], laidByText := true, laidKinds := [.wider, .wider], laidTests := true, laidLooks := .later }
def FnExactOptDeadCardSaid : Prop := Claim7.holds Tryd.pinned (.plain (OpenSpec.ofChange fnExactOptDeadSpec)) fnExactOptDeadCard

/-- THE TIED CARD OF 'laws.FnExactOptAll'. -/
def fnExactOptAllCard : Claim7 := { stood := { row := fnExactOptAllRow, standIns := [], harness := (true, "b2ec2b9cb3222035f06d65ed76d3a49e77c0b2e02769b7e9da4adaadb1a7d777"), looks := false }, kinds := [], alts := [], laidByText := true, laidKinds := [.wider, .wider], laidTests := true, laidLooks := .later }
def FnExactOptAllCardSaid : Prop := Claim7.holds Tryd.pinned (.plain (OpenSpec.ofChange fnExactOptAllSpec)) fnExactOptAllCard

/-- THE SECOND FORM's CARD OF 'laws.FnExactOptConst'. -/
def fnExactOptConstUptoCard : Claim7 := { stood := { row := fnExactOptConstUptoRow, standIns := [], harness := (true, "b2ec2b9cb3222035f06d65ed76d3a49e77c0b2e02769b7e9da4adaadb1a7d777"), looks := false }, kinds := [], alts := [], laidByText := true, laidKinds := [.wider, .wider], laidTests := true, laidLooks := .later }
def FnExactOptConstUptoCardSaid : Prop := Claim7.holds Tryd.pinned (.plain (OpenSpec.upto fnExactOptConstSpec)) fnExactOptConstUptoCard

/-- THE SECOND FORM's CARD OF 'laws.FnExactOptCopy'. -/
def fnExactOptCopyUptoCard : Claim7 := { stood := { row := fnExactOptCopyUptoRow, standIns := [], harness := (true, "b2ec2b9cb3222035f06d65ed76d3a49e77c0b2e02769b7e9da4adaadb1a7d777"), looks := false }, kinds := [], alts := [], laidByText := true, laidKinds := [.wider, .wider], laidTests := true, laidLooks := .later }
def FnExactOptCopyUptoCardSaid : Prop := Claim7.holds Tryd.pinned (.plain (OpenSpec.upto fnExactOptCopySpec)) fnExactOptCopyUptoCard

/-- THE SECOND FORM's CARD OF 'laws.FnExactOptSets'. -/
def fnExactOptSetsUptoCard : Claim7 := { stood := { row := fnExactOptSetsUptoRow, standIns := [], harness := (true, "b2ec2b9cb3222035f06d65ed76d3a49e77c0b2e02769b7e9da4adaadb1a7d777"), looks := false }, kinds := [], alts := [], laidByText := true, laidKinds := [.wider, .wider], laidTests := true, laidLooks := .later }
def FnExactOptSetsUptoCardSaid : Prop := Claim7.holds Tryd.pinned (.plain (OpenSpec.upto fnExactOptSetsSpec)) fnExactOptSetsUptoCard

/-- THE SECOND FORM's CARD OF 'laws.FnExactOptUsed'. -/
def fnExactOptUsedUptoCard : Claim7 := { stood := { row := fnExactOptUsedUptoRow, standIns := [], harness := (true, "b2ec2b9cb3222035f06d65ed76d3a49e77c0b2e02769b7e9da4adaadb1a7d777"), looks := false }, kinds := [], alts := [], laidByText := true, laidKinds := [.wider, .wider], laidTests := true, laidLooks := .later }
def FnExactOptUsedUptoCardSaid : Prop := Claim7.holds Tryd.pinned (.plain (OpenSpec.upto fnExactOptUsedSpec)) fnExactOptUsedUptoCard

/-- THE SECOND FORM's CARD OF 'laws.FnExactOptDead'. -/
def fnExactOptDeadUptoCard : Claim7 := { stood := { row := fnExactOptDeadUptoRow, standIns := [], harness := (true, "b2ec2b9cb3222035f06d65ed76d3a49e77c0b2e02769b7e9da4adaadb1a7d777"), looks := false }, kinds := [], alts := [], laidByText := true, laidKinds := [.wider, .wider], laidTests := true, laidLooks := .later }
def FnExactOptDeadUptoCardSaid : Prop := Claim7.holds Tryd.pinned (.plain (OpenSpec.upto fnExactOptDeadSpec)) fnExactOptDeadUptoCard

/-- THE SECOND FORM's CARD OF 'laws.FnExactOptAll'. -/
def fnExactOptAllUptoCard : Claim7 := { stood := { row := fnExactOptAllUptoRow, standIns := [], harness := (true, "b2ec2b9cb3222035f06d65ed76d3a49e77c0b2e02769b7e9da4adaadb1a7d777"), looks := false }, kinds := [], alts := [], laidByText := true, laidKinds := [.wider, .wider], laidTests := true, laidLooks := .later }
def FnExactOptAllUptoCardSaid : Prop := Claim7.holds Tryd.pinned (.plain (OpenSpec.upto fnExactOptAllSpec)) fnExactOptAllUptoCard
end Rows
end Go.Proofs.YtjpdmcbechgjfaaDoor
