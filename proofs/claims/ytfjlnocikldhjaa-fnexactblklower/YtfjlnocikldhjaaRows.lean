/-
  No cell of these rows narrows 'for every input' (looked for: loops, veiled, ifaces, maps, wideKeys, modest, calm, conditions, laid).
  DERIVED. THE GIVEN ROWS OF THIS SEAT. 5 by the template 'for every input the law returns true; each argument reads behind the call as it read before'; 0 by the template 'total and deterministic' (their statements: YtfjlnocikldhjaaTotals.lean).
  GIVEN WITH THE SEED: the statements are not yours to turn. If you find one false, say at which input.
  Laid BY PROGRAM, IN A SANDBOX (cutbox-rows.mjs): the forced cells as the released guide's own fill.sh prints them over the translation 917cb3ed134ed325… (all of the seat's roots in one cut). By AI agents, Wed Nov 11 2026. No macro, syntax, notation, axiom, sorry.
-/
import Derived.Test.YtfjlnocikldhjaaChecked
import GoSem.Claim
import GoSem.ClaimJoined
import GoSem.ClaimMapViews
import Derived.JoinedTies
import Derived.KernelRfl
namespace Go.Proofs.Ytfjlnocikldhjaa
/- THE CELL 'sum', in the pinned program and in every row, IS THE sha256 OF THE DUMP (.gsa) THAT YtfjlnocikldhjaaProg.lean LOADS. Nothing in Lean hashes anything: it is a label: what it is worth is what the hold of that sum in a sandbox is worth. -/
noncomputable def Try.pinned : Pinned := { name := "ytfjlnocikldhjaa", sum := "917cb3ed134ed325a429fcb0b43d99d4f9918e0dea50d7ed8925fe44c1aa3d26", checked := Try.checked }
namespace Rows
def none {H : Type} : Left H := { results := [], args := [] }

/-- 'laws.FnExactBlkFind': WHATEVER THE INPUT: true; the input reads as it did. -/
def fnExactBlkFindSpec : ChangeSpec := { name := "fnExactBlkFind", fn := fun _ => fun
  | [d] => { results := [.lit (.bool true)], args := [d] }
  | _ => none }
def fnExactBlkFindRow : OpenClaim := { program := "ytfjlnocikldhjaa", sum := "917cb3ed134ed325a429fcb0b43d99d4f9918e0dea50d7ed8925fe44c1aa3d26", func := "loop.example/latimer/laws.FnExactBlkFind", spec := "fnExactBlkFind", unfollowed := true, recurses := true, apart := false }
def FnExactBlkFindSaid : Prop := fnExactBlkFindRow.holds Try.pinned (OpenSpec.ofChange fnExactBlkFindSpec)

/-- ITS FALSE NEIGHBOUR: 'it returns false'. Refute it at one input. -/
def fnExactBlkFindWrong : ChangeSpec := { name := "fnExactBlkFind", fn := fun _ => fun
  | [d] => { results := [.lit (.bool false)], args := [d] }
  | _ => none }
def FnExactBlkFindWrongFalsely : Prop := fnExactBlkFindRow.holds Try.pinned (OpenSpec.ofChange fnExactBlkFindWrong)

/-- 'laws.FnExactBlkOk': WHATEVER THE INPUT: true; the input reads as it did. -/
def fnExactBlkOkSpec : ChangeSpec := { name := "fnExactBlkOk", fn := fun _ => fun
  | [d1, d2] => { results := [.lit (.bool true)], args := [d1, d2] }
  | _ => none }
def fnExactBlkOkRow : OpenClaim := { program := "ytfjlnocikldhjaa", sum := "917cb3ed134ed325a429fcb0b43d99d4f9918e0dea50d7ed8925fe44c1aa3d26", func := "loop.example/latimer/laws.FnExactBlkOk", spec := "fnExactBlkOk", unfollowed := true, recurses := true, apart := false }
def FnExactBlkOkSaid : Prop := fnExactBlkOkRow.holds Try.pinned (OpenSpec.ofChange fnExactBlkOkSpec)

/-- ITS FALSE NEIGHBOUR: 'it returns false'. Refute it at one input. -/
def fnExactBlkOkWrong : ChangeSpec := { name := "fnExactBlkOk", fn := fun _ => fun
  | [d1, d2] => { results := [.lit (.bool false)], args := [d1, d2] }
  | _ => none }
def FnExactBlkOkWrongFalsely : Prop := fnExactBlkOkRow.holds Try.pinned (OpenSpec.ofChange fnExactBlkOkWrong)

/-- 'laws.FnExactBlkLower': WHATEVER THE INPUT: true; the input reads as it did. -/
def fnExactBlkLowerSpec : ChangeSpec := { name := "fnExactBlkLower", fn := fun _ => fun
  | [d1, d2] => { results := [.lit (.bool true)], args := [d1, d2] }
  | _ => none }
def fnExactBlkLowerRow : OpenClaim := { program := "ytfjlnocikldhjaa", sum := "917cb3ed134ed325a429fcb0b43d99d4f9918e0dea50d7ed8925fe44c1aa3d26", func := "loop.example/latimer/laws.FnExactBlkLower", spec := "fnExactBlkLower", unfollowed := true, recurses := true, apart := false }
def FnExactBlkLowerSaid : Prop := fnExactBlkLowerRow.holds Try.pinned (OpenSpec.ofChange fnExactBlkLowerSpec)

/-- ITS FALSE NEIGHBOUR: 'it returns false'. Refute it at one input. -/
def fnExactBlkLowerWrong : ChangeSpec := { name := "fnExactBlkLower", fn := fun _ => fun
  | [d1, d2] => { results := [.lit (.bool false)], args := [d1, d2] }
  | _ => none }
def FnExactBlkLowerWrongFalsely : Prop := fnExactBlkLowerRow.holds Try.pinned (OpenSpec.ofChange fnExactBlkLowerWrong)

/-- 'laws.FnExactBlkWords': WHATEVER THE INPUT: true; the input reads as it did. -/
def fnExactBlkWordsSpec : ChangeSpec := { name := "fnExactBlkWords", fn := fun _ => fun
  | [d] => { results := [.lit (.bool true)], args := [d] }
  | _ => none }
def fnExactBlkWordsRow : OpenClaim := { program := "ytfjlnocikldhjaa", sum := "917cb3ed134ed325a429fcb0b43d99d4f9918e0dea50d7ed8925fe44c1aa3d26", func := "loop.example/latimer/laws.FnExactBlkWords", spec := "fnExactBlkWords", unfollowed := true, recurses := true, apart := false }
def FnExactBlkWordsSaid : Prop := fnExactBlkWordsRow.holds Try.pinned (OpenSpec.ofChange fnExactBlkWordsSpec)

/-- ITS FALSE NEIGHBOUR: 'it returns false'. Refute it at one input. -/
def fnExactBlkWordsWrong : ChangeSpec := { name := "fnExactBlkWords", fn := fun _ => fun
  | [d] => { results := [.lit (.bool false)], args := [d] }
  | _ => none }
def FnExactBlkWordsWrongFalsely : Prop := fnExactBlkWordsRow.holds Try.pinned (OpenSpec.ofChange fnExactBlkWordsWrong)

/-- 'laws.FnExactBlkTake': WHATEVER THE INPUT: true; the input reads as it did. -/
def fnExactBlkTakeSpec : ChangeSpec := { name := "fnExactBlkTake", fn := fun _ => fun
  | [d] => { results := [.lit (.bool true)], args := [d] }
  | _ => none }
def fnExactBlkTakeRow : OpenClaim := { program := "ytfjlnocikldhjaa", sum := "917cb3ed134ed325a429fcb0b43d99d4f9918e0dea50d7ed8925fe44c1aa3d26", func := "loop.example/latimer/laws.FnExactBlkTake", spec := "fnExactBlkTake", unfollowed := true, recurses := true, apart := false }
def FnExactBlkTakeSaid : Prop := fnExactBlkTakeRow.holds Try.pinned (OpenSpec.ofChange fnExactBlkTakeSpec)

/-- ITS FALSE NEIGHBOUR: 'it returns false'. Refute it at one input. -/
def fnExactBlkTakeWrong : ChangeSpec := { name := "fnExactBlkTake", fn := fun _ => fun
  | [d] => { results := [.lit (.bool false)], args := [d] }
  | _ => none }
def FnExactBlkTakeWrongFalsely : Prop := fnExactBlkTakeRow.holds Try.pinned (OpenSpec.ofChange fnExactBlkTakeWrong)

/- THE SECOND FORM. 'bulk': how many values and letters a reading holds, each counted each time it is reached (what is shared counts as often as it is met; a slice's spare places count too). A statement '..UptoSaid' is the law's where the arguments, and the package variables that the reading takes, are together of bulk at most 1048576: NARROWER than '..Said'. Prove '..Said' where nothing that the law and all that it calls make is longer than what came in: it says more and counts as full. Else prove '..UptoSaid'. A law counts once. -/
mutual
def uptoBulk {H : Type} : DataW H → Nat
  | .lit (.string bytes) => bytes.length + 1
  | .lit _ => 1
  | .nil => 1
  | .ptr d => uptoBulk d + 1
  | .slice elems spare => uptoBulkAll elems + uptoBulkAll spare + 1
  | .agg parts => uptoBulkAll parts + 1
  | .iface _ d => uptoBulk d + 1
  | .map entries => uptoBulkEntries entries + 1
  | .held _ => 1
def uptoBulkAll {H : Type} : List (DataW H) → Nat
  | [] => 0
  | d :: r => uptoBulk d + uptoBulkAll r
def uptoBulkEntries {H : Type} : List (Lit × DataW H) → Nat
  | [] => 0
  | x :: r => uptoBulkEntry x + uptoBulkEntries r
def uptoBulkEntry {H : Type} : Lit × DataW H → Nat
  | (.string bytes, d) => bytes.length + uptoBulk d + 1
  | (_, d) => uptoBulk d + 1
 end
def uptoSmall : (H : Type) → List (DataW H) → Bool := fun _ ds => decide (uptoBulkAll ds ≤ 1048576)
def OpenSpec.upto (s : _root_.Go.ChangeSpec) : _root_.Go.OpenSpec := { _root_.Go.OpenSpec.ofChange s with cond := some uptoSmall }

/-- 'laws.FnExactBlkFind', WHERE WHAT IT READS IS OF BULK AT MOST 1048576: true; the input reads as it did. -/
def fnExactBlkFindUptoRow : OpenClaim := { program := "ytfjlnocikldhjaa", sum := "917cb3ed134ed325a429fcb0b43d99d4f9918e0dea50d7ed8925fe44c1aa3d26", func := "loop.example/latimer/laws.FnExactBlkFind", spec := "fnExactBlkFind", unfollowed := true, recurses := true, apart := false, narrowed := true }
def FnExactBlkFindUptoSaid : Prop := fnExactBlkFindUptoRow.holds Try.pinned (OpenSpec.upto fnExactBlkFindSpec)

/-- 'laws.FnExactBlkOk', WHERE WHAT IT READS IS OF BULK AT MOST 1048576: true; the input reads as it did. -/
def fnExactBlkOkUptoRow : OpenClaim := { program := "ytfjlnocikldhjaa", sum := "917cb3ed134ed325a429fcb0b43d99d4f9918e0dea50d7ed8925fe44c1aa3d26", func := "loop.example/latimer/laws.FnExactBlkOk", spec := "fnExactBlkOk", unfollowed := true, recurses := true, apart := false, narrowed := true }
def FnExactBlkOkUptoSaid : Prop := fnExactBlkOkUptoRow.holds Try.pinned (OpenSpec.upto fnExactBlkOkSpec)

/-- 'laws.FnExactBlkLower', WHERE WHAT IT READS IS OF BULK AT MOST 1048576: true; the input reads as it did. -/
def fnExactBlkLowerUptoRow : OpenClaim := { program := "ytfjlnocikldhjaa", sum := "917cb3ed134ed325a429fcb0b43d99d4f9918e0dea50d7ed8925fe44c1aa3d26", func := "loop.example/latimer/laws.FnExactBlkLower", spec := "fnExactBlkLower", unfollowed := true, recurses := true, apart := false, narrowed := true }
def FnExactBlkLowerUptoSaid : Prop := fnExactBlkLowerUptoRow.holds Try.pinned (OpenSpec.upto fnExactBlkLowerSpec)

/-- 'laws.FnExactBlkWords', WHERE WHAT IT READS IS OF BULK AT MOST 1048576: true; the input reads as it did. -/
def fnExactBlkWordsUptoRow : OpenClaim := { program := "ytfjlnocikldhjaa", sum := "917cb3ed134ed325a429fcb0b43d99d4f9918e0dea50d7ed8925fe44c1aa3d26", func := "loop.example/latimer/laws.FnExactBlkWords", spec := "fnExactBlkWords", unfollowed := true, recurses := true, apart := false, narrowed := true }
def FnExactBlkWordsUptoSaid : Prop := fnExactBlkWordsUptoRow.holds Try.pinned (OpenSpec.upto fnExactBlkWordsSpec)

/-- 'laws.FnExactBlkTake', WHERE WHAT IT READS IS OF BULK AT MOST 1048576: true; the input reads as it did. -/
def fnExactBlkTakeUptoRow : OpenClaim := { program := "ytfjlnocikldhjaa", sum := "917cb3ed134ed325a429fcb0b43d99d4f9918e0dea50d7ed8925fe44c1aa3d26", func := "loop.example/latimer/laws.FnExactBlkTake", spec := "fnExactBlkTake", unfollowed := true, recurses := true, apart := false, narrowed := true }
def FnExactBlkTakeUptoSaid : Prop := fnExactBlkTakeUptoRow.holds Try.pinned (OpenSpec.upto fnExactBlkTakeSpec)

end Rows
end Go.Proofs.Ytfjlnocikldhjaa
