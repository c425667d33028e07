/-
  No cell of these rows narrows 'for every input' (looked for: loops, veiled, ifaces, maps, wideKeys, modest, calm, conditions, laid).
  DERIVED. THE GIVEN ROWS OF THIS SEAT. 6 by the template 'for every input the law returns true; each argument reads behind the call as it read before'; 0 by the template 'total and deterministic' (their statements: YtckhfpaicnjknaaTotals.lean).
  GIVEN WITH THE SEED: the statements are not yours to turn. If you find one false, say at which input.
  Laid BY PROGRAM, IN A SANDBOX (cutbox-rows.mjs): the forced cells as the released guide's own fill.sh prints them over the translation d853f7fead45abd7… (all of the seat's roots in one cut). By AI agents, Wed Nov 11 2026. No macro, syntax, notation, axiom, sorry.
-/
import Derived.Test.YtckhfpaicnjknaaChecked
import GoSem.Claim
import GoSem.ClaimJoined
import GoSem.ClaimMapViews
import Derived.JoinedTies
import Derived.KernelRfl
namespace Go.Proofs.Ytckhfpaicnjknaa
/- THE CELL 'sum', in the pinned program and in every row, IS THE sha256 OF THE DUMP (.gsa) THAT YtckhfpaicnjknaaProg.lean LOADS. Nothing in Lean hashes anything: it is a label: what it is worth is what the hold of that sum in a sandbox is worth. -/
noncomputable def Try.pinned : Pinned := { name := "ytckhfpaicnjknaa", sum := "d853f7fead45abd76c671c30c2c20ce015d6b7bfd50950a50b28a16f5eb73181", checked := Try.checked }
namespace Rows
def none {H : Type} : Left H := { results := [], args := [] }

/-- 'laws.FnPolRing': WHATEVER THE INPUT: true; the input reads as it did. -/
def fnPolRingSpec : ChangeSpec := { name := "fnPolRing", fn := fun _ => fun
  | [d1, d2] => { results := [.lit (.bool true)], args := [d1, d2] }
  | _ => none }
def fnPolRingRow : OpenClaim := { program := "ytckhfpaicnjknaa", sum := "d853f7fead45abd76c671c30c2c20ce015d6b7bfd50950a50b28a16f5eb73181", func := "loop.example/latimer/laws.FnPolRing", spec := "fnPolRing", unfollowed := true, recurses := true, apart := false }
def FnPolRingSaid : Prop := fnPolRingRow.holds Try.pinned (OpenSpec.ofChange fnPolRingSpec)

/-- ITS FALSE NEIGHBOUR: 'it returns false'. Refute it at one input. -/
def fnPolRingWrong : ChangeSpec := { name := "fnPolRing", fn := fun _ => fun
  | [d1, d2] => { results := [.lit (.bool false)], args := [d1, d2] }
  | _ => none }
def FnPolRingWrongFalsely : Prop := fnPolRingRow.holds Try.pinned (OpenSpec.ofChange fnPolRingWrong)

/-- 'laws.FnPolNum': WHATEVER THE INPUT: true; the input reads as it did. -/
def fnPolNumSpec : ChangeSpec := { name := "fnPolNum", fn := fun _ => fun
  | [d1, d2] => { results := [.lit (.bool true)], args := [d1, d2] }
  | _ => none }
def fnPolNumRow : OpenClaim := { program := "ytckhfpaicnjknaa", sum := "d853f7fead45abd76c671c30c2c20ce015d6b7bfd50950a50b28a16f5eb73181", func := "loop.example/latimer/laws.FnPolNum", spec := "fnPolNum", unfollowed := true, recurses := true, apart := false }
def FnPolNumSaid : Prop := fnPolNumRow.holds Try.pinned (OpenSpec.ofChange fnPolNumSpec)

/-- ITS FALSE NEIGHBOUR: 'it returns false'. Refute it at one input. -/
def fnPolNumWrong : ChangeSpec := { name := "fnPolNum", fn := fun _ => fun
  | [d1, d2] => { results := [.lit (.bool false)], args := [d1, d2] }
  | _ => none }
def FnPolNumWrongFalsely : Prop := fnPolNumRow.holds Try.pinned (OpenSpec.ofChange fnPolNumWrong)

/-- 'laws.FnPolOrder': WHATEVER THE INPUT: true; the input reads as it did. -/
def fnPolOrderSpec : ChangeSpec := { name := "fnPolOrder", fn := fun _ => fun
  | [d] => { results := [.lit (.bool true)], args := [d] }
  | _ => none }
def fnPolOrderRow : OpenClaim := { program := "ytckhfpaicnjknaa", sum := "d853f7fead45abd76c671c30c2c20ce015d6b7bfd50950a50b28a16f5eb73181", func := "loop.example/latimer/laws.FnPolOrder", spec := "fnPolOrder", unfollowed := true, recurses := true, apart := false }
def FnPolOrderSaid : Prop := fnPolOrderRow.holds Try.pinned (OpenSpec.ofChange fnPolOrderSpec)

/-- ITS FALSE NEIGHBOUR: 'it returns false'. Refute it at one input. -/
def fnPolOrderWrong : ChangeSpec := { name := "fnPolOrder", fn := fun _ => fun
  | [d] => { results := [.lit (.bool false)], args := [d] }
  | _ => none }
def FnPolOrderWrongFalsely : Prop := fnPolOrderRow.holds Try.pinned (OpenSpec.ofChange fnPolOrderWrong)

/-- 'laws.FnPolUnder': WHATEVER THE INPUT: true; the input reads as it did. -/
def fnPolUnderSpec : ChangeSpec := { name := "fnPolUnder", fn := fun _ => fun
  | [d1, d2] => { results := [.lit (.bool true)], args := [d1, d2] }
  | _ => none }
def fnPolUnderRow : OpenClaim := { program := "ytckhfpaicnjknaa", sum := "d853f7fead45abd76c671c30c2c20ce015d6b7bfd50950a50b28a16f5eb73181", func := "loop.example/latimer/laws.FnPolUnder", spec := "fnPolUnder", unfollowed := true, recurses := true, apart := false }
def FnPolUnderSaid : Prop := fnPolUnderRow.holds Try.pinned (OpenSpec.ofChange fnPolUnderSpec)

/-- ITS FALSE NEIGHBOUR: 'it returns false'. Refute it at one input. -/
def fnPolUnderWrong : ChangeSpec := { name := "fnPolUnder", fn := fun _ => fun
  | [d1, d2] => { results := [.lit (.bool false)], args := [d1, d2] }
  | _ => none }
def FnPolUnderWrongFalsely : Prop := fnPolUnderRow.holds Try.pinned (OpenSpec.ofChange fnPolUnderWrong)

/-- 'laws.FnPolFit': WHATEVER THE INPUT: true; the input reads as it did. -/
def fnPolFitSpec : ChangeSpec := { name := "fnPolFit", fn := fun _ => fun
  | [d1, d2] => { results := [.lit (.bool true)], args := [d1, d2] }
  | _ => none }
def fnPolFitRow : OpenClaim := { program := "ytckhfpaicnjknaa", sum := "d853f7fead45abd76c671c30c2c20ce015d6b7bfd50950a50b28a16f5eb73181", func := "loop.example/latimer/laws.FnPolFit", spec := "fnPolFit", unfollowed := true, recurses := true, apart := false }
def FnPolFitSaid : Prop := fnPolFitRow.holds Try.pinned (OpenSpec.ofChange fnPolFitSpec)

/-- ITS FALSE NEIGHBOUR: 'it returns false'. Refute it at one input. -/
def fnPolFitWrong : ChangeSpec := { name := "fnPolFit", fn := fun _ => fun
  | [d1, d2] => { results := [.lit (.bool false)], args := [d1, d2] }
  | _ => none }
def FnPolFitWrongFalsely : Prop := fnPolFitRow.holds Try.pinned (OpenSpec.ofChange fnPolFitWrong)

/-- 'laws.FnPolTwice': WHATEVER THE INPUT: true; the input reads as it did. -/
def fnPolTwiceSpec : ChangeSpec := { name := "fnPolTwice", fn := fun _ => fun
  | [d] => { results := [.lit (.bool true)], args := [d] }
  | _ => none }
def fnPolTwiceRow : OpenClaim := { program := "ytckhfpaicnjknaa", sum := "d853f7fead45abd76c671c30c2c20ce015d6b7bfd50950a50b28a16f5eb73181", func := "loop.example/latimer/laws.FnPolTwice", spec := "fnPolTwice", unfollowed := true, recurses := true, apart := false }
def FnPolTwiceSaid : Prop := fnPolTwiceRow.holds Try.pinned (OpenSpec.ofChange fnPolTwiceSpec)

/-- ITS FALSE NEIGHBOUR: 'it returns false'. Refute it at one input. -/
def fnPolTwiceWrong : ChangeSpec := { name := "fnPolTwice", fn := fun _ => fun
  | [d] => { results := [.lit (.bool false)], args := [d] }
  | _ => none }
def FnPolTwiceWrongFalsely : Prop := fnPolTwiceRow.holds Try.pinned (OpenSpec.ofChange fnPolTwiceWrong)

/- THE SECOND FORM. 'bulk': how many values and letters a reading holds, each counted each time it is reached (what is shared counts as often as it is met; a slice's spare places count too). A statement '..UptoSaid' is the law's where the arguments, and the package variables that the reading takes, are together of bulk at most 1048576: NARROWER than '..Said'. Prove '..Said' where nothing that the law and all that it calls make is longer than what came in: it says more and counts as full. Else prove '..UptoSaid'. A law counts once. -/
mutual
def uptoBulk {H : Type} : DataW H → Nat
  | .lit (.string bytes) => bytes.length + 1
  | .lit _ => 1
  | .nil => 1
  | .ptr d => uptoBulk d + 1
  | .slice elems spare => uptoBulkAll elems + uptoBulkAll spare + 1
  | .agg parts => uptoBulkAll parts + 1
  | .iface _ d => uptoBulk d + 1
  | .map entries => uptoBulkEntries entries + 1
  | .held _ => 1
def uptoBulkAll {H : Type} : List (DataW H) → Nat
  | [] => 0
  | d :: r => uptoBulk d + uptoBulkAll r
def uptoBulkEntries {H : Type} : List (Lit × DataW H) → Nat
  | [] => 0
  | x :: r => uptoBulkEntry x + uptoBulkEntries r
def uptoBulkEntry {H : Type} : Lit × DataW H → Nat
  | (.string bytes, d) => bytes.length + uptoBulk d + 1
  | (_, d) => uptoBulk d + 1
 end
def uptoSmall : (H : Type) → List (DataW H) → Bool := fun _ ds => decide (uptoBulkAll ds ≤ 1048576)
def OpenSpec.upto (s : _root_.Go.ChangeSpec) : _root_.Go.OpenSpec := { _root_.Go.OpenSpec.ofChange s with cond := some uptoSmall }

/-- 'laws.FnPolRing', WHERE WHAT IT READS IS OF BULK AT MOST 1048576: true; the input reads as it did. -/
def fnPolRingUptoRow : OpenClaim := { program := "ytckhfpaicnjknaa", sum := "d853f7fead45abd76c671c30c2c20ce015d6b7bfd50950a50b28a16f5eb73181", func := "loop.example/latimer/laws.FnPolRing", spec := "fnPolRing", unfollowed := true, recurses := true, apart := false, narrowed := true }
def FnPolRingUptoSaid : Prop := fnPolRingUptoRow.holds Try.pinned (OpenSpec.upto fnPolRingSpec)

/-- 'laws.FnPolNum', WHERE WHAT IT READS IS OF BULK AT MOST 1048576: true; the input reads as it did. -/
def fnPolNumUptoRow : OpenClaim := { program := "ytckhfpaicnjknaa", sum := "d853f7fead45abd76c671c30c2c20ce015d6b7bfd50950a50b28a16f5eb73181", func := "loop.example/latimer/laws.FnPolNum", spec := "fnPolNum", unfollowed := true, recurses := true, apart := false, narrowed := true }
def FnPolNumUptoSaid : Prop := fnPolNumUptoRow.holds Try.pinned (OpenSpec.upto fnPolNumSpec)

/-- 'laws.FnPolOrder', WHERE WHAT IT READS IS OF BULK AT MOST 1048576: true; the input reads as it did. -/
def fnPolOrderUptoRow : OpenClaim := { program := "ytckhfpaicnjknaa", sum := "d853f7fead45abd76c671c30c2c20ce015d6b7bfd50950a50b28a16f5eb73181", func := "loop.example/latimer/laws.FnPolOrder", spec := "fnPolOrder", unfollowed := true, recurses := true, apart := false, narrowed := true }
def FnPolOrderUptoSaid : Prop := fnPolOrderUptoRow.holds Try.pinned (OpenSpec.upto fnPolOrderSpec)

/-- 'laws.FnPolUnder', WHERE WHAT IT READS IS OF BULK AT MOST 1048576: true; the input reads as it did. -/
def fnPolUnderUptoRow : OpenClaim := { program := "ytckhfpaicnjknaa", sum := "d853f7fead45abd76c671c30c2c20ce015d6b7bfd50950a50b28a16f5eb73181", func := "loop.example/latimer/laws.FnPolUnder", spec := "fnPolUnder", unfollowed := true, recurses := true, apart := false, narrowed := true }
def FnPolUnderUptoSaid : Prop := fnPolUnderUptoRow.holds Try.pinned (OpenSpec.upto fnPolUnderSpec)

/-- 'laws.FnPolFit', WHERE WHAT IT READS IS OF BULK AT MOST 1048576: true; the input reads as it did. -/
def fnPolFitUptoRow : OpenClaim := { program := "ytckhfpaicnjknaa", sum := "d853f7fead45abd76c671c30c2c20ce015d6b7bfd50950a50b28a16f5eb73181", func := "loop.example/latimer/laws.FnPolFit", spec := "fnPolFit", unfollowed := true, recurses := true, apart := false, narrowed := true }
def FnPolFitUptoSaid : Prop := fnPolFitUptoRow.holds Try.pinned (OpenSpec.upto fnPolFitSpec)

/-- 'laws.FnPolTwice', WHERE WHAT IT READS IS OF BULK AT MOST 1048576: true; the input reads as it did. -/
def fnPolTwiceUptoRow : OpenClaim := { program := "ytckhfpaicnjknaa", sum := "d853f7fead45abd76c671c30c2c20ce015d6b7bfd50950a50b28a16f5eb73181", func := "loop.example/latimer/laws.FnPolTwice", spec := "fnPolTwice", unfollowed := true, recurses := true, apart := false, narrowed := true }
def FnPolTwiceUptoSaid : Prop := fnPolTwiceUptoRow.holds Try.pinned (OpenSpec.upto fnPolTwiceSpec)

end Rows
end Go.Proofs.Ytckhfpaicnjknaa
