/-
  No cell of these rows narrows 'for every input' (looked for: loops, veiled, ifaces, maps, wideKeys, modest, calm, conditions, laid).
  DERIVED. THE GIVEN ROWS OF THIS SEAT. 3 by the template 'for every input the law returns true; each argument reads behind the call as it read before'; 0 by the template 'total and deterministic' (their statements: YtihkmcdnmffipaaTotals.lean).
  GIVEN WITH THE SEED: the statements are not yours to turn. If you find one false, say at which input.
  Laid BY PROGRAM, IN A SANDBOX (cutbox-rows.mjs): the forced cells as the released guide's own fill.sh prints them over the translation e4a8246d3b6f626a… (all of the seat's roots in one cut). By AI agents, Wed Nov 11 2026. No macro, syntax, notation, axiom, sorry.
-/
import Derived.Test.YtihkmcdnmffipaaChecked
import GoSem.Claim
import GoSem.ClaimJoined
import GoSem.ClaimMapViews
import Derived.JoinedTies
import Derived.KernelRfl
namespace Go.Proofs.Ytihkmcdnmffipaa
/- THE CELL 'sum', in the pinned program and in every row, IS THE sha256 OF THE DUMP (.gsa) THAT YtihkmcdnmffipaaProg.lean LOADS. Nothing in Lean hashes anything: it is a label: what it is worth is what the hold of that sum in a sandbox is worth. -/
noncomputable def Try.pinned : Pinned := { name := "ytihkmcdnmffipaa", sum := "e4a8246d3b6f626a0ff06f92ef63459b1ebc63db8e67c4260355ba9be0eae97c", checked := Try.checked }
namespace Rows
def none {H : Type} : Left H := { results := [], args := [] }

/-- 'laws.FnWrdDo': WHATEVER THE INPUT: true; the input reads as it did. -/
def fnWrdDoSpec : ChangeSpec := { name := "fnWrdDo", fn := fun _ => fun
  | [d1, d2] => { results := [.lit (.bool true)], args := [d1, d2] }
  | _ => none }
def fnWrdDoRow : OpenClaim := { program := "ytihkmcdnmffipaa", sum := "e4a8246d3b6f626a0ff06f92ef63459b1ebc63db8e67c4260355ba9be0eae97c", func := "loop.example/latimer/laws.FnWrdDo", spec := "fnWrdDo", unfollowed := true, recurses := true, apart := false }
def FnWrdDoSaid : Prop := fnWrdDoRow.holds Try.pinned (OpenSpec.ofChange fnWrdDoSpec)

/-- ITS FALSE NEIGHBOUR: 'it returns false'. Refute it at one input. -/
def fnWrdDoWrong : ChangeSpec := { name := "fnWrdDo", fn := fun _ => fun
  | [d1, d2] => { results := [.lit (.bool false)], args := [d1, d2] }
  | _ => none }
def FnWrdDoWrongFalsely : Prop := fnWrdDoRow.holds Try.pinned (OpenSpec.ofChange fnWrdDoWrong)

/-- 'laws.FnWrdBits': WHATEVER THE INPUT: true; the input reads as it did. -/
def fnWrdBitsSpec : ChangeSpec := { name := "fnWrdBits", fn := fun _ => fun
  | [d] => { results := [.lit (.bool true)], args := [d] }
  | _ => none }
def fnWrdBitsRow : OpenClaim := { program := "ytihkmcdnmffipaa", sum := "e4a8246d3b6f626a0ff06f92ef63459b1ebc63db8e67c4260355ba9be0eae97c", func := "loop.example/latimer/laws.FnWrdBits", spec := "fnWrdBits", unfollowed := true, recurses := true, apart := false }
def FnWrdBitsSaid : Prop := fnWrdBitsRow.holds Try.pinned (OpenSpec.ofChange fnWrdBitsSpec)

/-- ITS FALSE NEIGHBOUR: 'it returns false'. Refute it at one input. -/
def fnWrdBitsWrong : ChangeSpec := { name := "fnWrdBits", fn := fun _ => fun
  | [d] => { results := [.lit (.bool false)], args := [d] }
  | _ => none }
def FnWrdBitsWrongFalsely : Prop := fnWrdBitsRow.holds Try.pinned (OpenSpec.ofChange fnWrdBitsWrong)

/-- 'laws.FnExactWrdDo': WHATEVER THE INPUT: true; the input reads as it did. -/
def fnExactWrdDoSpec : ChangeSpec := { name := "fnExactWrdDo", fn := fun _ => fun
  | [d1, d2, d3] => { results := [.lit (.bool true)], args := [d1, d2, d3] }
  | _ => none }
def fnExactWrdDoRow : OpenClaim := { program := "ytihkmcdnmffipaa", sum := "e4a8246d3b6f626a0ff06f92ef63459b1ebc63db8e67c4260355ba9be0eae97c", func := "loop.example/latimer/laws.FnExactWrdDo", spec := "fnExactWrdDo", unfollowed := true, recurses := true, apart := false }
def FnExactWrdDoSaid : Prop := fnExactWrdDoRow.holds Try.pinned (OpenSpec.ofChange fnExactWrdDoSpec)

/-- ITS FALSE NEIGHBOUR: 'it returns false'. Refute it at one input. -/
def fnExactWrdDoWrong : ChangeSpec := { name := "fnExactWrdDo", fn := fun _ => fun
  | [d1, d2, d3] => { results := [.lit (.bool false)], args := [d1, d2, d3] }
  | _ => none }
def FnExactWrdDoWrongFalsely : Prop := fnExactWrdDoRow.holds Try.pinned (OpenSpec.ofChange fnExactWrdDoWrong)

/- THE SECOND FORM. 'bulk': how many values and letters a reading holds, each counted each time it is reached (what is shared counts as often as it is met; a slice's spare places count too). A statement '..UptoSaid' is the law's where the arguments, and the package variables that the reading takes, are together of bulk at most 1048576: NARROWER than '..Said'. Prove '..Said' where nothing that the law and all that it calls make is longer than what came in: it says more and counts as full. Else prove '..UptoSaid'. A law counts once. -/
mutual
def uptoBulk {H : Type} : DataW H → Nat
  | .lit (.string bytes) => bytes.length + 1
  | .lit _ => 1
  | .nil => 1
  | .ptr d => uptoBulk d + 1
  | .slice elems spare => uptoBulkAll elems + uptoBulkAll spare + 1
  | .agg parts => uptoBulkAll parts + 1
  | .iface _ d => uptoBulk d + 1
  | .map entries => uptoBulkEntries entries + 1
  | .held _ => 1
def uptoBulkAll {H : Type} : List (DataW H) → Nat
  | [] => 0
  | d :: r => uptoBulk d + uptoBulkAll r
def uptoBulkEntries {H : Type} : List (Lit × DataW H) → Nat
  | [] => 0
  | x :: r => uptoBulkEntry x + uptoBulkEntries r
def uptoBulkEntry {H : Type} : Lit × DataW H → Nat
  | (.string bytes, d) => bytes.length + uptoBulk d + 1
  | (_, d) => uptoBulk d + 1
 end
def uptoSmall : (H : Type) → List (DataW H) → Bool := fun _ ds => decide (uptoBulkAll ds ≤ 1048576)
def OpenSpec.upto (s : _root_.Go.ChangeSpec) : _root_.Go.OpenSpec := { _root_.Go.OpenSpec.ofChange s with cond := some uptoSmall }

/-- 'laws.FnWrdDo', WHERE WHAT IT READS IS OF BULK AT MOST 1048576: true; the input reads as it did. -/
def fnWrdDoUptoRow : OpenClaim := { program := "ytihkmcdnmffipaa", sum := "e4a8246d3b6f626a0ff06f92ef63459b1ebc63db8e67c4260355ba9be0eae97c", func := "loop.example/latimer/laws.FnWrdDo", spec := "fnWrdDo", unfollowed := true, recurses := true, apart := false, narrowed := true }
def FnWrdDoUptoSaid : Prop := fnWrdDoUptoRow.holds Try.pinned (OpenSpec.upto fnWrdDoSpec)

/-- 'laws.FnWrdBits', WHERE WHAT IT READS IS OF BULK AT MOST 1048576: true; the input reads as it did. -/
def fnWrdBitsUptoRow : OpenClaim := { program := "ytihkmcdnmffipaa", sum := "e4a8246d3b6f626a0ff06f92ef63459b1ebc63db8e67c4260355ba9be0eae97c", func := "loop.example/latimer/laws.FnWrdBits", spec := "fnWrdBits", unfollowed := true, recurses := true, apart := false, narrowed := true }
def FnWrdBitsUptoSaid : Prop := fnWrdBitsUptoRow.holds Try.pinned (OpenSpec.upto fnWrdBitsSpec)

/-- 'laws.FnExactWrdDo', WHERE WHAT IT READS IS OF BULK AT MOST 1048576: true; the input reads as it did. -/
def fnExactWrdDoUptoRow : OpenClaim := { program := "ytihkmcdnmffipaa", sum := "e4a8246d3b6f626a0ff06f92ef63459b1ebc63db8e67c4260355ba9be0eae97c", func := "loop.example/latimer/laws.FnExactWrdDo", spec := "fnExactWrdDo", unfollowed := true, recurses := true, apart := false, narrowed := true }
def FnExactWrdDoUptoSaid : Prop := fnExactWrdDoUptoRow.holds Try.pinned (OpenSpec.upto fnExactWrdDoSpec)

end Rows
end Go.Proofs.Ytihkmcdnmffipaa
