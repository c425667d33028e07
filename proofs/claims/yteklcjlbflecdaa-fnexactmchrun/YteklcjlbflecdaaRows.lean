/-
  No cell of these rows narrows 'for every input' (looked for: loops, veiled, ifaces, maps, wideKeys, modest, calm, conditions, laid).
  DERIVED. THE GIVEN ROWS OF THIS SEAT. 4 by the template 'for every input the law returns true; each argument reads behind the call as it read before'; 0 by the template 'total and deterministic' (their statements: YteklcjlbflecdaaTotals.lean).
  GIVEN WITH THE SEED: the statements are not yours to turn. If you find one false, say at which input.
  Laid BY PROGRAM, IN A SANDBOX (cutbox-rows.mjs): the forced cells as the released guide's own fill.sh prints them over the translation aaed8191e00a7163… (all of the seat's roots in one cut). By AI agents, Wed Nov 11 2026. No macro, syntax, notation, axiom, sorry.
-/
import Derived.Test.YteklcjlbflecdaaChecked
import GoSem.Claim
import GoSem.ClaimJoined
import GoSem.ClaimMapViews
import Derived.JoinedTies
import Derived.KernelRfl
namespace Go.Proofs.Yteklcjlbflecdaa
/- THE CELL 'sum', in the pinned program and in every row, IS THE sha256 OF THE DUMP (.gsa) THAT YteklcjlbflecdaaProg.lean LOADS. Nothing in Lean hashes anything: it is a label: what it is worth is what the hold of that sum in a sandbox is worth. -/
noncomputable def Try.pinned : Pinned := { name := "yteklcjlbflecdaa", sum := "aaed8191e00a7163b2b1d92bd03165a8d64c568579819752c4ae9845b056d6d9", checked := Try.checked }
namespace Rows
def none {H : Type} : Left H := { results := [], args := [] }

/-- 'laws.FnExactMchOk': WHATEVER THE INPUT: true; the input reads as it did. -/
def fnExactMchOkSpec : ChangeSpec := { name := "fnExactMchOk", fn := fun _ => fun
  | [d] => { results := [.lit (.bool true)], args := [d] }
  | _ => none }
def fnExactMchOkRow : OpenClaim := { program := "yteklcjlbflecdaa", sum := "aaed8191e00a7163b2b1d92bd03165a8d64c568579819752c4ae9845b056d6d9", func := "loop.example/latimer/laws.FnExactMchOk", spec := "fnExactMchOk", apart := false }
def FnExactMchOkSaid : Prop := fnExactMchOkRow.holds Try.pinned (OpenSpec.ofChange fnExactMchOkSpec)

/-- ITS FALSE NEIGHBOUR: 'it returns false'. Refute it at one input. -/
def fnExactMchOkWrong : ChangeSpec := { name := "fnExactMchOk", fn := fun _ => fun
  | [d] => { results := [.lit (.bool false)], args := [d] }
  | _ => none }
def FnExactMchOkWrongFalsely : Prop := fnExactMchOkRow.holds Try.pinned (OpenSpec.ofChange fnExactMchOkWrong)

/-- 'laws.FnExactMchNew': WHATEVER THE INPUT: true; the input reads as it did. -/
def fnExactMchNewSpec : ChangeSpec := { name := "fnExactMchNew", fn := fun _ => fun
  | [d1, d2] => { results := [.lit (.bool true)], args := [d1, d2] }
  | _ => none }
def fnExactMchNewRow : OpenClaim := { program := "yteklcjlbflecdaa", sum := "aaed8191e00a7163b2b1d92bd03165a8d64c568579819752c4ae9845b056d6d9", func := "loop.example/latimer/laws.FnExactMchNew", spec := "fnExactMchNew", apart := false }
def FnExactMchNewSaid : Prop := fnExactMchNewRow.holds Try.pinned (OpenSpec.ofChange fnExactMchNewSpec)

/-- ITS FALSE NEIGHBOUR: 'it returns false'. Refute it at one input. -/
def fnExactMchNewWrong : ChangeSpec := { name := "fnExactMchNew", fn := fun _ => fun
  | [d1, d2] => { results := [.lit (.bool false)], args := [d1, d2] }
  | _ => none }
def FnExactMchNewWrongFalsely : Prop := fnExactMchNewRow.holds Try.pinned (OpenSpec.ofChange fnExactMchNewWrong)

/-- 'laws.FnExactMchStep': WHATEVER THE INPUT: true; the input reads as it did. -/
def fnExactMchStepSpec : ChangeSpec := { name := "fnExactMchStep", fn := fun _ => fun
  | [d1, d2] => { results := [.lit (.bool true)], args := [d1, d2] }
  | _ => none }
def fnExactMchStepRow : OpenClaim := { program := "yteklcjlbflecdaa", sum := "aaed8191e00a7163b2b1d92bd03165a8d64c568579819752c4ae9845b056d6d9", func := "loop.example/latimer/laws.FnExactMchStep", spec := "fnExactMchStep", unfollowed := true, recurses := true, apart := false }
def FnExactMchStepSaid : Prop := fnExactMchStepRow.holds Try.pinned (OpenSpec.ofChange fnExactMchStepSpec)

/-- ITS FALSE NEIGHBOUR: 'it returns false'. Refute it at one input. -/
def fnExactMchStepWrong : ChangeSpec := { name := "fnExactMchStep", fn := fun _ => fun
  | [d1, d2] => { results := [.lit (.bool false)], args := [d1, d2] }
  | _ => none }
def FnExactMchStepWrongFalsely : Prop := fnExactMchStepRow.holds Try.pinned (OpenSpec.ofChange fnExactMchStepWrong)

/-- 'laws.FnExactMchRun': WHATEVER THE INPUT: true; the input reads as it did. -/
def fnExactMchRunSpec : ChangeSpec := { name := "fnExactMchRun", fn := fun _ => fun
  | [d1, d2, d3] => { results := [.lit (.bool true)], args := [d1, d2, d3] }
  | _ => none }
def fnExactMchRunRow : OpenClaim := { program := "yteklcjlbflecdaa", sum := "aaed8191e00a7163b2b1d92bd03165a8d64c568579819752c4ae9845b056d6d9", func := "loop.example/latimer/laws.FnExactMchRun", spec := "fnExactMchRun", unfollowed := true, recurses := true, apart := false }
def FnExactMchRunSaid : Prop := fnExactMchRunRow.holds Try.pinned (OpenSpec.ofChange fnExactMchRunSpec)

/-- ITS FALSE NEIGHBOUR: 'it returns false'. Refute it at one input. -/
def fnExactMchRunWrong : ChangeSpec := { name := "fnExactMchRun", fn := fun _ => fun
  | [d1, d2, d3] => { results := [.lit (.bool false)], args := [d1, d2, d3] }
  | _ => none }
def FnExactMchRunWrongFalsely : Prop := fnExactMchRunRow.holds Try.pinned (OpenSpec.ofChange fnExactMchRunWrong)

/- THE SECOND FORM. 'bulk': how many values and letters a reading holds, each counted each time it is reached (what is shared counts as often as it is met; a slice's spare places count too). A statement '..UptoSaid' is the law's where the arguments, and the package variables that the reading takes, are together of bulk at most 1048576: NARROWER than '..Said'. Prove '..Said' where nothing that the law and all that it calls make is longer than what came in: it says more and counts as full. Else prove '..UptoSaid'. A law counts once. -/
mutual
def uptoBulk {H : Type} : DataW H → Nat
  | .lit (.string bytes) => bytes.length + 1
  | .lit _ => 1
  | .nil => 1
  | .ptr d => uptoBulk d + 1
  | .slice elems spare => uptoBulkAll elems + uptoBulkAll spare + 1
  | .agg parts => uptoBulkAll parts + 1
  | .iface _ d => uptoBulk d + 1
  | .map entries => uptoBulkEntries entries + 1
  | .held _ => 1
def uptoBulkAll {H : Type} : List (DataW H) → Nat
  | [] => 0
  | d :: r => uptoBulk d + uptoBulkAll r
def uptoBulkEntries {H : Type} : List (Lit × DataW H) → Nat
  | [] => 0
  | x :: r => uptoBulkEntry x + uptoBulkEntries r
def uptoBulkEntry {H : Type} : Lit × DataW H → Nat
  | (.string bytes, d) => bytes.length + uptoBulk d + 1
  | (_, d) => uptoBulk d + 1
 end
def uptoSmall : (H : Type) → List (DataW H) → Bool := fun _ ds => decide (uptoBulkAll ds ≤ 1048576)
def OpenSpec.upto (s : _root_.Go.ChangeSpec) : _root_.Go.OpenSpec := { _root_.Go.OpenSpec.ofChange s with cond := some uptoSmall }

/-- 'laws.FnExactMchOk', WHERE WHAT IT READS IS OF BULK AT MOST 1048576: true; the input reads as it did. -/
def fnExactMchOkUptoRow : OpenClaim := { program := "yteklcjlbflecdaa", sum := "aaed8191e00a7163b2b1d92bd03165a8d64c568579819752c4ae9845b056d6d9", func := "loop.example/latimer/laws.FnExactMchOk", spec := "fnExactMchOk", apart := false, narrowed := true }
def FnExactMchOkUptoSaid : Prop := fnExactMchOkUptoRow.holds Try.pinned (OpenSpec.upto fnExactMchOkSpec)

/-- 'laws.FnExactMchNew', WHERE WHAT IT READS IS OF BULK AT MOST 1048576: true; the input reads as it did. -/
def fnExactMchNewUptoRow : OpenClaim := { program := "yteklcjlbflecdaa", sum := "aaed8191e00a7163b2b1d92bd03165a8d64c568579819752c4ae9845b056d6d9", func := "loop.example/latimer/laws.FnExactMchNew", spec := "fnExactMchNew", apart := false, narrowed := true }
def FnExactMchNewUptoSaid : Prop := fnExactMchNewUptoRow.holds Try.pinned (OpenSpec.upto fnExactMchNewSpec)

/-- 'laws.FnExactMchStep', WHERE WHAT IT READS IS OF BULK AT MOST 1048576: true; the input reads as it did. -/
def fnExactMchStepUptoRow : OpenClaim := { program := "yteklcjlbflecdaa", sum := "aaed8191e00a7163b2b1d92bd03165a8d64c568579819752c4ae9845b056d6d9", func := "loop.example/latimer/laws.FnExactMchStep", spec := "fnExactMchStep", unfollowed := true, recurses := true, apart := false, narrowed := true }
def FnExactMchStepUptoSaid : Prop := fnExactMchStepUptoRow.holds Try.pinned (OpenSpec.upto fnExactMchStepSpec)

/-- 'laws.FnExactMchRun', WHERE WHAT IT READS IS OF BULK AT MOST 1048576: true; the input reads as it did. -/
def fnExactMchRunUptoRow : OpenClaim := { program := "yteklcjlbflecdaa", sum := "aaed8191e00a7163b2b1d92bd03165a8d64c568579819752c4ae9845b056d6d9", func := "loop.example/latimer/laws.FnExactMchRun", spec := "fnExactMchRun", unfollowed := true, recurses := true, apart := false, narrowed := true }
def FnExactMchRunUptoSaid : Prop := fnExactMchRunUptoRow.holds Try.pinned (OpenSpec.upto fnExactMchRunSpec)

end Rows
end Go.Proofs.Yteklcjlbflecdaa
