/-
  No cell of these rows narrows 'for every input' (looked for: loops, veiled, ifaces, maps, wideKeys, modest, calm, conditions, laid).
  DERIVED. THE GIVEN ROWS OF THIS SEAT. 2 by the template 'for every input the law returns true; each argument reads behind the call as it read before'; 0 by the template 'total and deterministic' (their statements: YtagfgbkclopoeaaTotals.lean).
  GIVEN WITH THE SEED: the statements are not yours to turn. If you find one false, say at which input.
  Laid BY PROGRAM, IN A SANDBOX (cutbox-rows.mjs): the forced cells as the released guide's own fill.sh prints them over the translation eab11872ffbfc8d4… (all of the seat's roots in one cut). By AI agents, Wed Nov 11 2026. No macro, syntax, notation, axiom, sorry.
-/
import Derived.Test.YtagfgbkclopoeaaChecked
import GoSem.Claim
import GoSem.ClaimJoined
import GoSem.ClaimMapViews
import Derived.JoinedTies
import Derived.KernelRfl
namespace Go.Proofs.Ytagfgbkclopoeaa
/- THE CELL 'sum', in the pinned program and in every row, IS THE sha256 OF THE DUMP (.gsa) THAT YtagfgbkclopoeaaProg.lean LOADS. Nothing in Lean hashes anything: it is a label: what it is worth is what the hold of that sum in a sandbox is worth. -/
noncomputable def Try.pinned : Pinned := { name := "ytagfgbkclopoeaa", sum := "eab11872ffbfc8d4a744b3f57330793daa8be94a1e6ebe7c7b734344bbc32cb6", checked := Try.checked }
namespace Rows
def none {H : Type} : Left H := { results := [], args := [] }

/-- 'laws.FnExactTabPut': WHATEVER THE INPUT: true; the input reads as it did. -/
def fnExactTabPutSpec : ChangeSpec := { name := "fnExactTabPut", fn := fun _ => fun
  | [d1, d2] => { results := [.lit (.bool true)], args := [d1, d2] }
  | _ => none }
def fnExactTabPutRow : OpenClaim := { program := "ytagfgbkclopoeaa", sum := "eab11872ffbfc8d4a744b3f57330793daa8be94a1e6ebe7c7b734344bbc32cb6", func := "loop.example/latimer/laws.FnExactTabPut", spec := "fnExactTabPut", unfollowed := true, recurses := true, plainKeys := false, apart := false }
def FnExactTabPutSaid : Prop := fnExactTabPutRow.holds Try.pinned (OpenSpec.ofChange fnExactTabPutSpec)

/-- ITS FALSE NEIGHBOUR: 'it returns false'. Refute it at one input. -/
def fnExactTabPutWrong : ChangeSpec := { name := "fnExactTabPut", fn := fun _ => fun
  | [d1, d2] => { results := [.lit (.bool false)], args := [d1, d2] }
  | _ => none }
def FnExactTabPutWrongFalsely : Prop := fnExactTabPutRow.holds Try.pinned (OpenSpec.ofChange fnExactTabPutWrong)

/-- 'laws.FnExactTabVals': WHATEVER THE INPUT: true; the input reads as it did. -/
def fnExactTabValsSpec : ChangeSpec := { name := "fnExactTabVals", fn := fun _ => fun
  | [d1, d2, d3, d4] => { results := [.lit (.bool true)], args := [d1, d2, d3, d4] }
  | _ => none }
def fnExactTabValsRow : OpenClaim := { program := "ytagfgbkclopoeaa", sum := "eab11872ffbfc8d4a744b3f57330793daa8be94a1e6ebe7c7b734344bbc32cb6", func := "loop.example/latimer/laws.FnExactTabVals", spec := "fnExactTabVals", unfollowed := true, recurses := true, plainKeys := false, apart := false }
def FnExactTabValsSaid : Prop := fnExactTabValsRow.holds Try.pinned (OpenSpec.ofChange fnExactTabValsSpec)

/-- ITS FALSE NEIGHBOUR: 'it returns false'. Refute it at one input. -/
def fnExactTabValsWrong : ChangeSpec := { name := "fnExactTabVals", fn := fun _ => fun
  | [d1, d2, d3, d4] => { results := [.lit (.bool false)], args := [d1, d2, d3, d4] }
  | _ => none }
def FnExactTabValsWrongFalsely : Prop := fnExactTabValsRow.holds Try.pinned (OpenSpec.ofChange fnExactTabValsWrong)

/- THE SECOND FORM. 'bulk': how many values and letters a reading holds, each counted each time it is reached (what is shared counts as often as it is met; a slice's spare places count too). A statement '..UptoSaid' is the law's where the arguments, and the package variables that the reading takes, are together of bulk at most 1048576: NARROWER than '..Said'. Prove '..Said' where nothing that the law and all that it calls make is longer than what came in: it says more and counts as full. Else prove '..UptoSaid'. A law counts once. -/
mutual
def uptoBulk {H : Type} : DataW H → Nat
  | .lit (.string bytes) => bytes.length + 1
  | .lit _ => 1
  | .nil => 1
  | .ptr d => uptoBulk d + 1
  | .slice elems spare => uptoBulkAll elems + uptoBulkAll spare + 1
  | .agg parts => uptoBulkAll parts + 1
  | .iface _ d => uptoBulk d + 1
  | .map entries => uptoBulkEntries entries + 1
  | .held _ => 1
def uptoBulkAll {H : Type} : List (DataW H) → Nat
  | [] => 0
  | d :: r => uptoBulk d + uptoBulkAll r
def uptoBulkEntries {H : Type} : List (Lit × DataW H) → Nat
  | [] => 0
  | x :: r => uptoBulkEntry x + uptoBulkEntries r
def uptoBulkEntry {H : Type} : Lit × DataW H → Nat
  | (.string bytes, d) => bytes.length + uptoBulk d + 1
  | (_, d) => uptoBulk d + 1
 end
def uptoSmall : (H : Type) → List (DataW H) → Bool := fun _ ds => decide (uptoBulkAll ds ≤ 1048576)
def OpenSpec.upto (s : _root_.Go.ChangeSpec) : _root_.Go.OpenSpec := { _root_.Go.OpenSpec.ofChange s with cond := some uptoSmall }

/-- 'laws.FnExactTabPut', WHERE WHAT IT READS IS OF BULK AT MOST 1048576: true; the input reads as it did. -/
def fnExactTabPutUptoRow : OpenClaim := { program := "ytagfgbkclopoeaa", sum := "eab11872ffbfc8d4a744b3f57330793daa8be94a1e6ebe7c7b734344bbc32cb6", func := "loop.example/latimer/laws.FnExactTabPut", spec := "fnExactTabPut", unfollowed := true, recurses := true, plainKeys := false, apart := false, narrowed := true }
def FnExactTabPutUptoSaid : Prop := fnExactTabPutUptoRow.holds Try.pinned (OpenSpec.upto fnExactTabPutSpec)

/-- 'laws.FnExactTabVals', WHERE WHAT IT READS IS OF BULK AT MOST 1048576: true; the input reads as it did. -/
def fnExactTabValsUptoRow : OpenClaim := { program := "ytagfgbkclopoeaa", sum := "eab11872ffbfc8d4a744b3f57330793daa8be94a1e6ebe7c7b734344bbc32cb6", func := "loop.example/latimer/laws.FnExactTabVals", spec := "fnExactTabVals", unfollowed := true, recurses := true, plainKeys := false, apart := false, narrowed := true }
def FnExactTabValsUptoSaid : Prop := fnExactTabValsUptoRow.holds Try.pinned (OpenSpec.upto fnExactTabValsSpec)

end Rows
end Go.Proofs.Ytagfgbkclopoeaa
