/-
  NARROWER THAN 'FOR EVERY INPUT', by the rows' own cells (each row's printed sentence says how): FnExactOptSets: laid · FnExactOptUsed: laid · FnExactOptDead: laid · FnExactOptAll: laid.
  DERIVED. THE GIVEN ROWS OF THIS SEAT. 4 by the template 'for every input the law returns true; each argument reads behind the call as it read before'; 0 by the template 'total and deterministic' (their statements: YtflhehofgplcoaaDoorTotals.lean).
  GIVEN WITH THE SEED: the statements are not yours to turn. If you find one false, say at which input.
  Laid BY PROGRAM, IN A SANDBOX (cutbox-rows.mjs): the forced cells as the released guide's own fill.sh prints them over the translation 024b63c6b198c15e… (all of the seat's roots in one cut). By AI agents, Wed Nov 11 2026. No macro, syntax, notation, axiom, sorry.
-/
import Derived.Test.YtflhehofgplcoaaDoorChecked
import GoSem.Claim
import GoSem.ClaimJoined
import GoSem.ClaimMapViews
import Derived.JoinedTies
import Derived.KernelRfl
namespace Go.Proofs.YtflhehofgplcoaaDoor
/- THE CELL 'sum', in the pinned program and in every row, IS THE sha256 OF THE DUMP (.gsa) THAT YtflhehofgplcoaaDoorProg.lean LOADS. Nothing in Lean hashes anything: it is a label: what it is worth is what the hold of that sum in a sandbox is worth. -/
noncomputable def Tryd.pinned : Pinned := { name := "ytflhehofgplcoaadoor", sum := "024b63c6b198c15e64f947b0c6ed329aaf4b707c8579b7918212f8ffe1fd5279", checked := Tryd.checked }
namespace Rows
def none {H : Type} : Left H := { results := [], args := [] }

/- WHAT THE LISTED PACKAGE-LEVEL VARIABLES READ AS WHEN THE CALL BEGINS. Each datum BY PROGRAM (the guide's laid-datum.mjs) off the statement by which the dump's own 'gosem.cut.vars' lays the variable. In a bare row this is a premise. The card (YtflhehofgplcoaaDoorCards.lean) ties it to the program's text. -/
def laid_loop_example_latimer_impl_opShapes {H : Type} : DataW H := .slice [.agg [.lit (.bool false), .lit (.bool false), .lit (.bool false), .lit (.int .i64 0), .lit (.int .i64 0)], .agg [.lit (.bool false), .lit (.bool false), .lit (.bool false), .lit (.int .i64 0), .lit (.int .i64 65535)], .agg [.lit (.bool false), .lit (.bool false), .lit (.bool false), .lit (.int .i64 0), .lit (.int .i64 3)], .agg [.lit (.bool true), .lit (.bool true), .lit (.bool false), .lit (.int .i64 1), .lit (.int .i64 5)], .agg [.lit (.bool true), .lit (.bool false), .lit (.bool true), .lit (.int .i64 0), .lit (.int .i64 0)], .agg [.lit (.bool true), .lit (.bool true), .lit (.bool true), .lit (.int .i64 0), .lit (.int .i64 0)], .agg [.lit (.bool false), .lit (.bool false), .lit (.bool true), .lit (.int .i64 0), .lit (.int .i64 0)], .agg [.lit (.bool true), .lit (.bool false), .lit (.bool true), .lit (.int .i64 0), .lit (.int .i64 0)], .agg [.lit (.bool true), .lit (.bool false), .lit (.bool false), .lit (.int .i64 0), .lit (.int .i64 3)]] []
def laid_loop_example_latimer_impl_endShapes {H : Type} : DataW H := .slice [.agg [.lit (.bool false), .lit (.bool false), .lit (.bool false), .lit (.int .i64 0), .lit (.int .i64 0)], .agg [.lit (.bool false), .lit (.bool false), .lit (.bool false), .lit (.int .i64 0), .lit (.int .i64 65535)], .agg [.lit (.bool true), .lit (.bool false), .lit (.bool false), .lit (.int .i64 0), .lit (.int .i64 0)], .agg [.lit (.bool true), .lit (.bool true), .lit (.bool false), .lit (.int .i64 0), .lit (.int .i64 65535)], .agg [.lit (.bool true), .lit (.bool true), .lit (.bool false), .lit (.int .i64 0), .lit (.int .i64 65535)]] []

/-- 'laws.FnExactOptSets': WHATEVER THE INPUT: true; the input reads as it did. -/
def fnExactOptSetsSpec : ChangeSpec := { name := "fnExactOptSets", vars := ["loop.example/latimer/impl.opShapes", "loop.example/latimer/impl.endShapes"], fn := fun _ => fun
  | [d, g1, g2] => { results := [.lit (.bool true)], args := [d], vars := [g1, g2] }
  | _ => none }
def fnExactOptSetsRow : OpenClaim := { program := "ytflhehofgplcoaadoor", sum := "024b63c6b198c15e64f947b0c6ed329aaf4b707c8579b7918212f8ffe1fd5279", func := "loop.example/latimer/laws.FnExactOptSets", spec := "fnExactOptSets", unfollowed := true, recurses := true, named := ["loop.example/latimer/impl.opShapes", "loop.example/latimer/impl.endShapes"], apart := false, laid := [("loop.example/latimer/impl.opShapes", laid_loop_example_latimer_impl_opShapes), ("loop.example/latimer/impl.endShapes", laid_loop_example_latimer_impl_endShapes)] }
def FnExactOptSetsSaid : Prop := fnExactOptSetsRow.holds Tryd.pinned (OpenSpec.ofChange fnExactOptSetsSpec)

/-- ITS FALSE NEIGHBOUR: 'it returns false'. Refute it at one input. -/
def fnExactOptSetsWrong : ChangeSpec := { name := "fnExactOptSets", vars := ["loop.example/latimer/impl.opShapes", "loop.example/latimer/impl.endShapes"], fn := fun _ => fun
  | [d, g1, g2] => { results := [.lit (.bool false)], args := [d], vars := [g1, g2] }
  | _ => none }
def FnExactOptSetsWrongFalsely : Prop := fnExactOptSetsRow.holds Tryd.pinned (OpenSpec.ofChange fnExactOptSetsWrong)

/-- 'laws.FnExactOptUsed': WHATEVER THE INPUT: true; the input reads as it did. -/
def fnExactOptUsedSpec : ChangeSpec := { name := "fnExactOptUsed", vars := ["loop.example/latimer/impl.opShapes", "loop.example/latimer/impl.endShapes"], fn := fun _ => fun
  | [d, g1, g2] => { results := [.lit (.bool true)], args := [d], vars := [g1, g2] }
  | _ => none }
def fnExactOptUsedRow : OpenClaim := { program := "ytflhehofgplcoaadoor", sum := "024b63c6b198c15e64f947b0c6ed329aaf4b707c8579b7918212f8ffe1fd5279", func := "loop.example/latimer/laws.FnExactOptUsed", spec := "fnExactOptUsed", unfollowed := true, recurses := true, named := ["loop.example/latimer/impl.opShapes", "loop.example/latimer/impl.endShapes"], apart := false, laid := [("loop.example/latimer/impl.opShapes", laid_loop_example_latimer_impl_opShapes), ("loop.example/latimer/impl.endShapes", laid_loop_example_latimer_impl_endShapes)] }
def FnExactOptUsedSaid : Prop := fnExactOptUsedRow.holds Tryd.pinned (OpenSpec.ofChange fnExactOptUsedSpec)

/-- ITS FALSE NEIGHBOUR: 'it returns false'. Refute it at one input. -/
def fnExactOptUsedWrong : ChangeSpec := { name := "fnExactOptUsed", vars := ["loop.example/latimer/impl.opShapes", "loop.example/latimer/impl.endShapes"], fn := fun _ => fun
  | [d, g1, g2] => { results := [.lit (.bool false)], args := [d], vars := [g1, g2] }
  | _ => none }
def FnExactOptUsedWrongFalsely : Prop := fnExactOptUsedRow.holds Tryd.pinned (OpenSpec.ofChange fnExactOptUsedWrong)

/-- 'laws.FnExactOptDead': WHATEVER THE INPUT: true; the input reads as it did. -/
def fnExactOptDeadSpec : ChangeSpec := { name := "fnExactOptDead", vars := ["loop.example/latimer/impl.endShapes", "loop.example/latimer/impl.opShapes"], fn := fun _ => fun
  | [d, g1, g2] => { results := [.lit (.bool true)], args := [d], vars := [g1, g2] }
  | _ => none }
def fnExactOptDeadRow : OpenClaim := { program := "ytflhehofgplcoaadoor", sum := "024b63c6b198c15e64f947b0c6ed329aaf4b707c8579b7918212f8ffe1fd5279", func := "loop.example/latimer/laws.FnExactOptDead", spec := "fnExactOptDead", unfollowed := true, recurses := true, named := ["loop.example/latimer/impl.endShapes", "loop.example/latimer/impl.opShapes"], apart := false, laid := [("loop.example/latimer/impl.opShapes", laid_loop_example_latimer_impl_opShapes), ("loop.example/latimer/impl.endShapes", laid_loop_example_latimer_impl_endShapes)] }
def FnExactOptDeadSaid : Prop := fnExactOptDeadRow.holds Tryd.pinned (OpenSpec.ofChange fnExactOptDeadSpec)

/-- ITS FALSE NEIGHBOUR: 'it returns false'. Refute it at one input. -/
def fnExactOptDeadWrong : ChangeSpec := { name := "fnExactOptDead", vars := ["loop.example/latimer/impl.endShapes", "loop.example/latimer/impl.opShapes"], fn := fun _ => fun
  | [d, g1, g2] => { results := [.lit (.bool false)], args := [d], vars := [g1, g2] }
  | _ => none }
def FnExactOptDeadWrongFalsely : Prop := fnExactOptDeadRow.holds Tryd.pinned (OpenSpec.ofChange fnExactOptDeadWrong)

/-- 'laws.FnExactOptAll': WHATEVER THE INPUT: true; the input reads as it did. -/
def fnExactOptAllSpec : ChangeSpec := { name := "fnExactOptAll", vars := ["loop.example/latimer/impl.opShapes", "loop.example/latimer/impl.endShapes"], fn := fun _ => fun
  | [d, g1, g2] => { results := [.lit (.bool true)], args := [d], vars := [g1, g2] }
  | _ => none }
def fnExactOptAllRow : OpenClaim := { program := "ytflhehofgplcoaadoor", sum := "024b63c6b198c15e64f947b0c6ed329aaf4b707c8579b7918212f8ffe1fd5279", func := "loop.example/latimer/laws.FnExactOptAll", spec := "fnExactOptAll", unfollowed := true, recurses := true, named := ["loop.example/latimer/impl.opShapes", "loop.example/latimer/impl.endShapes"], apart := false, laid := [("loop.example/latimer/impl.opShapes", laid_loop_example_latimer_impl_opShapes), ("loop.example/latimer/impl.endShapes", laid_loop_example_latimer_impl_endShapes)] }
def FnExactOptAllSaid : Prop := fnExactOptAllRow.holds Tryd.pinned (OpenSpec.ofChange fnExactOptAllSpec)

/-- ITS FALSE NEIGHBOUR: 'it returns false'. Refute it at one input. -/
def fnExactOptAllWrong : ChangeSpec := { name := "fnExactOptAll", vars := ["loop.example/latimer/impl.opShapes", "loop.example/latimer/impl.endShapes"], fn := fun _ => fun
  | [d, g1, g2] => { results := [.lit (.bool false)], args := [d], vars := [g1, g2] }
  | _ => none }
def FnExactOptAllWrongFalsely : Prop := fnExactOptAllRow.holds Tryd.pinned (OpenSpec.ofChange fnExactOptAllWrong)

/- THE SECOND FORM. 'bulk': how many values and letters a reading holds, each counted each time it is reached (what is shared counts as often as it is met; a slice's spare places count too). A statement '..UptoSaid' is the law's where the arguments, and the package variables that the reading takes, are together of bulk at most 1048576: NARROWER than '..Said'. Prove '..Said' where nothing that the law and all that it calls make is longer than what came in: it says more and counts as full. Else prove '..UptoSaid'. A law counts once. -/
mutual
def uptoBulk {H : Type} : DataW H → Nat
  | .lit (.string bytes) => bytes.length + 1
  | .lit _ => 1
  | .nil => 1
  | .ptr d => uptoBulk d + 1
  | .slice elems spare => uptoBulkAll elems + uptoBulkAll spare + 1
  | .agg parts => uptoBulkAll parts + 1
  | .iface _ d => uptoBulk d + 1
  | .map entries => uptoBulkEntries entries + 1
  | .held _ => 1
def uptoBulkAll {H : Type} : List (DataW H) → Nat
  | [] => 0
  | d :: r => uptoBulk d + uptoBulkAll r
def uptoBulkEntries {H : Type} : List (Lit × DataW H) → Nat
  | [] => 0
  | x :: r => uptoBulkEntry x + uptoBulkEntries r
def uptoBulkEntry {H : Type} : Lit × DataW H → Nat
  | (.string bytes, d) => bytes.length + uptoBulk d + 1
  | (_, d) => uptoBulk d + 1
 end
def uptoSmall : (H : Type) → List (DataW H) → Bool := fun _ ds => decide (uptoBulkAll ds ≤ 1048576)
def OpenSpec.upto (s : _root_.Go.ChangeSpec) : _root_.Go.OpenSpec := { _root_.Go.OpenSpec.ofChange s with cond := some uptoSmall }

/-- 'laws.FnExactOptSets', WHERE WHAT IT READS IS OF BULK AT MOST 1048576: true; the input reads as it did. -/
def fnExactOptSetsUptoRow : OpenClaim := { program := "ytflhehofgplcoaadoor", sum := "024b63c6b198c15e64f947b0c6ed329aaf4b707c8579b7918212f8ffe1fd5279", func := "loop.example/latimer/laws.FnExactOptSets", spec := "fnExactOptSets", unfollowed := true, recurses := true, named := ["loop.example/latimer/impl.opShapes", "loop.example/latimer/impl.endShapes"], apart := false, laid := [("loop.example/latimer/impl.opShapes", laid_loop_example_latimer_impl_opShapes), ("loop.example/latimer/impl.endShapes", laid_loop_example_latimer_impl_endShapes)], narrowed := true }
def FnExactOptSetsUptoSaid : Prop := fnExactOptSetsUptoRow.holds Tryd.pinned (OpenSpec.upto fnExactOptSetsSpec)

/-- 'laws.FnExactOptUsed', WHERE WHAT IT READS IS OF BULK AT MOST 1048576: true; the input reads as it did. -/
def fnExactOptUsedUptoRow : OpenClaim := { program := "ytflhehofgplcoaadoor", sum := "024b63c6b198c15e64f947b0c6ed329aaf4b707c8579b7918212f8ffe1fd5279", func := "loop.example/latimer/laws.FnExactOptUsed", spec := "fnExactOptUsed", unfollowed := true, recurses := true, named := ["loop.example/latimer/impl.opShapes", "loop.example/latimer/impl.endShapes"], apart := false, laid := [("loop.example/latimer/impl.opShapes", laid_loop_example_latimer_impl_opShapes), ("loop.example/latimer/impl.endShapes", laid_loop_example_latimer_impl_endShapes)], narrowed := true }
def FnExactOptUsedUptoSaid : Prop := fnExactOptUsedUptoRow.holds Tryd.pinned (OpenSpec.upto fnExactOptUsedSpec)

/-- 'laws.FnExactOptDead', WHERE WHAT IT READS IS OF BULK AT MOST 1048576: true; the input reads as it did. -/
def fnExactOptDeadUptoRow : OpenClaim := { program := "ytflhehofgplcoaadoor", sum := "024b63c6b198c15e64f947b0c6ed329aaf4b707c8579b7918212f8ffe1fd5279", func := "loop.example/latimer/laws.FnExactOptDead", spec := "fnExactOptDead", unfollowed := true, recurses := true, named := ["loop.example/latimer/impl.endShapes", "loop.example/latimer/impl.opShapes"], apart := false, laid := [("loop.example/latimer/impl.opShapes", laid_loop_example_latimer_impl_opShapes), ("loop.example/latimer/impl.endShapes", laid_loop_example_latimer_impl_endShapes)], narrowed := true }
def FnExactOptDeadUptoSaid : Prop := fnExactOptDeadUptoRow.holds Tryd.pinned (OpenSpec.upto fnExactOptDeadSpec)

/-- 'laws.FnExactOptAll', WHERE WHAT IT READS IS OF BULK AT MOST 1048576: true; the input reads as it did. -/
def fnExactOptAllUptoRow : OpenClaim := { program := "ytflhehofgplcoaadoor", sum := "024b63c6b198c15e64f947b0c6ed329aaf4b707c8579b7918212f8ffe1fd5279", func := "loop.example/latimer/laws.FnExactOptAll", spec := "fnExactOptAll", unfollowed := true, recurses := true, named := ["loop.example/latimer/impl.opShapes", "loop.example/latimer/impl.endShapes"], apart := false, laid := [("loop.example/latimer/impl.opShapes", laid_loop_example_latimer_impl_opShapes), ("loop.example/latimer/impl.endShapes", laid_loop_example_latimer_impl_endShapes)], narrowed := true }
def FnExactOptAllUptoSaid : Prop := fnExactOptAllUptoRow.holds Tryd.pinned (OpenSpec.upto fnExactOptAllSpec)

end Rows
end Go.Proofs.YtflhehofgplcoaaDoor
