/-
  NARROWER THAN 'FOR EVERY INPUT', by the rows' own cells (each row's printed sentence says how): FnIrSame: laid · FnIrBytes: ifaces, laid · FnExactIrBytes: laid · FnExactIrRead: ifaces, laid.
  DERIVED. THE GIVEN ROWS OF THIS SEAT. 4 by the template 'for every input the law returns true; each argument reads behind the call as it read before'; 0 by the template 'total and deterministic' (their statements: YtkeelacobknfbaaDoorTotals.lean).
  GIVEN WITH THE SEED: the statements are not yours to turn. If you find one false, say at which input.
  Laid BY PROGRAM, IN A SANDBOX (cutbox-rows.mjs): the forced cells as the released guide's own fill.sh prints them over the translation 5939bdb4bcb5dc3f… (all of the seat's roots in one cut). By AI agents, Wed Nov 11 2026. No macro, syntax, notation, axiom, sorry.
-/
import Derived.Test.YtkeelacobknfbaaDoorChecked
import GoSem.Claim
import GoSem.ClaimJoined
import GoSem.ClaimMapViews
import Derived.JoinedTies
import Derived.KernelRfl
namespace Go.Proofs.YtkeelacobknfbaaDoor
/- THE CELL 'sum', in the pinned program and in every row, IS THE sha256 OF THE DUMP (.gsa) THAT YtkeelacobknfbaaDoorProg.lean LOADS. Nothing in Lean hashes anything: it is a label: what it is worth is what the hold of that sum in a sandbox is worth. -/
noncomputable def Tryd.pinned : Pinned := { name := "ytkeelacobknfbaadoor", sum := "5939bdb4bcb5dc3f431c9481a89ed4e2c2adf38c14a48a7d41d7e5131527e481", checked := Tryd.checked }
namespace Rows
def none {H : Type} : Left H := { results := [], args := [] }

/- WHAT THE LISTED PACKAGE-LEVEL VARIABLES READ AS WHEN THE CALL BEGINS. Each datum BY PROGRAM (the guide's laid-datum.mjs) off the statement by which the dump's own 'gosem.cut.vars' lays the variable. In a bare row this is a premise. The card (YtkeelacobknfbaaDoorCards.lean) ties it to the program's text. -/
def laid_loop_example_latimer_impl_opShapes {H : Type} : DataW H := .slice [.agg [.lit (.bool false), .lit (.bool false), .lit (.bool false), .lit (.int .i64 0), .lit (.int .i64 0)], .agg [.lit (.bool false), .lit (.bool false), .lit (.bool false), .lit (.int .i64 0), .lit (.int .i64 65535)], .agg [.lit (.bool false), .lit (.bool false), .lit (.bool false), .lit (.int .i64 0), .lit (.int .i64 3)], .agg [.lit (.bool true), .lit (.bool true), .lit (.bool false), .lit (.int .i64 1), .lit (.int .i64 5)], .agg [.lit (.bool true), .lit (.bool false), .lit (.bool true), .lit (.int .i64 0), .lit (.int .i64 0)], .agg [.lit (.bool true), .lit (.bool true), .lit (.bool true), .lit (.int .i64 0), .lit (.int .i64 0)], .agg [.lit (.bool false), .lit (.bool false), .lit (.bool true), .lit (.int .i64 0), .lit (.int .i64 0)], .agg [.lit (.bool true), .lit (.bool false), .lit (.bool true), .lit (.int .i64 0), .lit (.int .i64 0)], .agg [.lit (.bool true), .lit (.bool false), .lit (.bool false), .lit (.int .i64 0), .lit (.int .i64 3)]] []
def laid_loop_example_latimer_impl_endShapes {H : Type} : DataW H := .slice [.agg [.lit (.bool false), .lit (.bool false), .lit (.bool false), .lit (.int .i64 0), .lit (.int .i64 0)], .agg [.lit (.bool false), .lit (.bool false), .lit (.bool false), .lit (.int .i64 0), .lit (.int .i64 65535)], .agg [.lit (.bool true), .lit (.bool false), .lit (.bool false), .lit (.int .i64 0), .lit (.int .i64 0)], .agg [.lit (.bool true), .lit (.bool true), .lit (.bool false), .lit (.int .i64 0), .lit (.int .i64 65535)], .agg [.lit (.bool true), .lit (.bool true), .lit (.bool false), .lit (.int .i64 0), .lit (.int .i64 65535)]] []
def laid_loop_example_latimer_impl_errTooFew {H : Type} : DataW H := .iface "*errors.errorString" (.ptr (.agg [.lit (.string [97, 32, 98, 121, 116, 101, 32, 105, 115, 32, 109, 105, 115, 115, 105, 110, 103])]))
def laid_loop_example_latimer_impl_errTooMany {H : Type} : DataW H := .iface "*errors.errorString" (.ptr (.agg [.lit (.string [116, 104, 101, 114, 101, 32, 97, 114, 101, 32, 109, 111, 114, 101, 32, 111, 112, 101, 114, 97, 116, 105, 111, 110, 115, 32, 116, 104, 97, 110, 32, 99, 111, 100, 101, 32, 109, 97, 121, 32, 104, 97, 118, 101])]))
def laid_loop_example_latimer_impl_errNotOk {H : Type} : DataW H := .iface "*errors.errorString" (.ptr (.agg [.lit (.string [119, 104, 97, 116, 32, 116, 104, 101, 32, 98, 121, 116, 101, 115, 32, 115, 97, 121, 32, 105, 115, 32, 110, 111, 116, 32, 111, 107])]))

/-- 'laws.FnIrSame': WHATEVER THE INPUT: true; the input reads as it did. -/
def fnIrSameSpec : ChangeSpec := { name := "fnIrSame", vars := ["loop.example/latimer/impl.opShapes", "loop.example/latimer/impl.endShapes"], fn := fun _ => fun
  | [d, g1, g2] => { results := [.lit (.bool true)], args := [d], vars := [g1, g2] }
  | _ => none }
def fnIrSameRow : OpenClaim := { program := "ytkeelacobknfbaadoor", sum := "5939bdb4bcb5dc3f431c9481a89ed4e2c2adf38c14a48a7d41d7e5131527e481", func := "loop.example/latimer/laws.FnIrSame", spec := "fnIrSame", unfollowed := true, recurses := true, named := ["loop.example/latimer/impl.opShapes", "loop.example/latimer/impl.endShapes"], apart := false, laid := [("loop.example/latimer/impl.opShapes", laid_loop_example_latimer_impl_opShapes), ("loop.example/latimer/impl.endShapes", laid_loop_example_latimer_impl_endShapes)] }
def FnIrSameSaid : Prop := fnIrSameRow.holds Tryd.pinned (OpenSpec.ofChange fnIrSameSpec)

/-- ITS FALSE NEIGHBOUR: 'it returns false'. Refute it at one input. -/
def fnIrSameWrong : ChangeSpec := { name := "fnIrSame", vars := ["loop.example/latimer/impl.opShapes", "loop.example/latimer/impl.endShapes"], fn := fun _ => fun
  | [d, g1, g2] => { results := [.lit (.bool false)], args := [d], vars := [g1, g2] }
  | _ => none }
def FnIrSameWrongFalsely : Prop := fnIrSameRow.holds Tryd.pinned (OpenSpec.ofChange fnIrSameWrong)

/-- 'laws.FnIrBytes': WHATEVER THE INPUT: true; the input reads as it did. -/
def fnIrBytesSpec : ChangeSpec := { name := "fnIrBytes", vars := ["loop.example/latimer/impl.opShapes", "loop.example/latimer/impl.endShapes", "loop.example/latimer/impl.errTooMany", "loop.example/latimer/impl.errNotOk", "loop.example/latimer/impl.errTooFew"], fn := fun _ => fun
  | [d1, d2, g1, g2, g3, g4, g5] => { results := [.lit (.bool true)], args := [d1, d2], vars := [g1, g2, g3, g4, g5] }
  | _ => none }
def fnIrBytesRow : OpenClaim := { program := "ytkeelacobknfbaadoor", sum := "5939bdb4bcb5dc3f431c9481a89ed4e2c2adf38c14a48a7d41d7e5131527e481", func := "loop.example/latimer/laws.FnIrBytes", spec := "fnIrBytes", named := ["loop.example/latimer/impl.opShapes", "loop.example/latimer/impl.endShapes", "loop.example/latimer/impl.errTooMany", "loop.example/latimer/impl.errNotOk", "loop.example/latimer/impl.errTooFew"], ifaces := true, apart := false, laid := [("loop.example/latimer/impl.errTooFew", laid_loop_example_latimer_impl_errTooFew), ("loop.example/latimer/impl.errTooMany", laid_loop_example_latimer_impl_errTooMany), ("loop.example/latimer/impl.errNotOk", laid_loop_example_latimer_impl_errNotOk), ("loop.example/latimer/impl.opShapes", laid_loop_example_latimer_impl_opShapes), ("loop.example/latimer/impl.endShapes", laid_loop_example_latimer_impl_endShapes)] }
def FnIrBytesSaid : Prop := fnIrBytesRow.holds Tryd.pinned (OpenSpec.ofChange fnIrBytesSpec)

/-- ITS FALSE NEIGHBOUR: 'it returns false'. Refute it at one input. -/
def fnIrBytesWrong : ChangeSpec := { name := "fnIrBytes", vars := ["loop.example/latimer/impl.opShapes", "loop.example/latimer/impl.endShapes", "loop.example/latimer/impl.errTooMany", "loop.example/latimer/impl.errNotOk", "loop.example/latimer/impl.errTooFew"], fn := fun _ => fun
  | [d1, d2, g1, g2, g3, g4, g5] => { results := [.lit (.bool false)], args := [d1, d2], vars := [g1, g2, g3, g4, g5] }
  | _ => none }
def FnIrBytesWrongFalsely : Prop := fnIrBytesRow.holds Tryd.pinned (OpenSpec.ofChange fnIrBytesWrong)

/-- 'laws.FnExactIrBytes': WHATEVER THE INPUT: true; the input reads as it did. -/
def fnExactIrBytesSpec : ChangeSpec := { name := "fnExactIrBytes", vars := ["loop.example/latimer/impl.opShapes", "loop.example/latimer/impl.endShapes"], fn := fun _ => fun
  | [d, g1, g2] => { results := [.lit (.bool true)], args := [d], vars := [g1, g2] }
  | _ => none }
def fnExactIrBytesRow : OpenClaim := { program := "ytkeelacobknfbaadoor", sum := "5939bdb4bcb5dc3f431c9481a89ed4e2c2adf38c14a48a7d41d7e5131527e481", func := "loop.example/latimer/laws.FnExactIrBytes", spec := "fnExactIrBytes", named := ["loop.example/latimer/impl.opShapes", "loop.example/latimer/impl.endShapes"], apart := false, laid := [("loop.example/latimer/impl.opShapes", laid_loop_example_latimer_impl_opShapes), ("loop.example/latimer/impl.endShapes", laid_loop_example_latimer_impl_endShapes)] }
def FnExactIrBytesSaid : Prop := fnExactIrBytesRow.holds Tryd.pinned (OpenSpec.ofChange fnExactIrBytesSpec)

/-- ITS FALSE NEIGHBOUR: 'it returns false'. Refute it at one input. -/
def fnExactIrBytesWrong : ChangeSpec := { name := "fnExactIrBytes", vars := ["loop.example/latimer/impl.opShapes", "loop.example/latimer/impl.endShapes"], fn := fun _ => fun
  | [d, g1, g2] => { results := [.lit (.bool false)], args := [d], vars := [g1, g2] }
  | _ => none }
def FnExactIrBytesWrongFalsely : Prop := fnExactIrBytesRow.holds Tryd.pinned (OpenSpec.ofChange fnExactIrBytesWrong)

/-- 'laws.FnExactIrRead': WHATEVER THE INPUT: true; the input reads as it did. -/
def fnExactIrReadSpec : ChangeSpec := { name := "fnExactIrRead", vars := ["loop.example/latimer/impl.errTooMany", "loop.example/latimer/impl.errNotOk", "loop.example/latimer/impl.errTooFew", "loop.example/latimer/impl.opShapes", "loop.example/latimer/impl.endShapes"], fn := fun _ => fun
  | [d, g1, g2, g3, g4, g5] => { results := [.lit (.bool true)], args := [d], vars := [g1, g2, g3, g4, g5] }
  | _ => none }
def fnExactIrReadRow : OpenClaim := { program := "ytkeelacobknfbaadoor", sum := "5939bdb4bcb5dc3f431c9481a89ed4e2c2adf38c14a48a7d41d7e5131527e481", func := "loop.example/latimer/laws.FnExactIrRead", spec := "fnExactIrRead", named := ["loop.example/latimer/impl.errTooMany", "loop.example/latimer/impl.errNotOk", "loop.example/latimer/impl.errTooFew", "loop.example/latimer/impl.opShapes", "loop.example/latimer/impl.endShapes"], ifaces := true, apart := false, laid := [("loop.example/latimer/impl.errTooFew", laid_loop_example_latimer_impl_errTooFew), ("loop.example/latimer/impl.errTooMany", laid_loop_example_latimer_impl_errTooMany), ("loop.example/latimer/impl.errNotOk", laid_loop_example_latimer_impl_errNotOk), ("loop.example/latimer/impl.opShapes", laid_loop_example_latimer_impl_opShapes), ("loop.example/latimer/impl.endShapes", laid_loop_example_latimer_impl_endShapes)] }
def FnExactIrReadSaid : Prop := fnExactIrReadRow.holds Tryd.pinned (OpenSpec.ofChange fnExactIrReadSpec)

/-- ITS FALSE NEIGHBOUR: 'it returns false'. Refute it at one input. -/
def fnExactIrReadWrong : ChangeSpec := { name := "fnExactIrRead", vars := ["loop.example/latimer/impl.errTooMany", "loop.example/latimer/impl.errNotOk", "loop.example/latimer/impl.errTooFew", "loop.example/latimer/impl.opShapes", "loop.example/latimer/impl.endShapes"], fn := fun _ => fun
  | [d, g1, g2, g3, g4, g5] => { results := [.lit (.bool false)], args := [d], vars := [g1, g2, g3, g4, g5] }
  | _ => none }
def FnExactIrReadWrongFalsely : Prop := fnExactIrReadRow.holds Tryd.pinned (OpenSpec.ofChange fnExactIrReadWrong)

/- THE SECOND FORM. 'bulk': how many values and letters a reading holds, each counted each time it is reached (what is shared counts as often as it is met; a slice's spare places count too). A statement '..UptoSaid' is the law's where the arguments, and the package variables that the reading takes, are together of bulk at most 1048576: NARROWER than '..Said'. Prove '..Said' where nothing that the law and all that it calls make is longer than what came in: it says more and counts as full. Else prove '..UptoSaid'. A law counts once. -/
mutual
def uptoBulk {H : Type} : DataW H → Nat
  | .lit (.string bytes) => bytes.length + 1
  | .lit _ => 1
  | .nil => 1
  | .ptr d => uptoBulk d + 1
  | .slice elems spare => uptoBulkAll elems + uptoBulkAll spare + 1
  | .agg parts => uptoBulkAll parts + 1
  | .iface _ d => uptoBulk d + 1
  | .map entries => uptoBulkEntries entries + 1
  | .held _ => 1
def uptoBulkAll {H : Type} : List (DataW H) → Nat
  | [] => 0
  | d :: r => uptoBulk d + uptoBulkAll r
def uptoBulkEntries {H : Type} : List (Lit × DataW H) → Nat
  | [] => 0
  | x :: r => uptoBulkEntry x + uptoBulkEntries r
def uptoBulkEntry {H : Type} : Lit × DataW H → Nat
  | (.string bytes, d) => bytes.length + uptoBulk d + 1
  | (_, d) => uptoBulk d + 1
 end
def uptoSmall : (H : Type) → List (DataW H) → Bool := fun _ ds => decide (uptoBulkAll ds ≤ 1048576)
def OpenSpec.upto (s : _root_.Go.ChangeSpec) : _root_.Go.OpenSpec := { _root_.Go.OpenSpec.ofChange s with cond := some uptoSmall }

/-- 'laws.FnIrSame', WHERE WHAT IT READS IS OF BULK AT MOST 1048576: true; the input reads as it did. -/
def fnIrSameUptoRow : OpenClaim := { program := "ytkeelacobknfbaadoor", sum := "5939bdb4bcb5dc3f431c9481a89ed4e2c2adf38c14a48a7d41d7e5131527e481", func := "loop.example/latimer/laws.FnIrSame", spec := "fnIrSame", unfollowed := true, recurses := true, named := ["loop.example/latimer/impl.opShapes", "loop.example/latimer/impl.endShapes"], apart := false, laid := [("loop.example/latimer/impl.opShapes", laid_loop_example_latimer_impl_opShapes), ("loop.example/latimer/impl.endShapes", laid_loop_example_latimer_impl_endShapes)], narrowed := true }
def FnIrSameUptoSaid : Prop := fnIrSameUptoRow.holds Tryd.pinned (OpenSpec.upto fnIrSameSpec)

/-- 'laws.FnIrBytes', WHERE WHAT IT READS IS OF BULK AT MOST 1048576: true; the input reads as it did. -/
def fnIrBytesUptoRow : OpenClaim := { program := "ytkeelacobknfbaadoor", sum := "5939bdb4bcb5dc3f431c9481a89ed4e2c2adf38c14a48a7d41d7e5131527e481", func := "loop.example/latimer/laws.FnIrBytes", spec := "fnIrBytes", named := ["loop.example/latimer/impl.opShapes", "loop.example/latimer/impl.endShapes", "loop.example/latimer/impl.errTooMany", "loop.example/latimer/impl.errNotOk", "loop.example/latimer/impl.errTooFew"], ifaces := true, apart := false, laid := [("loop.example/latimer/impl.errTooFew", laid_loop_example_latimer_impl_errTooFew), ("loop.example/latimer/impl.errTooMany", laid_loop_example_latimer_impl_errTooMany), ("loop.example/latimer/impl.errNotOk", laid_loop_example_latimer_impl_errNotOk), ("loop.example/latimer/impl.opShapes", laid_loop_example_latimer_impl_opShapes), ("loop.example/latimer/impl.endShapes", laid_loop_example_latimer_impl_endShapes)], narrowed := true }
def FnIrBytesUptoSaid : Prop := fnIrBytesUptoRow.holds Tryd.pinned (OpenSpec.upto fnIrBytesSpec)

/-- 'laws.FnExactIrBytes', WHERE WHAT IT READS IS OF BULK AT MOST 1048576: true; the input reads as it did. -/
def fnExactIrBytesUptoRow : OpenClaim := { program := "ytkeelacobknfbaadoor", sum := "5939bdb4bcb5dc3f431c9481a89ed4e2c2adf38c14a48a7d41d7e5131527e481", func := "loop.example/latimer/laws.FnExactIrBytes", spec := "fnExactIrBytes", named := ["loop.example/latimer/impl.opShapes", "loop.example/latimer/impl.endShapes"], apart := false, laid := [("loop.example/latimer/impl.opShapes", laid_loop_example_latimer_impl_opShapes), ("loop.example/latimer/impl.endShapes", laid_loop_example_latimer_impl_endShapes)], narrowed := true }
def FnExactIrBytesUptoSaid : Prop := fnExactIrBytesUptoRow.holds Tryd.pinned (OpenSpec.upto fnExactIrBytesSpec)

/-- 'laws.FnExactIrRead', WHERE WHAT IT READS IS OF BULK AT MOST 1048576: true; the input reads as it did. -/
def fnExactIrReadUptoRow : OpenClaim := { program := "ytkeelacobknfbaadoor", sum := "5939bdb4bcb5dc3f431c9481a89ed4e2c2adf38c14a48a7d41d7e5131527e481", func := "loop.example/latimer/laws.FnExactIrRead", spec := "fnExactIrRead", named := ["loop.example/latimer/impl.errTooMany", "loop.example/latimer/impl.errNotOk", "loop.example/latimer/impl.errTooFew", "loop.example/latimer/impl.opShapes", "loop.example/latimer/impl.endShapes"], ifaces := true, apart := false, laid := [("loop.example/latimer/impl.errTooFew", laid_loop_example_latimer_impl_errTooFew), ("loop.example/latimer/impl.errTooMany", laid_loop_example_latimer_impl_errTooMany), ("loop.example/latimer/impl.errNotOk", laid_loop_example_latimer_impl_errNotOk), ("loop.example/latimer/impl.opShapes", laid_loop_example_latimer_impl_opShapes), ("loop.example/latimer/impl.endShapes", laid_loop_example_latimer_impl_endShapes)], narrowed := true }
def FnExactIrReadUptoSaid : Prop := fnExactIrReadUptoRow.holds Tryd.pinned (OpenSpec.upto fnExactIrReadSpec)

end Rows
end Go.Proofs.YtkeelacobknfbaaDoor
