/-
  No cell of these rows narrows 'for every input' (looked for: loops, veiled, ifaces, maps, wideKeys, modest, calm, conditions, laid).
  DERIVED. THE GIVEN ROWS OF THIS SEAT. 6 by the template 'for every input the law returns true; each argument reads behind the call as it read before'; 0 by the template 'total and deterministic' (their statements: YtkjfkecbdcjknaaTotals.lean).
  GIVEN WITH THE SEED: the statements are not yours to turn. If you find one false, say at which input.
  Laid BY PROGRAM, IN A SANDBOX (cutbox-rows.mjs): the forced cells as the released guide's own fill.sh prints them over the translation ea27c81fd13c03ef… (all of the seat's roots in one cut). By AI agents, Wed Nov 11 2026. No macro, syntax, notation, axiom, sorry.
-/
import Derived.Test.YtkjfkecbdcjknaaChecked
import GoSem.Claim
import GoSem.ClaimJoined
import GoSem.ClaimMapViews
import Derived.JoinedTies
import Derived.KernelRfl
namespace Go.Proofs.Ytkjfkecbdcjknaa
/- THE CELL 'sum', in the pinned program and in every row, IS THE sha256 OF THE DUMP (.gsa) THAT YtkjfkecbdcjknaaProg.lean LOADS. Nothing in Lean hashes anything: it is a label: what it is worth is what the hold of that sum in a sandbox is worth. -/
noncomputable def Try.pinned : Pinned := { name := "ytkjfkecbdcjknaa", sum := "ea27c81fd13c03efd39f1d28f533bc54456b190f6bc4d5d94f37aaba8b736041", checked := Try.checked }
namespace Rows
def none {H : Type} : Left H := { results := [], args := [] }

/-- 'laws.FnExactPolOk': WHATEVER THE INPUT: true; the input reads as it did. -/
def fnExactPolOkSpec : ChangeSpec := { name := "fnExactPolOk", fn := fun _ => fun
  | [d] => { results := [.lit (.bool true)], args := [d] }
  | _ => none }
def fnExactPolOkRow : OpenClaim := { program := "ytkjfkecbdcjknaa", sum := "ea27c81fd13c03efd39f1d28f533bc54456b190f6bc4d5d94f37aaba8b736041", func := "loop.example/latimer/laws.FnExactPolOk", spec := "fnExactPolOk", apart := false }
def FnExactPolOkSaid : Prop := fnExactPolOkRow.holds Try.pinned (OpenSpec.ofChange fnExactPolOkSpec)

/-- ITS FALSE NEIGHBOUR: 'it returns false'. Refute it at one input. -/
def fnExactPolOkWrong : ChangeSpec := { name := "fnExactPolOk", fn := fun _ => fun
  | [d] => { results := [.lit (.bool false)], args := [d] }
  | _ => none }
def FnExactPolOkWrongFalsely : Prop := fnExactPolOkRow.holds Try.pinned (OpenSpec.ofChange fnExactPolOkWrong)

/-- 'laws.FnExactPolConst': WHATEVER THE INPUT: true; the input reads as it did. -/
def fnExactPolConstSpec : ChangeSpec := { name := "fnExactPolConst", fn := fun _ => fun
  | [d] => { results := [.lit (.bool true)], args := [d] }
  | _ => none }
def fnExactPolConstRow : OpenClaim := { program := "ytkjfkecbdcjknaa", sum := "ea27c81fd13c03efd39f1d28f533bc54456b190f6bc4d5d94f37aaba8b736041", func := "loop.example/latimer/laws.FnExactPolConst", spec := "fnExactPolConst", apart := false }
def FnExactPolConstSaid : Prop := fnExactPolConstRow.holds Try.pinned (OpenSpec.ofChange fnExactPolConstSpec)

/-- ITS FALSE NEIGHBOUR: 'it returns false'. Refute it at one input. -/
def fnExactPolConstWrong : ChangeSpec := { name := "fnExactPolConst", fn := fun _ => fun
  | [d] => { results := [.lit (.bool false)], args := [d] }
  | _ => none }
def FnExactPolConstWrongFalsely : Prop := fnExactPolConstRow.holds Try.pinned (OpenSpec.ofChange fnExactPolConstWrong)

/-- 'laws.FnExactPolAtom': WHATEVER THE INPUT: true; the input reads as it did. -/
def fnExactPolAtomSpec : ChangeSpec := { name := "fnExactPolAtom", fn := fun _ => fun
  | [d] => { results := [.lit (.bool true)], args := [d] }
  | _ => none }
def fnExactPolAtomRow : OpenClaim := { program := "ytkjfkecbdcjknaa", sum := "ea27c81fd13c03efd39f1d28f533bc54456b190f6bc4d5d94f37aaba8b736041", func := "loop.example/latimer/laws.FnExactPolAtom", spec := "fnExactPolAtom", apart := false }
def FnExactPolAtomSaid : Prop := fnExactPolAtomRow.holds Try.pinned (OpenSpec.ofChange fnExactPolAtomSpec)

/-- ITS FALSE NEIGHBOUR: 'it returns false'. Refute it at one input. -/
def fnExactPolAtomWrong : ChangeSpec := { name := "fnExactPolAtom", fn := fun _ => fun
  | [d] => { results := [.lit (.bool false)], args := [d] }
  | _ => none }
def FnExactPolAtomWrongFalsely : Prop := fnExactPolAtomRow.holds Try.pinned (OpenSpec.ofChange fnExactPolAtomWrong)

/-- 'laws.FnExactPolNum': WHATEVER THE INPUT: true; the input reads as it did. -/
def fnExactPolNumSpec : ChangeSpec := { name := "fnExactPolNum", fn := fun _ => fun
  | [d] => { results := [.lit (.bool true)], args := [d] }
  | _ => none }
def fnExactPolNumRow : OpenClaim := { program := "ytkjfkecbdcjknaa", sum := "ea27c81fd13c03efd39f1d28f533bc54456b190f6bc4d5d94f37aaba8b736041", func := "loop.example/latimer/laws.FnExactPolNum", spec := "fnExactPolNum", apart := false }
def FnExactPolNumSaid : Prop := fnExactPolNumRow.holds Try.pinned (OpenSpec.ofChange fnExactPolNumSpec)

/-- ITS FALSE NEIGHBOUR: 'it returns false'. Refute it at one input. -/
def fnExactPolNumWrong : ChangeSpec := { name := "fnExactPolNum", fn := fun _ => fun
  | [d] => { results := [.lit (.bool false)], args := [d] }
  | _ => none }
def FnExactPolNumWrongFalsely : Prop := fnExactPolNumRow.holds Try.pinned (OpenSpec.ofChange fnExactPolNumWrong)

/-- 'laws.FnExactPolOrder': WHATEVER THE INPUT: true; the input reads as it did. -/
def fnExactPolOrderSpec : ChangeSpec := { name := "fnExactPolOrder", fn := fun _ => fun
  | [d1, d2] => { results := [.lit (.bool true)], args := [d1, d2] }
  | _ => none }
def fnExactPolOrderRow : OpenClaim := { program := "ytkjfkecbdcjknaa", sum := "ea27c81fd13c03efd39f1d28f533bc54456b190f6bc4d5d94f37aaba8b736041", func := "loop.example/latimer/laws.FnExactPolOrder", spec := "fnExactPolOrder", unfollowed := true, recurses := true, apart := false }
def FnExactPolOrderSaid : Prop := fnExactPolOrderRow.holds Try.pinned (OpenSpec.ofChange fnExactPolOrderSpec)

/-- ITS FALSE NEIGHBOUR: 'it returns false'. Refute it at one input. -/
def fnExactPolOrderWrong : ChangeSpec := { name := "fnExactPolOrder", fn := fun _ => fun
  | [d1, d2] => { results := [.lit (.bool false)], args := [d1, d2] }
  | _ => none }
def FnExactPolOrderWrongFalsely : Prop := fnExactPolOrderRow.holds Try.pinned (OpenSpec.ofChange fnExactPolOrderWrong)

/-- 'laws.FnExactPolUnder': WHATEVER THE INPUT: true; the input reads as it did. -/
def fnExactPolUnderSpec : ChangeSpec := { name := "fnExactPolUnder", fn := fun _ => fun
  | [d1, d2] => { results := [.lit (.bool true)], args := [d1, d2] }
  | _ => none }
def fnExactPolUnderRow : OpenClaim := { program := "ytkjfkecbdcjknaa", sum := "ea27c81fd13c03efd39f1d28f533bc54456b190f6bc4d5d94f37aaba8b736041", func := "loop.example/latimer/laws.FnExactPolUnder", spec := "fnExactPolUnder", apart := false }
def FnExactPolUnderSaid : Prop := fnExactPolUnderRow.holds Try.pinned (OpenSpec.ofChange fnExactPolUnderSpec)

/-- ITS FALSE NEIGHBOUR: 'it returns false'. Refute it at one input. -/
def fnExactPolUnderWrong : ChangeSpec := { name := "fnExactPolUnder", fn := fun _ => fun
  | [d1, d2] => { results := [.lit (.bool false)], args := [d1, d2] }
  | _ => none }
def FnExactPolUnderWrongFalsely : Prop := fnExactPolUnderRow.holds Try.pinned (OpenSpec.ofChange fnExactPolUnderWrong)

/- THE SECOND FORM. 'bulk': how many values and letters a reading holds, each counted each time it is reached (what is shared counts as often as it is met; a slice's spare places count too). A statement '..UptoSaid' is the law's where the arguments, and the package variables that the reading takes, are together of bulk at most 1048576: NARROWER than '..Said'. Prove '..Said' where nothing that the law and all that it calls make is longer than what came in: it says more and counts as full. Else prove '..UptoSaid'. A law counts once. -/
mutual
def uptoBulk {H : Type} : DataW H → Nat
  | .lit (.string bytes) => bytes.length + 1
  | .lit _ => 1
  | .nil => 1
  | .ptr d => uptoBulk d + 1
  | .slice elems spare => uptoBulkAll elems + uptoBulkAll spare + 1
  | .agg parts => uptoBulkAll parts + 1
  | .iface _ d => uptoBulk d + 1
  | .map entries => uptoBulkEntries entries + 1
  | .held _ => 1
def uptoBulkAll {H : Type} : List (DataW H) → Nat
  | [] => 0
  | d :: r => uptoBulk d + uptoBulkAll r
def uptoBulkEntries {H : Type} : List (Lit × DataW H) → Nat
  | [] => 0
  | x :: r => uptoBulkEntry x + uptoBulkEntries r
def uptoBulkEntry {H : Type} : Lit × DataW H → Nat
  | (.string bytes, d) => bytes.length + uptoBulk d + 1
  | (_, d) => uptoBulk d + 1
 end
def uptoSmall : (H : Type) → List (DataW H) → Bool := fun _ ds => decide (uptoBulkAll ds ≤ 1048576)
def OpenSpec.upto (s : _root_.Go.ChangeSpec) : _root_.Go.OpenSpec := { _root_.Go.OpenSpec.ofChange s with cond := some uptoSmall }

/-- 'laws.FnExactPolOk', WHERE WHAT IT READS IS OF BULK AT MOST 1048576: true; the input reads as it did. -/
def fnExactPolOkUptoRow : OpenClaim := { program := "ytkjfkecbdcjknaa", sum := "ea27c81fd13c03efd39f1d28f533bc54456b190f6bc4d5d94f37aaba8b736041", func := "loop.example/latimer/laws.FnExactPolOk", spec := "fnExactPolOk", apart := false, narrowed := true }
def FnExactPolOkUptoSaid : Prop := fnExactPolOkUptoRow.holds Try.pinned (OpenSpec.upto fnExactPolOkSpec)

/-- 'laws.FnExactPolConst', WHERE WHAT IT READS IS OF BULK AT MOST 1048576: true; the input reads as it did. -/
def fnExactPolConstUptoRow : OpenClaim := { program := "ytkjfkecbdcjknaa", sum := "ea27c81fd13c03efd39f1d28f533bc54456b190f6bc4d5d94f37aaba8b736041", func := "loop.example/latimer/laws.FnExactPolConst", spec := "fnExactPolConst", apart := false, narrowed := true }
def FnExactPolConstUptoSaid : Prop := fnExactPolConstUptoRow.holds Try.pinned (OpenSpec.upto fnExactPolConstSpec)

/-- 'laws.FnExactPolAtom', WHERE WHAT IT READS IS OF BULK AT MOST 1048576: true; the input reads as it did. -/
def fnExactPolAtomUptoRow : OpenClaim := { program := "ytkjfkecbdcjknaa", sum := "ea27c81fd13c03efd39f1d28f533bc54456b190f6bc4d5d94f37aaba8b736041", func := "loop.example/latimer/laws.FnExactPolAtom", spec := "fnExactPolAtom", apart := false, narrowed := true }
def FnExactPolAtomUptoSaid : Prop := fnExactPolAtomUptoRow.holds Try.pinned (OpenSpec.upto fnExactPolAtomSpec)

/-- 'laws.FnExactPolNum', WHERE WHAT IT READS IS OF BULK AT MOST 1048576: true; the input reads as it did. -/
def fnExactPolNumUptoRow : OpenClaim := { program := "ytkjfkecbdcjknaa", sum := "ea27c81fd13c03efd39f1d28f533bc54456b190f6bc4d5d94f37aaba8b736041", func := "loop.example/latimer/laws.FnExactPolNum", spec := "fnExactPolNum", apart := false, narrowed := true }
def FnExactPolNumUptoSaid : Prop := fnExactPolNumUptoRow.holds Try.pinned (OpenSpec.upto fnExactPolNumSpec)

/-- 'laws.FnExactPolOrder', WHERE WHAT IT READS IS OF BULK AT MOST 1048576: true; the input reads as it did. -/
def fnExactPolOrderUptoRow : OpenClaim := { program := "ytkjfkecbdcjknaa", sum := "ea27c81fd13c03efd39f1d28f533bc54456b190f6bc4d5d94f37aaba8b736041", func := "loop.example/latimer/laws.FnExactPolOrder", spec := "fnExactPolOrder", unfollowed := true, recurses := true, apart := false, narrowed := true }
def FnExactPolOrderUptoSaid : Prop := fnExactPolOrderUptoRow.holds Try.pinned (OpenSpec.upto fnExactPolOrderSpec)

/-- 'laws.FnExactPolUnder', WHERE WHAT IT READS IS OF BULK AT MOST 1048576: true; the input reads as it did. -/
def fnExactPolUnderUptoRow : OpenClaim := { program := "ytkjfkecbdcjknaa", sum := "ea27c81fd13c03efd39f1d28f533bc54456b190f6bc4d5d94f37aaba8b736041", func := "loop.example/latimer/laws.FnExactPolUnder", spec := "fnExactPolUnder", apart := false, narrowed := true }
def FnExactPolUnderUptoSaid : Prop := fnExactPolUnderUptoRow.holds Try.pinned (OpenSpec.upto fnExactPolUnderSpec)

end Rows
end Go.Proofs.Ytkjfkecbdcjknaa
