/-
  No cell of these rows narrows 'for every input' (looked for: loops, veiled, ifaces, maps, wideKeys, modest, calm, conditions, laid).
  DERIVED. THE GIVEN ROWS OF THIS SEAT. 3 by the template 'for every input the law returns true; each argument reads behind the call as it read before'; 0 by the template 'total and deterministic' (their statements: YtckhfpaicnjknaaGreatTotals.lean).
  GIVEN WITH THE SEED: the statements are not yours to turn. If you find one false, say at which input.
  Laid BY PROGRAM, IN A SANDBOX (cutbox-rows.mjs): the forced cells as the released guide's own fill.sh prints them over the translation e7ecd12772f4ea84… (all of the seat's roots in one cut). By AI agents, Wed Nov 11 2026. No macro, syntax, notation, axiom, sorry.
-/
import Derived.Test.YtckhfpaicnjknaaGreatChecked
import GoSem.Claim
import GoSem.ClaimJoined
import GoSem.ClaimMapViews
import Derived.JoinedTies
import Derived.KernelRfl
namespace Go.Proofs.YtckhfpaicnjknaaGreat
/- THE CELL 'sum', in the pinned program and in every row, IS THE sha256 OF THE DUMP (.gsa) THAT YtckhfpaicnjknaaGreatProg.lean LOADS. Nothing in Lean hashes anything: it is a label: what it is worth is what the hold of that sum in a sandbox is worth. -/
noncomputable def Tryz.pinned : Pinned := { name := "ytckhfpaicnjknaagreat", sum := "e7ecd12772f4ea849c648e73f0b66ea50e49cafeb048131c893b8bada35854c9", checked := Tryz.checked }
namespace Rows
def none {H : Type} : Left H := { results := [], args := [] }

/-- 'laws.FnPolAdd': WHATEVER THE INPUT: true; the input reads as it did. -/
def fnPolAddSpec : ChangeSpec := { name := "fnPolAdd", fn := fun _ => fun
  | [d1, d2] => { results := [.lit (.bool true)], args := [d1, d2] }
  | _ => none }
def fnPolAddRow : OpenClaim := { program := "ytckhfpaicnjknaagreat", sum := "e7ecd12772f4ea849c648e73f0b66ea50e49cafeb048131c893b8bada35854c9", func := "loop.example/latimer/laws.FnPolAdd", spec := "fnPolAdd", unfollowed := true, recurses := true, apart := false }
def FnPolAddSaid : Prop := fnPolAddRow.holds Tryz.pinned (OpenSpec.ofChange fnPolAddSpec)

/-- ITS FALSE NEIGHBOUR: 'it returns false'. Refute it at one input. -/
def fnPolAddWrong : ChangeSpec := { name := "fnPolAdd", fn := fun _ => fun
  | [d1, d2] => { results := [.lit (.bool false)], args := [d1, d2] }
  | _ => none }
def FnPolAddWrongFalsely : Prop := fnPolAddRow.holds Tryz.pinned (OpenSpec.ofChange fnPolAddWrong)

/-- 'laws.FnPolMul': WHATEVER THE INPUT: true; the input reads as it did. -/
def fnPolMulSpec : ChangeSpec := { name := "fnPolMul", fn := fun _ => fun
  | [d1, d2] => { results := [.lit (.bool true)], args := [d1, d2] }
  | _ => none }
def fnPolMulRow : OpenClaim := { program := "ytckhfpaicnjknaagreat", sum := "e7ecd12772f4ea849c648e73f0b66ea50e49cafeb048131c893b8bada35854c9", func := "loop.example/latimer/laws.FnPolMul", spec := "fnPolMul", unfollowed := true, recurses := true, apart := false }
def FnPolMulSaid : Prop := fnPolMulRow.holds Tryz.pinned (OpenSpec.ofChange fnPolMulSpec)

/-- ITS FALSE NEIGHBOUR: 'it returns false'. Refute it at one input. -/
def fnPolMulWrong : ChangeSpec := { name := "fnPolMul", fn := fun _ => fun
  | [d1, d2] => { results := [.lit (.bool false)], args := [d1, d2] }
  | _ => none }
def FnPolMulWrongFalsely : Prop := fnPolMulRow.holds Tryz.pinned (OpenSpec.ofChange fnPolMulWrong)

/-- 'laws.FnPolScale': WHATEVER THE INPUT: true; the input reads as it did. -/
def fnPolScaleSpec : ChangeSpec := { name := "fnPolScale", fn := fun _ => fun
  | [d1, d2] => { results := [.lit (.bool true)], args := [d1, d2] }
  | _ => none }
def fnPolScaleRow : OpenClaim := { program := "ytckhfpaicnjknaagreat", sum := "e7ecd12772f4ea849c648e73f0b66ea50e49cafeb048131c893b8bada35854c9", func := "loop.example/latimer/laws.FnPolScale", spec := "fnPolScale", unfollowed := true, recurses := true, apart := false }
def FnPolScaleSaid : Prop := fnPolScaleRow.holds Tryz.pinned (OpenSpec.ofChange fnPolScaleSpec)

/-- ITS FALSE NEIGHBOUR: 'it returns false'. Refute it at one input. -/
def fnPolScaleWrong : ChangeSpec := { name := "fnPolScale", fn := fun _ => fun
  | [d1, d2] => { results := [.lit (.bool false)], args := [d1, d2] }
  | _ => none }
def FnPolScaleWrongFalsely : Prop := fnPolScaleRow.holds Tryz.pinned (OpenSpec.ofChange fnPolScaleWrong)

/- THE SECOND FORM. 'bulk': how many values and letters a reading holds, each counted each time it is reached (what is shared counts as often as it is met; a slice's spare places count too). A statement '..UptoSaid' is the law's where the arguments, and the package variables that the reading takes, are together of bulk at most 1048576: NARROWER than '..Said'. Prove '..Said' where nothing that the law and all that it calls make is longer than what came in: it says more and counts as full. Else prove '..UptoSaid'. A law counts once. -/
mutual
def uptoBulk {H : Type} : DataW H → Nat
  | .lit (.string bytes) => bytes.length + 1
  | .lit _ => 1
  | .nil => 1
  | .ptr d => uptoBulk d + 1
  | .slice elems spare => uptoBulkAll elems + uptoBulkAll spare + 1
  | .agg parts => uptoBulkAll parts + 1
  | .iface _ d => uptoBulk d + 1
  | .map entries => uptoBulkEntries entries + 1
  | .held _ => 1
def uptoBulkAll {H : Type} : List (DataW H) → Nat
  | [] => 0
  | d :: r => uptoBulk d + uptoBulkAll r
def uptoBulkEntries {H : Type} : List (Lit × DataW H) → Nat
  | [] => 0
  | x :: r => uptoBulkEntry x + uptoBulkEntries r
def uptoBulkEntry {H : Type} : Lit × DataW H → Nat
  | (.string bytes, d) => bytes.length + uptoBulk d + 1
  | (_, d) => uptoBulk d + 1
 end
def uptoSmall : (H : Type) → List (DataW H) → Bool := fun _ ds => decide (uptoBulkAll ds ≤ 1048576)
def OpenSpec.upto (s : _root_.Go.ChangeSpec) : _root_.Go.OpenSpec := { _root_.Go.OpenSpec.ofChange s with cond := some uptoSmall }

/-- 'laws.FnPolAdd', WHERE WHAT IT READS IS OF BULK AT MOST 1048576: true; the input reads as it did. -/
def fnPolAddUptoRow : OpenClaim := { program := "ytckhfpaicnjknaagreat", sum := "e7ecd12772f4ea849c648e73f0b66ea50e49cafeb048131c893b8bada35854c9", func := "loop.example/latimer/laws.FnPolAdd", spec := "fnPolAdd", unfollowed := true, recurses := true, apart := false, narrowed := true }
def FnPolAddUptoSaid : Prop := fnPolAddUptoRow.holds Tryz.pinned (OpenSpec.upto fnPolAddSpec)

/-- 'laws.FnPolMul', WHERE WHAT IT READS IS OF BULK AT MOST 1048576: true; the input reads as it did. -/
def fnPolMulUptoRow : OpenClaim := { program := "ytckhfpaicnjknaagreat", sum := "e7ecd12772f4ea849c648e73f0b66ea50e49cafeb048131c893b8bada35854c9", func := "loop.example/latimer/laws.FnPolMul", spec := "fnPolMul", unfollowed := true, recurses := true, apart := false, narrowed := true }
def FnPolMulUptoSaid : Prop := fnPolMulUptoRow.holds Tryz.pinned (OpenSpec.upto fnPolMulSpec)

/-- 'laws.FnPolScale', WHERE WHAT IT READS IS OF BULK AT MOST 1048576: true; the input reads as it did. -/
def fnPolScaleUptoRow : OpenClaim := { program := "ytckhfpaicnjknaagreat", sum := "e7ecd12772f4ea849c648e73f0b66ea50e49cafeb048131c893b8bada35854c9", func := "loop.example/latimer/laws.FnPolScale", spec := "fnPolScale", unfollowed := true, recurses := true, apart := false, narrowed := true }
def FnPolScaleUptoSaid : Prop := fnPolScaleUptoRow.holds Tryz.pinned (OpenSpec.upto fnPolScaleSpec)

end Rows
end Go.Proofs.YtckhfpaicnjknaaGreat
