/-
  No cell of these rows narrows 'for every input' (looked for: loops, veiled, ifaces, maps, wideKeys, modest, calm, conditions, laid).
  DERIVED. THE GIVEN ROWS OF THIS SEAT. 5 by the template 'for every input the law returns true; each argument reads behind the call as it read before'; 0 by the template 'total and deterministic' (their statements: YthpajjlhjfhdpaaTotals.lean).
  GIVEN WITH THE SEED: the statements are not yours to turn. If you find one false, say at which input.
  Laid BY PROGRAM, IN A SANDBOX (cutbox-rows.mjs): the forced cells as the released guide's own fill.sh prints them over the translation 19727f69838db0c2… (all of the seat's roots in one cut). By AI agents, Wed Nov 11 2026. No macro, syntax, notation, axiom, sorry.
-/
import Derived.Test.YthpajjlhjfhdpaaChecked
import GoSem.Claim
import GoSem.ClaimJoined
import GoSem.ClaimMapViews
import Derived.JoinedTies
import Derived.KernelRfl
namespace Go.Proofs.Ythpajjlhjfhdpaa
/- THE CELL 'sum', in the pinned program and in every row, IS THE sha256 OF THE DUMP (.gsa) THAT YthpajjlhjfhdpaaProg.lean LOADS. Nothing in Lean hashes anything: it is a label: what it is worth is what the hold of that sum in a sandbox is worth. -/
noncomputable def Try.pinned : Pinned := { name := "ythpajjlhjfhdpaa", sum := "19727f69838db0c27e7e329e8a3faacaf86db5cb7383a34b8268b575644e4586", checked := Try.checked }
namespace Rows
def none {H : Type} : Left H := { results := [], args := [] }

/-- 'laws.FnInsTake': WHATEVER THE INPUT: true; the input reads as it did. -/
def fnInsTakeSpec : ChangeSpec := { name := "fnInsTake", fn := fun _ => fun
  | [d1, d2] => { results := [.lit (.bool true)], args := [d1, d2] }
  | _ => none }
def fnInsTakeRow : OpenClaim := { program := "ythpajjlhjfhdpaa", sum := "19727f69838db0c27e7e329e8a3faacaf86db5cb7383a34b8268b575644e4586", func := "loop.example/latimer/laws.FnInsTake", spec := "fnInsTake", unfollowed := true, recurses := true, apart := false }
def FnInsTakeSaid : Prop := fnInsTakeRow.holds Try.pinned (OpenSpec.ofChange fnInsTakeSpec)

/-- ITS FALSE NEIGHBOUR: 'it returns false'. Refute it at one input. -/
def fnInsTakeWrong : ChangeSpec := { name := "fnInsTake", fn := fun _ => fun
  | [d1, d2] => { results := [.lit (.bool false)], args := [d1, d2] }
  | _ => none }
def FnInsTakeWrongFalsely : Prop := fnInsTakeRow.holds Try.pinned (OpenSpec.ofChange fnInsTakeWrong)

/-- 'laws.FnExactInsOk': WHATEVER THE INPUT: true; the input reads as it did. -/
def fnExactInsOkSpec : ChangeSpec := { name := "fnExactInsOk", fn := fun _ => fun
  | [d] => { results := [.lit (.bool true)], args := [d] }
  | _ => none }
def fnExactInsOkRow : OpenClaim := { program := "ythpajjlhjfhdpaa", sum := "19727f69838db0c27e7e329e8a3faacaf86db5cb7383a34b8268b575644e4586", func := "loop.example/latimer/laws.FnExactInsOk", spec := "fnExactInsOk", unfollowed := true, recurses := true, apart := false }
def FnExactInsOkSaid : Prop := fnExactInsOkRow.holds Try.pinned (OpenSpec.ofChange fnExactInsOkSpec)

/-- ITS FALSE NEIGHBOUR: 'it returns false'. Refute it at one input. -/
def fnExactInsOkWrong : ChangeSpec := { name := "fnExactInsOk", fn := fun _ => fun
  | [d] => { results := [.lit (.bool false)], args := [d] }
  | _ => none }
def FnExactInsOkWrongFalsely : Prop := fnExactInsOkRow.holds Try.pinned (OpenSpec.ofChange fnExactInsOkWrong)

/-- 'laws.FnExactInsPut': WHATEVER THE INPUT: true; the input reads as it did. -/
def fnExactInsPutSpec : ChangeSpec := { name := "fnExactInsPut", fn := fun _ => fun
  | [d] => { results := [.lit (.bool true)], args := [d] }
  | _ => none }
def fnExactInsPutRow : OpenClaim := { program := "ythpajjlhjfhdpaa", sum := "19727f69838db0c27e7e329e8a3faacaf86db5cb7383a34b8268b575644e4586", func := "loop.example/latimer/laws.FnExactInsPut", spec := "fnExactInsPut", unfollowed := true, recurses := true, apart := false }
def FnExactInsPutSaid : Prop := fnExactInsPutRow.holds Try.pinned (OpenSpec.ofChange fnExactInsPutSpec)

/-- ITS FALSE NEIGHBOUR: 'it returns false'. Refute it at one input. -/
def fnExactInsPutWrong : ChangeSpec := { name := "fnExactInsPut", fn := fun _ => fun
  | [d] => { results := [.lit (.bool false)], args := [d] }
  | _ => none }
def FnExactInsPutWrongFalsely : Prop := fnExactInsPutRow.holds Try.pinned (OpenSpec.ofChange fnExactInsPutWrong)

/-- 'laws.FnExactInsTake': WHATEVER THE INPUT: true; the input reads as it did. -/
def fnExactInsTakeSpec : ChangeSpec := { name := "fnExactInsTake", fn := fun _ => fun
  | [d] => { results := [.lit (.bool true)], args := [d] }
  | _ => none }
def fnExactInsTakeRow : OpenClaim := { program := "ythpajjlhjfhdpaa", sum := "19727f69838db0c27e7e329e8a3faacaf86db5cb7383a34b8268b575644e4586", func := "loop.example/latimer/laws.FnExactInsTake", spec := "fnExactInsTake", unfollowed := true, recurses := true, apart := false }
def FnExactInsTakeSaid : Prop := fnExactInsTakeRow.holds Try.pinned (OpenSpec.ofChange fnExactInsTakeSpec)

/-- ITS FALSE NEIGHBOUR: 'it returns false'. Refute it at one input. -/
def fnExactInsTakeWrong : ChangeSpec := { name := "fnExactInsTake", fn := fun _ => fun
  | [d] => { results := [.lit (.bool false)], args := [d] }
  | _ => none }
def FnExactInsTakeWrongFalsely : Prop := fnExactInsTakeRow.holds Try.pinned (OpenSpec.ofChange fnExactInsTakeWrong)

/-- 'laws.FnExactInsEnds': WHATEVER THE INPUT: true; the input reads as it did. -/
def fnExactInsEndsSpec : ChangeSpec := { name := "fnExactInsEnds", fn := fun _ => fun
  | [d] => { results := [.lit (.bool true)], args := [d] }
  | _ => none }
def fnExactInsEndsRow : OpenClaim := { program := "ythpajjlhjfhdpaa", sum := "19727f69838db0c27e7e329e8a3faacaf86db5cb7383a34b8268b575644e4586", func := "loop.example/latimer/laws.FnExactInsEnds", spec := "fnExactInsEnds", apart := false }
def FnExactInsEndsSaid : Prop := fnExactInsEndsRow.holds Try.pinned (OpenSpec.ofChange fnExactInsEndsSpec)

/-- ITS FALSE NEIGHBOUR: 'it returns false'. Refute it at one input. -/
def fnExactInsEndsWrong : ChangeSpec := { name := "fnExactInsEnds", fn := fun _ => fun
  | [d] => { results := [.lit (.bool false)], args := [d] }
  | _ => none }
def FnExactInsEndsWrongFalsely : Prop := fnExactInsEndsRow.holds Try.pinned (OpenSpec.ofChange fnExactInsEndsWrong)

/- THE SECOND FORM. 'bulk': how many values and letters a reading holds, each counted each time it is reached (what is shared counts as often as it is met; a slice's spare places count too). A statement '..UptoSaid' is the law's where the arguments, and the package variables that the reading takes, are together of bulk at most 1048576: NARROWER than '..Said'. Prove '..Said' where nothing that the law and all that it calls make is longer than what came in: it says more and counts as full. Else prove '..UptoSaid'. A law counts once. -/
mutual
def uptoBulk {H : Type} : DataW H → Nat
  | .lit (.string bytes) => bytes.length + 1
  | .lit _ => 1
  | .nil => 1
  | .ptr d => uptoBulk d + 1
  | .slice elems spare => uptoBulkAll elems + uptoBulkAll spare + 1
  | .agg parts => uptoBulkAll parts + 1
  | .iface _ d => uptoBulk d + 1
  | .map entries => uptoBulkEntries entries + 1
  | .held _ => 1
def uptoBulkAll {H : Type} : List (DataW H) → Nat
  | [] => 0
  | d :: r => uptoBulk d + uptoBulkAll r
def uptoBulkEntries {H : Type} : List (Lit × DataW H) → Nat
  | [] => 0
  | x :: r => uptoBulkEntry x + uptoBulkEntries r
def uptoBulkEntry {H : Type} : Lit × DataW H → Nat
  | (.string bytes, d) => bytes.length + uptoBulk d + 1
  | (_, d) => uptoBulk d + 1
 end
def uptoSmall : (H : Type) → List (DataW H) → Bool := fun _ ds => decide (uptoBulkAll ds ≤ 1048576)
def OpenSpec.upto (s : _root_.Go.ChangeSpec) : _root_.Go.OpenSpec := { _root_.Go.OpenSpec.ofChange s with cond := some uptoSmall }

/-- 'laws.FnInsTake', WHERE WHAT IT READS IS OF BULK AT MOST 1048576: true; the input reads as it did. -/
def fnInsTakeUptoRow : OpenClaim := { program := "ythpajjlhjfhdpaa", sum := "19727f69838db0c27e7e329e8a3faacaf86db5cb7383a34b8268b575644e4586", func := "loop.example/latimer/laws.FnInsTake", spec := "fnInsTake", unfollowed := true, recurses := true, apart := false, narrowed := true }
def FnInsTakeUptoSaid : Prop := fnInsTakeUptoRow.holds Try.pinned (OpenSpec.upto fnInsTakeSpec)

/-- 'laws.FnExactInsOk', WHERE WHAT IT READS IS OF BULK AT MOST 1048576: true; the input reads as it did. -/
def fnExactInsOkUptoRow : OpenClaim := { program := "ythpajjlhjfhdpaa", sum := "19727f69838db0c27e7e329e8a3faacaf86db5cb7383a34b8268b575644e4586", func := "loop.example/latimer/laws.FnExactInsOk", spec := "fnExactInsOk", unfollowed := true, recurses := true, apart := false, narrowed := true }
def FnExactInsOkUptoSaid : Prop := fnExactInsOkUptoRow.holds Try.pinned (OpenSpec.upto fnExactInsOkSpec)

/-- 'laws.FnExactInsPut', WHERE WHAT IT READS IS OF BULK AT MOST 1048576: true; the input reads as it did. -/
def fnExactInsPutUptoRow : OpenClaim := { program := "ythpajjlhjfhdpaa", sum := "19727f69838db0c27e7e329e8a3faacaf86db5cb7383a34b8268b575644e4586", func := "loop.example/latimer/laws.FnExactInsPut", spec := "fnExactInsPut", unfollowed := true, recurses := true, apart := false, narrowed := true }
def FnExactInsPutUptoSaid : Prop := fnExactInsPutUptoRow.holds Try.pinned (OpenSpec.upto fnExactInsPutSpec)

/-- 'laws.FnExactInsTake', WHERE WHAT IT READS IS OF BULK AT MOST 1048576: true; the input reads as it did. -/
def fnExactInsTakeUptoRow : OpenClaim := { program := "ythpajjlhjfhdpaa", sum := "19727f69838db0c27e7e329e8a3faacaf86db5cb7383a34b8268b575644e4586", func := "loop.example/latimer/laws.FnExactInsTake", spec := "fnExactInsTake", unfollowed := true, recurses := true, apart := false, narrowed := true }
def FnExactInsTakeUptoSaid : Prop := fnExactInsTakeUptoRow.holds Try.pinned (OpenSpec.upto fnExactInsTakeSpec)

/-- 'laws.FnExactInsEnds', WHERE WHAT IT READS IS OF BULK AT MOST 1048576: true; the input reads as it did. -/
def fnExactInsEndsUptoRow : OpenClaim := { program := "ythpajjlhjfhdpaa", sum := "19727f69838db0c27e7e329e8a3faacaf86db5cb7383a34b8268b575644e4586", func := "loop.example/latimer/laws.FnExactInsEnds", spec := "fnExactInsEnds", apart := false, narrowed := true }
def FnExactInsEndsUptoSaid : Prop := fnExactInsEndsUptoRow.holds Try.pinned (OpenSpec.upto fnExactInsEndsSpec)

end Rows
end Go.Proofs.Ythpajjlhjfhdpaa
