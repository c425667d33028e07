/-
  No cell of these rows narrows 'for every input' (looked for: loops, veiled, ifaces, maps, wideKeys, modest, calm, conditions, laid).
  DERIVED. THE GIVEN ROWS OF THIS SEAT. 5 by the template 'for every input the law returns true; each argument reads behind the call as it read before'; 0 by the template 'total and deterministic' (their statements: YthlpndligadnjaaTotals.lean).
  GIVEN WITH THE SEED: the statements are not yours to turn. If you find one false, say at which input.
  Laid BY PROGRAM, IN A SANDBOX (cutbox-rows.mjs): the forced cells as the released guide's own fill.sh prints them over the translation bacb0920e661f710… (all of the seat's roots in one cut). By AI agents, Wed Nov 11 2026. No macro, syntax, notation, axiom, sorry.
-/
import Derived.Test.YthlpndligadnjaaChecked
import GoSem.Claim
import GoSem.ClaimJoined
import GoSem.ClaimMapViews
import Derived.JoinedTies
import Derived.KernelRfl
namespace Go.Proofs.Ythlpndligadnjaa
/- THE CELL 'sum', in the pinned program and in every row, IS THE sha256 OF THE DUMP (.gsa) THAT YthlpndligadnjaaProg.lean LOADS. Nothing in Lean hashes anything: it is a label: what it is worth is what the hold of that sum in a sandbox is worth. -/
noncomputable def Try.pinned : Pinned := { name := "ythlpndligadnjaa", sum := "bacb0920e661f710c83ceb503d472ec6c08bb234f23594df26bac8e2b00c39bb", checked := Try.checked }
namespace Rows
def none {H : Type} : Left H := { results := [], args := [] }

/-- 'laws.FnExactCacFind': WHATEVER THE INPUT: true; the input reads as it did. -/
def fnExactCacFindSpec : ChangeSpec := { name := "fnExactCacFind", fn := fun _ => fun
  | [d1, d2] => { results := [.lit (.bool true)], args := [d1, d2] }
  | _ => none }
def fnExactCacFindRow : OpenClaim := { program := "ythlpndligadnjaa", sum := "bacb0920e661f710c83ceb503d472ec6c08bb234f23594df26bac8e2b00c39bb", func := "loop.example/latimer/laws.FnExactCacFind", spec := "fnExactCacFind", unfollowed := true, recurses := true, apart := false }
def FnExactCacFindSaid : Prop := fnExactCacFindRow.holds Try.pinned (OpenSpec.ofChange fnExactCacFindSpec)

/-- ITS FALSE NEIGHBOUR: 'it returns false'. Refute it at one input. -/
def fnExactCacFindWrong : ChangeSpec := { name := "fnExactCacFind", fn := fun _ => fun
  | [d1, d2] => { results := [.lit (.bool false)], args := [d1, d2] }
  | _ => none }
def FnExactCacFindWrongFalsely : Prop := fnExactCacFindRow.holds Try.pinned (OpenSpec.ofChange fnExactCacFindWrong)

/-- 'laws.FnExactCacPut': WHATEVER THE INPUT: true; the input reads as it did. -/
def fnExactCacPutSpec : ChangeSpec := { name := "fnExactCacPut", fn := fun _ => fun
  | [d1, d2] => { results := [.lit (.bool true)], args := [d1, d2] }
  | _ => none }
def fnExactCacPutRow : OpenClaim := { program := "ythlpndligadnjaa", sum := "bacb0920e661f710c83ceb503d472ec6c08bb234f23594df26bac8e2b00c39bb", func := "loop.example/latimer/laws.FnExactCacPut", spec := "fnExactCacPut", unfollowed := true, recurses := true, apart := false }
def FnExactCacPutSaid : Prop := fnExactCacPutRow.holds Try.pinned (OpenSpec.ofChange fnExactCacPutSpec)

/-- ITS FALSE NEIGHBOUR: 'it returns false'. Refute it at one input. -/
def fnExactCacPutWrong : ChangeSpec := { name := "fnExactCacPut", fn := fun _ => fun
  | [d1, d2] => { results := [.lit (.bool false)], args := [d1, d2] }
  | _ => none }
def FnExactCacPutWrongFalsely : Prop := fnExactCacPutRow.holds Try.pinned (OpenSpec.ofChange fnExactCacPutWrong)

/-- 'laws.FnExactCacDrop': WHATEVER THE INPUT: true; the input reads as it did. -/
def fnExactCacDropSpec : ChangeSpec := { name := "fnExactCacDrop", fn := fun _ => fun
  | [d1, d2] => { results := [.lit (.bool true)], args := [d1, d2] }
  | _ => none }
def fnExactCacDropRow : OpenClaim := { program := "ythlpndligadnjaa", sum := "bacb0920e661f710c83ceb503d472ec6c08bb234f23594df26bac8e2b00c39bb", func := "loop.example/latimer/laws.FnExactCacDrop", spec := "fnExactCacDrop", unfollowed := true, recurses := true, apart := false }
def FnExactCacDropSaid : Prop := fnExactCacDropRow.holds Try.pinned (OpenSpec.ofChange fnExactCacDropSpec)

/-- ITS FALSE NEIGHBOUR: 'it returns false'. Refute it at one input. -/
def fnExactCacDropWrong : ChangeSpec := { name := "fnExactCacDrop", fn := fun _ => fun
  | [d1, d2] => { results := [.lit (.bool false)], args := [d1, d2] }
  | _ => none }
def FnExactCacDropWrongFalsely : Prop := fnExactCacDropRow.holds Try.pinned (OpenSpec.ofChange fnExactCacDropWrong)

/-- 'laws.FnExactCerHas': WHATEVER THE INPUT: true; the input reads as it did. -/
def fnExactCerHasSpec : ChangeSpec := { name := "fnExactCerHas", fn := fun _ => fun
  | [d1, d2, d3] => { results := [.lit (.bool true)], args := [d1, d2, d3] }
  | _ => none }
def fnExactCerHasRow : OpenClaim := { program := "ythlpndligadnjaa", sum := "bacb0920e661f710c83ceb503d472ec6c08bb234f23594df26bac8e2b00c39bb", func := "loop.example/latimer/laws.FnExactCerHas", spec := "fnExactCerHas", unfollowed := true, recurses := true, apart := false }
def FnExactCerHasSaid : Prop := fnExactCerHasRow.holds Try.pinned (OpenSpec.ofChange fnExactCerHasSpec)

/-- ITS FALSE NEIGHBOUR: 'it returns false'. Refute it at one input. -/
def fnExactCerHasWrong : ChangeSpec := { name := "fnExactCerHas", fn := fun _ => fun
  | [d1, d2, d3] => { results := [.lit (.bool false)], args := [d1, d2, d3] }
  | _ => none }
def FnExactCerHasWrongFalsely : Prop := fnExactCerHasRow.holds Try.pinned (OpenSpec.ofChange fnExactCerHasWrong)

/-- 'laws.FnExactCerPut': WHATEVER THE INPUT: true; the input reads as it did. -/
def fnExactCerPutSpec : ChangeSpec := { name := "fnExactCerPut", fn := fun _ => fun
  | [d1, d2] => { results := [.lit (.bool true)], args := [d1, d2] }
  | _ => none }
def fnExactCerPutRow : OpenClaim := { program := "ythlpndligadnjaa", sum := "bacb0920e661f710c83ceb503d472ec6c08bb234f23594df26bac8e2b00c39bb", func := "loop.example/latimer/laws.FnExactCerPut", spec := "fnExactCerPut", unfollowed := true, recurses := true, apart := false }
def FnExactCerPutSaid : Prop := fnExactCerPutRow.holds Try.pinned (OpenSpec.ofChange fnExactCerPutSpec)

/-- ITS FALSE NEIGHBOUR: 'it returns false'. Refute it at one input. -/
def fnExactCerPutWrong : ChangeSpec := { name := "fnExactCerPut", fn := fun _ => fun
  | [d1, d2] => { results := [.lit (.bool false)], args := [d1, d2] }
  | _ => none }
def FnExactCerPutWrongFalsely : Prop := fnExactCerPutRow.holds Try.pinned (OpenSpec.ofChange fnExactCerPutWrong)

/- THE SECOND FORM. 'bulk': how many values and letters a reading holds, each counted each time it is reached (what is shared counts as often as it is met; a slice's spare places count too). A statement '..UptoSaid' is the law's where the arguments, and the package variables that the reading takes, are together of bulk at most 1048576: NARROWER than '..Said'. Prove '..Said' where nothing that the law and all that it calls make is longer than what came in: it says more and counts as full. Else prove '..UptoSaid'. A law counts once. -/
mutual
def uptoBulk {H : Type} : DataW H → Nat
  | .lit (.string bytes) => bytes.length + 1
  | .lit _ => 1
  | .nil => 1
  | .ptr d => uptoBulk d + 1
  | .slice elems spare => uptoBulkAll elems + uptoBulkAll spare + 1
  | .agg parts => uptoBulkAll parts + 1
  | .iface _ d => uptoBulk d + 1
  | .map entries => uptoBulkEntries entries + 1
  | .held _ => 1
def uptoBulkAll {H : Type} : List (DataW H) → Nat
  | [] => 0
  | d :: r => uptoBulk d + uptoBulkAll r
def uptoBulkEntries {H : Type} : List (Lit × DataW H) → Nat
  | [] => 0
  | x :: r => uptoBulkEntry x + uptoBulkEntries r
def uptoBulkEntry {H : Type} : Lit × DataW H → Nat
  | (.string bytes, d) => bytes.length + uptoBulk d + 1
  | (_, d) => uptoBulk d + 1
 end
def uptoSmall : (H : Type) → List (DataW H) → Bool := fun _ ds => decide (uptoBulkAll ds ≤ 1048576)
def OpenSpec.upto (s : _root_.Go.ChangeSpec) : _root_.Go.OpenSpec := { _root_.Go.OpenSpec.ofChange s with cond := some uptoSmall }

/-- 'laws.FnExactCacFind', WHERE WHAT IT READS IS OF BULK AT MOST 1048576: true; the input reads as it did. -/
def fnExactCacFindUptoRow : OpenClaim := { program := "ythlpndligadnjaa", sum := "bacb0920e661f710c83ceb503d472ec6c08bb234f23594df26bac8e2b00c39bb", func := "loop.example/latimer/laws.FnExactCacFind", spec := "fnExactCacFind", unfollowed := true, recurses := true, apart := false, narrowed := true }
def FnExactCacFindUptoSaid : Prop := fnExactCacFindUptoRow.holds Try.pinned (OpenSpec.upto fnExactCacFindSpec)

/-- 'laws.FnExactCacPut', WHERE WHAT IT READS IS OF BULK AT MOST 1048576: true; the input reads as it did. -/
def fnExactCacPutUptoRow : OpenClaim := { program := "ythlpndligadnjaa", sum := "bacb0920e661f710c83ceb503d472ec6c08bb234f23594df26bac8e2b00c39bb", func := "loop.example/latimer/laws.FnExactCacPut", spec := "fnExactCacPut", unfollowed := true, recurses := true, apart := false, narrowed := true }
def FnExactCacPutUptoSaid : Prop := fnExactCacPutUptoRow.holds Try.pinned (OpenSpec.upto fnExactCacPutSpec)

/-- 'laws.FnExactCacDrop', WHERE WHAT IT READS IS OF BULK AT MOST 1048576: true; the input reads as it did. -/
def fnExactCacDropUptoRow : OpenClaim := { program := "ythlpndligadnjaa", sum := "bacb0920e661f710c83ceb503d472ec6c08bb234f23594df26bac8e2b00c39bb", func := "loop.example/latimer/laws.FnExactCacDrop", spec := "fnExactCacDrop", unfollowed := true, recurses := true, apart := false, narrowed := true }
def FnExactCacDropUptoSaid : Prop := fnExactCacDropUptoRow.holds Try.pinned (OpenSpec.upto fnExactCacDropSpec)

/-- 'laws.FnExactCerHas', WHERE WHAT IT READS IS OF BULK AT MOST 1048576: true; the input reads as it did. -/
def fnExactCerHasUptoRow : OpenClaim := { program := "ythlpndligadnjaa", sum := "bacb0920e661f710c83ceb503d472ec6c08bb234f23594df26bac8e2b00c39bb", func := "loop.example/latimer/laws.FnExactCerHas", spec := "fnExactCerHas", unfollowed := true, recurses := true, apart := false, narrowed := true }
def FnExactCerHasUptoSaid : Prop := fnExactCerHasUptoRow.holds Try.pinned (OpenSpec.upto fnExactCerHasSpec)

/-- 'laws.FnExactCerPut', WHERE WHAT IT READS IS OF BULK AT MOST 1048576: true; the input reads as it did. -/
def fnExactCerPutUptoRow : OpenClaim := { program := "ythlpndligadnjaa", sum := "bacb0920e661f710c83ceb503d472ec6c08bb234f23594df26bac8e2b00c39bb", func := "loop.example/latimer/laws.FnExactCerPut", spec := "fnExactCerPut", unfollowed := true, recurses := true, apart := false, narrowed := true }
def FnExactCerPutUptoSaid : Prop := fnExactCerPutUptoRow.holds Try.pinned (OpenSpec.upto fnExactCerPutSpec)

end Rows
end Go.Proofs.Ythlpndligadnjaa
