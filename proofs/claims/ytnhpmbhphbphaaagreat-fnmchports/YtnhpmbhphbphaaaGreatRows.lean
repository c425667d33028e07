/-
  No cell of these rows narrows 'for every input' (looked for: loops, veiled, ifaces, maps, wideKeys, modest, calm, conditions, laid).
  DERIVED. THE GIVEN ROWS OF THIS SEAT. 11 by the template 'for every input the law returns true; each argument reads behind the call as it read before'; 0 by the template 'total and deterministic' (their statements: YtnhpmbhphbphaaaGreatTotals.lean).
  GIVEN WITH THE SEED: the statements are not yours to turn. If you find one false, say at which input.
  Laid BY PROGRAM, IN A SANDBOX (cutbox-rows.mjs): the forced cells as the released guide's own fill.sh prints them over the translation c4546a9632b13e1c… (all of the seat's roots in one cut). By AI agents, Wed Nov 11 2026. No macro, syntax, notation, axiom, sorry.
-/
import Derived.Test.YtnhpmbhphbphaaaGreatChecked
import GoSem.Claim
import GoSem.ClaimJoined
import GoSem.ClaimMapViews
import Derived.JoinedTies
import Derived.KernelRfl
namespace Go.Proofs.YtnhpmbhphbphaaaGreat
/- THE CELL 'sum', in the pinned program and in every row, IS THE sha256 OF THE DUMP (.gsa) THAT YtnhpmbhphbphaaaGreatProg.lean LOADS. Nothing in Lean hashes anything: it is a label: what it is worth is what the hold of that sum in a sandbox is worth. -/
noncomputable def Tryz.pinned : Pinned := { name := "ytnhpmbhphbphaaagreat", sum := "c4546a9632b13e1cf4661005372913338e9b068e6bea9a0b532e5ad46c95456d", checked := Tryz.checked }
namespace Rows
def none {H : Type} : Left H := { results := [], args := [] }

/-- 'laws.FnMchStep': WHATEVER THE INPUT: true; the input reads as it did. -/
def fnMchStepSpec : ChangeSpec := { name := "fnMchStep", fn := fun _ => fun
  | [d] => { results := [.lit (.bool true)], args := [d] }
  | _ => none }
def fnMchStepRow : OpenClaim := { program := "ytnhpmbhphbphaaagreat", sum := "c4546a9632b13e1cf4661005372913338e9b068e6bea9a0b532e5ad46c95456d", func := "loop.example/latimer/laws.FnMchStep", spec := "fnMchStep", unfollowed := true, recurses := true, apart := false }
def FnMchStepSaid : Prop := fnMchStepRow.holds Tryz.pinned (OpenSpec.ofChange fnMchStepSpec)

/-- ITS FALSE NEIGHBOUR: 'it returns false'. Refute it at one input. -/
def fnMchStepWrong : ChangeSpec := { name := "fnMchStep", fn := fun _ => fun
  | [d] => { results := [.lit (.bool false)], args := [d] }
  | _ => none }
def FnMchStepWrongFalsely : Prop := fnMchStepRow.holds Tryz.pinned (OpenSpec.ofChange fnMchStepWrong)

/-- 'laws.FnMchPorts': WHATEVER THE INPUT: true; the input reads as it did. -/
def fnMchPortsSpec : ChangeSpec := { name := "fnMchPorts", fn := fun _ => fun
  | [d] => { results := [.lit (.bool true)], args := [d] }
  | _ => none }
def fnMchPortsRow : OpenClaim := { program := "ytnhpmbhphbphaaagreat", sum := "c4546a9632b13e1cf4661005372913338e9b068e6bea9a0b532e5ad46c95456d", func := "loop.example/latimer/laws.FnMchPorts", spec := "fnMchPorts", unfollowed := true, recurses := true, apart := false }
def FnMchPortsSaid : Prop := fnMchPortsRow.holds Tryz.pinned (OpenSpec.ofChange fnMchPortsSpec)

/-- ITS FALSE NEIGHBOUR: 'it returns false'. Refute it at one input. -/
def fnMchPortsWrong : ChangeSpec := { name := "fnMchPorts", fn := fun _ => fun
  | [d] => { results := [.lit (.bool false)], args := [d] }
  | _ => none }
def FnMchPortsWrongFalsely : Prop := fnMchPortsRow.holds Tryz.pinned (OpenSpec.ofChange fnMchPortsWrong)

/-- 'laws.FnMchIrq': WHATEVER THE INPUT: true; the input reads as it did. -/
def fnMchIrqSpec : ChangeSpec := { name := "fnMchIrq", fn := fun _ => fun
  | [d] => { results := [.lit (.bool true)], args := [d] }
  | _ => none }
def fnMchIrqRow : OpenClaim := { program := "ytnhpmbhphbphaaagreat", sum := "c4546a9632b13e1cf4661005372913338e9b068e6bea9a0b532e5ad46c95456d", func := "loop.example/latimer/laws.FnMchIrq", spec := "fnMchIrq", unfollowed := true, recurses := true, apart := false }
def FnMchIrqSaid : Prop := fnMchIrqRow.holds Tryz.pinned (OpenSpec.ofChange fnMchIrqSpec)

/-- ITS FALSE NEIGHBOUR: 'it returns false'. Refute it at one input. -/
def fnMchIrqWrong : ChangeSpec := { name := "fnMchIrq", fn := fun _ => fun
  | [d] => { results := [.lit (.bool false)], args := [d] }
  | _ => none }
def FnMchIrqWrongFalsely : Prop := fnMchIrqRow.holds Tryz.pinned (OpenSpec.ofChange fnMchIrqWrong)

/-- 'laws.FnMchRun': WHATEVER THE INPUT: true; the input reads as it did. -/
def fnMchRunSpec : ChangeSpec := { name := "fnMchRun", fn := fun _ => fun
  | [d] => { results := [.lit (.bool true)], args := [d] }
  | _ => none }
def fnMchRunRow : OpenClaim := { program := "ytnhpmbhphbphaaagreat", sum := "c4546a9632b13e1cf4661005372913338e9b068e6bea9a0b532e5ad46c95456d", func := "loop.example/latimer/laws.FnMchRun", spec := "fnMchRun", unfollowed := true, recurses := true, apart := false }
def FnMchRunSaid : Prop := fnMchRunRow.holds Tryz.pinned (OpenSpec.ofChange fnMchRunSpec)

/-- ITS FALSE NEIGHBOUR: 'it returns false'. Refute it at one input. -/
def fnMchRunWrong : ChangeSpec := { name := "fnMchRun", fn := fun _ => fun
  | [d] => { results := [.lit (.bool false)], args := [d] }
  | _ => none }
def FnMchRunWrongFalsely : Prop := fnMchRunRow.holds Tryz.pinned (OpenSpec.ofChange fnMchRunWrong)

/-- 'laws.FnMchStop': WHATEVER THE INPUT: true; the input reads as it did. -/
def fnMchStopSpec : ChangeSpec := { name := "fnMchStop", fn := fun _ => fun
  | [d] => { results := [.lit (.bool true)], args := [d] }
  | _ => none }
def fnMchStopRow : OpenClaim := { program := "ytnhpmbhphbphaaagreat", sum := "c4546a9632b13e1cf4661005372913338e9b068e6bea9a0b532e5ad46c95456d", func := "loop.example/latimer/laws.FnMchStop", spec := "fnMchStop", unfollowed := true, recurses := true, apart := false }
def FnMchStopSaid : Prop := fnMchStopRow.holds Tryz.pinned (OpenSpec.ofChange fnMchStopSpec)

/-- ITS FALSE NEIGHBOUR: 'it returns false'. Refute it at one input. -/
def fnMchStopWrong : ChangeSpec := { name := "fnMchStop", fn := fun _ => fun
  | [d] => { results := [.lit (.bool false)], args := [d] }
  | _ => none }
def FnMchStopWrongFalsely : Prop := fnMchStopRow.holds Tryz.pinned (OpenSpec.ofChange fnMchStopWrong)

/-- 'laws.FnMchOne': WHATEVER THE INPUT: true; the input reads as it did. -/
def fnMchOneSpec : ChangeSpec := { name := "fnMchOne", fn := fun _ => fun
  | [d] => { results := [.lit (.bool true)], args := [d] }
  | _ => none }
def fnMchOneRow : OpenClaim := { program := "ytnhpmbhphbphaaagreat", sum := "c4546a9632b13e1cf4661005372913338e9b068e6bea9a0b532e5ad46c95456d", func := "loop.example/latimer/laws.FnMchOne", spec := "fnMchOne", unfollowed := true, recurses := true, apart := false }
def FnMchOneSaid : Prop := fnMchOneRow.holds Tryz.pinned (OpenSpec.ofChange fnMchOneSpec)

/-- ITS FALSE NEIGHBOUR: 'it returns false'. Refute it at one input. -/
def fnMchOneWrong : ChangeSpec := { name := "fnMchOne", fn := fun _ => fun
  | [d] => { results := [.lit (.bool false)], args := [d] }
  | _ => none }
def FnMchOneWrongFalsely : Prop := fnMchOneRow.holds Tryz.pinned (OpenSpec.ofChange fnMchOneWrong)

/-- 'laws.FnMchNext': WHATEVER THE INPUT: true; the input reads as it did. -/
def fnMchNextSpec : ChangeSpec := { name := "fnMchNext", fn := fun _ => fun
  | [d] => { results := [.lit (.bool true)], args := [d] }
  | _ => none }
def fnMchNextRow : OpenClaim := { program := "ytnhpmbhphbphaaagreat", sum := "c4546a9632b13e1cf4661005372913338e9b068e6bea9a0b532e5ad46c95456d", func := "loop.example/latimer/laws.FnMchNext", spec := "fnMchNext", unfollowed := true, recurses := true, apart := false }
def FnMchNextSaid : Prop := fnMchNextRow.holds Tryz.pinned (OpenSpec.ofChange fnMchNextSpec)

/-- ITS FALSE NEIGHBOUR: 'it returns false'. Refute it at one input. -/
def fnMchNextWrong : ChangeSpec := { name := "fnMchNext", fn := fun _ => fun
  | [d] => { results := [.lit (.bool false)], args := [d] }
  | _ => none }
def FnMchNextWrongFalsely : Prop := fnMchNextRow.holds Tryz.pinned (OpenSpec.ofChange fnMchNextWrong)

/-- 'laws.FnMchShift': WHATEVER THE INPUT: true; the input reads as it did. -/
def fnMchShiftSpec : ChangeSpec := { name := "fnMchShift", fn := fun _ => fun
  | [d] => { results := [.lit (.bool true)], args := [d] }
  | _ => none }
def fnMchShiftRow : OpenClaim := { program := "ytnhpmbhphbphaaagreat", sum := "c4546a9632b13e1cf4661005372913338e9b068e6bea9a0b532e5ad46c95456d", func := "loop.example/latimer/laws.FnMchShift", spec := "fnMchShift", unfollowed := true, recurses := true, apart := false }
def FnMchShiftSaid : Prop := fnMchShiftRow.holds Tryz.pinned (OpenSpec.ofChange fnMchShiftSpec)

/-- ITS FALSE NEIGHBOUR: 'it returns false'. Refute it at one input. -/
def fnMchShiftWrong : ChangeSpec := { name := "fnMchShift", fn := fun _ => fun
  | [d] => { results := [.lit (.bool false)], args := [d] }
  | _ => none }
def FnMchShiftWrongFalsely : Prop := fnMchShiftRow.holds Tryz.pinned (OpenSpec.ofChange fnMchShiftWrong)

/-- 'laws.FnMchReturn': WHATEVER THE INPUT: true; the input reads as it did. -/
def fnMchReturnSpec : ChangeSpec := { name := "fnMchReturn", fn := fun _ => fun
  | [d] => { results := [.lit (.bool true)], args := [d] }
  | _ => none }
def fnMchReturnRow : OpenClaim := { program := "ytnhpmbhphbphaaagreat", sum := "c4546a9632b13e1cf4661005372913338e9b068e6bea9a0b532e5ad46c95456d", func := "loop.example/latimer/laws.FnMchReturn", spec := "fnMchReturn", unfollowed := true, recurses := true, apart := false }
def FnMchReturnSaid : Prop := fnMchReturnRow.holds Tryz.pinned (OpenSpec.ofChange fnMchReturnSpec)

/-- ITS FALSE NEIGHBOUR: 'it returns false'. Refute it at one input. -/
def fnMchReturnWrong : ChangeSpec := { name := "fnMchReturn", fn := fun _ => fun
  | [d] => { results := [.lit (.bool false)], args := [d] }
  | _ => none }
def FnMchReturnWrongFalsely : Prop := fnMchReturnRow.holds Tryz.pinned (OpenSpec.ofChange fnMchReturnWrong)

/-- 'laws.FnMchCome': WHATEVER THE INPUT: true; the input reads as it did. -/
def fnMchComeSpec : ChangeSpec := { name := "fnMchCome", fn := fun _ => fun
  | [d] => { results := [.lit (.bool true)], args := [d] }
  | _ => none }
def fnMchComeRow : OpenClaim := { program := "ytnhpmbhphbphaaagreat", sum := "c4546a9632b13e1cf4661005372913338e9b068e6bea9a0b532e5ad46c95456d", func := "loop.example/latimer/laws.FnMchCome", spec := "fnMchCome", unfollowed := true, recurses := true, apart := false }
def FnMchComeSaid : Prop := fnMchComeRow.holds Tryz.pinned (OpenSpec.ofChange fnMchComeSpec)

/-- ITS FALSE NEIGHBOUR: 'it returns false'. Refute it at one input. -/
def fnMchComeWrong : ChangeSpec := { name := "fnMchCome", fn := fun _ => fun
  | [d] => { results := [.lit (.bool false)], args := [d] }
  | _ => none }
def FnMchComeWrongFalsely : Prop := fnMchComeRow.holds Tryz.pinned (OpenSpec.ofChange fnMchComeWrong)

/-- 'laws.FnMchLate': WHATEVER THE INPUT: true; the input reads as it did. -/
def fnMchLateSpec : ChangeSpec := { name := "fnMchLate", fn := fun _ => fun
  | [d] => { results := [.lit (.bool true)], args := [d] }
  | _ => none }
def fnMchLateRow : OpenClaim := { program := "ytnhpmbhphbphaaagreat", sum := "c4546a9632b13e1cf4661005372913338e9b068e6bea9a0b532e5ad46c95456d", func := "loop.example/latimer/laws.FnMchLate", spec := "fnMchLate", unfollowed := true, recurses := true, apart := false }
def FnMchLateSaid : Prop := fnMchLateRow.holds Tryz.pinned (OpenSpec.ofChange fnMchLateSpec)

/-- ITS FALSE NEIGHBOUR: 'it returns false'. Refute it at one input. -/
def fnMchLateWrong : ChangeSpec := { name := "fnMchLate", fn := fun _ => fun
  | [d] => { results := [.lit (.bool false)], args := [d] }
  | _ => none }
def FnMchLateWrongFalsely : Prop := fnMchLateRow.holds Tryz.pinned (OpenSpec.ofChange fnMchLateWrong)

/- THE SECOND FORM. 'bulk': how many values and letters a reading holds, each counted each time it is reached (what is shared counts as often as it is met; a slice's spare places count too). A statement '..UptoSaid' is the law's where the arguments, and the package variables that the reading takes, are together of bulk at most 1048576: NARROWER than '..Said'. Prove '..Said' where nothing that the law and all that it calls make is longer than what came in: it says more and counts as full. Else prove '..UptoSaid'. A law counts once. -/
mutual
def uptoBulk {H : Type} : DataW H → Nat
  | .lit (.string bytes) => bytes.length + 1
  | .lit _ => 1
  | .nil => 1
  | .ptr d => uptoBulk d + 1
  | .slice elems spare => uptoBulkAll elems + uptoBulkAll spare + 1
  | .agg parts => uptoBulkAll parts + 1
  | .iface _ d => uptoBulk d + 1
  | .map entries => uptoBulkEntries entries + 1
  | .held _ => 1
def uptoBulkAll {H : Type} : List (DataW H) → Nat
  | [] => 0
  | d :: r => uptoBulk d + uptoBulkAll r
def uptoBulkEntries {H : Type} : List (Lit × DataW H) → Nat
  | [] => 0
  | x :: r => uptoBulkEntry x + uptoBulkEntries r
def uptoBulkEntry {H : Type} : Lit × DataW H → Nat
  | (.string bytes, d) => bytes.length + uptoBulk d + 1
  | (_, d) => uptoBulk d + 1
 end
def uptoSmall : (H : Type) → List (DataW H) → Bool := fun _ ds => decide (uptoBulkAll ds ≤ 1048576)
def OpenSpec.upto (s : _root_.Go.ChangeSpec) : _root_.Go.OpenSpec := { _root_.Go.OpenSpec.ofChange s with cond := some uptoSmall }

/-- 'laws.FnMchStep', WHERE WHAT IT READS IS OF BULK AT MOST 1048576: true; the input reads as it did. -/
def fnMchStepUptoRow : OpenClaim := { program := "ytnhpmbhphbphaaagreat", sum := "c4546a9632b13e1cf4661005372913338e9b068e6bea9a0b532e5ad46c95456d", func := "loop.example/latimer/laws.FnMchStep", spec := "fnMchStep", unfollowed := true, recurses := true, apart := false, narrowed := true }
def FnMchStepUptoSaid : Prop := fnMchStepUptoRow.holds Tryz.pinned (OpenSpec.upto fnMchStepSpec)

/-- 'laws.FnMchPorts', WHERE WHAT IT READS IS OF BULK AT MOST 1048576: true; the input reads as it did. -/
def fnMchPortsUptoRow : OpenClaim := { program := "ytnhpmbhphbphaaagreat", sum := "c4546a9632b13e1cf4661005372913338e9b068e6bea9a0b532e5ad46c95456d", func := "loop.example/latimer/laws.FnMchPorts", spec := "fnMchPorts", unfollowed := true, recurses := true, apart := false, narrowed := true }
def FnMchPortsUptoSaid : Prop := fnMchPortsUptoRow.holds Tryz.pinned (OpenSpec.upto fnMchPortsSpec)

/-- 'laws.FnMchIrq', WHERE WHAT IT READS IS OF BULK AT MOST 1048576: true; the input reads as it did. -/
def fnMchIrqUptoRow : OpenClaim := { program := "ytnhpmbhphbphaaagreat", sum := "c4546a9632b13e1cf4661005372913338e9b068e6bea9a0b532e5ad46c95456d", func := "loop.example/latimer/laws.FnMchIrq", spec := "fnMchIrq", unfollowed := true, recurses := true, apart := false, narrowed := true }
def FnMchIrqUptoSaid : Prop := fnMchIrqUptoRow.holds Tryz.pinned (OpenSpec.upto fnMchIrqSpec)

/-- 'laws.FnMchRun', WHERE WHAT IT READS IS OF BULK AT MOST 1048576: true; the input reads as it did. -/
def fnMchRunUptoRow : OpenClaim := { program := "ytnhpmbhphbphaaagreat", sum := "c4546a9632b13e1cf4661005372913338e9b068e6bea9a0b532e5ad46c95456d", func := "loop.example/latimer/laws.FnMchRun", spec := "fnMchRun", unfollowed := true, recurses := true, apart := false, narrowed := true }
def FnMchRunUptoSaid : Prop := fnMchRunUptoRow.holds Tryz.pinned (OpenSpec.upto fnMchRunSpec)

/-- 'laws.FnMchStop', WHERE WHAT IT READS IS OF BULK AT MOST 1048576: true; the input reads as it did. -/
def fnMchStopUptoRow : OpenClaim := { program := "ytnhpmbhphbphaaagreat", sum := "c4546a9632b13e1cf4661005372913338e9b068e6bea9a0b532e5ad46c95456d", func := "loop.example/latimer/laws.FnMchStop", spec := "fnMchStop", unfollowed := true, recurses := true, apart := false, narrowed := true }
def FnMchStopUptoSaid : Prop := fnMchStopUptoRow.holds Tryz.pinned (OpenSpec.upto fnMchStopSpec)

/-- 'laws.FnMchOne', WHERE WHAT IT READS IS OF BULK AT MOST 1048576: true; the input reads as it did. -/
def fnMchOneUptoRow : OpenClaim := { program := "ytnhpmbhphbphaaagreat", sum := "c4546a9632b13e1cf4661005372913338e9b068e6bea9a0b532e5ad46c95456d", func := "loop.example/latimer/laws.FnMchOne", spec := "fnMchOne", unfollowed := true, recurses := true, apart := false, narrowed := true }
def FnMchOneUptoSaid : Prop := fnMchOneUptoRow.holds Tryz.pinned (OpenSpec.upto fnMchOneSpec)

/-- 'laws.FnMchNext', WHERE WHAT IT READS IS OF BULK AT MOST 1048576: true; the input reads as it did. -/
def fnMchNextUptoRow : OpenClaim := { program := "ytnhpmbhphbphaaagreat", sum := "c4546a9632b13e1cf4661005372913338e9b068e6bea9a0b532e5ad46c95456d", func := "loop.example/latimer/laws.FnMchNext", spec := "fnMchNext", unfollowed := true, recurses := true, apart := false, narrowed := true }
def FnMchNextUptoSaid : Prop := fnMchNextUptoRow.holds Tryz.pinned (OpenSpec.upto fnMchNextSpec)

/-- 'laws.FnMchShift', WHERE WHAT IT READS IS OF BULK AT MOST 1048576: true; the input reads as it did. -/
def fnMchShiftUptoRow : OpenClaim := { program := "ytnhpmbhphbphaaagreat", sum := "c4546a9632b13e1cf4661005372913338e9b068e6bea9a0b532e5ad46c95456d", func := "loop.example/latimer/laws.FnMchShift", spec := "fnMchShift", unfollowed := true, recurses := true, apart := false, narrowed := true }
def FnMchShiftUptoSaid : Prop := fnMchShiftUptoRow.holds Tryz.pinned (OpenSpec.upto fnMchShiftSpec)

/-- 'laws.FnMchReturn', WHERE WHAT IT READS IS OF BULK AT MOST 1048576: true; the input reads as it did. -/
def fnMchReturnUptoRow : OpenClaim := { program := "ytnhpmbhphbphaaagreat", sum := "c4546a9632b13e1cf4661005372913338e9b068e6bea9a0b532e5ad46c95456d", func := "loop.example/latimer/laws.FnMchReturn", spec := "fnMchReturn", unfollowed := true, recurses := true, apart := false, narrowed := true }
def FnMchReturnUptoSaid : Prop := fnMchReturnUptoRow.holds Tryz.pinned (OpenSpec.upto fnMchReturnSpec)

/-- 'laws.FnMchCome', WHERE WHAT IT READS IS OF BULK AT MOST 1048576: true; the input reads as it did. -/
def fnMchComeUptoRow : OpenClaim := { program := "ytnhpmbhphbphaaagreat", sum := "c4546a9632b13e1cf4661005372913338e9b068e6bea9a0b532e5ad46c95456d", func := "loop.example/latimer/laws.FnMchCome", spec := "fnMchCome", unfollowed := true, recurses := true, apart := false, narrowed := true }
def FnMchComeUptoSaid : Prop := fnMchComeUptoRow.holds Tryz.pinned (OpenSpec.upto fnMchComeSpec)

/-- 'laws.FnMchLate', WHERE WHAT IT READS IS OF BULK AT MOST 1048576: true; the input reads as it did. -/
def fnMchLateUptoRow : OpenClaim := { program := "ytnhpmbhphbphaaagreat", sum := "c4546a9632b13e1cf4661005372913338e9b068e6bea9a0b532e5ad46c95456d", func := "loop.example/latimer/laws.FnMchLate", spec := "fnMchLate", unfollowed := true, recurses := true, apart := false, narrowed := true }
def FnMchLateUptoSaid : Prop := fnMchLateUptoRow.holds Tryz.pinned (OpenSpec.upto fnMchLateSpec)

end Rows
end Go.Proofs.YtnhpmbhphbphaaaGreat
