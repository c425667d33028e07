/-
  Instructions as words, words as instructions, and which instructions are a piece of code: BlkOk, BlkWords, BlkTake, the specification's and the program's.
-/
import Derived.Test.YtlgpnogeoaoidaaInsS
import Derived.Test.YtlgpnogeoaoidaaInsI
namespace Go.Proofs.Ytlgpnogeoaoidaa.Blk
set_option linter.unusedVariables false
set_option linter.unusedSimpArgs false
open Go.ChangeShapes Go.WideShapes Go.ChangeAt Go.RowKit IntS Flat InsS
open Ins (okB endsB inB putN takeB takeC)
/-- An instruction that may stand in a piece of code, at its end or ahead of it. -/
def ok1 (last : Bool) (i : In4) : Bool := okB i.op i.d i.a i.k && !decide (i.op = 0) && (!endsB i.op || last)
def okAt (is : List In4) (j : Nat) : Bool := match is[j]? with
  | some i => ok1 (decide (j + 1 = is.length)) i
  | none => true
def okAll (is : List In4) : Bool := (List.range is.length).all (okAt is)
def okL (pc : Int) (is : List In4) : Bool := decide ((1 ≤ is.length ∧ is.length ≤ 8) ∧ 0 ≤ pc ∧ pc ≤ 64 - (is.length : Int)) && okAll is
theorem okAll_yes {is : List In4} (h : ∀ j, j < is.length → okAt is j = true) : okAll is = true := by
  unfold okAll
  rw [List.all_eq_true]
  intro j hj
  exact h j (List.mem_range.1 hj)
theorem okAll_no {is : List In4} {j : Nat} (hj : j < is.length) (h : okAt is j = false) : okAll is = false := by
  unfold okAll
  rw [Bool.eq_false_iff]
  intro ha
  rw [List.all_eq_true] at ha
  have := ha j (List.mem_range.2 hj)
  rw [h] at this
  cases this
theorem okAt_some {is : List In4} {j : Nat} {i : In4} (h : is[j]? = some i) : okAt is j = ok1 (decide (j + 1 = is.length)) i := by
  unfold okAt
  rw [h]
theorem okL_short {pc : Int} {is : List In4} (h : ¬ ((1 ≤ is.length ∧ is.length ≤ 8) ∧ 0 ≤ pc ∧ pc ≤ 64 - (is.length : Int))) : okL pc is = false := by
  unfold okL
  rw [decide_eq_false h]
  rfl
theorem okL_in {pc : Int} {is : List In4} (h : (1 ≤ is.length ∧ is.length ≤ 8) ∧ 0 ≤ pc ∧ pc ≤ 64 - (is.length : Int)) : okL pc is = okAll is := by
  unfold okL
  rw [decide_eq_true h]
  rfl
end Go.Proofs.Ytlgpnogeoaoidaa.Blk
