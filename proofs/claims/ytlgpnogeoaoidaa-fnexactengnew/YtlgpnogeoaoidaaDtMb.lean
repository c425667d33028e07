/-
  Plain data: a bool in a row of cells.
-/
import Derived.Test.YtlgpnogeoaoidaaDtI
namespace Go.Proofs.Ytlgpnogeoaoidaa.Dt
set_option linter.unusedVariables false
set_option linter.unusedSimpArgs false
open Go.ChangeShapes Go.WideShapes Go.ChangeAt Go.RowKit IntS Pol
/-- A bool that is not marked, and more cells. -/
def keepb {β : Type} (R : Rw β) : Rw (Bool × β) where
  n := R.n + 1
  lf := fun j => j = 0 ∨ R.lf (j - 1)
  rd := fun w cs x => ∃ vs, cs = .bool x.1 :: vs ∧ R.rd w vs x.2
  ow := fun w A cs x => ∃ vs, cs = .bool x.1 :: vs ∧ R.ow w A vs x.2
  sz := fun x => R.sz x.2
  nx := fun x => R.nx x.2
  mr := fun k x => (x.1, R.mr k x.2)
  ln := fun ⟨v, h, q⟩ => by rw [h, List.length_cons, R.ln q]
  rb := fun ⟨v, h, q⟩ hb => ⟨v, h, R.rb q hb⟩
  od := fun ⟨v, h, q⟩ => ⟨v, h, R.od q⟩
  ok := fun ⟨v, h, q⟩ hk hS => ⟨v, h, R.ok q hk hS⟩
  ov := fun ⟨v, h, q⟩ h1 => ⟨v, h, R.ov q h1⟩
end Go.Proofs.Ytlgpnogeoaoidaa.Dt
