/-
  The specification's l4Mono.
-/
import Derived.Test.YtlgpnogeoaoidaaPolD
namespace Go.Proofs.Ytlgpnogeoaoidaa.Pol
open Go.ChangeShapes Go.WideShapes Go.ChangeAt Go.RowKit IntS
theorem in_coef (c : Int) : inI c 1 65535 = decide (1 ≤ c ∧ c ≤ 65535) := rfl
theorem in_atom (x : Int) : inI x 0 199 = atomB x := by unfold inI atomB; congr 1; rw [eq_iff_iff]; omega
end Go.Proofs.Ytlgpnogeoaoidaa.Pol
