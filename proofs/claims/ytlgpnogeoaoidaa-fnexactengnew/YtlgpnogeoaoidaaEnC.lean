/-
  Engines: how many numbers machines and engines have.
-/
import Derived.Test.YtlgpnogeoaoidaaEnA
namespace Go.Proofs.Ytlgpnogeoaoidaa.En
set_option linter.unusedVariables false
open Go.ChangeShapes Go.WideShapes Go.ChangeAt Go.RowKit IntS Pol Dt Flat Irk
open Ir (Opn)
open Mch (M RMach CMach mv Mid Small okM)
theorem mach_nx (x0 : List Int) (a1 : Int) (x2 : List Int) (a3 : Int) (a4 a5 : Bool) (a6 : Int) (x7 x8 : List Int) (a9 : Int) : machR.sz (x0, a1, x2, a3, a4, a5, a6, x7, x8, a9) ≤ 1048576 → machR.nx (x0, a1, x2, a3, a4, a5, a6, x7, x8, a9) ≤ 20000000 := by
  intro h
  rw [machR_sz] at h
  rw [machR_nx]
  have e0 := ints_sz x0
  have e2 := ints_sz x2
  have e7 := ints_sz x7
  have e8 := ints_sz x8
  have f0 := ints_nx x0
  have f2 := ints_nx x2
  have f7 := ints_nx x7
  have f8 := ints_nx x8
  omega
theorem new_nx (m : M) : machR.sz (tM m) ≤ 1048576 → engR.nx (newE m) ≤ 100000000 := by
  intro h
  unfold newE
  by_cases ok : okM m = true
  · rw [if_pos ok]
    obtain ⟨regs, pc, mem, save, lets, waits, halt, ins, outs, count⟩ := m
    have h2 := mach_nx regs pc mem save lets waits halt ins outs count h
    show engR.nx (regs, pc, mem, save, lets, waits, halt, ins, outs, count, [], []) ≤ _
    rw [engR_nxp]
    have e1 : cacK.nx [] = 0 := rfl
    have e2 : cerK.nx [] = 0 := rfl
    omega
  · rw [if_neg ok]
    decide
end Go.Proofs.Ytlgpnogeoaoidaa.En
