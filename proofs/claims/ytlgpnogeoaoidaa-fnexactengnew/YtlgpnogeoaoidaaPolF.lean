/-
  Sums that are ok: the program's PolOk and the specification's.
-/
import Derived.Test.YtlgpnogeoaoidaaPolE
import Derived.Deep.RegionHeld3
namespace Go.Proofs.Ytlgpnogeoaoidaa.Pol
set_option linter.unusedSimpArgs false
open Go.ChangeShapes Go.WideShapes Go.ChangeAt Go.RowKit IntS
theorem ok_long {ps : List Mono} (h : ¬ ps.length ≤ 12) : okP ps = false := by unfold okP; rw [decide_eq_false h]; rfl
theorem ok_parts {ps : List Mono} (h : ps.length ≤ 12) : okP ps = (List.range ps.length).all (partAt ps) := by unfold okP; rw [decide_eq_true h]; rfl
theorem part_mono {ps : List Mono} {k : Nat} {x : Mono} (hx : ps[k]? = some x) (h : monoB x = false) : partAt ps k = false := by unfold partAt; rw [getD_part hx, h]; rfl
theorem part_zero {ps : List Mono} {x : Mono} (hx : ps[0]? = some x) (h : monoB x = true) : partAt ps 0 = true := by unfold partAt; rw [getD_part hx, h]; rfl
theorem part_next {ps : List Mono} {p : Nat} {x y : Mono} (hx : ps[p + 1]? = some x) (hy : ps[p]? = some y) (h : monoB x = true) : partAt ps (p + 1) = decide (ordA y.2 x.2 < 0) := by
  unfold partAt
  rw [Nat.add_sub_cancel, getD_part hx, getD_part hy, h]
  simp
theorem cell_drew {w : World} {a : Addr} {v : Value} (h : w.cell? a = some v) : w.drew.cell? a = some v := h
end Go.Proofs.Ytlgpnogeoaoidaa.Pol
