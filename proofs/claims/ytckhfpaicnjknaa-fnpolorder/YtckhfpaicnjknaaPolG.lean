/-
  Contracts of the laws' own szTrmPoly, eqTrmPoly and toTrmPoly.
-/
import Derived.Test.YtckhfpaicnjknaaPolR
import Derived.Test.YtckhfpaicnjknaaShape
namespace Go.Proofs.Ytckhfpaicnjknaa.Pol
open Go.ChangeShapes Go.WideShapes Go.ChangeAt Go.RowKit IntS
/-- How many atoms there are. -/
def tot : List Mono → Nat
  | [] => 0
  | x :: r => x.2.length + tot r
theorem tot_app : ∀ a b : List Mono, tot (a ++ b) = tot a + tot b
  | [], b => by simp [tot]
  | x :: a, b => by simp [tot, tot_app a b]; omega
theorem tot_next {ps : List Mono} {k : Nat} {x : Mono} (h : ps[k]? = some x) : tot (ps.take (k + 1)) = tot (ps.take k) + x.2.length := by
  rw [List.take_add_one, h, tot_app]
  simp [tot]
theorem tot_le {ps : List Mono} (k : Nat) : tot (ps.take k) ≤ tot ps := by
  have := tot_app (ps.take k) (ps.drop k)
  rw [List.take_append_drop] at this
  omega
theorem tot_at {ps : List Mono} {k : Nat} {x : Mono} (h : ps[k]? = some x) : x.2.length ≤ tot ps := by
  have := tot_next h
  have := tot_le (ps := ps) (k + 1)
  omega
/-- A sum that is not too great. -/
def SmallP (ps : List Mono) : Prop := ps.length + tot ps ≤ 1048576
end Go.Proofs.Ytckhfpaicnjknaa.Pol
