/-
  Short names of four facts on lists.
-/
import Derived.Test.YtggilenddbobnaaGreatProg
namespace Go.Proofs.YtggilenddbobnaaGreat
theorem sA {α : Type} (l : List α) (i : Nat) (a : α) : l.toArray.setIfInBounds i a = (l.set i a).toArray := List.setIfInBounds_toArray l i a
theorem gA {α : Type} {xs : List α} {i : Nat} (h : i < xs.toArray.size) : xs.toArray[i] = xs[i] := List.getElem_toArray h
theorem gS {α : Type} (a : α) (l : List α) (i : Nat) (h : i + 1 < (a :: l).length) : (a :: l)[i + 1] = getElem l i (Nat.lt_of_succ_lt_succ h) := List.getElem_cons_succ a l i h
theorem gZ {α : Type} (a : α) (l : List α) (h : 0 < (a :: l).length) : (a :: l)[0] = a := List.getElem_cons_zero a l h
end Go.Proofs.YtggilenddbobnaaGreat
