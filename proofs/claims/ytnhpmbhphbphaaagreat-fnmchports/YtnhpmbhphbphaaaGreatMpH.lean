/-
  The front of a row, and rows that are the same or one longer, as the laws ask for them.
-/
import Derived.Test.YtnhpmbhphbphaaaGreatMpG
namespace Go.Proofs.YtnhpmbhphbphaaaGreat.Mch
set_option linter.unusedVariables false
set_option linter.unusedSimpArgs false
open Go.ChangeShapes Go.WideShapes Go.ChangeAt Go.RowKit IntS
theorem row_front {w : World} {B l k : Nat} {q : Option Addr} {xs : List Int} (h : Row w B (.slice q l k) xs) {n : Nat} (hn : n ≤ xs.length) : Row w B (.slice q n k) (xs.take n) := by
  obtain ⟨a, c, off, hv, h2, h3, hz, h4⟩ := h
  cases hv
  refine ⟨q, k, off, by rw [List.length_take, Nat.min_eq_left hn], by rw [List.length_take, Nat.min_eq_left hn]; omega, h3, hz, ?_⟩
  rcases h4 with h4 | ⟨h4, h5⟩
  · subst h4
    exact Or.inl (by simp)
  refine Or.inr ⟨h4, fun j z hj => ?_⟩
  rw [List.getElem?_take] at hj
  split at hj
  · exact h5 j z hj
  · cases hj
theorem laFront {w : World} {B B' l k : Nat} {q : Option Addr} {v : Value} {xs ys : List Int} (h : Row w B (.slice q l k) xs) (h' : Row w B' v ys) (e : xs.take ys.length = ys) :
    Calls Tryz.prog 21 #[.slice q ys.length k, v] w fun e w' => e = .returned (.bool true) ∧ Below w.heap.size w w' := by
  have hn : ys.length ≤ xs.length := by
    have := congrArg List.length e
    rw [List.length_take] at this
    omega
  refine (La.laInts (xs.take ys.length) ys B B' _ _ w (row_front h hn) h').mono ?_
  rintro ee w' ⟨rfl, hb⟩
  exact ⟨by rw [e]; simp, hb⟩
theorem laSame {w : World} {B B' : Nat} {v v' : Value} {xs ys : List Int} (h : Row w B v xs) (h' : Row w B' v' ys) (e : xs = ys) :
    Calls Tryz.prog 21 #[v, v'] w fun e w' => e = .returned (.bool true) ∧ Below w.heap.size w w' := by
  refine (La.laInts xs ys B B' _ _ w h h').mono ?_
  rintro ee w' ⟨rfl, hb⟩
  exact ⟨by rw [e]; simp, hb⟩
theorem laMore {w : World} {B B' : Nat} {v v' : Value} {xs : List Int} {y : Int} (h : Row w B v xs) (h' : Row w B' v' (y :: xs)) :
    Calls Tryz.prog 21 #[v, v'] w fun e w' => e = .returned (.bool false) ∧ Below w.heap.size w w' := by
  refine (La.laInts xs (y :: xs) B B' _ _ w h h').mono ?_
  rintro ee w' ⟨rfl, hb⟩
  refine ⟨?_, hb⟩
  rw [show decide (xs = y :: xs) = false from decide_eq_false (fun h => by have := congrArg List.length h; simp at this)]
end Go.Proofs.YtnhpmbhphbphaaaGreat.Mch
