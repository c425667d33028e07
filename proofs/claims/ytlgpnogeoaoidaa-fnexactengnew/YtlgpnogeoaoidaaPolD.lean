/-
  Parts that are ok: contracts of slices.IsSorted at ints, of the program's isAtom and partOk, and of the specification's l4Mono.
-/
import Derived.Test.YtlgpnogeoaoidaaPolC
namespace Go.Proofs.Ytlgpnogeoaoidaa.Pol
open Go.ChangeShapes Go.WideShapes Go.ChangeAt Go.RowKit IntS
theorem up_no {xs : List Int} {k : Nat} {x y : Int} (hx : xs[k]? = some x) (hy : xs[k + 1]? = some y) (h : y < x) : upAt xs (k + 1) = false := by
  unfold upAt
  rw [Nat.add_sub_cancel, getD_at hx, getD_at hy]
  exact decide_eq_false (by omega)
theorem up_yes {xs : List Int} {k : Nat} {x y : Int} (hx : xs[k]? = some x) (hy : xs[k + 1]? = some y) (h : ¬ y < x) : upAt xs (k + 1) = true := by
  unfold upAt
  rw [Nat.add_sub_cancel, getD_at hx, getD_at hy]
  exact decide_eq_true (by omega)
theorem up_zero (xs : List Int) : upAt xs 0 = true := decide_eq_true (Or.inl rfl)
theorem all_and {f g : Nat → Bool} (n : Nat) : (List.range n).all (fun j => f j && g j) = ((List.range n).all f && (List.range n).all g) := by
  rw [Bool.eq_iff_iff]
  simp only [Bool.and_eq_true, List.all_eq_true, List.mem_range]
  exact ⟨fun h => ⟨fun j hj => (h j hj).1, fun j hj => (h j hj).2⟩, fun h j hj => ⟨h.1 j hj, h.2 j hj⟩⟩
def atomB (k : Int) : Bool := decide (0 ≤ k ∧ k < 200)
theorem atom_at {xs : List Int} {k : Nat} {x : Int} (h : xs[k]? = some x) : atomAt xs k = atomB x := by unfold atomAt atomB; rw [getD_at h]
theorem mono_coef {c : Int} {xs : List Int} (h : ¬ (1 ≤ c ∧ c ≤ 65535)) : monoB (c, xs) = false := by unfold monoB; rw [decide_eq_false h]; rfl
theorem mono_len {c : Int} {xs : List Int} (h : ¬ xs.length ≤ 4) : monoB (c, xs) = false := by unfold monoB; rw [decide_eq_false h]; simp
theorem mono_atoms {c : Int} {xs : List Int} (h1 : 1 ≤ c ∧ c ≤ 65535) (h2 : xs.length ≤ 4) : monoB (c, xs) = (List.range xs.length).all (fun j => atomAt xs j && upAt xs j) := by unfold monoB; rw [decide_eq_true h1, decide_eq_true h2]; rfl
end Go.Proofs.Ytlgpnogeoaoidaa.Pol
