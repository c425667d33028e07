/-
  Kinds of plain data: lists of numbers.
-/
import Derived.Test.YtlgpnogeoaoidaaDt
namespace Go.Proofs.Ytlgpnogeoaoidaa.Dt
set_option linter.unusedVariables false
set_option linter.unusedSimpArgs false
open Go.ChangeShapes Go.WideShapes Go.ChangeAt Go.RowKit IntS Pol
def intsK : Kd (List Int) := list leaf
theorem ints_of {w : World} {B : Nat} {v : Value} {xs : List Int} (h : Row w B v xs) : intsK.rd w v xs := by
  obtain ⟨a, cap, off, h1, h2, h3, hz, h4⟩ := h
  refine ⟨a, cap, B, off, h1, h2, h3, hz, h4.imp id fun ⟨e, q⟩ => ⟨e, fun i x hx => ⟨[.int .i64 x], fun j v hv => ?_, rfl⟩⟩⟩
  match j, hv with
  | 0, hv =>
    obtain rfl := Option.some.inj hv
    have := q i x hx
    rw [show off + i * leaf.n + 0 = off + i by simp [leaf]]
    exact this
  | j + 1, hv => simp at hv
theorem ints_to {w : World} {v : Value} {xs : List Int} (h : intsK.rd w v xs) : ∃ B, Row w B v xs := by
  obtain ⟨a, cap, B, off, h1, h2, h3, hz, h4⟩ := h
  refine ⟨B, a, cap, off, h1, h2, h3, hz, h4.imp id fun ⟨e, q⟩ => ⟨e, fun i x hx => ?_⟩⟩
  obtain ⟨cs, k1, k2⟩ := q i x hx
  have e2 : cs = [.int .i64 x] := k2
  subst e2
  have := k1 0 _ rfl
  rw [show off + i * leaf.n + 0 = off + i by simp [leaf]] at this
  exact this
theorem ints_ow {w : World} {A : Nat → Prop} {B : Nat} {v : Value} {xs : List Int} (h : WRow w B v xs) (hA : xs = [] ∨ A B) : intsK.ow w A v xs := by
  obtain ⟨a, cap, off, h1, h2, h3, hz, h4⟩ := h
  refine ⟨a, B, off, cap, fun _ _ => False, h1, h2, h3, hz, ?_, fun i x hx => ?_, fun i j _ _ b h _ => h.elim⟩
  · by_cases e : xs = []
    · exact Or.inl e
    · obtain ⟨k1, k2, _⟩ := h4.resolve_left e
      exact Or.inr ⟨k1, hA.resolve_left e, k2⟩
  · obtain ⟨k1, k2, k3⟩ := h4.resolve_left (fun e => by rw [e] at hx; simp at hx)
    obtain ⟨q1, q2⟩ := k3 i x hx
    have e1 : leaf.n = 1 := rfl
    refine ⟨[.int .i64 x], fun j v hv => ?_, fun j hj _ => ?_, rfl, fun _ h => h.elim, fun h => h⟩
    · match j, hv with
      | 0, hv =>
        obtain rfl := Option.some.inj hv
        rw [e1, Nat.mul_one, Nat.add_zero]
        exact q1
      | j + 1, hv => simp at hv
    · rw [e1] at hj ⊢
      obtain rfl : j = 0 := by omega
      rw [Nat.mul_one, Nat.add_zero]
      exact q2
theorem ints_wrow {w : World} {A : Nat → Prop} {v : Value} {xs : List Int} (h : intsK.ow w A v xs) : ∃ B, WRow w B v xs ∧ (xs = [] ∨ A B) := by
  obtain ⟨a, B, off, cap, E, h1, q⟩ := h
  refine ⟨B, ⟨a, cap, off, h1, q.le, q.mx, q.nl, ?_⟩, q.at_.imp id (fun e => e.2.1)⟩
  by_cases e : xs = []
  · exact Or.inl e
  · obtain ⟨k1, k2, k3⟩ := q.at_.resolve_left e
    refine Or.inr ⟨k1, k3, fun i x hx => ?_⟩
    obtain ⟨cs, c1, c2, c3, _⟩ := q.cells i x hx
    have e2 : cs = [.int .i64 x] := c3
    subst e2
    have d1 := c1 0 _ rfl
    have d2 := c2 0 (Nat.zero_lt_one) trivial
    have e1 : leaf.n = 1 := rfl
    rw [e1, Nat.mul_one, Nat.add_zero] at d1 d2
    exact ⟨d1, d2⟩
end Go.Proofs.Ytlgpnogeoaoidaa.Dt
