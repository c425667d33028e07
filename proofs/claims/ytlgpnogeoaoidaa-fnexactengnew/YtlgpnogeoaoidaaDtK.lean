/-
  Kinds of plain data: lists of numbers, sums, lists of sums; they and the older ways to say that a slice holds such.
-/
import Derived.Test.YtlgpnogeoaoidaaDtN
import Derived.Test.YtlgpnogeoaoidaaSymA
namespace Go.Proofs.Ytlgpnogeoaoidaa.Dt
set_option linter.unusedVariables false
set_option linter.unusedSimpArgs false
open Go.ChangeShapes Go.WideShapes Go.ChangeAt Go.RowKit IntS Pol
def monoR : Rw Mono := int (last intsK)
def polyK : Kd (List Mono) := list monoR
def sumsK : Kd (List (List Mono)) := list (last polyK)
theorem poly_of {w : World} {B : Nat} {v : Value} {ps : List Mono} (h : PRow w B v ps) : polyK.rd w v ps := by
  obtain ⟨a, cap, off, h1, h2, h3, hz, h4⟩ := h
  refine ⟨a, cap, B, off, h1, h2, h3, hz, h4.imp id fun ⟨e, q⟩ => ⟨e, fun i x hx => ?_⟩⟩
  obtain ⟨k1, s, b, k2, k3⟩ := q i x hx
  refine ⟨[.int .i64 x.1, s], fun j v hv => ?_, ⟨[s], rfl, s, rfl, ints_of k3⟩⟩
  match j, hv with
  | 0, hv => obtain rfl := Option.some.inj hv; exact k1
  | 1, hv => obtain rfl := Option.some.inj hv; exact k2
  | j + 2, hv => simp at hv
theorem poly_to {w : World} {v : Value} {ps : List Mono} (h : polyK.rd w v ps) : ∃ B, PRow w B v ps := by
  obtain ⟨a, cap, B, off, h1, h2, h3, hz, h4⟩ := h
  refine ⟨B, a, cap, off, h1, h2, h3, hz, h4.imp id fun ⟨e, q⟩ => ⟨e, fun i x hx => ?_⟩⟩
  obtain ⟨cs, k1, vs, e1, s, e2, k2⟩ := q i x hx
  subst e2
  subst e1
  obtain ⟨b, k3⟩ := ints_to k2
  exact ⟨k1 0 _ rfl, s, b, k1 1 _ rfl, k3⟩
theorem poly_form {w : World} {v : Value} {ps : List Mono} (h : polyK.rd w v ps) : ∃ a cap, v = .slice a ps.length cap := by
  obtain ⟨a, cap, B, off, h1, _⟩ := h
  exact ⟨a, cap, h1⟩
theorem sums_of {w : World} {B : Nat} {v : Value} {qs : List (List Mono)} (h : QRow w B v qs) : sumsK.rd w v qs := by
  obtain ⟨a, cap, off, h1, h2, h3, hz, h4⟩ := h
  refine ⟨a, cap, B, off, h1, h2, h3, hz, h4.imp id fun ⟨e, q⟩ => ⟨e, fun i x hx => ?_⟩⟩
  obtain ⟨qa, c, b, k1, k2⟩ := q i x hx
  refine ⟨[.slice qa x.length c], fun j v hv => ?_, ⟨_, rfl, poly_of k2⟩⟩
  match j, hv with
  | 0, hv =>
    obtain rfl := Option.some.inj hv
    rw [show off + i * (last polyK).n + 0 = off + i by simp [last]]
    exact k1
  | j + 1, hv => simp at hv
theorem sums_to {w : World} {v : Value} {qs : List (List Mono)} (h : sumsK.rd w v qs) : ∃ B, QRow w B v qs := by
  obtain ⟨a, cap, B, off, h1, h2, h3, hz, h4⟩ := h
  refine ⟨B, a, cap, off, h1, h2, h3, hz, h4.imp id fun ⟨e, q⟩ => ⟨e, fun i x hx => ?_⟩⟩
  obtain ⟨cs, k1, v, e1, k2⟩ := q i x hx
  subst e1
  obtain ⟨b, k3⟩ := poly_to k2
  obtain ⟨a', cap', e2⟩ := poly_form k2
  subst e2
  have := k1 0 _ rfl
  rw [show off + i * (last polyK).n + 0 = off + i by simp [last]] at this
  exact ⟨a', cap', b, this, k3⟩
theorem poly_ow {w : World} {A : Nat → Prop} {lo hi : Nat} {v : Value} {ps : List Mono} (h : WPoly w lo hi v ps) (hA : ∀ b, lo ≤ b → b < hi → A b) : polyK.ow w A v ps := by
  obtain ⟨a, G, cap, g, s, h1, q⟩ := h
  refine ⟨a, G, 0, cap, fun i b => b = g i ∧ ∃ x, ps[i]? = some x ∧ x.2 ≠ [], h1, q.le, q.mx, q.nl, q.at_.imp id (fun e => ⟨e.1, hA _ e.2.1 e.2.2.1, e.2.2.2⟩), fun i x hx => ?_, fun i j hij hj b h1 h2 => ?_⟩
  · obtain ⟨k1, k2, k3, k4, k5⟩ := q.cells i x hx
    have e2 : monoR.n = 2 := rfl
    refine ⟨[.int .i64 x.1, s i], fun j v hv => ?_, fun j hj hf => ?_, ⟨[s i], rfl, s i, rfl, ints_ow k4 ?_⟩, fun b hb => ?_, fun hG => ?_⟩
    · rw [e2, Nat.zero_add]
      match j, hv with
      | 0, hv => obtain rfl := Option.some.inj hv; exact k1
      | 1, hv => obtain rfl := Option.some.inj hv; exact k3
      | j + 2, hv => simp at hv
    · rw [e2] at hj ⊢
      rw [Nat.zero_add]
      obtain rfl : j = 0 := hf.elim id (fun h => h.elim)
      exact k2
    · by_cases e : x.2 = []
      · exact Or.inl e
      · exact Or.inr ⟨rfl, x, hx, e⟩
    · obtain ⟨rfl, y, hy, ne⟩ := hb
      rw [hx] at hy
      obtain rfl := Option.some.inj hy
      have := k5.resolve_left ne
      exact hA _ this.1 this.2.1
    · obtain ⟨e, y, hy, ne⟩ := hG
      rw [hx] at hy
      obtain rfl := Option.some.inj hy
      exact (k5.resolve_left ne).2.2 e.symm
  · obtain ⟨rfl, y, hy, ne⟩ := h1
    obtain ⟨e, z, hz, ne2⟩ := h2
    rcases q.apart i j y z hij hy hz with r | r | r
    · exact ne r
    · exact ne2 r
    · exact r e
theorem sums_ow {w : World} {A : Nat → Prop} {lo hi : Nat} {v : Value} {qs : List (List Mono)} (h : WSums w lo hi v qs) (hA : ∀ b, lo ≤ b → b < hi → A b) : sumsK.ow w A v qs := by
  obtain ⟨a, G, cap, l, hh, s, h1, q⟩ := h
  refine ⟨a, G, 0, cap, fun i b => l i ≤ b ∧ b < hh i, h1, q.le, q.mx, q.nl, q.at_.imp id (fun e => ⟨e.1, hA _ e.2.1 e.2.2.1, e.2.2.2⟩), fun i x hx => ?_, fun i j hij hj b h1 h2 => ?_⟩
  · obtain ⟨k1, k2, k3, k4, k5, k6⟩ := q.cells i x hx
    have e1 : (last polyK).n = 1 := rfl
    refine ⟨[s i], fun j v hv => ?_, fun j hj hf => hf.elim, ⟨_, rfl, poly_ow k2 (fun b b1 b2 => ⟨b1, b2⟩)⟩, fun b hb => hA b (by omega) (by omega), fun hG => by omega⟩
    match j, hv with
    | 0, hv =>
      obtain rfl := Option.some.inj hv
      rw [e1, Nat.zero_add, Nat.mul_one, Nat.add_zero]
      exact k1
    | j + 1, hv => simp at hv
  · have := q.apart i j hij hj
    omega
end Go.Proofs.Ytlgpnogeoaoidaa.Dt
