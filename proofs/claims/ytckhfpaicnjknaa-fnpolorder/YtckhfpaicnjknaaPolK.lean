/-
  The laws' own toTrmPoly; a sum that came in as plain data can be read.
-/
import Derived.Test.YtckhfpaicnjknaaPolH
namespace Go.Proofs.Ytckhfpaicnjknaa.Pol
open Go.ChangeShapes Go.WideShapes Go.ChangeAt Go.RowKit IntS
theorem row_keep2 {S : Nat → Prop} {w w' : World} {B : Nat} {v : Value} {xs : List Int} (h : WRow w B v xs) (hk : Keep S w w') (hB : xs = [] ∨ ¬ S B) : WRow w' B v xs := by
  rcases hB with hB | hB
  · obtain ⟨a, cap, off, h1, h2, h3, hz, _⟩ := h
    exact ⟨a, cap, off, h1, h2, h3, hz, Or.inl hB⟩
  · exact row_keep h hk hB
theorem WP.keep {S : Nat → Prop} {w w' : World} {lo hi : Nat} {a : Option Addr} {G cap : Nat} {g : Nat → Nat} {s : Nat → Value} {ps : List Mono} (h : WP w lo hi a G cap g s ps) (hk : Keep S w w') (hS : ∀ b, lo ≤ b → b < hi → ¬ S b) : WP w' lo hi a G cap g s ps := by
  refine ⟨h.le, h.mx, h.nl, h.at_.imp id (fun q => ⟨q.1, q.2.1, q.2.2.1, Nat.lt_of_lt_of_le q.2.2.2 hk.size⟩), fun i x hx => ?_, h.apart⟩
  obtain ⟨k1, k2, k3, k4, k5⟩ := h.cells i x hx
  have hG := h.at_.resolve_left (fun e => by rw [e] at hx; simp at hx)
  have e := hk.block G hG.2.2.2 (hS G hG.2.1 hG.2.2.1)
  exact ⟨(World.cell?_of_block (w := w) (a := ⟨G, i * 2, none⟩) e).trans k1, (World.frozen?_of_block (w := w) (a := ⟨G, i * 2, none⟩) e).trans k2, (World.cell?_of_block (w := w) (a := ⟨G, i * 2 + 1, none⟩) e).trans k3, row_keep2 k4 hk (k5.imp id (fun q => hS _ q.1 q.2.1)), k5⟩
theorem WPoly.keep {S : Nat → Prop} {w w' : World} {lo hi : Nat} {v : Value} {ps : List Mono} (h : WPoly w lo hi v ps) (hk : Keep S w w') (hS : ∀ b, lo ≤ b → b < hi → ¬ S b) : WPoly w' lo hi v ps := by
  obtain ⟨a, G, cap, g, s, h1, h2⟩ := h
  exact ⟨a, G, cap, g, s, h1, h2.keep hk hS⟩
theorem WPoly.below {w w' : World} {lo hi : Nat} {v : Value} {ps : List Mono} (h : WPoly w lo hi v ps) (hb : Below w.heap.size w w') : WPoly w' lo hi v ps := h.keep (Keep.of_below (S := fun _ => False) hb) (fun _ _ _ h => h)
theorem WPoly.nil (w : World) (lo hi : Nat) : WPoly w lo hi (.slice none 0 0) [] := ⟨none, 0, 0, fun _ => 0, fun _ => .slice none 0 0, rfl, Nat.le_refl _, by unfold maxLen; omega, fun _ => rfl, Or.inl rfl, fun i x hx => by simp at hx, fun i j x y _ hx => by simp at hx⟩
theorem nil_row (w : World) (B : Nat) : WRow w B (.slice none 0 0) [] := ⟨none, 0, 0, rfl, Nat.le_refl _, by unfold maxLen; omega, fun _ => rfl, Or.inl rfl⟩
theorem WPoly.wide {w : World} {lo hi lo' hi' : Nat} {v : Value} {ps : List Mono} (h : WPoly w lo hi v ps) (hl : lo' ≤ lo) (hh : hi ≤ hi') : WPoly w lo' hi' v ps := by
  obtain ⟨a, G, cap, g, s, h1, h⟩ := h
  refine ⟨a, G, cap, g, s, h1, h.le, h.mx, h.nl, h.at_.imp id (fun q => ⟨q.1, by omega, by omega, q.2.2.2⟩), fun i x hx => ?_, h.apart⟩
  obtain ⟨k1, k2, k3, k4, k5⟩ := h.cells i x hx
  exact ⟨k1, k2, k3, k4, k5.imp id (fun q => ⟨by omega, by omega, q.2.2⟩)⟩
theorem list_of {α : Type} {P : Nat → α → Prop} : ∀ n : Nat, (∀ i, i < n → ∃ x, P i x) → ∃ xs : List α, xs.length = n ∧ ∀ (i : Nat) x, xs[i]? = some x → P i x
  | 0, _ => ⟨[], rfl, fun i x h => by simp at h⟩
  | n + 1, h => by
    obtain ⟨xs, hl, hx⟩ := list_of n (fun i hi => h i (by omega))
    obtain ⟨y, hy⟩ := h n (by omega)
    refine ⟨xs ++ [y], by simp [hl], fun i x hi => ?_⟩
    by_cases e : i < n
    · rw [List.getElem?_append_left (by omega)] at hi
      exact hx i x hi
    · rw [List.getElem?_append_right (by omega)] at hi
      have : i = n := by
        have := (List.getElem?_eq_some_iff.1 hi).1
        simp at this; omega
      subst this
      rw [hl, Nat.sub_self] at hi
      obtain rfl := Option.some.inj (show some y = some x from hi)
      exact hy
set_option maxRecDepth 8000 in
theorem row_holds {w : World} {n : Nat} {cs : List Value} (h : Shape.Holds Try.prog w (n + 2) 39 cs) : ∃ v xs B, cs = [v] ∧ Row w B v xs := by
  rcases Shape.holds_slice (n := n + 1) Try.underlying39 h with h | ⟨x, l, c, h, hl, hm, hx⟩
  · exact ⟨_, [], 0, h, ⟨none, 0, 0, rfl, Nat.le_refl _, by unfold maxLen; omega, fun _ => rfl, Or.inl rfl⟩⟩
  · have hc (i : Nat) (hi : i < l) : ∃ v : Int, w.cell? (x.add i) = some (.int .i64 v) := by
      obtain ⟨xs, h1, h2, h3⟩ := hx i (by omega)
      obtain ⟨v, rfl, hv⟩ := Shape.holds_int (n := n) Try.underlying3 h3
      have e1 : Try.prog.cellsOf 3 = 1 := by kernel_rfl
      have h4 := h2 0 (by rw [e1]; omega)
      rw [e1, Nat.mul_one, Nat.add_zero] at h4
      exact ⟨v, h4⟩
    obtain ⟨xs, e, hxs⟩ := list_of l hc
    by_cases h0 : l = 0
    · subst h0
      refine ⟨_, [], 0, h, ⟨some x, c, 0, rfl, Nat.zero_le _, hm, (fun h => by cases h), Or.inl rfl⟩⟩
    · obtain ⟨b, o, spot⟩ := x
      obtain ⟨v0, hv0⟩ := hc 0 (by omega)
      have hspot : spot = none := by simpa [Addr.add] using World.cell?_spot hv0
      subst hspot
      refine ⟨_, xs, b, h, ⟨some ⟨b, o, none⟩, c, o, by rw [e], by omega, hm, (fun h => by cases h), Or.inr ⟨rfl, fun i x hi => ?_⟩⟩⟩
      rw [← Go.WideShapes.add_plain]
      exact hxs i x hi
theorem two {l : List Value} (h : l.length = 2) : ∃ a b, l = [a, b] := by
  match l, h with
  | [a, b], _ => exact ⟨a, b, rfl⟩
end Go.Proofs.Ytckhfpaicnjknaa.Pol
