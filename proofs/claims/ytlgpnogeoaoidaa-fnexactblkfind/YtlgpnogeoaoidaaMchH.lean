/-
  A machine that came in as plain data is one that can be read.
-/
import Derived.Test.YtlgpnogeoaoidaaMchM
namespace Go.Proofs.Ytlgpnogeoaoidaa.Mch
open Go.ChangeShapes Go.WideShapes Go.ChangeAt Go.RowKit IntS
theorem list_of {P : Nat → Int → Prop} : ∀ n : Nat, (∀ i, i < n → ∃ x, P i x) → ∃ xs : List Int, xs.length = n ∧ ∀ (i : Nat) x, xs[i]? = some x → P i x
  | 0, _ => ⟨[], rfl, fun i x h => by simp at h⟩
  | n + 1, h => by
    obtain ⟨xs, hl, hx⟩ := list_of n (fun i hi => h i (by omega))
    obtain ⟨y, hy⟩ := h n (by omega)
    refine ⟨xs ++ [y], by simp [hl], fun i x hi => ?_⟩
    by_cases e : i < n
    · rw [List.getElem?_append_left (by omega)] at hi
      exact hx i x hi
    · rw [List.getElem?_append_right (by omega)] at hi
      have : i = n := by
        have := (List.getElem?_eq_some_iff.1 hi).1
        simp at this; omega
      subst this
      rw [hl, Nat.sub_self] at hi
      obtain rfl := Option.some.inj (show some y = some x from hi)
      exact hy
set_option maxRecDepth 8000 in
theorem row_holds {w : World} {n : Nat} {cs : List Value} (h : Shape.Holds Try.prog w (n + 2) 22 cs) : ∃ v xs B, cs = [v] ∧ Row w B v xs := by
  rcases Shape.holds_slice (n := n + 1) Try.underlying22 h with h | ⟨x, l, c, h, hl, hm, hx⟩
  · exact ⟨_, [], 0, h, ⟨none, 0, 0, rfl, Nat.le_refl _, by unfold maxLen; omega, fun _ => rfl, Or.inl rfl⟩⟩
  · have hc (i : Nat) (hi : i < l) : ∃ v : Int, w.cell? (x.add i) = some (.int .i64 v) := by
      obtain ⟨xs, h1, h2, h3⟩ := hx i (by omega)
      obtain ⟨v, rfl, hv⟩ := Shape.holds_int (n := n) Try.underlying3 h3
      have e1 : Try.prog.cellsOf 3 = 1 := by kernel_rfl
      have h4 := h2 0 (by rw [e1]; omega)
      rw [e1, Nat.mul_one, Nat.add_zero] at h4
      exact ⟨v, h4⟩
    obtain ⟨xs, e, hxs⟩ := list_of l hc
    by_cases h0 : l = 0
    · subst h0
      refine ⟨_, [], 0, h, ⟨some x, c, 0, rfl, Nat.zero_le _, hm, (fun h => by cases h), Or.inl rfl⟩⟩
    · obtain ⟨b, o, spot⟩ := x
      obtain ⟨v0, hv0⟩ := hc 0 (by omega)
      have hspot : spot = none := by simpa [Addr.add] using World.cell?_spot hv0
      subst hspot
      refine ⟨_, xs, b, h, ⟨some ⟨b, o, none⟩, c, o, by rw [e], by omega, hm, (fun h => by cases h), Or.inr ⟨rfl, fun i x hi => ?_⟩⟩⟩
      rw [← Go.WideShapes.add_plain]
      exact hxs i x hi
theorem ten {l : List Value} (h : l.length = 10) : ∃ a b c d e f g i j k, l = [a, b, c, d, e, f, g, i, j, k] := by
  match l, h with
  | [a, b, c, d, e, f, g, i, j, k], _ => exact ⟨a, b, c, d, e, f, g, i, j, k, rfl⟩
set_option maxRecDepth 8000 in
theorem of_holds {w : World} {c : Array Value} (h : Shape.Holds Try.prog w 9 24 c.toList) : ∃ (l : List Value) (m : M), c = l.toArray ∧ RMach w l m := by
  obtain ⟨hl, hf⟩ := Shape.holds_struct (n := 8) Try.underlying24 h
  have e10 : Try.prog.cellsOf 24 = 10 := by kernel_rfl
  have e1 : Try.prog.cellsOf 3 = 1 := by kernel_rfl
  have eb : Try.prog.cellsOf 4 = 1 := by kernel_rfl
  have es : Try.prog.cellsOf 22 = 1 := by kernel_rfl
  rw [e10] at hl
  obtain ⟨c0, c1, c2, c3, c4, c5, c6, c7, c8, c9, hc⟩ := ten hl
  rw [hc] at hf
  obtain ⟨v0, xs0, b0, q0, r0⟩ := row_holds (n := 6) (hf _ (List.mem_of_getElem? (i := 0) rfl))
  obtain ⟨x1, q1, _⟩ := Shape.holds_int (n := 7) Try.underlying3 (hf _ (List.mem_of_getElem? (i := 1) rfl))
  obtain ⟨v2, xs2, b2, q2, r2⟩ := row_holds (n := 6) (hf _ (List.mem_of_getElem? (i := 2) rfl))
  obtain ⟨x3, q3, _⟩ := Shape.holds_int (n := 7) Try.underlying3 (hf _ (List.mem_of_getElem? (i := 3) rfl))
  obtain ⟨x4, q4⟩ := Shape.holds_bool (n := 7) Try.underlying4 (hf _ (List.mem_of_getElem? (i := 4) rfl))
  obtain ⟨x5, q5⟩ := Shape.holds_bool (n := 7) Try.underlying4 (hf _ (List.mem_of_getElem? (i := 5) rfl))
  obtain ⟨x6, q6, _⟩ := Shape.holds_int (n := 7) Try.underlying3 (hf _ (List.mem_of_getElem? (i := 6) rfl))
  obtain ⟨v7, xs7, b7, q7, r7⟩ := row_holds (n := 6) (hf _ (List.mem_of_getElem? (i := 7) rfl))
  obtain ⟨v8, xs8, b8, q8, r8⟩ := row_holds (n := 6) (hf _ (List.mem_of_getElem? (i := 8) rfl))
  obtain ⟨x9, q9, _⟩ := Shape.holds_int (n := 7) Try.underlying3 (hf _ (List.mem_of_getElem? (i := 9) rfl))
  simp [e1, eb, es] at q0 q1 q2 q3 q4 q5 q6 q7 q8 q9
  subst q0 q1 q2 q3 q4 q5 q6 q7 q8 q9
  exact ⟨_, ⟨xs0, x1, xs2, x3, x4, x5, x6, xs7, xs8, x9⟩, Array.ext' hc, ⟨_, _, _, _, b0, b2, b7, b8, rfl, r0, r2, r7, r8⟩⟩
end Go.Proofs.Ytlgpnogeoaoidaa.Mch
