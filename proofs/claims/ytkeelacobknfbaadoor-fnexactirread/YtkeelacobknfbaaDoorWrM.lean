/-
  Bytes that came in; where the program's errors stand.
-/
import Derived.Test.YtkeelacobknfbaaDoorRows
import Derived.Test.YtkeelacobknfbaaDoorShape
import Derived.Test.YtkeelacobknfbaaDoorWrJ
import Derived.Stop.LaidErr
namespace Go.Proofs.YtkeelacobknfbaaDoor.Wr
set_option linter.unusedVariables false
set_option linter.unusedSimpArgs false
open Go.ChangeShapes Go.WideShapes Go.ChangeAt Go.RowKit IntS Flat
open Ir Push
open Mch (Rec)
theorem list_ofY {P : Nat → Int → Prop} : ∀ n : Nat, (∀ i, i < n → ∃ x, P i x) → ∃ xs : List Int, xs.length = n ∧ ∀ (i : Nat) x, xs[i]? = some x → P i x
  | 0, _ => ⟨[], rfl, fun i x h => by simp at h⟩
  | n + 1, h => by
    obtain ⟨xs, hl, hx⟩ := list_ofY n (fun i hi => h i (by omega))
    obtain ⟨y, hy⟩ := h n (by omega)
    refine ⟨xs ++ [y], by simp [hl], fun i x hi => ?_⟩
    by_cases e : i < n
    · rw [List.getElem?_append_left (by omega)] at hi
      exact hx i x hi
    · rw [List.getElem?_append_right (by omega)] at hi
      have : i = n := by
        have := (List.getElem?_eq_some_iff.1 hi).1
        simp at this; omega
      subst this
      rw [hl, Nat.sub_self] at hi
      simp at hi
      rw [← hi]
      exact hy
set_option maxRecDepth 8000 in
theorem row_holdsY {w : World} {n : Nat} {cs : List Value} (h : Shape.Holds Tryd.prog w (n + 2) 22 cs) : ∃ v xs B, cs = [v] ∧ BytS.Row w B v xs ∧ (∀ y ∈ xs, 0 ≤ y ∧ y < 256) := by
  rcases Shape.holds_slice (n := n + 1) Tryd.underlying22 h with h | ⟨x, l, c, h, hl, hm, hx⟩
  · exact ⟨_, [], 0, h, ⟨none, 0, 0, rfl, Nat.le_refl _, by unfold maxLen; omega, fun _ => rfl, Or.inl rfl⟩, fun y hy => by simp at hy⟩
  · have hc (i : Nat) (hi : i < l) : ∃ v : Int, w.cell? (x.add i) = some (.int .u8 v) ∧ 0 ≤ v ∧ v < 256 := by
      obtain ⟨xs, h1, h2, h3⟩ := hx i (by omega)
      obtain ⟨v, rfl, hv⟩ := Shape.holds_int (n := n) Tryd.underlying5 h3
      have e1 : Tryd.prog.cellsOf 5 = 1 := by kernel_rfl
      have h4 := h2 0 (by rw [e1]; omega)
      rw [e1, Nat.mul_one, Nat.add_zero] at h4
      simp [Lit.wf, IntKind.min, IntKind.max, IntKind.signed, IntKind.bits] at hv
      exact ⟨v, h4, by omega, by omega⟩
    obtain ⟨xs, e, hxs⟩ := list_ofY l hc
    have hb : ∀ y ∈ xs, 0 ≤ y ∧ y < 256 := fun y hy => by
      obtain ⟨i, hi⟩ := List.mem_iff_getElem?.1 hy
      exact (hxs i y hi).2
    by_cases h0 : l = 0
    · subst h0
      have e0 := List.length_eq_zero_iff.1 e
      subst e0
      exact ⟨_, [], 0, h, ⟨some x, c, 0, rfl, Nat.zero_le _, hm, (fun h => by cases h), Or.inl rfl⟩, hb⟩
    · obtain ⟨b, o, spot⟩ := x
      obtain ⟨v0, hv0, -⟩ := hc 0 (by omega)
      have hspot : spot = none := by simpa [Addr.add] using World.cell?_spot hv0
      subst hspot
      refine ⟨_, xs, b, h, ⟨some ⟨b, o, none⟩, c, o, by rw [e], by omega, hm, (fun h => by cases h), Or.inr ⟨rfl, fun i x hi => ?_⟩⟩, hb⟩
      rw [← Go.WideShapes.add_plain]
      exact (hxs i x hi).1
theorem star : "*" ++ "errors.errorString" = "*errors.errorString" := by decide
theorem rowE (u : TypeId) (h : Tryd.prog.typeName? 3 u = some "*errors.errorString") : u = 121 :=
  typeName_ptr_named (nm := "errors.errorString") (by rw [star]; kernel_rfl) (by kernel_rfl) (by decide) u (by rw [star]; exact h)
theorem gFew : Tryd.prog.globalNamed "loop.example/latimer/impl.errTooFew" = some 4 := by kernel_rfl
theorem gMany : Tryd.prog.globalNamed "loop.example/latimer/impl.errTooMany" = some 2 := by kernel_rfl
theorem gNot : Tryd.prog.globalNamed "loop.example/latimer/impl.errNotOk" = some 3 := by kernel_rfl
set_option maxRecDepth 8000 in
theorem ers_of {w : World} (hL : laidMet Tryd.prog Rows.fnExactIrReadRow.laid w) : ∃ af am an, Ers w af am an := by
  obtain ⟨a1, s1, v1, -⟩ := laid_sentinel hL gFew (by kernel_rfl) Tryd.underlying61 rowE Tryd.underlying121 Tryd.underlying139 rfl rfl Tryd.underlying9 (by kernel_rfl) (by kernel_rfl)
  obtain ⟨a2, s2, v2, -⟩ := laid_sentinel hL.tail gMany (by kernel_rfl) Tryd.underlying61 rowE Tryd.underlying121 Tryd.underlying139 rfl rfl Tryd.underlying9 (by kernel_rfl) (by kernel_rfl)
  obtain ⟨a3, s3, v3, -⟩ := laid_sentinel hL.tail.tail gNot (by kernel_rfl) Tryd.underlying61 rowE Tryd.underlying121 Tryd.underlying139 rfl rfl Tryd.underlying9 (by kernel_rfl) (by kernel_rfl)
  exact ⟨a1, a2, a3, by simpa [evv] using World.var?_cell gFew v1 0, by simpa [evv] using World.var?_cell gMany v2 0, by simpa [evv] using World.var?_cell gNot v3 0⟩
end Go.Proofs.YtkeelacobknfbaaDoor.Wr
