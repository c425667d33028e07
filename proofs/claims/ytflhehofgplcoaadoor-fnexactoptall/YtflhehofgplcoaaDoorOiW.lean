/-
  Our own hand's ways: what is reckoned ahead.
-/
import Derived.Test.YtflhehofgplcoaaDoorOiD
namespace Go.Proofs.YtflhehofgplcoaaDoor.Op
set_option linter.unusedVariables false
set_option linter.unusedSimpArgs false
open Go.ChangeShapes Go.WideShapes Go.ChangeAt Go.RowKit IntS Flat Irk
open Ir Dt
open Mch (Rec)
open Pol (Keep)
theorem ob_told {w : World} {A : Nat → Prop} {q : Option Addr} {n c : Nat} {b : Bk} (h : Ob w q n c b.ops) (hA : ∀ g, q = some ⟨g, 0, none⟩ → A g) : blkR.ow w A [.int .i64 b.pc, .int .i64 b.ln, .slice q n c, .int .i64 b.en, .int .i64 b.x, .int .i64 b.y, .int .i64 b.k] (toT b) := by
  rcases h with ⟨rfl, rfl, rfl, e⟩ | ⟨g, rfl, k⟩
  · refine ⟨0, ⟨none, 0, ?_, ?_⟩, Or.inl e⟩
    · show _ = bv b (.slice _ b.ops.length 0)
      rw [e]
      rfl
    · show WORow w 0 (.slice none b.ops.length 0) b.ops
      rw [e]
      exact ⟨none, 0, 0, rfl, Nat.le_refl _, by unfold maxLen; omega, fun _ => rfl, Or.inl rfl⟩
  · exact Ow.told k (hA g rfl)
def cstF (b : Bk) : Bk := foldB ⟨b.pc, b.ln, constL b.ops b.ops.length, b.en, b.x, b.y, b.k⟩
theorem cst_eq {b : Bk} (h : okB b = true) : constB b = cstF b := by unfold constB; rw [if_pos h]; rfl
theorem noConst {b : Bk} (h : okB b = false) : constB b = nilB := by unfold constB; rw [h]; rfl
theorem lenConst (b : Bk) : (constB b).ops.length ≤ b.ops.length := by
  unfold constB
  split
  · rw [fold_ops]; simp only [constL_len]; exact Nat.le_refl _
  · exact Nat.zero_le _
theorem cstWay : Way 42 cstF where
  en := fun args w => by kernel_rfl
  ok := fun b h => by rw [← cst_eq h]; exact const_ok h
  go := fun b Z q n c w _ h hok => reckonAhead b Z q n c w h hok
end Go.Proofs.YtflhehofgplcoaaDoor.Op
