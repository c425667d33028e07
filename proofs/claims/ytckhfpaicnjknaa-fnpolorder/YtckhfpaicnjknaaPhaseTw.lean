/-
  A drawn region at which two operations may come up; a region cut off from what follows it.
-/
import Derived.Test.YtckhfpaicnjknaaPhaseIn
namespace Go.Proofs.Ytckhfpaicnjknaa.PhaseIn
open Go
section
variable {P : Program} {ops : Array Oper} {Q : Exit → Act → World → Prop} {md : Region.Mode} {S : World → Prop} {n : Nat}
theorem two {i j : Nat} {oi oj : Oper} {fuel : Nat} {listed : Array Bool} {a : Act} {w : World} (hr : Region.ready md ops listed = [i, j]) (hi : ops[i]? = some oi) (hj : ops[j]? = some oj) (hwi : Region.wanted oi (yielded ops a.tmps) = true) (hwj : Region.wanted oj (yielded ops a.tmps) = true)
    (h1 : ∀ K : Act → World → Prop, (∀ a' w', (i < n → S w') → wpAnyW P md ops Q S n fuel (listed.setIfInBounds i true) a' w' → K a' w') → Oper.wpIn Fence.wide 0 P oi a w K Q)
    (h2 : ∀ K : Act → World → Prop, (∀ a' w', (j < n → S w') → wpAnyW P md ops Q S n fuel (listed.setIfInBounds j true) a' w' → K a' w') → Oper.wpIn Fence.wide 0 P oj a w K Q) : wpAnyW P md ops Q S n (fuel + 1) listed a w := by
  refine ⟨fun h0 => (by rw [hr] at h0; cases h0), fun k hk => ?_⟩
  rw [hr] at hk
  have hk2 : k = i ∨ k = j := by simpa using hk
  rcases hk2 with rfl | rfl
  · unfold wpOpIn
    simp only [hi]
    rw [if_pos hwi]
    exact h1 _ (fun a' w' h1 h2 => ⟨h1, h2⟩)
  · unfold wpOpIn
    simp only [hj]
    rw [if_pos hwj]
    exact h2 _ (fun a' w' h1 h2 => ⟨h1, h2⟩)
/-- Only what falls off its end, and then so. -/
def onlyN (R : Act → World → Prop) : Exit → Act → World → Prop
  | .normal, a, w => R a w
  | _, _, _ => False
theorem cut {c : Code} {a : Act} {w : World} (R : Act → World → Prop) (h : c.wpIn Fence.wide 0 P (onlyN R) a w) (hq : ∀ a' w', R a' w' → Q .normal a' w') : c.wp P Q a w := by
  refine (wpIn_wide (n := 0)).1 (wpIn_mono h fun e a' w' he => ?_)
  cases e <;> first | exact hq a' w' he | exact he.elim
end
end Go.Proofs.Ytckhfpaicnjknaa.PhaseIn
