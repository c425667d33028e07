/-
  Whether all of so many are true; lists that are the same one by one.
-/
import Derived.Test.YthlpndligadnjaaShape
namespace Go.Proofs.Ythlpndligadnjaa.Ir
/-- Whether all of so many are true. -/
def allB (n : Nat) (f : Nat → Bool) : Bool := (List.range n).all f
theorem allB_true {n : Nat} {f : Nat → Bool} (h : ∀ i, i < n → f i = true) : allB n f = true := by
  unfold allB
  rw [List.all_eq_true]
  exact fun i hi => h i (List.mem_range.1 hi)
theorem allB_false {n k : Nat} {f : Nat → Bool} (hk : k < n) (h : f k = false) : allB n f = false := by
  unfold allB
  rw [List.all_eq_false]
  exact ⟨k, List.mem_range.2 hk, by rw [h]; decide⟩
/-- Whether what stands at a place of two lists is the same. -/
def pairB {α : Type} (eq : α → α → Bool) (ls bs : List α) (i : Nat) : Bool := match ls[i]?, bs[i]? with
  | some x, some y => eq x y
  | _, _ => false
theorem pairB_at {α : Type} {eq : α → α → Bool} {ls bs : List α} {i : Nat} {x y : α} (h : ls[i]? = some x) (h' : bs[i]? = some y) : pairB eq ls bs i = eq x y := by unfold pairB; rw [h, h']
/-- Whether two lists are the same, one by one. -/
def sameL {α : Type} (eq : α → α → Bool) (ls bs : List α) : Bool := decide (ls.length = bs.length) && allB ls.length (pairB eq ls bs)
end Go.Proofs.Ythlpndligadnjaa.Ir
