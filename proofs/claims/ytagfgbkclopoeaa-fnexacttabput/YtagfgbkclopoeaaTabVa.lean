/-
  A word at a place: both sides.
-/
import Derived.Test.YtagfgbkclopoeaaTabU
import Derived.Test.YtagfgbkclopoeaaPolV
namespace Go.Proofs.Ytagfgbkclopoeaa.Tab
set_option linter.unusedVariables false
open Go.ChangeShapes Go.WideShapes Go.ChangeAt Go.RowKit IntS Pol
/-- The word at a place; 0, if there is none. -/
def atI (xs : List Int) (k : Int) : Int := if 0 ≤ k ∧ k < xs.length then xs.getD k.toNat 0 else 0
theorem at_no {xs : List Int} {k : Int} (h : ¬ (0 ≤ k ∧ k < xs.length)) : atI xs k = 0 := if_neg h
theorem at_yes {xs : List Int} {k : Nat} {x : Int} (h : xs[k]? = some x) : atI xs k = x := by
  have := (List.getElem?_eq_some_iff.1 h).1
  unfold atI
  rw [if_pos (by omega), Int.toNat_natCast]
  exact getD_at h
set_option maxHeartbeats 4000000 in
theorem wordAt (xs : List Int) (k : Int) (hk0 : 0 ≤ k) (hk1 : k ≤ 1000) (B : Nat) (v : Value) (w : World) (h : Row w B v xs) :
    Calls Try.prog 45 #[v, .int .i64 k] w fun e w' => e = .returned (.int .i64 (atI xs k)) ∧ w' = w := by
  obtain ⟨a, cap, off, rfl, h2, h3, hz, h4⟩ := h
  unfold maxLen at h3
  obtain ⟨k, rfl⟩ := Int.eq_ofNat_of_zero_le hk0
  by_cases hlt : k < xs.length
  · obtain ⟨x, ex⟩ : ∃ x, xs[k]? = some x := ⟨_, List.getElem?_eq_getElem hlt⟩
    obtain ⟨rfl, hc⟩ := h4.resolve_left (fun e => by rw [e] at ex; simp at ex)
    have cx := hc k x ex
    have HD := hide (at_yes ex)
    clear hc ex hz
    generalize xs.length = n at *
    have lk : ((k : Nat) : Int) < (n : Nat) := by omega
    go_enter Try.func45, Try.ntmps45
    go_wp2
    go_ret
    exact ⟨Wrd.ret_int HD.out.symm, rfl⟩
  · have HD := hide (at_no (xs := xs) (k := k) (by omega))
    clear h4 hz
    generalize xs.length = n at *
    have lk : ¬ ((k : Nat) : Int) < (n : Nat) := by omega
    go_enter Try.func45, Try.ntmps45
    go_wp2
    go_ret
    exact ⟨Wrd.ret_int HD.out.symm, rfl⟩
set_option maxHeartbeats 4000000 in
theorem l5At (xs : List Int) (k : Int) (hk0 : 0 ≤ k) (hk1 : k ≤ 1000) (B : Nat) (v : Value) (w : World) (h : Row w B v xs) :
    Calls Try.prog 40 #[v, .int .i64 k] w fun e w' => e = .returned (.int .i64 (atI xs k)) ∧ w' = w := by
  obtain ⟨a, cap, off, rfl, h2, h3, hz, h4⟩ := h
  unfold maxLen at h3
  obtain ⟨k, rfl⟩ := Int.eq_ofNat_of_zero_le hk0
  have k0 : ¬ ((k : Nat) : Int) < 0 := by omega
  by_cases hlt : k < xs.length
  · obtain ⟨x, ex⟩ : ∃ x, xs[k]? = some x := ⟨_, List.getElem?_eq_getElem hlt⟩
    obtain ⟨rfl, hc⟩ := h4.resolve_left (fun e => by rw [e] at ex; simp at ex)
    have cx := hc k x ex
    have HD := hide (at_yes ex)
    clear hc ex hz
    generalize xs.length = n at *
    have lk : ((k : Nat) : Int) < (n : Nat) := by omega
    go_enter Try.func40, Try.ntmps40
    go_wp2
    go_ret
    exact ⟨Wrd.ret_int HD.out.symm, rfl⟩
  · have HD := hide (at_no (xs := xs) (k := k) (by omega))
    clear h4 hz
    generalize xs.length = n at *
    have lk : ¬ ((k : Nat) : Int) < (n : Nat) := by omega
    go_enter Try.func40, Try.ntmps40
    go_wp2
    go_ret
    exact ⟨Wrd.ret_int HD.out.symm, rfl⟩
end Go.Proofs.Ytagfgbkclopoeaa.Tab
