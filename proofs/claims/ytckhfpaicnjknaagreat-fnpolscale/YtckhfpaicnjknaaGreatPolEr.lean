/-
  What is known of a part that is ok.
-/
import Derived.Test.YtckhfpaicnjknaaGreatJoC
import Derived.Test.YtckhfpaicnjknaaGreatPolMz
namespace Go.Proofs.YtckhfpaicnjknaaGreat.Pol
set_option linter.unusedVariables false
theorem getD_in {α : Type} (l : List α) (d : α) {k : Nat} (h : k < l.length) : l.getD k d = l[k] := by rw [List.getD_eq_getElem?_getD, List.getElem?_eq_getElem h]; rfl
theorem sort_self {xs : List Int} (h : xs.Pairwise (· ≤ ·)) : Srt.sortI xs = xs := by
  unfold Srt.sortI
  exact List.mergeSort_of_pairwise (h.imp fun h => decide_eq_true h)
theorem mono_good {m : Mono} (h : monoB m = true) : Fine m.2 ∧ (0 < m.1 ∧ m.1 < 65536) ∧ m.2.Pairwise (· ≤ ·) ∧ (∀ a ∈ m.2, 0 ≤ a ∧ a < 200) ∧ m.2.length ≤ 4 := by
  unfold monoB at h
  simp only [Bool.and_eq_true, decide_eq_true_eq] at h
  obtain ⟨⟨h1, h2⟩, h3⟩ := h
  have ha : ∀ a ∈ m.2, 0 ≤ a ∧ a < 200 := fun a ha => by
    obtain ⟨j, hj⟩ := List.getElem?_of_mem ha
    have h4 := all_at h3 (List.getElem?_eq_some_iff.1 hj).1
    simp only [Bool.and_eq_true] at h4
    have h5 := h4.1
    unfold atomAt at h5
    rw [List.getD_eq_getElem?_getD, hj] at h5
    exact of_decide_eq_true h5
  have hs : ∀ j, j + 1 < m.2.length → m.2.getD j 0 ≤ m.2.getD (j + 1) 0 := fun j hj => by
    have h4 := all_at h3 hj
    simp only [Bool.and_eq_true] at h4
    have h5 := h4.2
    unfold upAt at h5
    have h6 := of_decide_eq_true h5
    simpa using h6
  refine ⟨⟨fun a h => by have := ha a h; omega, by omega⟩, by omega, ?_, ha, h2⟩
  rw [List.pairwise_iff_getElem]
  intro i j hi hj hij
  induction j with
  | zero => omega
  | succ j ih =>
    have h6 := hs j hj
    rw [getD_in _ _ (by omega), getD_in _ _ hj] at h6
    by_cases e : i = j
    · subst e; exact h6
    · exact Int.le_trans (ih (by omega) (by omega)) h6
end Go.Proofs.YtckhfpaicnjknaaGreat.Pol
