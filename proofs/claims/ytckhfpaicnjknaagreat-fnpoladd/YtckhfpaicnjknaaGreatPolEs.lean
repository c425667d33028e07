/-
  Sums that are ok, as parts that are put together.
-/
import Derived.Test.YtckhfpaicnjknaaGreatJoF
import Derived.Test.YtckhfpaicnjknaaGreatPolEr
namespace Go.Proofs.YtckhfpaicnjknaaGreat.Pol
set_option linter.unusedVariables false
/-- What is known of the parts of a sum that is ok. -/
structure Good (ps : List Mono) : Prop where
  up : Up ps
  fine : ∀ m ∈ ps, Fine m.2 ∧ 0 < m.1 ∧ m.1 < 65536
  ris : ∀ m ∈ ps, m.2.Pairwise (· ≤ ·)
  at_ : ∀ m ∈ ps, ∀ a ∈ m.2, 0 ≤ a ∧ a < 200
  four : ∀ m ∈ ps, m.2.length ≤ 4
  many : ps.length ≤ 12
theorem ok_good {ps : List Mono} (h : okP ps = true) : Good ps := by
  have hm := ok_len h
  unfold okP at h
  simp only [Bool.and_eq_true] at h
  have hp : ∀ k (hk : k < ps.length), monoB ps[k] = true ∧ (k = 0 ∨ ordA (ps.getD (k - 1) (0, [])).2 ps[k].2 < 0) := fun k hk => by
    have h1 := all_at h.2 hk
    unfold partAt at h1
    simp only [Bool.and_eq_true, decide_eq_true_eq] at h1
    rw [getD_in _ _ hk] at h1
    exact h1
  have hg : ∀ m ∈ ps, monoB m = true := fun m hm => by
    obtain ⟨k, hk, rfl⟩ := List.getElem_of_mem hm
    exact (hp k hk).1
  refine ⟨?_, fun m hm => ⟨(mono_good (hg m hm)).1, (mono_good (hg m hm)).2.1⟩, fun m hm => (mono_good (hg m hm)).2.2.1, fun m hm => (mono_good (hg m hm)).2.2.2.1, fun m hm => (mono_good (hg m hm)).2.2.2.2, hm⟩
  show ps.Pairwise _
  rw [List.pairwise_iff_getElem]
  intro i j hi hj hij
  induction j with
  | zero => omega
  | succ j ih =>
    have h6 := (hp (j + 1) hj).2.resolve_left (by omega)
    rw [show j + 1 - 1 = j by omega, getD_in _ _ (by omega)] at h6
    have h7 := (ordT_lt (mono_good (hp j (by omega)).1).1 (mono_good (hp (j + 1) hj).1).1).1 h6
    by_cases e : i = j
    · subst e; exact h7
    · exact List.lt_trans (ih (by omega) (by omega)) h7
theorem Good.told {ps : List Mono} (h : Good ps) : Told ps ps := told_self h.up h.fine
/-- So many times each part. -/
def scaleE (n : Int) (ps : List Mono) : List Mono := ps.map fun x => (x.1 * n % 65536, x.2)
theorem scale_coef {n : Int} : ∀ {ps : List Mono}, Up ps → ∀ x, coefL (scaleL n ps) x = coefL (scaleE n ps) x
  | [], _, _ => rfl
  | m :: r, hu, x => by
    have ih := scale_coef (n := n) hu.of_cons x
    rw [scaleL, scaleE, List.map_cons]
    by_cases hc : 0 < m.1 * n % 65536
    · rw [if_pos hc, coefL, coefL, ih]
      rfl
    · rw [if_neg hc, coefL, ih]
      by_cases e : txt m.2 = x
      · have h0 : m.1 * n % 65536 = 0 := by omega
        rw [if_pos e]
        simp only []
        rw [h0, coef_none]
        intro z hz e2
        obtain ⟨y, hy, rfl⟩ := List.mem_map.1 hz
        have := List.rel_of_pairwise_cons hu hy
        simp only [] at e2
        rw [e, e2] at this
        exact List.lt_irrefl _ this
      · rw [if_neg e]
        rfl
theorem scale_all {n : Int} : ∀ {ps : List Mono}, ∀ x ∈ scaleL n ps, 0 < x.1 ∧ x.1 < 65536 ∧ ∃ y ∈ ps, x.2 = y.2
  | [], x, h => by cases h
  | m :: r, x, h => by
    rw [scaleL] at h
    by_cases hc : 0 < m.1 * n % 65536
    · rw [if_pos hc] at h
      rcases List.mem_cons.1 h with rfl | h
      · exact ⟨hc, by simp only []; omega, m, List.mem_cons_self .., rfl⟩
      · obtain ⟨h1, h2, y, hy, e⟩ := scale_all x h
        exact ⟨h1, h2, y, List.mem_cons_of_mem _ hy, e⟩
    · rw [if_neg hc] at h
      obtain ⟨h1, h2, y, hy, e⟩ := scale_all x h
      exact ⟨h1, h2, y, List.mem_cons_of_mem _ hy, e⟩
theorem scale_up {n : Int} : ∀ {ps : List Mono}, Up ps → Up (scaleL n ps)
  | [], _ => List.Pairwise.nil
  | m :: r, hu => by
    rw [scaleL]
    by_cases hc : 0 < m.1 * n % 65536
    · rw [if_pos hc]
      refine List.pairwise_cons.2 ⟨fun x hx => ?_, scale_up hu.of_cons⟩
      obtain ⟨_, _, y, hy, e⟩ := scale_all x hx
      rw [e]
      exact List.rel_of_pairwise_cons hu hy
    · rw [if_neg hc]
      exact scale_up hu.of_cons
theorem told_scale {n : Int} {ps : List Mono} (h : Good ps) : Told (scaleE n ps) (scaleL n ps) := by
  refine ⟨scale_up h.up, fun m hm => ?_, fun x => ?_⟩
  · obtain ⟨h1, h2, y, hy, e⟩ := scale_all m hm
    rw [e]
    exact ⟨(h.fine y hy).1, h1, h2⟩
  · rw [scale_coef h.up, tot_up]
    · exact List.pairwise_map.2 h.up
    · intro m hm
      obtain ⟨y, hy, rfl⟩ := List.mem_map.1 hm
      simp only []
      omega
theorem scale_fit {n : Int} {ps : List Mono} (h : Good ps) : fitB (scaleL n ps) = true ∧ fitP (scaleL n ps) = scaleL n ps := by
  refine fit_yes (Nat.le_trans (scale_len ps) h.many) (fun i x _ hx => ?_)
  obtain ⟨_, _, y, hy, e⟩ := scale_all x (List.mem_of_getElem? hx)
  rw [e]
  exact h.four y hy
theorem told_add : ∀ {qs es l : List Mono}, Told es l → (∀ m ∈ qs, Fine m.2 ∧ 0 < m.1 ∧ m.1 < 65536) → Told (es ++ qs) (addL l qs)
  | [], es, l, h, _ => by rw [List.append_nil, addL]; exact h
  | q :: qs, es, l, h, hq => by
    have h1 := told_add (h.plus (hq q (List.mem_cons_self ..))) (fun m hm => hq m (List.mem_cons_of_mem _ hm))
    rw [List.append_assoc] at h1
    rw [addL]
    exact h1
end Go.Proofs.YtckhfpaicnjknaaGreat.Pol
