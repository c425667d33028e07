/-
  Products as parts that are put together.
-/
import Derived.Test.YtckhfpaicnjknaaGreatPolEs
import Derived.Test.YtckhfpaicnjknaaGreatPolDD
namespace Go.Proofs.YtckhfpaicnjknaaGreat.Pol
set_option linter.unusedVariables false
theorem merge_left : ∀ ys : List Int, mergeL [] ys = ys
  | [] => by rw [mergeL]
  | y :: r => by rw [mergeL, merge_left r]
theorem merge_is : ∀ xs ys : List Int, mergeL xs ys = List.merge xs ys (fun a b => decide (a ≤ b))
  | [], ys => by rw [List.nil_merge, merge_left]
  | x :: xs, [] => by rw [merge_nil, List.merge_right]
  | x :: xs, y :: ys => by
    rw [List.cons_merge_cons, mergeL]
    by_cases h : x ≤ y
    · rw [if_pos h, if_pos (decide_eq_true h), merge_is xs (y :: ys)]
    · rw [if_neg h, if_neg (by simpa using h), merge_is (x :: xs) ys]
termination_by xs ys => xs.length + ys.length
theorem merge_sort {xs ys : List Int} (hx : xs.Pairwise (· ≤ ·)) (hy : ys.Pairwise (· ≤ ·)) : Srt.sortI (xs ++ ys) = mergeL xs ys := by
  have tr : ∀ a b c : Int, decide (a ≤ b) = true → decide (b ≤ c) = true → decide (a ≤ c) = true := fun a b c h1 h2 => by simp only [decide_eq_true_eq] at *; omega
  have to : ∀ a b : Int, (decide (a ≤ b) || decide (b ≤ a)) = true := fun a b => by simp only [Bool.or_eq_true, decide_eq_true_eq]; omega
  unfold Srt.sortI
  rw [merge_is]
  refine List.Perm.eq_of_pairwise (le := fun a b => decide (a ≤ b) = true) (fun a b _ _ h1 h2 => by simp only [decide_eq_true_eq] at *; omega) (List.pairwise_mergeSort tr to _) (List.pairwise_merge tr to _ _ (hx.imp fun h => decide_eq_true h) (hy.imp fun h => decide_eq_true h)) ((List.mergeSort_perm _ _).trans (List.merge_perm_append _).symm)
theorem merge_mem {xs ys : List Int} {a : Int} : a ∈ mergeL xs ys ↔ a ∈ xs ∨ a ∈ ys := by
  rw [merge_is, (List.merge_perm_append _).mem_iff, List.mem_append]
/-- A part times each part of a sum. -/
def prodE (x : Mono) (qs : List Mono) : List Mono := qs.map fun y => (x.1 * y.1 % 65536, mergeL x.2 y.2)
def esM (qs : List Mono) (ps : List Mono) : List Mono := ps.flatMap fun x => prodE x qs
theorem merge_fine {x y : Mono} (hx : ∀ a ∈ x.2, 0 ≤ a ∧ a < 200) (hy : ∀ a ∈ y.2, 0 ≤ a ∧ a < 200) (lx : x.2.length ≤ 4) (ly : y.2.length ≤ 4) : Fine (mergeL x.2 y.2) :=
  ⟨fun a ha => by rcases merge_mem.1 ha with h | h; have := hx a h; omega; have := hy a h; omega, by rw [merge_len]; omega⟩
theorem told_row {x : Mono} (hx : ∀ a ∈ x.2, 0 ≤ a ∧ a < 200) (lx : x.2.length ≤ 4) : ∀ {qs es l : List Mono}, (∀ m ∈ qs, (∀ a ∈ m.2, 0 ≤ a ∧ a < 200) ∧ m.2.length ≤ 4) → Told es l → Told (es ++ prodE x qs) (mulR x l qs)
  | [], es, l, _, h => by rw [prodE, List.map_nil, List.append_nil, mulR]; exact h
  | y :: qs, es, l, hq, h => by
    have hy := hq y (List.mem_cons_self ..)
    have hr : ∀ m ∈ qs, (∀ a ∈ m.2, 0 ≤ a ∧ a < 200) ∧ m.2.length ≤ 4 := fun m hm => hq m (List.mem_cons_of_mem _ hm)
    have e : es ++ prodE x (y :: qs) = (es ++ [(x.1 * y.1 % 65536, mergeL x.2 y.2)]) ++ prodE x qs := by
      unfold prodE
      rw [List.map_cons, List.append_assoc]
      rfl
    rw [e, mulR]
    by_cases hc : 0 < x.1 * y.1 % 65536
    · rw [if_pos hc]
      exact told_row hx lx hr (h.plus ⟨merge_fine hx hy.1 lx hy.2, hc, by simp only []; omega⟩)
    · rw [if_neg hc]
      have h0 : x.1 * y.1 % 65536 = 0 := by omega
      rw [h0]
      exact told_row hx lx hr (h.zero _)
theorem told_mul {qs : List Mono} (gq : Good qs) : ∀ {ps es l : List Mono}, (∀ m ∈ ps, (∀ a ∈ m.2, 0 ≤ a ∧ a < 200) ∧ m.2.length ≤ 4) → Told es l → Told (es ++ esM qs ps) (mulL qs l ps)
  | [], es, l, _, h => by rw [esM, List.flatMap_nil, List.append_nil, mulL]; exact h
  | x :: ps, es, l, hp, h => by
    have hx := hp x (List.mem_cons_self ..)
    have h1 := told_row hx.1 hx.2 (qs := qs) (fun m hm => ⟨gq.at_ m hm, gq.four m hm⟩) h
    have h2 := told_mul gq (ps := ps) (fun m hm => hp m (List.mem_cons_of_mem _ hm)) h1
    rw [List.append_assoc] at h2
    rw [mulL]
    unfold esM at h2 ⊢
    rw [List.flatMap_cons]
    exact h2
theorem esM_len (qs : List Mono) : ∀ ps : List Mono, (esM qs ps).length = ps.length * qs.length
  | [] => by simp [esM]
  | x :: ps => by
    have := esM_len qs ps
    unfold esM at this ⊢
    rw [List.flatMap_cons, List.length_append, this, prodE, List.length_map, List.length_cons, Nat.succ_mul]
    omega
theorem esM_mem {qs ps : List Mono} (gp : ∀ m ∈ ps, m.2.length ≤ 4) (gq : ∀ m ∈ qs, m.2.length ≤ 4) {m : Mono} (h : m ∈ esM qs ps) : m.2.length < 256 := by
  obtain ⟨x, hx, h1⟩ := List.mem_flatMap.1 h
  obtain ⟨y, hy, rfl⟩ := List.mem_map.1 h1
  have := gp x hx
  have := gq y hy
  show (mergeL x.2 y.2).length < 256
  rw [merge_len]
  omega
theorem esM_next {qs ps : List Mono} {k : Nat} {x : Mono} (h : ps[k]? = some x) : esM qs (ps.take (k + 1)) = esM qs (ps.take k) ++ prodE x qs := by
  unfold esM
  rw [List.take_add_one, h, List.flatMap_append]
  simp
theorem prod_next {qs : List Mono} {k : Nat} {x y : Mono} (h : qs[k]? = some y) : prodE x (qs.take (k + 1)) = prodE x (qs.take k) ++ [(x.1 * y.1 % 65536, mergeL x.2 y.2)] := by
  unfold prodE
  rw [List.take_add_one, h, List.map_append]
  rfl
end Go.Proofs.YtckhfpaicnjknaaGreat.Pol
