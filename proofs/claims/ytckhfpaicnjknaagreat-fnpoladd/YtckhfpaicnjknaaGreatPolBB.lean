/-
  Two lists of atoms as one, in order: the specification's l4Merge.
-/
import Derived.Test.YtckhfpaicnjknaaGreatPolAA
namespace Go.Proofs.YtckhfpaicnjknaaGreat.Pol
set_option linter.unusedVariables false
open Go.ChangeShapes Go.WideShapes Go.ChangeAt Go.RowKit IntS
def mergeL : List Int → List Int → List Int
  | xs, [] => xs
  | [], y :: r => y :: mergeL [] r
  | x :: s, y :: r => if x ≤ y then x :: mergeL s (y :: r) else y :: mergeL (x :: s) r
termination_by xs ys => xs.length + ys.length
theorem merge_nil (xs : List Int) : mergeL xs [] = xs := by cases xs <;> rw [mergeL]
theorem merge_end {xs ys : List Int} {i k : Nat} (h : ys.length ≤ k) : mergeL (xs.drop i) (ys.drop k) = xs.drop i := by rw [List.drop_eq_nil_of_le h, merge_nil]
theorem merge_take {xs ys : List Int} {i k : Nat} {x y : Int} (hx : xs[i]? = some x) (hy : ys[k]? = some y) (h : x ≤ y) : mergeL (xs.drop i) (ys.drop k) = x :: mergeL (xs.drop (i + 1)) (ys.drop k) := by
  rw [drop_cons hx, drop_cons hy, mergeL, if_pos h]
theorem merge_put {xs ys : List Int} {i k : Nat} {x y : Int} (hx : xs[i]? = some x) (hy : ys[k]? = some y) (h : ¬ x ≤ y) : mergeL (xs.drop i) (ys.drop k) = y :: mergeL (xs.drop i) (ys.drop (k + 1)) := by
  rw [drop_cons hx, drop_cons hy, mergeL, if_neg h]
theorem merge_rest {xs ys : List Int} {i k : Nat} {y : Int} (hx : xs.length ≤ i) (hy : ys[k]? = some y) : mergeL (xs.drop i) (ys.drop k) = y :: mergeL (xs.drop i) (ys.drop (k + 1)) := by
  rw [List.drop_eq_nil_of_le hx, drop_cons hy, mergeL]
theorem merge_len : ∀ xs ys : List Int, (mergeL xs ys).length = xs.length + ys.length
  | xs, [] => by rw [merge_nil]; rfl
  | [], y :: r => by rw [mergeL, List.length_cons, merge_len [] r]; simp
  | x :: s, y :: r => by
    rw [mergeL]
    split
    · rw [List.length_cons, merge_len s (y :: r)]; simp; omega
    · rw [List.length_cons, merge_len (x :: s) r]; simp; omega
termination_by xs ys => xs.length + ys.length
/-- A row of ints appended to a list that the call made. -/
theorem wpList_join {w : World} {ops : Array Oper} {rest : List Oper} {o : Oper} {a : Act} {Q : Exit → Act → World → Prop} (hgd : o.guard = none) (s x : Operand)
    (ho : o.op = .call { callee := .builtin .append, args := #[s, x], argTypes := #[28, 28] })
    (lo b cap0 : Nat) (ys : List Int) (hs : a.eval s = .slice (some ⟨b, 0, none⟩) ys.length cap0) (hown : IntS.Own w lo (.slice (some ⟨b, 0, none⟩) ys.length cap0) ys) (hlo : lo ≤ w.heap.size)
    (v : Value) (B : Nat) (xs : List Int) (hx : a.eval x = v) (hr : Row w B v xs) (hl : xs.length ≤ 1000000) (hl2 : ys.length ≤ 1000000)
    (h : ∀ (g' cap' : Nat) (w' : World), Hid (Row w' g' (.slice (some ⟨g', 0, none⟩) (ys ++ xs).length cap') (ys ++ xs)) → Hid (Turn b w w') →
      wpList Tryz.prog ops Q rest (a.put o.dst (.slice (some ⟨g', 0, none⟩) (ys ++ xs).length cap')) w') : wpList Tryz.prog ops Q (o :: rest) a w := by
  obtain ⟨i0, hi, hz, hsz, hby⟩ := info_int
  have key (ad : Addr) (m c : Nat) (hv : v = .slice (some ad) m c) (hm : xs.length = m) (hc : ∀ j u, (vals xs)[j]? = some u → w.cell? (ad.add j) = some u) : wpList Tryz.prog ops Q (o :: rest) a w := by
    subst hm
    refine wpList_append_own w hgd s x 28 ho lo 3 i0 (.int .i64 0) 1 8 Tryz.underlying28 hi hz hsz hby rfl (by decide) (.slice (some ⟨b, 0, none⟩) ys.length cap0) ys.length (vals ys) hs hown ad xs.length c (vals xs) (hx.trans hv) (by rw [vals_len]; omega) hc (fun u hu => ?_) (by unfold maxLen; omega) (by omega) hlo (fun v' w' h1 h2 h3 => ?_)
    · obtain ⟨y, _, rfl⟩ := List.mem_map.1 hu
      rfl
    · have hne : ¬ v' = .slice none 0 0 := fun e => by cases (h3.1 e).1
      have h1' : IntS.Own w' lo v' (ys ++ xs) := by
        unfold IntS.Own
        rw [List.length_append, show vals (ys ++ xs) = vals ys ++ vals xs by simp [vals]]
        exact h1
      obtain ⟨g', cap', rfl, k1, k2, k3⟩ := h1'.form hne
      exact h g' cap' w' (hide k3.row) (hide (Turn.of_grown h2))
  obtain ⟨a0, cap, off, hv, h2, h3, hz0, h4⟩ := hr
  cases a0 with
  | none =>
    have hc0 := hz0 rfl
    subst hc0
    have hx0 : xs = [] := List.length_eq_zero_iff.1 (by omega)
    subst hx0
    refine wpList_append_own_none hgd s x 28 ho lo 3 i0 1 Tryz.underlying28 hi (.slice (some ⟨b, 0, none⟩) ys.length cap0) ys.length (vals ys) hs hown (hx.trans hv) ?_
    obtain ⟨g', cap', e, k1, k2, k3⟩ := hown.form (fun e => by cases e)
    cases e
    have := h b cap0 w (hide (by rw [List.append_nil]; exact k3.row)) (hide (Turn.refl _ _))
    rw [List.append_nil] at this
    exact this
  | some ad =>
    rcases h4 with h4 | ⟨h4, h5⟩
    · subst h4
      exact key ad 0 cap hv rfl (fun j u hu => by simp [vals] at hu)
    · refine key ad xs.length cap hv rfl (fun j u hu => ?_)
      cases h4
      rw [Go.WideShapes.add_plain]
      simp only [vals, List.getElem?_map, Option.map_eq_some_iff] at hu
      obtain ⟨y, hy, rfl⟩ := hu
      exact h5 j y hy
end Go.Proofs.YtckhfpaicnjknaaGreat.Pol
