/-
  A copy of ints appended to an empty slice, as a run; two more ints behind it.
-/
import Derived.Test.YtnhpmbhphbphaaaGreatMpC
import Derived.Test.YtnhpmbhphbphaaaGreatPushM
import Derived.Laws.OwnMore
namespace Go.Proofs.YtnhpmbhphbphaaaGreat.Mch
set_option linter.unusedVariables false
set_option linter.unusedSimpArgs false
open Go.ChangeShapes Go.WideShapes Go.ChangeAt Go.RowKit IntS
open Blk (OwnN)
theorem run_copy {w : World} {g : Nat} (hg : w.heap[g]? = some (.cells #[] 3 (0, 0))) {v : Value} {B : Nat} {xs : List Int} (hr : Row w B v xs) (hl : xs.length ≤ 1000000) (ty : TypeId) :
    ∃ g' cap' w', (Builtin.append_ #[23, 23] ty #[.slice (some ⟨g, 0, none⟩) 0 0, v]).run Tryz.prog w = .ok (.slice (some ⟨g', 0, none⟩) xs.length cap') w' ∧ OwnN w' g (.slice (some ⟨g', 0, none⟩) xs.length cap') xs ∧ Turn g w w' := by
  obtain ⟨i0, hi, hz, hsz, hby⟩ := info_int
  have hown := own_empty hg
  have hlt : g < w.heap.size := by
    rcases Nat.lt_or_ge g w.heap.size with h' | h'
    · exact h'
    · rw [Array.getElem?_eq_none h'] at hg; cases hg
  have key (ad : Addr) (c : Nat) (hv : v = .slice (some ad) xs.length c) (hc : ∀ j u, (vals xs)[j]? = some u → w.cell? (ad.add j) = some u) : ∃ g' cap' w', (Builtin.append_ #[23, 23] ty #[.slice (some ⟨g, 0, none⟩) 0 0, v]).run Tryz.prog w = .ok (.slice (some ⟨g', 0, none⟩) xs.length cap') w' ∧ OwnN w' g (.slice (some ⟨g', 0, none⟩) xs.length cap') xs ∧ Turn g w w' := by
    obtain ⟨v', w', hrun, h1, h2, h3⟩ := run_append_own (P := Tryz.prog) w g 23 ty 3 i0 (.int .i64 0) 1 8 Tryz.underlying23 hi hz hsz hby rfl (by decide) (.slice (some ⟨g, 0, none⟩) 0 0) 0 [] hown ad xs.length c (vals xs) (by rw [vals_len]; omega) hc (fun u hu => by obtain ⟨y, _, rfl⟩ := List.mem_map.1 hu; rfl) (by unfold maxLen; omega) (by omega) (Nat.le_of_lt hlt)
    have hne : ¬ v' = .slice none 0 0 := fun e => by cases (h3.1 e).1
    have h1' : Own w' g v' xs := by
      unfold Own
      rw [Nat.zero_add, List.nil_append] at h1
      exact h1
    obtain ⟨g', cap', rfl, k1, k2, k3⟩ := h1'.form hne
    subst hv
    exact ⟨g', cap', w', hrun, h1', Turn.of_grown h2⟩
  obtain ⟨a0, cap, off, hv, h2, h3, hz0, h4⟩ := hr
  cases a0 with
  | none =>
    have hc0 := hz0 rfl
    subst hc0
    have hx0 : xs = [] := List.length_eq_zero_iff.1 (by omega)
    subst hx0
    subst hv
    obtain ⟨g', cap', e, k1, k2, k3⟩ := hown.form (fun e => by cases e)
    cases e
    exact ⟨g, 0, w, run_append_owned_none w g 23 ty 3 i0 1 Tryz.underlying23 hi (.slice (some ⟨g, 0, none⟩) 0 0) 0 [] hown, hown, Turn.refl _ _⟩
  | some ad =>
    rcases h4 with h4 | ⟨h4, h5⟩
    · subst h4
      exact key ad cap hv (fun j u hu => by simp [vals] at hu)
    · refine key ad cap hv (fun j u hu => ?_)
      cases h4
      rw [Go.WideShapes.add_plain]
      simp only [vals, List.getElem?_map, Option.map_eq_some_iff] at hu
      obtain ⟨y, hy, rfl⟩ := hu
      exact h5 j y hy
/-- The last append: what comes of it. -/
theorem run_two {w d : World} {lo g cap n Z : Nat} {xs : List Int} {a b : Int} {bs : List (Nat × List Value × M)} {rs : List (Nat × Value × List Int)} (S : Sit d bs rs w) (ho : OwnN w lo (.slice (some ⟨g, 0, none⟩) n cap) xs) (hl : xs.length = n) (hn : n ≤ 1000) (hlo : lo ≤ w.heap.size) (hb : Below lo w w → True)
    (S2 : ∀ u, Below lo w u → Sit d bs rs u) (c0 : w.cell? ⟨Z, 0, none⟩ = some (.int .i64 a)) (c1 : w.cell? ⟨Z, 1, none⟩ = some (.int .i64 b)) (ty : TypeId) :
    ∃ g' cap' w' B, (Builtin.append_ #[23, 23] ty #[.slice (some ⟨g, 0, none⟩) n cap, .slice (some ⟨Z, 0, none⟩) 2 2]).run Tryz.prog w = .ok (.slice (some ⟨g', 0, none⟩) (n + 2) cap') w' ∧ Row w' B (.slice (some ⟨g', 0, none⟩) (n + 2) cap') (xs ++ [a, b]) ∧ Sit d bs rs w' := by
  obtain ⟨g', cap', w', T, h1, h2, h3, h4⟩ := PushM.pushN (ty := ty) ho hl (by omega) hlo Z 2 2 [a, b] rfl (by omega) (by omega) (fun j x hx => by
    match j, hx with
    | 0, hx => cases hx; exact c0
    | 1, hx => cases hx; exact c1
    | j + 2, hx => simp at hx)
  obtain ⟨B, hw, _⟩ := Flat.OwnF.wrow h2 _ (Nat.le_refl _)
  exact ⟨g', cap', w', B, h1, (Blk.row_of_flat hw).row, S2 _ (h3.below h4 hlo)⟩
theorem heap_lt {w : World} {g : Nat} {o : Obj} (h : w.heap[g]? = some o) : g < w.heap.size := by
  rcases Nat.lt_or_ge g w.heap.size with h' | h'
  · exact h'
  · rw [Array.getElem?_eq_none h'] at h; cases h
theorem heap_keep {w : World} {g : Nat} {o : Obj} (h : w.heap[g]? = some o) (o' : Obj) : (w.alloc o').heap[g]? = some o :=
  (((Below.refl _ w).alloc (Nat.le_refl _) o').block g (heap_lt h)).trans h
theorem late_same {m : M} (ok : okM m = true) (irqs : List Int) {n : Nat} (hn : n ≤ 400) : runOf m (irqs ++ [m.count + (n : Int), m.count - 1]) (n : Int) = runOf m irqs (n : Int) := by
  rw [run_of ok _ hn, run_of ok _ hn]
  exact (run_late irqs _ n m ok fun c h1 h2 => has_more (by omega) (by omega)).symm
end Go.Proofs.YtnhpmbhphbphaaaGreat.Mch
