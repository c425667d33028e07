/-
  How many places differ; where a machine's lists lie.
-/
import Derived.Test.YtnhpmbhphbphaaaGreatSit
import Derived.Test.YtnhpmbhphbphaaaGreatMpB
namespace Go.Proofs.YtnhpmbhphbphaaaGreat.Mch
set_option linter.unusedVariables false
set_option linter.unusedSimpArgs false
open Go.ChangeShapes Go.WideShapes Go.ChangeAt Go.RowKit IntS
/-- At how many of the first places two lists differ. -/
def diffN (xs ys : List Int) : Nat → Nat
  | 0 => 0
  | k + 1 => diffN xs ys k + if xs[k]? = ys[k]? then 0 else 1
theorem diff_le (xs ys : List Int) : ∀ k, diffN xs ys k ≤ k
  | 0 => Nat.le_refl _
  | k + 1 => by
    have := diff_le xs ys k
    unfold diffN
    split <;> omega
theorem diff_self (xs : List Int) : ∀ k, diffN xs xs k = 0
  | 0 => rfl
  | k + 1 => by unfold diffN; rw [diff_self xs k, if_pos rfl]
theorem diff_set (ys : List Int) (d : Nat) (n : Int) : ∀ k, diffN (ys.set d n) ys k ≤ (if d < k then 1 else 0)
  | 0 => Nat.le_refl _
  | k + 1 => by
    have := diff_set ys d n k
    unfold diffN
    by_cases e : d = k
    · subst e
      rw [if_neg (Nat.lt_irrefl _)] at this
      rw [if_pos (Nat.lt_succ_self _)]
      split <;> omega
    · rw [List.getElem?_set_ne e, if_pos rfl]
      split at this
      · rw [if_pos (by omega)]; omega
      · rw [if_neg (by omega)]; omega
theorem diff_one (ys : List Int) (d : Nat) (n : Int) (k : Nat) : diffN (ys.set d n) ys k ≤ 1 := by
  have := diff_set ys d n k
  split at this <;> omega
theorem step_diff {m : M} (ok : okM m = true) (irq : Bool) : diffN (stepM m irq).regs m.regs 4 + diffN (stepM m irq).mem m.mem 64 ≤ 1 := by
  rcases (step_did ok irq).2.2 with ⟨h1, h2 | ⟨d, n, h2⟩⟩ | ⟨h1, d, n, h2⟩
  · rw [h1, h2, diff_self, diff_self]; omega
  · rw [h1, h2, diff_self]
    have := diff_one m.regs d n 4
    omega
  · rw [h1, h2, diff_self]
    have := diff_one m.mem d n 64
    omega
theorem row_some {w : World} {B n k : Nat} {q : Option Addr} {xs : List Int} (h : Row w B (.slice q n k) xs) (hx : xs ≠ []) : ∃ o, q = some ⟨B, o, none⟩ := by
  obtain ⟨a, cap, off, hv, _, _, _, h4⟩ := h
  cases hv
  rcases h4 with h4 | ⟨h4, _⟩
  · exact absurd h4 hx
  · exact ⟨off, h4⟩
theorem row_cell {w : World} {B b o n k : Nat} {xs : List Int} (h : Row w B (.slice (some ⟨b, o, none⟩) n k) xs) {i : Nat} {x : Int} (hi : xs[i]? = some x) : w.cell? ⟨b, o + i, none⟩ = some (.int .i64 x) := by
  obtain ⟨a, cap, off, hv, _, _, _, h4⟩ := h
  cases hv
  rcases h4 with h4 | ⟨h4, hc⟩
  · rw [h4] at hi; simp at hi
  · cases h4
    exact hc i x hi
theorem row_cap {w : World} {B n k : Nat} {q : Option Addr} {xs : List Int} (h : Row w B (.slice q n k) xs) : n = xs.length ∧ n ≤ k ∧ k ≤ maxLen := by
  obtain ⟨a, cap, off, hv, h2, h3, _⟩ := h
  cases hv
  exact ⟨rfl, h2, h3⟩
/-- The rows of a machine whose cells are known. -/
theorem RMach.rows {w : World} {m : M} {v1 v2 v3 v4 : Value} (h : RMach w (mv m v1 v2 v3 v4) m) : (∃ B, Row w B v1 m.regs) ∧ (∃ B, Row w B v2 m.mem) ∧ (∃ B, Row w B v3 m.ins) ∧ (∃ B, Row w B v4 m.outs) := by
  obtain ⟨r', e', i', o', b1, b2, b3, b4, hc, h1, h2, h3, h4⟩ := h
  simp only [mv, List.cons.injEq, and_true, true_and] at hc
  obtain ⟨rfl, rfl, rfl, rfl⟩ := hc
  exact ⟨⟨b1, h1⟩, ⟨b2, h2⟩, ⟨b3, h3⟩, ⟨b4, h4⟩⟩
/-- P61. -/
theorem okB_stop {d a k : Int} (h : Ins.okB 0 d a k = true) : d = 0 ∧ a = 0 ∧ k ≤ 3 := by
  have hf := (Ins.okB_bd h).2.2.2.2.2.2.2.2
  unfold Ins.formB at hf
  simp at hf
  omega
theorem next_kind {m : M} (ok : okM m = true) (hw : m.waits = false) (hh : m.halt = 0) (hc : m.count ≠ 1000000) (hp : m.pc < 64) (v : Int) (hv : m.mem.getD m.pc.toNat 0 = v) :
    (Ins.takeB v = false ∧ (stepM m false).halt = 2 ∧ (stepM m false).pc = m.pc) ∨
    (Ins.takeB v = true ∧ (((stepM m false).halt = 3 ∧ (v / 4096 = 9 ∨ v / 4096 = 10)) ∨ ((stepM m false).halt = 1 ∧ v / 4096 = 0 ∧ v / 1024 % 4 = 0 ∧ v / 256 % 4 = 0 ∧ v % 256 = 0) ∨
      ((stepM m false).halt = 0 ∧ v / 4096 = 13 ∧ (stepM m false).pc = m.regs.getD (v / 256 % 4).toNat 0) ∨
      ((stepM m false).halt = 0 ∧ v / 4096 = 0 ∧ (v % 256 ≠ 1 ∨ ((stepM m false).pc = m.save ∧ (stepM m false).lets = true))) ∨
      ((stepM m false).halt = 0 ∧ v / 4096 ≠ 13 ∧ v / 4096 ≠ 0 ∧ ((stepM m false).pc = m.pc + 1 ∨ (Ins.endsB (v / 4096) = true ∧ (stepM m false).pc = v % 256))))) := by
  have O := okM_of ok
  have hs : sampleM m false = m := sample_none (by rw [hw]; rfl)
  rw [step_goM ok hh hc, hs]
  unfold goM
  rw [if_neg (by omega), hv]
  have pb := O.p
  have sb := O.s
  cases ht : Ins.takeB v with
  | false =>
    rw [if_neg (by decide)]
    exact Or.inl ⟨rfl, rfl, rfl⟩
  | true =>
    rw [if_pos rfl]
    refine Or.inr ⟨rfl, ?_⟩
    have ht2 := ht
    unfold Ins.takeB at ht2
    simp only [Bool.and_eq_true, decide_eq_true_eq] at ht2
    obtain ⟨⟨v0, v1⟩, hok⟩ := ht2
    have wp : (m.pc + 1) % 65536 = m.pc + 1 := by omega
    generalize hop : v / 4096 = op at *
    generalize hd : v / 1024 % 4 = d at *
    generalize ha : v / 256 % 4 = a at *
    generalize hk : v % 256 = k at *
    have k0 : 0 ≤ k ∧ k < 256 := by omega
    unfold doM
    by_cases c0 : op = 0
    · rw [if_pos c0]
      subst c0
      obtain ⟨d0, a0, k3⟩ := okB_stop hok
      unfold stopM
      by_cases e1 : k = 1
      · rw [if_pos e1]
        refine Or.inr (Or.inr (Or.inr (Or.inl ⟨hh, rfl, Or.inr ⟨?_, rfl⟩⟩)))
        show m.save % 65536 = m.save
        omega
      rw [if_neg e1]
      by_cases e2 : k = 2
      · rw [if_pos e2]
        exact Or.inr (Or.inr (Or.inr (Or.inl ⟨hh, rfl, Or.inl e1⟩)))
      rw [if_neg e2]
      by_cases e3 : k = 3
      · rw [if_pos e3]
        exact Or.inr (Or.inr (Or.inr (Or.inl ⟨hh, rfl, Or.inl e1⟩)))
      rw [if_neg e3]
      have : k = 0 := by omega
      exact Or.inr (Or.inl ⟨rfl, rfl, d0, a0, this⟩)
    rw [if_neg c0]
    by_cases c13 : op = 13
    · subst c13
      refine Or.inr (Or.inr (Or.inl ?_))
      rw [if_neg (show ¬ ((13 : Int) = 1) by decide), if_neg (show ¬ ((13 : Int) = 2) by decide), if_neg (show ¬ ((13 : Int) = 8) by decide), if_neg (show ¬ ((13 : Int) = 9 ∨ (13 : Int) = 10) by decide), if_neg (show ¬ ((13 : Int) = 11) by decide), if_neg (show ¬ ((13 : Int) = 12) by decide), if_pos rfl]
      refine ⟨hh, rfl, ?_⟩
      show m.regs.getD a.toNat 0 % 65536 = _
      have := words_getD O.wr a.toNat
      omega
    by_cases c9 : op = 9 ∨ op = 10
    · have c1 : ¬ op = 1 := by omega
      have c2 : ¬ op = 2 := by omega
      have c8 : ¬ op = 8 := by omega
      rw [if_neg c1, if_neg c2, if_neg c8, if_pos c9]
      unfold reachM
      split
      · exact Or.inl ⟨rfl, c9⟩
      split
      · exact Or.inr (Or.inr (Or.inr (Or.inr ⟨hh, c13, c0, Or.inl wp⟩)))
      · exact Or.inr (Or.inr (Or.inr (Or.inr ⟨hh, c13, c0, Or.inl wp⟩)))
    refine Or.inr (Or.inr (Or.inr (Or.inr ?_)))
    have fin : ∀ x : M, x.halt = 0 → x.pc = m.pc + 1 → (x.halt = 0 ∧ op ≠ 13 ∧ op ≠ 0 ∧ (x.pc = m.pc + 1 ∨ (Ins.endsB op = true ∧ x.pc = k))) := fun x h1 h2 => ⟨h1, c13, c0, Or.inl h2⟩
    by_cases c1 : op = 1
    · rw [if_pos c1]; exact fin _ hh wp
    rw [if_neg c1]
    by_cases c2 : op = 2
    · rw [if_pos c2]; exact fin _ hh wp
    rw [if_neg c2]
    by_cases c8 : op = 8
    · rw [if_pos c8]; exact fin _ hh wp
    rw [if_neg c8, if_neg c9]
    by_cases c11 : op = 11
    · rw [if_pos c11]
      refine ⟨hh, c13, c0, ?_⟩
      split
      · exact Or.inr ⟨by rw [c11]; rfl, by show k % 65536 = k; omega⟩
      · exact Or.inl wp
    rw [if_neg c11]
    by_cases c12 : op = 12
    · rw [if_pos c12]
      refine ⟨hh, c13, c0, ?_⟩
      split
      · exact Or.inr ⟨by rw [c12]; rfl, by show k % 65536 = k; omega⟩
      · exact Or.inl wp
    rw [if_neg c12, if_neg c13]
    by_cases c14 : op = 14
    · rw [if_pos c14]; exact fin _ hh wp
    rw [if_neg c14]
    by_cases c15 : op = 15
    · rw [if_pos c15]
      unfold inM
      split
      · exact fin _ hh wp
      · exact fin _ hh wp
    rw [if_neg c15]
    exact fin _ hh wp
end Go.Proofs.YtnhpmbhphbphaaaGreat.Mch
