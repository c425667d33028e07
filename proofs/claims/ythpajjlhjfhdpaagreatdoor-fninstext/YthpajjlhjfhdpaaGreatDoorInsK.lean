/-
  What the program guesses of the words of a line: of the words of an instruction that is ok it is that instruction.
-/
import Derived.Test.YthpajjlhjfhdpaaGreatDoorInsJ
namespace Go.Proofs.YthpajjlhjfhdpaaGreatDoor.InsI
open Go.ChangeShapes Go.WideShapes Go.ChangeAt Go.RowKit Ins
/-- What the first words behind the name say. -/
structure Vals (xs : List (List UInt8)) (j : Nat) (v0 v1 v2 : Int) : Prop where
  p0 : 1 ≤ j → v0 = fvN (xs.getD 1 [])
  p1 : 2 ≤ j → v1 = fvN (xs.getD 2 [])
  p2 : 3 ≤ j → v2 = fvN (xs.getD 3 [])
theorem Vals.none (xs : List (List UInt8)) : Vals xs 0 0 0 0 := ⟨fun h => by omega, fun h => by omega, fun h => by omega⟩
theorem Vals.s0 {xs : List (List UInt8)} {v0 v1 v2 : Int} (_ : Vals xs 0 v0 v1 v2) : Vals xs 1 (fvN (xs.getD 1 [])) v1 v2 := ⟨fun _ => rfl, fun h => by omega, fun h => by omega⟩
theorem Vals.s1 {xs : List (List UInt8)} {v0 v1 v2 : Int} (h : Vals xs 1 v0 v1 v2) : Vals xs 2 v0 (fvN (xs.getD 2 [])) v2 := ⟨fun _ => h.p0 (by omega), fun _ => rfl, fun h => by omega⟩
theorem Vals.s2 {xs : List (List UInt8)} {v0 v1 v2 : Int} (h : Vals xs 2 v0 v1 v2) : Vals xs 3 v0 v1 (fvN (xs.getD 3 [])) := ⟨fun _ => h.p0 (by omega), fun _ => h.p1 (by omega), fun _ => rfl⟩
theorem words_name {op d a k : Int} (e0 : ¬ op = 0) : (wordsOf op d a k).getD 0 [] = nameL op := by
  unfold wordsOf
  rw [if_neg e0]
  repeat' split
  all_goals rfl
theorem words_kind {op d a k o t : Int} (h : okB op d a k = true) (hop : OpOf ⟨((wordsOf op d a k).getD 0 []).toArray⟩ o t) : o = op ∧ (op = 0 → t = k) ∧ (¬ op = 0 → t = 0) := by
  obtain ⟨o0, o1, d0, d1, a0, a1, k0, k1, hF⟩ := okB_bd h
  by_cases e0 : op = 0
  · subst e0
    have hw : wordsOf 0 d a k = [stopL k] := if_pos rfl
    rw [hw] at hop
    have := opOf_stop k0 (form_0 hF) (by rw [← mk_list (stopS k)]; exact hop)
    exact ⟨this.1, fun _ => this.2, fun h => absurd rfl h⟩
  · rw [words_name e0] at hop
    have := opOf_name (by omega) o1 (by rw [← mk_list (nameS op)]; exact hop)
    exact ⟨this.1, fun h => absurd h e0, fun _ => this.2⟩
theorem words_len {op d a k : Int} : 1 ≤ (wordsOf op d a k).length ∧ (wordsOf op d a k).length ≤ 4 := by
  unfold wordsOf
  repeat' split
  all_goals simp
theorem words_fv {op d a k : Int} (h : okB op d a k = true) {j : Nat} (h1 : 1 ≤ j) (hj : j < (wordsOf op d a k).length) : fvB ((wordsOf op d a k).getD j []) = true := by
  obtain ⟨o0, o1, d0, d1, a0, a1, k0, k1, hF⟩ := okB_bd h
  have rd := (fv_reg d0 d1).1
  have ra := (fv_reg a0 a1).1
  have rk := (fv_dig k0 k1).1
  have hl := (words_len (op := op) (d := d) (a := a) (k := k)).2
  have hj' : j = 1 ∨ j = 2 ∨ j = 3 := by omega
  rcases ops16 o0 o1 with rfl | rfl | rfl | rfl | rfl | rfl | rfl | rfl | rfl | rfl | rfl | rfl | rfl | rfl | rfl | rfl
  · rcases hj' with rfl | rfl | rfl <;> simp [wordsOf] at hj
  · rcases hj' with rfl | rfl | rfl <;> simp [wordsOf] at hj ⊢ <;> assumption
  · rcases hj' with rfl | rfl | rfl <;> simp [wordsOf] at hj ⊢ <;> assumption
  iterate 5
    · have rr := (fv_reg k0 (by have := form_r (by omega) (by omega) hF; omega)).1
      rcases hj' with rfl | rfl | rfl <;> simp [wordsOf] at hj ⊢ <;> assumption
  iterate 5
    · rcases hj' with rfl | rfl | rfl <;> simp [wordsOf] at hj ⊢ <;> assumption
  · rcases hj' with rfl | rfl | rfl <;> simp [wordsOf] at hj ⊢ <;> assumption
  · rcases hj' with rfl | rfl | rfl <;> simp [wordsOf] at hj ⊢ <;> assumption
  · rcases hj' with rfl | rfl | rfl <;> simp [wordsOf] at hj ⊢ <;> assumption
theorem words_fill {op d a k o t v0 v1 v2 : Int} (h : okB op d a k = true) (hop : OpOf ⟨((wordsOf op d a k).getD 0 []).toArray⟩ o t) (hv : Vals (wordsOf op d a k) ((wordsOf op d a k).length - 1) v0 v1 v2) :
    o = op ∧ fillD o v0 = d ∧ fillA o v0 v1 = a ∧ fillK o t v1 v2 = k := by
  obtain ⟨rfl, ht0, ht1⟩ := words_kind h hop
  obtain ⟨o0, o1, d0, d1, a0, a1, k0, k1, hF⟩ := okB_bd h
  refine ⟨rfl, ?_⟩
  have rd := (fv_reg d0 d1).2
  have ra := (fv_reg a0 a1).2
  have rk := (fv_dig k0 k1).2
  obtain ⟨p0, p1, p2⟩ := hv
  rcases ops16 o0 o1 with rfl | rfl | rfl | rfl | rfl | rfl | rfl | rfl | rfl | rfl | rfl | rfl | rfl | rfl | rfl | rfl
  · have := form_00 hF
    have := ht0 rfl
    simp [fillD, fillA, fillK]
    omega
  · have := form_1 hF
    simp [wordsOf] at p0 p1 p2
    simp [fillD, fillA, fillK]
    omega
  · have := form_2 hF
    simp [wordsOf] at p0 p1 p2
    simp [fillD, fillA, fillK]
    omega
  iterate 5
    · have rr := (fv_reg k0 (by have := form_r (by omega) (by omega) hF; omega)).2
      simp [wordsOf] at p0 p1 p2
      simp [fillD, fillA, fillK]
      omega
  iterate 5
    · simp [wordsOf] at p0 p1 p2
      simp [fillD, fillA, fillK]
      omega
  · have := form_13 hF
    simp [wordsOf] at p0 p1 p2
    simp [fillD, fillA, fillK]
    omega
  · have := form_io (Or.inl rfl) hF
    simp [wordsOf] at p0 p1 p2
    simp [fillD, fillA, fillK]
    omega
  · have := form_io (Or.inr rfl) hF
    simp [wordsOf] at p0 p1 p2
    simp [fillD, fillA, fillK]
    omega
end Go.Proofs.YthpajjlhjfhdpaaGreatDoor.InsI
