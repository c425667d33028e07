/-
  Beginnings and ends of a piece of code's instructions are pieces of code; instructions' words say those instructions.
-/
import Derived.Test.YtmmlhmhlfmafgaaBlkB
namespace Go.Proofs.Ytmmlhmhlfmafgaa.Blk
set_option linter.unusedVariables false
set_option linter.unusedSimpArgs false
open Go.ChangeShapes Go.WideShapes Go.ChangeAt Go.RowKit IntS Flat InsS
open Ins (okB endsB inB putN takeB takeC)
theorem flatI_take : ∀ (is : List In4) (k : Nat), flatI (is.take k) = (flatI is).take (k * 4)
  | [], k => by simp [flatI]
  | d :: r, 0 => by simp [flatI]
  | d :: r, k + 1 => by
    rw [show (k + 1) * 4 = k * 4 + 1 + 1 + 1 + 1 by omega, List.take_succ_cons]
    simp only [flatI, List.take_succ_cons, flatI_take r k]
theorem flatI_drop : ∀ (is : List In4) (k : Nat), flatI (is.drop k) = (flatI is).drop (k * 4)
  | [], k => by simp [flatI]
  | d :: r, 0 => by simp [flatI]
  | d :: r, k + 1 => by
    rw [show (k + 1) * 4 = k * 4 + 1 + 1 + 1 + 1 by omega, List.drop_succ_cons]
    simp only [flatI, List.drop_succ_cons, flatI_drop r k]
theorem ok1_any {b : Bool} {i : In4} (h : ok1 false i = true) : ok1 b i = true := by
  unfold ok1 at h ⊢
  simp only [Bool.and_eq_true, Bool.or_false] at h
  simp [h.1.1, h.1.2, h.2]
theorem okL_parts {pc : Int} {is : List In4} (h : okL pc is = true) : (1 ≤ is.length ∧ is.length ≤ 8) ∧ (0 ≤ pc ∧ pc ≤ 64 - (is.length : Int)) ∧ ∀ j, j < is.length → okAt is j = true := by
  unfold okL at h
  simp only [Bool.and_eq_true, decide_eq_true_eq] at h
  refine ⟨h.1.1, h.1.2, fun j hj => ?_⟩
  have := h.2
  unfold okAll at this
  rw [List.all_eq_true] at this
  exact this j (List.mem_range.2 hj)
theorem okL_of {pc : Int} {is : List In4} (h1 : 1 ≤ is.length ∧ is.length ≤ 8) (h2 : 0 ≤ pc ∧ pc ≤ 64 - (is.length : Int)) (h3 : ∀ j, j < is.length → okAt is j = true) : okL pc is = true := by
  rw [okL_in ⟨h1, h2⟩]
  exact okAll_yes h3
theorem ok_plain {pc : Int} {is : List In4} (h : okL pc is = true) {j : Nat} {i : In4} (hi : is[j]? = some i) (hj : j + 1 < is.length) : ok1 false i = true := by
  have := (okL_parts h).2.2 j (by omega)
  rw [okAt_some hi, decide_eq_false (by omega)] at this
  exact this
/-- The first ones are a piece of code. -/
theorem okL_take {pc : Int} {is : List In4} {k : Nat} (h : okL pc is = true) (h1 : 1 ≤ k) (hk : k < is.length) : okL pc (is.take k) = true := by
  obtain ⟨a1, a2, a3⟩ := okL_parts h
  have el : (is.take k).length = k := by simp; omega
  refine okL_of (by omega) (by rw [el]; omega) fun j hj => ?_
  rw [el] at hj
  obtain ⟨i, hi⟩ : ∃ i, is[j]? = some i := ⟨_, List.getElem?_eq_getElem (by omega)⟩
  have hi2 : (is.take k)[j]? = some i := by rw [List.getElem?_take_of_lt hj]; exact hi
  rw [okAt_some hi2]
  exact ok1_any (ok_plain h hi (by omega))
/-- The last ones are, at their place. -/
theorem okL_drop {pc : Int} {is : List In4} {k : Nat} (h : okL pc is = true) (hk : k < is.length) : okL (pc + k) (is.drop k) = true := by
  obtain ⟨a1, a2, a3⟩ := okL_parts h
  have el : (is.drop k).length = is.length - k := by simp
  refine okL_of (by omega) (by rw [el]; omega) fun j hj => ?_
  rw [el] at hj
  obtain ⟨i, hi⟩ : ∃ i, is[k + j]? = some i := ⟨_, List.getElem?_eq_getElem (by omega)⟩
  have hi2 : (is.drop k)[j]? = some i := by rw [List.getElem?_drop]; exact hi
  have h3 := a3 (k + j) (by omega)
  rw [okAt_some hi] at h3
  rw [okAt_some hi2, el]
  by_cases e : k + j + 1 = is.length
  · rw [decide_eq_true (by omega)]
    rw [decide_eq_true e] at h3
    exact h3
  · rw [decide_eq_false (by omega)]
    rw [decide_eq_false e] at h3
    exact h3
/-- What ends it stands last alone. -/
theorem okL_ends {pc : Int} {is : List In4} {k : Nat} {i : In4} (h : okL pc is = true) (hi : is[k]? = some i) (hk : k + 1 < is.length) : endsB i.op = false := by
  have := ok_plain h hi hk
  unfold ok1 at this
  simp only [Bool.and_eq_true, Bool.or_false, Bool.not_eq_true'] at this
  exact this.2
theorem irow_take {w : World} {B off n cap k : Nat} {is : List In4} (hl : is.length = n) (hc : n ≤ cap) (hm : cap ≤ maxLen) (hk : k ≤ n) (H : ∀ (i : Nat) x, (flatI is)[i]? = some x → w.cell? ⟨B, off + i, none⟩ = some (.int .i64 x)) : IRow w B (.slice (some ⟨B, off, none⟩) k cap) (is.take k) := by
  have el : (is.take k).length = k := by simp; omega
  unfold IRow
  rw [el]
  refine ⟨some ⟨B, off, none⟩, cap, off, rfl, by omega, hm, (fun e => by cases e), by rw [flatI_len, el], Or.inr ⟨rfl, fun i x hx => H i x ?_⟩⟩
  rw [flatI_take] at hx
  have hi := (List.getElem?_eq_some_iff.1 hx).1
  rw [List.length_take] at hi
  rwa [List.getElem?_take_of_lt (by omega)] at hx
theorem irow_drop {w : World} {B off n cap k : Nat} {is : List In4} (hl : is.length = n) (hc : n ≤ cap) (hm : cap ≤ maxLen) (hk : k ≤ n) (H : ∀ (i : Nat) x, (flatI is)[i]? = some x → w.cell? ⟨B, off + i, none⟩ = some (.int .i64 x)) : IRow w B (.slice (some ⟨B, off + k * 4, none⟩) (n - k) (cap - k)) (is.drop k) := by
  have el : (is.drop k).length = n - k := by simp; omega
  unfold IRow
  rw [el]
  refine ⟨some ⟨B, off + k * 4, none⟩, cap - k, off + k * 4, rfl, by omega, by omega, (fun e => by cases e), by rw [flatI_len, el], Or.inr ⟨rfl, fun i x hx => ?_⟩⟩
  rw [flatI_drop, List.getElem?_drop] at hx
  rw [Nat.add_assoc]
  exact H _ x hx
/-- An instruction that is ok is the one that its word says. -/
theorem in_put {i : In4} (h : okB i.op i.d i.a i.k = true) : takeB (putN i.op i.d i.a i.k) = true ∧ inOf (putN i.op i.d i.a i.k) = i := by
  obtain ⟨op, d, a, k⟩ := i
  have hb := Ins.okB_bd h
  simp only [] at hb h ⊢
  have e : putN op d a k = op * 4096 + d * 1024 + a * 256 + k := by unfold putN; rw [if_pos h]
  have e1 : putN op d a k / 4096 = op := by rw [e]; omega
  have e2 : putN op d a k / 1024 % 4 = d := by rw [e]; omega
  have e3 : putN op d a k / 256 % 4 = a := by rw [e]; omega
  have e4 : putN op d a k % 256 = k := by rw [e]; omega
  have hb : 0 ≤ putN op d a k ∧ putN op d a k < 65536 := by rw [e]; omega
  refine ⟨?_, ?_⟩
  · unfold takeB
    rw [e1, e2, e3, e4, h, decide_eq_true hb]
    rfl
  · unfold inOf
    rw [e1, e2, e3, e4]
theorem take_words : ∀ is : List In4, (∀ i ∈ is, okB i.op i.d i.a i.k = true) → takeL (wordsL is) = is
  | [], h => rfl
  | i :: r, h => by
    obtain ⟨h1, h2⟩ := in_put (h i List.mem_cons_self)
    have := take_words r (fun j hj => h j (List.mem_cons_of_mem _ hj))
    show takeL (putN i.op i.d i.a i.k :: wordsL r) = _
    rw [takeL, if_pos h1, h2, this]
/-- What words say has the first of these words. -/
theorem put_in {x : Int} (h : takeB x = true) : putN (inOf x).op (inOf x).d (inOf x).a (inOf x).k = x := by
  unfold takeB at h
  simp only [Bool.and_eq_true, decide_eq_true_eq] at h
  unfold putN inOf
  simp only []
  rw [if_pos h.2]
  have := h.1
  omega
theorem words_take : ∀ ws : List Int, wordsL (takeL ws) = ws.take (takeL ws).length
  | [] => rfl
  | x :: r => by
    unfold takeL
    by_cases h : takeB x = true
    · rw [if_pos h]
      show putN _ _ _ _ :: wordsL (takeL r) = _
      rw [put_in h, words_take r, List.length_cons, List.take_succ_cons]
    · rw [if_neg h]
      rfl
end Go.Proofs.Ytmmlhmhlfmafgaa.Blk
