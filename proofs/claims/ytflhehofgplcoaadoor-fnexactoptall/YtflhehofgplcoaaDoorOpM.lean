/-
  Our own hand as a model: what is reckoned ahead.
-/
import Derived.Test.YtflhehofgplcoaaDoorIrK
import Derived.Test.YtflhehofgplcoaaDoorBitMath
namespace Go.Proofs.YtflhehofgplcoaaDoor.Ir
set_option linter.unusedVariables false
set_option linter.unusedSimpArgs false
open Wrd
def nilB : Bk := ⟨0, 0, [], 0, 0, 0, 0⟩
/-- The word that an operation is known to make. -/
def knownO (ops : List Opn) (k : Int) : Option Int := if 0 ≤ k then (match ops[k.toNat]? with | some o => if o.kd = 1 then some o.k else none | none => none) else none
/-- One operation reckoned ahead. -/
def constO (ops : List Opn) (o : Opn) : Opn :=
  if o.kd = 3 then (match knownO ops o.x, knownO ops o.y with | some p, some q => ⟨1, 0, 0, wdo o.k p q, 0⟩ | _, _ => o) else o
/-- The first so many operations reckoned ahead, the others as they were. -/
def constL (ops : List Opn) : Nat → List Opn
  | 0 => ops
  | n + 1 => match (constL ops n)[n]? with | some o => (constL ops n).set n (constO (constL ops n) o) | none => constL ops n
def goB (b : Bk) (k : Int) : Bk := ⟨b.pc, b.ln, b.ops, 1, 0, 0, k⟩
def foldK (b : Bk) : Option Int :=
  if b.en = 2 then knownO b.ops b.x
  else if b.en = 3 ∨ b.en = 4 then (match knownO b.ops b.x, knownO b.ops b.y with | some x, some y => some (if (b.en = 3 ∧ x = y) ∨ (b.en = 4 ∧ x < y) then b.k else b.pc + b.ln) | _, _ => none)
  else none
def foldB (b : Bk) : Bk := match foldK b with | some k => goB b k | none => b
def constB (b : Bk) : Bk := if okB b = true then foldB ⟨b.pc, b.ln, constL b.ops b.ops.length, b.en, b.x, b.y, b.k⟩ else nilB
theorem constL_len (ops : List Opn) : ∀ n, (constL ops n).length = ops.length
  | 0 => rfl
  | n + 1 => by
    unfold constL
    cases h : (constL ops n)[n]? with
    | none => exact constL_len ops n
    | some o => rw [List.length_set]; exact constL_len ops n
theorem constL_far (ops : List Opn) : ∀ (n j : Nat), n ≤ j → (constL ops n)[j]? = ops[j]?
  | 0, _, _ => rfl
  | n + 1, j, hj => by
    unfold constL
    cases h : (constL ops n)[n]? with
    | none => exact constL_far ops n j (by omega)
    | some o => rw [List.getElem?_set_ne (by omega)]; exact constL_far ops n j (by omega)
theorem constL_next {ops : List Opn} {n : Nat} {o : Opn} (h : ops[n]? = some o) : constL ops (n + 1) = (constL ops n).set n (constO (constL ops n) o) := by
  have : (constL ops n)[n]? = some o := (constL_far ops n n (Nat.le_refl _)).trans h
  show (match (constL ops n)[n]? with | some o => (constL ops n).set n (constO (constL ops n) o) | none => constL ops n) = _
  rw [this]
/-- An operation is as it was, or it was reckoned of two words, and is a word. -/
theorem constL_at (ops : List Opn) : ∀ (n j : Nat) (o : Opn), ops[j]? = some o → (constL ops n)[j]? = some o ∨ (o.kd = 3 ∧ ∃ p q, (constL ops n)[j]? = some ⟨1, 0, 0, wdo o.k p q, 0⟩)
  | 0, _, _, h => Or.inl h
  | n + 1, j, o, h => by
    unfold constL
    cases hn : (constL ops n)[n]? with
    | none => exact constL_at ops n j o h
    | some o' =>
      simp only []
      by_cases e : n = j
      · subst e
        have : o' = o := by
          have := (constL_far ops n n (Nat.le_refl _)).trans h
          rw [hn] at this
          exact Option.some.inj this
        subst this
        rw [List.getElem?_set_self (List.getElem?_eq_some_iff.1 hn).1]
        unfold constO
        by_cases e3 : o'.kd = 3
        · rw [if_pos e3]
          cases hp : knownO (constL ops n) o'.x with
          | none => exact Or.inl rfl
          | some p =>
            cases hq : knownO (constL ops n) o'.y with
            | none => exact Or.inl rfl
            | some q => exact Or.inr ⟨e3, p, q, rfl⟩
        · rw [if_neg e3]; exact Or.inl rfl
      · rw [List.getElem?_set_ne e]
        exact constL_at ops n j o h
theorem wdo_word (op a b : Int) : 0 ≤ wdo op a b ∧ wdo op a b < 65536 := by
  unfold wdo
  by_cases h : 0 ≤ a ∧ a < 65536 ∧ 0 ≤ b ∧ b < 65536
  · rw [if_pos h]
    obtain ⟨h1, h2, h3, h4⟩ := h
    have A1 : a.toNat < 2 ^ 16 := by omega
    have A2 : b.toNat < 2 ^ 16 := by omega
    have k1 := Nat.and_lt_two_pow a.toNat A2
    have k2 := Nat.xor_lt_two_pow A1 A2
    have k3 := Int.emod_nonneg (a * b) (show (65536 : Int) ≠ 0 by decide)
    have k4 := Int.emod_lt_of_pos (a * b) (show (0 : Int) < 65536 by decide)
    split
    · omega
    split
    · omega
    split
    · exact ⟨k3, k4⟩
    split
    · omega
    split
    · omega
    · omega
  · rw [if_neg h]; omega
theorem ops_at {ops : List Opn} {size : Int} {n : Nat} (h : opsB ops size n = true) {k : Nat} {o : Opn} (hk : k < n) (ho : ops[k]? = some o) : opB (ops.take k) o size = true := by
  unfold opsB at h
  rw [List.all_eq_true] at h
  have := h k (List.mem_range.2 hk)
  rw [ho] at this
  exact this
theorem ops_of {ops : List Opn} {size : Int} {n : Nat} (h : ∀ (k : Nat) o, k < n → ops[k]? = some o → opB (ops.take k) o size = true) : opsB ops size n = true := by
  unfold opsB
  rw [List.all_eq_true]
  intro k hk
  have hk := List.mem_range.1 hk
  cases ho : ops[k]? with
  | none => rfl
  | some o => exact h k o hk ho
theorem ok_parts {b : Bk} (h : okB b = true) : (1 ≤ b.ln ∧ b.ln ≤ 8) ∧ (0 ≤ b.pc ∧ b.pc ≤ 64 - b.ln) ∧ b.ops.length ≤ 48 ∧ (∀ (k : Nat) o, b.ops[k]? = some o → opB (b.ops.take k) o b.ln = true) ∧ endB b.ops b.en b.x b.y b.k = true := by
  unfold okB headB inI at h
  simp only [Bool.and_eq_true, decide_eq_true_eq] at h
  obtain ⟨⟨⟨⟨h1, h2⟩, h3⟩, h4⟩, h5⟩ := h
  exact ⟨h1, h2, h3, fun k o ho => ops_at h4 (List.getElem?_eq_some_iff.1 ho).1 ho, h5⟩
theorem ok_of {b : Bk} (h1 : 1 ≤ b.ln ∧ b.ln ≤ 8) (h2 : 0 ≤ b.pc ∧ b.pc ≤ 64 - b.ln) (h3 : b.ops.length ≤ 48) (h4 : ∀ (k : Nat) o, b.ops[k]? = some o → opB (b.ops.take k) o b.ln = true) (h5 : endB b.ops b.en b.x b.y b.k = true) : okB b = true := by
  unfold okB headB inI
  simp only [Bool.and_eq_true, decide_eq_true_eq]
  exact ⟨⟨⟨⟨h1, h2⟩, h3⟩, ops_of fun k o _ ho => h4 k o ho⟩, h5⟩
/-- A place of a word: there is an operation that makes it. -/
theorem val_get {ah : List Opn} {k : Int} (h : valB ah k = true) : ∃ (m : Nat) (o : Opn), k = m ∧ m < ah.length ∧ ah[m]? = some o ∧ mkB o.kd = true := by
  unfold valB at h
  simp only [Bool.and_eq_true, decide_eq_true_eq] at h
  obtain ⟨h0, h1⟩ := h
  cases e : ah[k.toNat]? with
  | none => rw [e] at h1; cases h1
  | some o =>
    rw [e] at h1
    exact ⟨k.toNat, o, by omega, (List.getElem?_eq_some_iff.1 e).1, e, h1⟩
theorem val_take {ops : List Opn} {n : Nat} {k : Int} (h : valB (ops.take n) k = true) : ∃ (m : Nat) (o : Opn), k = m ∧ m < n ∧ ops[m]? = some o ∧ mkB o.kd = true := by
  obtain ⟨m, o, h1, h2, h3, h4⟩ := val_get h
  rw [List.length_take] at h2
  rw [List.getElem?_take_of_lt (by omega)] at h3
  exact ⟨m, o, h1, by omega, h3, h4⟩
/-- What an operation has: its words. -/
def mvX (k : Int) : Bool := decide (3 ≤ k ∧ k ≤ 5) || decide (k = 7) || decide (k = 8)
def mvY (k : Int) : Bool := decide (k = 3) || decide (k = 5)
/-- An operation that is ok, opened: its kind, and its words. -/
theorem op_parts {ah : List Opn} {o : Opn} {size : Int} (h : opB ah o size = true) : (1 ≤ o.kd ∧ o.kd ≤ 8) ∧ (mvX o.kd = true → valB ah o.x = true) ∧ (mvX o.kd = false → o.x = 0) ∧ (mvY o.kd = true → valB ah o.y = true) ∧ (mvY o.kd = false → o.y = 0) ∧ (o.kd = 2 ∨ o.kd = 8 → 0 ≤ o.k ∧ o.k ≤ 3) ∧ (o.kd = 1 → 0 ≤ o.k ∧ o.k < 65536) ∧ (o.kd = 3 → 1 ≤ o.k ∧ o.k ≤ 5) ∧ (o.kd ≤ 3 ∨ o.kd = 8 → o.t = 0) := by
  obtain ⟨kd, x, y, k, t⟩ := o
  simp only [] at *
  by_cases hr : 1 ≤ kd ∧ kd ≤ 8
  · have : kd = 1 ∨ kd = 2 ∨ kd = 3 ∨ kd = 4 ∨ kd = 5 ∨ kd = 6 ∨ kd = 7 ∨ kd = 8 := by omega
    rcases this with rfl | rfl | rfl | rfl | rfl | rfl | rfl | rfl <;> (simp [opB, inI] at h; simp [mvX, mvY, h] <;> try omega)
  · unfold opB at h
    simp only [] at h
    rw [if_neg (by omega), if_neg (by omega), if_neg (by omega), if_neg (by omega), if_neg (by omega), if_neg (by omega), if_neg (by omega)] at h
    cases h
/-- An operation whose words are other places, where words are made. -/
theorem op_moved {ah ah' : List Opn} {o : Opn} {size x y : Int} (h : opB ah o size = true) (hx : if mvX o.kd = true then valB ah' x = true else x = 0) (hy : if mvY o.kd = true then valB ah' y = true else y = 0) : opB ah' ⟨o.kd, x, y, o.k, o.t⟩ size = true := by
  have hk := (op_parts h).1
  obtain ⟨kd, x0, y0, k, t⟩ := o
  simp only [] at *
  have : kd = 1 ∨ kd = 2 ∨ kd = 3 ∨ kd = 4 ∨ kd = 5 ∨ kd = 6 ∨ kd = 7 ∨ kd = 8 := by omega
  rcases this with rfl | rfl | rfl | rfl | rfl | rfl | rfl | rfl <;> (simp [mvX, mvY] at hx hy; simp [opB, inI] at h ⊢; simp [hx, hy, h])
theorem end_parts {ops : List Opn} {en x y k : Int} (h : endB ops en x y k = true) : (1 ≤ en ∧ en ≤ 4) ∧ (en ≠ 1 → valB ops x = true) ∧ (en = 1 → x = 0) ∧ (en = 3 ∨ en = 4 → valB ops y = true) ∧ (en = 1 ∨ en = 2 → y = 0) ∧ (en ≠ 2 → 0 ≤ k ∧ k < 65536) := by
  by_cases hr : 1 ≤ en ∧ en ≤ 4
  · have : en = 1 ∨ en = 2 ∨ en = 3 ∨ en = 4 := by omega
    rcases this with rfl | rfl | rfl | rfl <;> (simp [endB, inI] at h; simp [h] <;> try omega)
  · unfold endB at h
    rw [if_neg (by omega), if_neg (by omega), if_neg (by omega)] at h
    cases h
theorem end_moved {ops ops' : List Opn} {en x y k x' y' : Int} (h : endB ops en x y k = true) (hx : if en = 1 then x' = 0 else valB ops' x' = true) (hy : if en = 3 ∨ en = 4 then valB ops' y' = true else y' = 0) : endB ops' en x' y' k = true := by
  have hk := (end_parts h).1
  have : en = 1 ∨ en = 2 ∨ en = 3 ∨ en = 4 := by omega
  rcases this with rfl | rfl | rfl | rfl <;> (simp at hx hy; simp [endB] at h ⊢; simp [hx, hy, h])
/-- What is known is a word. -/
theorem known_word {b : Bk} (h : okB b = true) {n : Nat} {k v : Int} (hv : knownO (constL b.ops n) k = some v) : 0 ≤ v ∧ v < 65536 := by
  obtain ⟨_, _, _, ho, _⟩ := ok_parts h
  unfold knownO at hv
  by_cases h0 : 0 ≤ k
  · rw [if_pos h0] at hv
    cases e : (constL b.ops n)[k.toNat]? with
    | none => rw [e] at hv; cases hv
    | some o =>
      rw [e] at hv
      simp only [] at hv
      by_cases e1 : o.kd = 1
      · rw [if_pos e1] at hv
        obtain rfl := Option.some.inj hv
        obtain ⟨o0, h1⟩ : ∃ o0, b.ops[k.toNat]? = some o0 := by
          have := (List.getElem?_eq_some_iff.1 e).1
          rw [constL_len] at this
          exact ⟨_, List.getElem?_eq_getElem this⟩
        rcases constL_at b.ops n _ _ h1 with h2 | ⟨_, p, q, h2⟩
        · rw [e] at h2
          obtain rfl := Option.some.inj h2
          exact (op_parts (ho _ _ h1)).2.2.2.2.2.2.1 e1
        · rw [e] at h2
          obtain rfl := Option.some.inj h2
          exact wdo_word _ _ _
      · rw [if_neg e1] at hv; cases hv
  · rw [if_neg h0] at hv; cases hv
theorem val_const {ops : List Opn} {n m : Nat} {k : Int} (h : valB (ops.take m) k = true) : valB ((constL ops n).take m) k = true := by
  obtain ⟨j, o, rfl, h1, h2, h3⟩ := val_take h
  have : ∃ o', (constL ops n)[j]? = some o' ∧ mkB o'.kd = true := by
    rcases constL_at ops n j o h2 with h4 | ⟨_, p, q, h4⟩
    · exact ⟨_, h4, h3⟩
    · exact ⟨_, h4, rfl⟩
  obtain ⟨o', h4, h5⟩ := this
  rw [val_at (o := o') (by rw [List.getElem?_take_of_lt h1]; exact h4), h5]
/-- What is reckoned ahead is ok. -/
theorem const_ok {b : Bk} (h : okB b = true) : okB (constB b) = true := by
  have hw := fun n k v => known_word h (n := n) (k := k) (v := v)
  obtain ⟨h1, h2, h3, h4, h5⟩ := ok_parts h
  have A : ∀ (k : Nat) o, (constL b.ops b.ops.length)[k]? = some o → opB ((constL b.ops b.ops.length).take k) o b.ln = true := fun k o ho => by
    obtain ⟨o0, e⟩ : ∃ o0, b.ops[k]? = some o0 := by
      have := (List.getElem?_eq_some_iff.1 ho).1
      rw [constL_len] at this
      exact ⟨_, List.getElem?_eq_getElem this⟩
    have q := h4 k o0 e
    rcases constL_at b.ops b.ops.length k o0 e with h6 | ⟨_, x, y, h6⟩
    · rw [ho] at h6
      obtain rfl := Option.some.inj h6
      obtain ⟨_, p1, p2, p3, p4, _⟩ := op_parts q
      refine op_moved (o := o) (x := o.x) (y := o.y) q ?_ ?_
      · by_cases e : mvX o.kd = true
        · rw [if_pos e]; exact val_const (p1 e)
        · rw [if_neg e]; exact p2 (by simpa using e)
      · by_cases e : mvY o.kd = true
        · rw [if_pos e]; exact val_const (p3 e)
        · rw [if_neg e]; exact p4 (by simpa using e)
    · rw [ho] at h6
      obtain rfl := Option.some.inj h6
      have := wdo_word o0.k x y
      simp [opB, inI]
      omega
  have E : endB (constL b.ops b.ops.length) b.en b.x b.y b.k = true := by
    obtain ⟨_, p1, p2, p3, p4, _⟩ := end_parts h5
    have V : ∀ k, valB b.ops k = true → valB (constL b.ops b.ops.length) k = true := fun k hk => by
      have := val_const (n := b.ops.length) (m := b.ops.length) (k := k) (ops := b.ops) (by rw [List.take_length]; exact hk)
      rw [List.take_of_length_le (by rw [constL_len]; exact Nat.le_refl _)] at this
      exact this
    refine end_moved h5 ?_ ?_
    · by_cases e : b.en = 1
      · rw [if_pos e]; exact p2 e
      · rw [if_neg e]; exact V _ (p1 e)
    · by_cases e : b.en = 3 ∨ b.en = 4
      · rw [if_pos e]; exact V _ (p3 e)
      · rw [if_neg e]; exact p4 (by omega)
  unfold constB
  rw [if_pos h]
  unfold foldB
  cases e : foldK ⟨b.pc, b.ln, constL b.ops b.ops.length, b.en, b.x, b.y, b.k⟩ with
  | none => exact ok_of h1 h2 (by simp only [constL_len]; exact h3) A E
  | some k =>
    have K : 0 ≤ k ∧ k < 65536 := by
      unfold foldK at e
      simp only [] at e
      split at e
      · exact hw _ _ _ e
      split at e
      · cases e1 : knownO (constL b.ops b.ops.length) b.x with
        | none => rw [e1] at e; cases e
        | some x =>
          cases e2 : knownO (constL b.ops b.ops.length) b.y with
          | none => rw [e1, e2] at e; cases e
          | some y =>
            rw [e1, e2] at e
            simp only [] at e
            have := (end_parts h5).2.2.2.2.2
            obtain rfl := Option.some.inj e
            split
            · omega
            · omega
      · cases e
    refine ok_of h1 h2 (by simp only [goB, constL_len]; exact h3) A ?_
    show endB _ 1 0 0 k = true
    unfold endB inI
    rw [if_pos rfl, decide_eq_true (show 0 ≤ k ∧ k ≤ 65535 by omega)]
    rfl
end Go.Proofs.YtflhehofgplcoaaDoor.Ir
