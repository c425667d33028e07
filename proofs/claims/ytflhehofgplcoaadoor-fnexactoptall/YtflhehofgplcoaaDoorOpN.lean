/-
  Our own hand as a model: what is known and taken.
-/
import Derived.Test.YtflhehofgplcoaaDoorOpM
namespace Go.Proofs.YtflhehofgplcoaaDoor.Ir
set_option linter.unusedVariables false
set_option linter.unusedSimpArgs false
open Wrd
def atL (l : List Int) (k : Int) : Int := l.getD k.toNat 0
/-- An operation with others in the place of its words. -/
def aliasO (o : Opn) (al : List Int) : Opn := ⟨o.kd, if mvX o.kd = true then atL al o.x else o.x, if mvY o.kd = true then atL al o.y else o.y, o.k, o.t⟩
/-- What a word is taken as, and what registers are known to be, behind one operation more. -/
def sameO (o : Opn) (la : List Int) (k : Nat) : Int := if o.kd = 2 ∧ 0 ≤ atL la o.k then atL la o.k else k
def lastO (o : Opn) (la : List Int) (same : Int) : List Int := if o.kd = 2 then la.set o.k.toNat same else if o.kd = 8 then la.set o.k.toNat o.x else la
structure Cp where
  ops : List Opn
  al : List Int
  la : List Int
def copyS (ops : List Opn) : Nat → Cp
  | 0 => ⟨[], [], [-1, -1, -1, -1]⟩
  | n + 1 => match ops[n]? with
    | some o => ⟨(copyS ops n).ops ++ [aliasO o (copyS ops n).al], (copyS ops n).al ++ [sameO (aliasO o (copyS ops n).al) (copyS ops n).la n], lastO (aliasO o (copyS ops n).al) (copyS ops n).la (sameO (aliasO o (copyS ops n).al) (copyS ops n).la n)⟩
    | none => copyS ops n
/-- How code goes on, with others in the place of its words. -/
def endO (b : Bk) (ops : List Opn) (al : List Int) : Bk := ⟨b.pc, b.ln, ops, b.en, if b.en = 1 then b.x else atL al b.x, if b.en = 3 ∨ b.en = 4 then atL al b.y else b.y, b.k⟩
def copyB (b : Bk) : Bk := if okB b = true then endO b (copyS b.ops b.ops.length).ops (copyS b.ops b.ops.length).al else nilB
theorem copyS_next {ops : List Opn} {n : Nat} {o : Opn} (h : ops[n]? = some o) : copyS ops (n + 1) = ⟨(copyS ops n).ops ++ [aliasO o (copyS ops n).al], (copyS ops n).al ++ [sameO (aliasO o (copyS ops n).al) (copyS ops n).la n], lastO (aliasO o (copyS ops n).al) (copyS ops n).la (sameO (aliasO o (copyS ops n).al) (copyS ops n).la n)⟩ := by
  show (match ops[n]? with | some o => _ | none => _) = _
  rw [h]
theorem copyS_len (ops : List Opn) : ∀ n, n ≤ ops.length → (copyS ops n).ops.length = n ∧ (copyS ops n).al.length = n ∧ (copyS ops n).la.length = 4
  | 0, _ => ⟨rfl, rfl, rfl⟩
  | n + 1, hn => by
    obtain ⟨h1, h2, h3⟩ := copyS_len ops n (by omega)
    rw [copyS_next (List.getElem?_eq_getElem (show n < ops.length by omega))]
    refine ⟨by simp [h1], by simp [h2], ?_⟩
    simp only [lastO]
    split
    · rw [List.length_set]; exact h3
    split
    · rw [List.length_set]; exact h3
    · exact h3
theorem atL_app {l : List Int} {x k : Int} (h0 : 0 ≤ k) (h : k < l.length) : atL (l ++ [x]) k = atL l k := by
  unfold atL
  rw [List.getD_eq_getElem?_getD, List.getElem?_append_left (by omega), List.getD_eq_getElem?_getD]
theorem atL_last (l : List Int) (x : Int) : atL (l ++ [x]) (l.length : Int) = x := by
  unfold atL
  simp
theorem atL_get {l : List Int} {j : Nat} {x : Int} (h : l[j]? = some x) : atL l (j : Int) = x := by
  unfold atL
  simp [h]
theorem atL_set (l : List Int) (j k : Int) (x : Int) (h0 : 0 ≤ k) (h0' : 0 ≤ j) (hj : j < l.length) : atL (l.set j.toNat x) k = if k = j then x else atL l k := by
  unfold atL
  by_cases e : k = j
  · subst e
    rw [if_pos rfl, List.getD_eq_getElem?_getD, List.getElem?_set_self (by omega)]
    rfl
  · rw [if_neg e, List.getD_eq_getElem?_getD, List.getElem?_set_ne (by omega), List.getD_eq_getElem?_getD]
/-- What stays so while what is known is taken. -/
structure CpOk (ops : List Opn) (n : Nat) (c : Cp) : Prop where
  kd : ∀ (j : Nat) o, j < n → ops[j]? = some o → ∃ o', c.ops[j]? = some o' ∧ o'.kd = o.kd
  al : ∀ (j : Nat) o, j < n → ops[j]? = some o → mkB o.kd = true → ∃ (m : Nat) (o' : Opn), atL c.al j = m ∧ m ≤ j ∧ ops[m]? = some o' ∧ mkB o'.kd = true
  la : ∀ r : Int, 0 ≤ r → r ≤ 3 → 0 ≤ atL c.la r → ∃ (m : Nat) (o' : Opn), atL c.la r = m ∧ m < n ∧ ops[m]? = some o' ∧ mkB o'.kd = true
theorem copy_inv {b : Bk} (h : okB b = true) : ∀ n, n ≤ b.ops.length → CpOk b.ops n (copyS b.ops n)
  | 0, _ => ⟨fun j _ hj => by omega, fun j _ hj => by omega, fun r h0 h3 hr => by
      have : r = 0 ∨ r = 1 ∨ r = 2 ∨ r = 3 := by omega
      rcases this with rfl | rfl | rfl | rfl <;> (exact absurd (show (0 : Int) ≤ -1 from hr) (by decide))⟩
  | n + 1, hn => by
    obtain ⟨i1, i2, i3⟩ := copy_inv h n (by omega)
    obtain ⟨l1, l2, l3⟩ := copyS_len b.ops n (by omega)
    obtain ⟨_, _, _, h4, _⟩ := ok_parts h
    obtain ⟨o, e⟩ : ∃ o, b.ops[n]? = some o := ⟨_, List.getElem?_eq_getElem (by omega)⟩
    obtain ⟨p0, p1, _, _, _, p5, _⟩ := op_parts (h4 n o e)
    rw [copyS_next e]
    generalize copyS b.ops n = c at *
    have hkd : (aliasO o c.al).kd = o.kd := rfl
    have hkk : (aliasO o c.al).k = o.k := rfl
    have S : mkB o.kd = true → ∃ (m : Nat) (o' : Opn), sameO (aliasO o c.al) c.la n = m ∧ m ≤ n ∧ b.ops[m]? = some o' ∧ mkB o'.kd = true := fun hm => by
      unfold sameO
      rw [hkd, hkk]
      by_cases q : o.kd = 2 ∧ 0 ≤ atL c.la o.k
      · rw [if_pos q]
        obtain ⟨k0, k3⟩ := p5 (Or.inl q.1)
        obtain ⟨m, o', z1, z2, z3, z4⟩ := i3 o.k k0 k3 q.2
        exact ⟨m, o', z1, by omega, z3, z4⟩
      · rw [if_neg q]; exact ⟨n, o, rfl, Nat.le_refl _, e, hm⟩
    refine ⟨fun j o1 hj ho => ?_, fun j o1 hj ho hm => ?_, fun r h0 h3 hr => ?_⟩
    · by_cases ej : j = n
      · subst ej
        obtain rfl : o = o1 := Option.some.inj (e.symm.trans ho)
        exact ⟨aliasO o c.al, by simp [← l1], rfl⟩
      · obtain ⟨o', z1, z2⟩ := i1 j o1 (by omega) ho
        exact ⟨o', by simp only []; rw [List.getElem?_append_left (by omega)]; exact z1, z2⟩
    · by_cases ej : j = n
      · subst ej
        obtain rfl : o = o1 := Option.some.inj (e.symm.trans ho)
        simp only []
        have : atL (c.al ++ [sameO (aliasO o c.al) c.la j]) (j : Int) = sameO (aliasO o c.al) c.la j := by
          have := atL_last c.al (sameO (aliasO o c.al) c.la j)
          rw [l2] at this
          exact this
        rw [this]
        exact S hm
      · simp only []
        rw [atL_app (by omega) (by omega)]
        exact i2 j o1 (by omega) ho hm
    · simp only [lastO] at hr ⊢
      rw [hkd, hkk] at hr ⊢
      by_cases q2 : o.kd = 2
      · rw [if_pos q2] at hr ⊢
        obtain ⟨k0, k3⟩ := p5 (Or.inl q2)
        rw [atL_set _ _ _ _ h0 k0 (by omega)] at hr ⊢
        by_cases er : r = o.k
        · rw [if_pos er]
          obtain ⟨m, o', z1, z2, z3, z4⟩ := S (by rw [q2]; rfl)
          exact ⟨m, o', z1, by omega, z3, z4⟩
        · rw [if_neg er] at hr ⊢
          obtain ⟨m, o', z1, z2, z3, z4⟩ := i3 r h0 h3 hr
          exact ⟨m, o', z1, by omega, z3, z4⟩
      · rw [if_neg q2] at hr ⊢
        by_cases q8 : o.kd = 8
        · rw [if_pos q8] at hr ⊢
          obtain ⟨k0, k3⟩ := p5 (Or.inr q8)
          rw [atL_set _ _ _ _ h0 k0 (by omega)] at hr ⊢
          by_cases er : r = o.k
          · rw [if_pos er]
            have hx : mvX o.kd = true := by rw [q8]; rfl
            obtain ⟨m, o', z1, z2, z3, z4⟩ := val_take (p1 hx)
            obtain ⟨m', o2, y1, y2, y3, y4⟩ := i2 m o' z2 z3 z4
            refine ⟨m', o2, ?_, by omega, y3, y4⟩
            show (if mvX o.kd = true then atL c.al o.x else o.x) = _
            rw [if_pos hx, z1]
            exact y1
          · rw [if_neg er] at hr ⊢
            obtain ⟨m, o', z1, z2, z3, z4⟩ := i3 r h0 h3 hr
            exact ⟨m, o', z1, by omega, z3, z4⟩
        · rw [if_neg q8] at hr ⊢
          obtain ⟨m, o', z1, z2, z3, z4⟩ := i3 r h0 h3 hr
          exact ⟨m, o', z1, by omega, z3, z4⟩
theorem copy_at {b : Bk} (h : okB b = true) : ∀ n, n ≤ b.ops.length → ∀ (j : Nat) o, j < n → b.ops[j]? = some o → (copyS b.ops n).ops[j]? = some (aliasO o (copyS b.ops j).al)
  | 0, _, j, _, hj, _ => by omega
  | n + 1, hn, j, o, hj, ho => by
    obtain ⟨l1, l2, l3⟩ := copyS_len b.ops n (by omega)
    obtain ⟨o1, e⟩ : ∃ o, b.ops[n]? = some o := ⟨_, List.getElem?_eq_getElem (by omega)⟩
    rw [copyS_next e]
    by_cases ej : j = n
    · subst ej
      obtain rfl : o1 = o := Option.some.inj (e.symm.trans ho)
      simp only []
      rw [List.getElem?_append_right (by omega), l1]
      simp
    · simp only []
      rw [List.getElem?_append_left (by omega)]
      exact copy_at h n (by omega) j o (by omega) ho
/-- What is taken stands where a word is made. -/
theorem copy_ok {b : Bk} (h : okB b = true) : okB (copyB b) = true := by
  obtain ⟨h1, h2, h3, h4, h5⟩ := ok_parts h
  have I := copy_inv h
  have L := copyS_len b.ops b.ops.length (Nat.le_refl _)
  have V : ∀ (n : Nat) (k : Int), n ≤ b.ops.length → valB (b.ops.take n) k = true → valB ((copyS b.ops b.ops.length).ops.take n) (atL (copyS b.ops n).al k) = true := fun n k hn hk => by
    obtain ⟨m, o, rfl, z2, z3, z4⟩ := val_take hk
    obtain ⟨m', o', y1, y2, y3, y4⟩ := (I n hn).al m o z2 z3 z4
    rw [y1]
    obtain ⟨o2, x1, x2⟩ := (I b.ops.length (Nat.le_refl _)).kd m' o' (by omega) y3
    rw [val_at (o := o2) (by rw [List.getElem?_take_of_lt (by omega)]; exact x1), x2, y4]
  unfold copyB
  rw [if_pos h]
  refine ok_of h1 h2 (by show (copyS b.ops b.ops.length).ops.length ≤ 48; omega) (fun k o ho => ?_) ?_
  · change (copyS b.ops b.ops.length).ops[k]? = some o at ho
    show opB ((copyS b.ops b.ops.length).ops.take k) o b.ln = true
    have hk : k < b.ops.length := by have := (List.getElem?_eq_some_iff.1 ho).1; omega
    have e := copy_at h b.ops.length (Nat.le_refl _) k _ hk (List.getElem?_eq_getElem hk)
    rw [ho] at e
    obtain rfl := Option.some.inj e
    have q := h4 k _ (List.getElem?_eq_getElem hk)
    obtain ⟨_, p1, p2, p3, p4, _⟩ := op_parts q
    refine op_moved q ?_ ?_
    · split
      · rename_i e; exact V k _ (by omega) (p1 e)
      · rename_i e; exact p2 (by simpa using e)
    · split
      · rename_i e; exact V k _ (by omega) (p3 e)
      · rename_i e; exact p4 (by simpa using e)
  · show endB (copyS b.ops b.ops.length).ops b.en (if b.en = 1 then b.x else atL (copyS b.ops b.ops.length).al b.x) (if b.en = 3 ∨ b.en = 4 then atL (copyS b.ops b.ops.length).al b.y else b.y) b.k = true
    have W : ∀ k : Int, valB b.ops k = true → valB (copyS b.ops b.ops.length).ops (atL (copyS b.ops b.ops.length).al k) = true := fun k hk => by
      have := V b.ops.length k (Nat.le_refl _) (by rw [List.take_length]; exact hk)
      rw [List.take_of_length_le (by omega)] at this
      exact this
    obtain ⟨_, p1, p2, p3, p4, _⟩ := end_parts h5
    refine end_moved h5 ?_ ?_
    · by_cases e : b.en = 1
      · rw [if_pos e, if_pos e]; exact p2 e
      · rw [if_neg e, if_neg e]; exact W _ (p1 e)
    · by_cases e : b.en = 3 ∨ b.en = 4
      · rw [if_pos e, if_pos e]; exact W _ (p3 e)
      · rw [if_neg e, if_neg e]; exact p4 (by omega)
end Go.Proofs.YtflhehofgplcoaaDoor.Ir
