/-
  Our own hand as a model: what is left out.
-/
import Derived.Test.YtflhehofgplcoaaDoorOpN
namespace Go.Proofs.YtflhehofgplcoaaDoor.Ir
set_option linter.unusedVariables false
set_option linter.unusedSimpArgs false
open Wrd
/-- Those operations alone that are kept, and where each one's word is then. -/
def dropS (ops : List Opn) (keep : List Bool) : Nat → List Opn × List Int
  | 0 => ([], [])
  | n + 1 => match ops[n]? with
    | some o => (if keep.getD n false = true then (dropS ops keep n).1 ++ [aliasO o ((dropS ops keep n).2 ++ [((dropS ops keep n).1.length : Int)])] else (dropS ops keep n).1, (dropS ops keep n).2 ++ [((dropS ops keep n).1.length : Int)])
    | none => dropS ops keep n
def dropB (b : Bk) (keep : List Bool) : Bk := endO b (dropS b.ops keep b.ops.length).1 (dropS b.ops keep b.ops.length).2
theorem dropS_next {ops : List Opn} {keep : List Bool} {n : Nat} {o : Opn} (h : ops[n]? = some o) : dropS ops keep (n + 1) = (if keep.getD n false = true then (dropS ops keep n).1 ++ [aliasO o ((dropS ops keep n).2 ++ [((dropS ops keep n).1.length : Int)])] else (dropS ops keep n).1, (dropS ops keep n).2 ++ [((dropS ops keep n).1.length : Int)]) := by
  show (match ops[n]? with | some o => _ | none => _) = _
  rw [h]
theorem dropS_len (ops : List Opn) (keep : List Bool) : ∀ n, n ≤ ops.length → (dropS ops keep n).2.length = n ∧ (dropS ops keep n).1.length ≤ n
  | 0, _ => ⟨rfl, Nat.le_refl _⟩
  | n + 1, hn => by
    obtain ⟨h1, h2⟩ := dropS_len ops keep n (by omega)
    rw [dropS_next (List.getElem?_eq_getElem (show n < ops.length by omega))]
    refine ⟨by simp [h1], ?_⟩
    simp only []
    split
    · simp; exact h2
    · omega
theorem dropS_to (ops : List Opn) (keep : List Bool) : ∀ (n : Nat), n ≤ ops.length → ∀ j : Nat, j < n → atL (dropS ops keep n).2 j = ((dropS ops keep j).1.length : Int)
  | 0, _, j, hj => by omega
  | n + 1, hn, j, hj => by
    obtain ⟨h1, h2⟩ := dropS_len ops keep n (by omega)
    rw [dropS_next (List.getElem?_eq_getElem (show n < ops.length by omega))]
    simp only []
    by_cases e : j = n
    · subst e
      have := atL_last (dropS ops keep j).2 ((dropS ops keep j).1.length : Int)
      rw [h1] at this
      exact this
    · rw [atL_app (by omega) (by omega)]
      exact dropS_to ops keep n (by omega) j (by omega)
theorem dropS_pre (ops : List Opn) (keep : List Bool) (n : Nat) : ∀ d, n + d ≤ ops.length → ∃ t, (dropS ops keep (n + d)).1 = (dropS ops keep n).1 ++ t
  | 0, _ => ⟨[], by simp⟩
  | d + 1, hd => by
    obtain ⟨t, e⟩ := dropS_pre ops keep n d (by omega)
    rw [← Nat.add_assoc, dropS_next (List.getElem?_eq_getElem (show n + d < ops.length by omega))]
    simp only []
    split
    · rw [e, List.append_assoc]; exact ⟨_, rfl⟩
    · exact ⟨t, e⟩
theorem dropS_kept {ops : List Opn} {keep : List Bool} {j : Nat} {o : Opn} (ho : ops[j]? = some o) (hk : keep.getD j false = true) {n : Nat} (hj : j < n) (hn : n ≤ ops.length) :
    (dropS ops keep n).1[(dropS ops keep j).1.length]? = some (aliasO o ((dropS ops keep j).2 ++ [((dropS ops keep j).1.length : Int)])) := by
  obtain ⟨t, e⟩ := dropS_pre ops keep (j + 1) (n - (j + 1)) (by omega)
  rw [show j + 1 + (n - (j + 1)) = n by omega, dropS_next ho] at e
  simp only [hk, if_true] at e
  rw [e, List.append_assoc, List.getElem?_append_right (Nat.le_refl _)]
  simp
theorem dropS_back {ops : List Opn} {keep : List Bool} : ∀ (n : Nat), n ≤ ops.length → ∀ (k : Nat) (o' : Opn), (dropS ops keep n).1[k]? = some o' → ∃ (j : Nat) (o : Opn), j < n ∧ ops[j]? = some o ∧ keep.getD j false = true ∧ k = (dropS ops keep j).1.length ∧ o' = aliasO o ((dropS ops keep j).2 ++ [((dropS ops keep j).1.length : Int)])
  | 0, _, k, o', h => by simp [dropS] at h
  | n + 1, hn, k, o', h => by
    obtain ⟨o, e⟩ : ∃ o, ops[n]? = some o := ⟨_, List.getElem?_eq_getElem (by omega)⟩
    rw [dropS_next e] at h
    simp only [] at h
    by_cases hk : keep.getD n false = true
    · rw [if_pos hk] at h
      by_cases q : k < (dropS ops keep n).1.length
      · rw [List.getElem?_append_left q] at h
        obtain ⟨j, o1, z1, z⟩ := dropS_back n (by omega) k o' h
        exact ⟨j, o1, by omega, z⟩
      · rw [List.getElem?_append_right (by omega)] at h
        have : k - (dropS ops keep n).1.length = 0 := by
          have := (List.getElem?_eq_some_iff.1 h).1
          simp at this
          omega
        rw [this] at h
        simp at h
        exact ⟨n, o, by omega, e, hk, by omega, h.symm⟩
    · rw [if_neg hk] at h
      obtain ⟨j, o1, z1, z⟩ := dropS_back n (by omega) k o' h
      exact ⟨j, o1, by omega, z⟩
/-- What is kept is of nothing that is left out. -/
structure Refs (b : Bk) (keep : List Bool) : Prop where
  x : ∀ (k : Nat) o, b.ops[k]? = some o → keep.getD k false = true → mvX o.kd = true → keep.getD o.x.toNat false = true
  y : ∀ (k : Nat) o, b.ops[k]? = some o → keep.getD k false = true → mvY o.kd = true → keep.getD o.y.toNat false = true
  ex : b.en ≠ 1 → keep.getD b.x.toNat false = true
  ey : b.en = 3 ∨ b.en = 4 → keep.getD b.y.toNat false = true
theorem drop_val {ops : List Opn} {keep : List Bool} {n : Nat} (hn : n ≤ ops.length) {k : Int} (hv : valB (ops.take n) k = true) (hk : keep.getD k.toNat false = true) {m : Nat} (hm : n ≤ m) (hm' : m ≤ ops.length) :
    valB ((dropS ops keep m).1.take (dropS ops keep n).1.length) (atL (dropS ops keep n).2 k) = true := by
  obtain ⟨j, o, rfl, z2, z3, z4⟩ := val_take hv
  rw [dropS_to ops keep n hn j z2]
  rw [Int.toNat_natCast] at hk
  have lt : (dropS ops keep j).1.length < (dropS ops keep n).1.length := by
    have := dropS_kept z3 hk (n := n) z2 hn
    exact (List.getElem?_eq_some_iff.1 this).1
  rw [val_at (o := aliasO o ((dropS ops keep j).2 ++ [((dropS ops keep j).1.length : Int)])) (by rw [List.getElem?_take_of_lt lt]; exact dropS_kept z3 hk (by omega) hm')]
  exact z4
theorem drop_ok {b : Bk} (h : okB b = true) {keep : List Bool} (R : Refs b keep) : okB (dropB b keep) = true := by
  obtain ⟨h1, h2, h3, h4, h5⟩ := ok_parts h
  obtain ⟨L1, L2⟩ := dropS_len b.ops keep b.ops.length (Nat.le_refl _)
  refine ok_of h1 h2 (by show (dropS b.ops keep b.ops.length).1.length ≤ 48; omega) (fun k o' ho => ?_) ?_
  · change (dropS b.ops keep b.ops.length).1[k]? = some o' at ho
    show opB ((dropS b.ops keep b.ops.length).1.take k) o' b.ln = true
    obtain ⟨j, o, z1, z2, z3, rfl, rfl⟩ := dropS_back _ (Nat.le_refl _) k o' ho
    have q := h4 j _ z2
    obtain ⟨_, p1, p2, p3, p4, _⟩ := op_parts q
    obtain ⟨l1, _⟩ := dropS_len b.ops keep j (by omega)
    have V : ∀ k : Int, valB (b.ops.take j) k = true → keep.getD k.toNat false = true → valB ((dropS b.ops keep b.ops.length).1.take (dropS b.ops keep j).1.length) (atL ((dropS b.ops keep j).2 ++ [((dropS b.ops keep j).1.length : Int)]) k) = true := fun k v1 v2 => by
      obtain ⟨m, o1, rfl, w2, _⟩ := val_take v1
      rw [atL_app (by omega) (by omega)]
      exact drop_val (by omega) v1 v2 (by omega) (Nat.le_refl _)
    refine op_moved q ?_ ?_
    · split
      · rename_i e; exact V _ (p1 e) (R.x j o z2 z3 e)
      · rename_i e; exact p2 (by simpa using e)
    · split
      · rename_i e; exact V _ (p3 e) (R.y j o z2 z3 e)
      · rename_i e; exact p4 (by simpa using e)
  · show endB (dropS b.ops keep b.ops.length).1 b.en (if b.en = 1 then b.x else atL (dropS b.ops keep b.ops.length).2 b.x) (if b.en = 3 ∨ b.en = 4 then atL (dropS b.ops keep b.ops.length).2 b.y else b.y) b.k = true
    have W : ∀ k : Int, valB b.ops k = true → keep.getD k.toNat false = true → valB (dropS b.ops keep b.ops.length).1 (atL (dropS b.ops keep b.ops.length).2 k) = true := fun k hk hr => by
      have := drop_val (ops := b.ops) (keep := keep) (n := b.ops.length) (m := b.ops.length) (Nat.le_refl _) (k := k) (by rw [List.take_length]; exact hk) hr (Nat.le_refl _) (Nat.le_refl _)
      rw [List.take_length] at this
      exact this
    obtain ⟨_, p1, p2, p3, p4, _⟩ := end_parts h5
    refine end_moved h5 ?_ ?_
    · by_cases e : b.en = 1
      · rw [if_pos e, if_pos e]; exact p2 e
      · rw [if_neg e, if_neg e]; exact W _ (p1 e) (R.ex e)
    · by_cases e : b.en = 3 ∨ b.en = 4
      · rw [if_pos e, if_pos e]; exact W _ (p3 e) (R.ey e)
      · rw [if_neg e, if_neg e]; exact p4 (by omega)
/-- Whether a register is set again ahead of anything at which it can be seen. -/
def lostR (r : Int) : List Opn → Bool
  | [] => false
  | o :: t => if o.kd = 4 ∨ o.kd = 5 ∨ (o.kd = 2 ∧ o.k = r) then false else if o.kd = 8 ∧ o.k = r then true else lostR r t
def setK (ops : List Opn) (k : Nat) : Bool := match ops[k]? with | some o => decide (o.kd ≠ 8) || !lostR o.k (ops.drop (k + 1)) | none => false
def setsK (ops : List Opn) : List Bool := (List.range ops.length).map (setK ops)
def setsB (b : Bk) : Bk := if okB b = true then dropB b (setsK b.ops) else nilB
theorem setsK_at (ops : List Opn) (k : Nat) : (setsK ops).getD k false = setK ops k := by
  unfold setsK
  rw [List.getD_eq_getElem?_getD, List.getElem?_map]
  by_cases h : k < ops.length
  · rw [List.getElem?_range h]; rfl
  · rw [List.getElem?_eq_none (by simpa using h)]
    unfold setK
    rw [List.getElem?_eq_none (by omega)]
    rfl
theorem sets_word {b : Bk} {n : Nat} {k : Int} (h : valB (b.ops.take n) k = true) : (setsK b.ops).getD k.toNat false = true := by
  obtain ⟨j, o, rfl, _, z3, z4⟩ := val_take h
  rw [setsK_at, Int.toNat_natCast]
  unfold setK
  rw [z3]
  simp only []
  rw [decide_eq_true (by intro e; rw [e] at z4; cases z4)]
  rfl
theorem sets_refs {b : Bk} (h : okB b = true) : Refs b (setsK b.ops) := by
  obtain ⟨_, _, _, h4, h5⟩ := ok_parts h
  obtain ⟨_, p1, _, p3, _⟩ := end_parts h5
  exact ⟨fun k o ho _ hx => sets_word ((op_parts (h4 k o ho)).2.1 hx), fun k o ho _ hy => sets_word ((op_parts (h4 k o ho)).2.2.2.1 hy),
    fun e => sets_word (n := b.ops.length) (by rw [List.take_length]; exact p1 e), fun e => sets_word (n := b.ops.length) (by rw [List.take_length]; exact p3 e)⟩
theorem sets_ok {b : Bk} (h : okB b = true) : okB (setsB b) = true := by
  unfold setsB
  rw [if_pos h]
  exact drop_ok h (sets_refs h)
/-- What an operation that is used uses. -/
def markU (us : List Bool) (o : Opn) : List Bool :=
  if mvY o.kd = true then (if mvX o.kd = true then us.set o.x.toNat true else us).set o.y.toNat true else if mvX o.kd = true then us.set o.x.toNat true else us
def used0 (b : Bk) : List Bool :=
  if b.en = 3 ∨ b.en = 4 then (if b.en = 1 then b.ops.map (fun o => decide (4 ≤ o.kd)) else (b.ops.map (fun o => decide (4 ≤ o.kd))).set b.x.toNat true).set b.y.toNat true else if b.en = 1 then b.ops.map (fun o => decide (4 ≤ o.kd)) else (b.ops.map (fun o => decide (4 ≤ o.kd))).set b.x.toNat true
/-- One operation looked at, from the end on. -/
def usedO (ops : List Opn) (n : Nat) (us : List Bool) : List Bool := match ops[n]? with | some o => if us.getD n false = true then markU us o else us | none => us
def usedD (ops : List Opn) : Nat → List Bool → List Bool
  | 0, us => us
  | n + 1, us => usedD ops n (usedO ops n us)
def usedL (b : Bk) : List Bool := usedD b.ops b.ops.length (used0 b)
def usedB (b : Bk) : List Bool := if okB b = true then usedL b else []
def deadB (b : Bk) : Bk := if okB b = true then dropB b (usedL b) else nilB
theorem getD_set (us : List Bool) (j i : Nat) (hj : j < us.length) : (us.set j true).getD i false = (us.getD i false || decide (i = j)) := by
  rw [List.getD_eq_getElem?_getD, List.getD_eq_getElem?_getD]
  by_cases e : i = j
  · subst e
    rw [List.getElem?_set_self hj]
    simp
  · rw [List.getElem?_set_ne (by omega)]
    simp [e]
theorem markU_len (us : List Bool) (o : Opn) : (markU us o).length = us.length := by
  unfold markU
  split <;> split <;> simp only [List.length_set]
theorem used0_len (b : Bk) : (used0 b).length = b.ops.length := by
  unfold used0
  split <;> split <;> simp only [List.length_set, List.length_map]
theorem usedO_len (ops : List Opn) (n : Nat) (us : List Bool) : (usedO ops n us).length = us.length := by
  unfold usedO
  split
  · split
    · exact markU_len _ _
    · rfl
  · rfl
theorem usedD_len (ops : List Opn) : ∀ n us, (usedD ops n us).length = us.length
  | 0, _ => rfl
  | n + 1, us => by unfold usedD; rw [usedD_len ops n, usedO_len]
theorem markU_at {us : List Bool} {o : Opn} {n : Nat} {ops : List Opn} {size : Int} (ho : opB (ops.take n) o size = true) (hn : n ≤ us.length) (i : Nat) :
    (markU us o).getD i false = (us.getD i false || (mvX o.kd && decide (i = o.x.toNat)) || (mvY o.kd && decide (i = o.y.toNat))) := by
  obtain ⟨_, p1, _, p3, _⟩ := op_parts ho
  have X : mvX o.kd = true → o.x.toNat < us.length := fun e => by obtain ⟨m, _, e1, e2, _⟩ := val_take (p1 e); omega
  have Y : mvY o.kd = true → o.y.toNat < us.length := fun e => by obtain ⟨m, _, e1, e2, _⟩ := val_take (p3 e); omega
  unfold markU
  by_cases ex : mvX o.kd = true
  · by_cases ey : mvY o.kd = true
    · rw [if_pos ey, if_pos ex, getD_set _ _ _ (by rw [List.length_set]; exact Y ey), getD_set _ _ _ (X ex), ex, ey]
      simp
    · rw [if_neg ey, if_pos ex, getD_set _ _ _ (X ex), ex, (by simpa using ey : mvY o.kd = false)]
      simp
  · by_cases ey : mvY o.kd = true
    · rw [if_pos ey, if_neg ex, getD_set _ _ _ (Y ey), ey, (by simpa using ex : mvX o.kd = false)]
      simp
    · rw [if_neg ey, if_neg ex, (by simpa using ey : mvY o.kd = false), (by simpa using ex : mvX o.kd = false)]
      simp
theorem used0_at {b : Bk} (h : okB b = true) (i : Nat) : (used0 b).getD i false = ((match b.ops[i]? with | some o => decide (4 ≤ o.kd) | none => false) || (decide (b.en ≠ 1) && decide (i = b.x.toNat)) || (decide (b.en = 3 ∨ b.en = 4) && decide (i = b.y.toNat))) := by
  obtain ⟨_, _, _, _, h5⟩ := ok_parts h
  obtain ⟨_, p1, _, p3, _⟩ := end_parts h5
  have X : b.en ≠ 1 → b.x.toNat < b.ops.length := fun e => by obtain ⟨m, _, e1, e2, _⟩ := val_get (p1 e); omega
  have Y : b.en = 3 ∨ b.en = 4 → b.y.toNat < b.ops.length := fun e => by obtain ⟨m, _, e1, e2, _⟩ := val_get (p3 e); omega
  have M : (b.ops.map (fun o => decide (4 ≤ o.kd))).getD i false = (match b.ops[i]? with | some o => decide (4 ≤ o.kd) | none => false) := by
    rw [List.getD_eq_getElem?_getD, List.getElem?_map]
    cases b.ops[i]? <;> rfl
  unfold used0
  by_cases ex : b.en = 1
  · rw [if_neg (by omega), if_pos ex, M]
    simp [ex]
  · by_cases ey : b.en = 3 ∨ b.en = 4
    · rw [if_pos ey, if_neg ex, getD_set _ _ _ (by rw [List.length_set, List.length_map]; exact Y ey), getD_set _ _ _ (by rw [List.length_map]; exact X ex), M]
      simp [ex, ey]
    · rw [if_neg ey, if_neg ex, getD_set _ _ _ (by rw [List.length_map]; exact X ex), M]
      simp [ex, ey]
/-- What is marked so far, by the operations that are ok. -/
theorem usedO_at {b : Bk} (h : okB b = true) {n : Nat} {o : Opn} (ho : b.ops[n]? = some o) {us : List Bool} (hl : us.length = b.ops.length) (i : Nat) :
    (usedO b.ops n us).getD i false = (us.getD i false || (us.getD n false && ((mvX o.kd && decide (i = o.x.toNat)) || (mvY o.kd && decide (i = o.y.toNat))))) := by
  obtain ⟨_, _, _, h4, _⟩ := ok_parts h
  have hn := (List.getElem?_eq_some_iff.1 ho).1
  unfold usedO
  rw [ho]
  simp only []
  by_cases e : us.getD n false = true
  · rw [if_pos e, e, markU_at (h4 n o ho) (by omega)]
    simp [Bool.or_assoc]
  · rw [if_neg e, (by simpa using e : us.getD n false = false)]
    simp
theorem usedD_all {b : Bk} (h : okB b = true) : ∀ (n : Nat) (us : List Bool), n ≤ b.ops.length → us.length = b.ops.length →
    (∀ i, us.getD i false = true → (usedD b.ops n us).getD i false = true) ∧ (∀ i, n ≤ i + 1 → (usedD b.ops n us).getD i false = us.getD i false) ∧
    (∀ (k : Nat) o, k < n → b.ops[k]? = some o → (usedD b.ops n us).getD k false = true → (mvX o.kd = true → (usedD b.ops n us).getD o.x.toNat false = true) ∧ (mvY o.kd = true → (usedD b.ops n us).getD o.y.toNat false = true))
  | 0, us, _, _ => ⟨fun _ h => h, fun _ _ => rfl, fun k _ hk => by omega⟩
  | n + 1, us, hn, hl => by
    obtain ⟨_, _, _, h4, _⟩ := ok_parts h
    obtain ⟨o, ho⟩ : ∃ o, b.ops[n]? = some o := ⟨_, List.getElem?_eq_getElem (by omega)⟩
    obtain ⟨_, p1, _, p3, _⟩ := op_parts (h4 n o ho)
    obtain ⟨i1, i2, i3⟩ := usedD_all h n (usedO b.ops n us) (by omega) (by rw [usedO_len]; exact hl)
    have at_ := usedO_at h ho hl
    have X : ∀ i, n ≤ i → (mvX o.kd && decide (i = o.x.toNat)) = false := fun i hi => by
      by_cases e : mvX o.kd = true
      · obtain ⟨m, _, e1, e2, _⟩ := val_take (p1 e)
        rw [decide_eq_false (by omega)]; simp
      · rw [(by simpa using e : mvX o.kd = false)]; rfl
    have Y : ∀ i, n ≤ i → (mvY o.kd && decide (i = o.y.toNat)) = false := fun i hi => by
      by_cases e : mvY o.kd = true
      · obtain ⟨m, _, e1, e2, _⟩ := val_take (p3 e)
        rw [decide_eq_false (by omega)]; simp
      · rw [(by simpa using e : mvY o.kd = false)]; rfl
    have same : ∀ i, n ≤ i → (usedO b.ops n us).getD i false = us.getD i false := fun i hi => by rw [at_, X i hi, Y i hi]; simp
    show (∀ i, us.getD i false = true → (usedD b.ops n (usedO b.ops n us)).getD i false = true) ∧ _
    refine ⟨fun i hi => i1 i (by rw [at_, hi]; rfl), fun i hi => ?_, fun k o' hk ho' hu => ?_⟩
    · show (usedD b.ops n (usedO b.ops n us)).getD i false = _
      rw [i2 i (by omega), same i (by omega)]
    · change (usedD b.ops n (usedO b.ops n us)).getD k false = true at hu
      show (mvX o'.kd = true → (usedD b.ops n (usedO b.ops n us)).getD o'.x.toNat false = true) ∧ (mvY o'.kd = true → (usedD b.ops n (usedO b.ops n us)).getD o'.y.toNat false = true)
      by_cases e : k = n
      · subst e
        obtain rfl : o = o' := Option.some.inj (ho.symm.trans ho')
        have hus : us.getD k false = true := by rw [i2 k (by omega), same k (Nat.le_refl _)] at hu; exact hu
        exact ⟨fun ex => i1 _ (by rw [at_, hus, ex]; simp), fun ey => i1 _ (by rw [at_, hus, ey]; simp)⟩
      · exact i3 k o' (by omega) ho' hu
theorem used_refs {b : Bk} (h : okB b = true) : Refs b (usedL b) := by
  obtain ⟨k1, _, k3⟩ := usedD_all h b.ops.length (used0 b) (Nat.le_refl _) (used0_len b)
  have lt : ∀ (k : Nat) o, b.ops[k]? = some o → k < b.ops.length := fun k o ho => (List.getElem?_eq_some_iff.1 ho).1
  exact ⟨fun k o ho hu hx => (k3 k o (lt k o ho) ho hu).1 hx, fun k o ho hu hy => (k3 k o (lt k o ho) ho hu).2 hy,
    fun e => k1 _ (by rw [used0_at h]; simp [e]), fun e => k1 _ (by rw [used0_at h]; simp [e])⟩
theorem dead_ok {b : Bk} (h : okB b = true) : okB (deadB b) = true := by
  unfold deadB
  rw [if_pos h]
  exact drop_ok h (used_refs h)
def allB (b : Bk) : Bk := deadB (setsB (deadB (constB (copyB b))))
end Go.Proofs.YtflhehofgplcoaaDoor.Ir
