/-
  Texts of atoms: each list of atoms that is fine has one of its own, and they stand as the lists do.
-/
import Derived.Test.YtckhfpaicnjknaaGreatPolC
namespace Go.Proofs.YtckhfpaicnjknaaGreat.Pol
def byteOf (a : Int) : UInt8 := UInt8.ofNat a.toNat
/-- The text of atoms: how many they are, and then these. -/
def txt (av : List Int) : List UInt8 := UInt8.ofNat av.length :: av.map byteOf
/-- Atoms that have a text of their own. -/
structure Fine (av : List Int) : Prop where
  at_ : ∀ a ∈ av, 0 ≤ a ∧ a < 256
  len : av.length < 256
theorem Fine.tail {a : Int} {av : List Int} (h : Fine (a :: av)) : Fine av := ⟨fun b hb => h.at_ b (List.mem_cons_of_mem _ hb), by have := h.len; simp at this; omega⟩
theorem Fine.head {a : Int} {av : List Int} (h : Fine (a :: av)) : 0 ≤ a ∧ a < 256 := h.at_ a (List.mem_cons_self ..)
theorem byte_lt {a b : Int} (ha : 0 ≤ a ∧ a < 256) (hb : 0 ≤ b ∧ b < 256) : byteOf a < byteOf b ↔ a < b := by
  unfold byteOf
  rw [UInt8.lt_iff_toNat_lt]
  simp only [UInt8.toNat_ofNat']
  omega
theorem byte_inj {a b : Int} (ha : 0 ≤ a ∧ a < 256) (hb : 0 ≤ b ∧ b < 256) (h : byteOf a = byteOf b) : a = b := by
  have := congrArg UInt8.toNat h
  unfold byteOf at this
  simp only [UInt8.toNat_ofNat'] at this
  omega
theorem bytes_inj : ∀ {av bv : List Int}, (∀ a ∈ av, 0 ≤ a ∧ a < 256) → (∀ a ∈ bv, 0 ≤ a ∧ a < 256) → av.map byteOf = bv.map byteOf → av = bv
  | [], [], _, _, _ => rfl
  | [], b :: bv, _, _, h => by simp at h
  | a :: av, [], _, _, h => by simp at h
  | a :: av, b :: bv, ha, hb, h => by
    simp only [List.map_cons, List.cons.injEq] at h
    rw [byte_inj (ha a (List.mem_cons_self ..)) (hb b (List.mem_cons_self ..)) h.1, bytes_inj (fun x hx => ha x (List.mem_cons_of_mem _ hx)) (fun x hx => hb x (List.mem_cons_of_mem _ hx)) h.2]
theorem txt_inj {av bv : List Int} (ha : Fine av) (hb : Fine bv) (h : txt av = txt bv) : av = bv := by
  unfold txt at h
  simp only [List.cons.injEq] at h
  exact bytes_inj ha.at_ hb.at_ h.2
theorem lex_bytes : ∀ {av bv : List Int}, (∀ a ∈ av, 0 ≤ a ∧ a < 256) → (∀ a ∈ bv, 0 ≤ a ∧ a < 256) → (av.map byteOf < bv.map byteOf ↔ lexI av bv < 0)
  | [], [], _, _ => by simp [lexI]
  | [], b :: bv, _, _ => by simp [lexI]
  | a :: av, [], _, _ => by simp [lexI]
  | a :: av, b :: bv, ha, hb => by
    have h1 := ha a (List.mem_cons_self ..)
    have h2 := hb b (List.mem_cons_self ..)
    have ih := lex_bytes (av := av) (bv := bv) (fun x hx => ha x (List.mem_cons_of_mem _ hx)) (fun x hx => hb x (List.mem_cons_of_mem _ hx))
    rw [List.map_cons, List.map_cons, List.cons_lt_cons_iff, byte_lt h1 h2, ih, lexI]
    by_cases e : a < b
    · simp [e]
    · by_cases e2 : b < a
      · have : byteOf a ≠ byteOf b := fun h => by have := byte_inj h1 h2 h; omega
        simp [e, e2, this]
      · have : a = b := by omega
        subst this
        simp
theorem lex_zero : ∀ {av bv : List Int}, lexI av bv = 0 → av = bv
  | [], [], _ => rfl
  | [], b :: bv, h => by simp [lexI] at h
  | a :: av, [], h => by simp [lexI] at h
  | a :: av, b :: bv, h => by
    rw [lexI] at h
    by_cases e : a < b
    · simp [e] at h
    · by_cases e2 : b < a
      · simp [e, e2] at h
      · have : a = b := by omega
        subst this
        simp at h
        rw [lex_zero h]
theorem ordT_lt {av bv : List Int} (ha : Fine av) (hb : Fine bv) : ordA av bv < 0 ↔ txt av < txt bv := by
  have l1 := ha.len
  have l2 := hb.len
  unfold ordA txt
  rw [List.cons_lt_cons_iff, lex_bytes ha.at_ hb.at_]
  have e1 : (UInt8.ofNat av.length < UInt8.ofNat bv.length) ↔ av.length < bv.length := by
    rw [UInt8.lt_iff_toNat_lt]
    simp only [UInt8.toNat_ofNat']
    omega
  have e2 : (UInt8.ofNat av.length = UInt8.ofNat bv.length) ↔ av.length = bv.length := by
    rw [← UInt8.toNat_inj]
    simp only [UInt8.toNat_ofNat']
    omega
  rw [e1, e2]
  by_cases h1 : av.length < bv.length
  · simp [h1]
  · by_cases h2 : bv.length < av.length
    · simp [h1, h2]; omega
    · simp [h1, h2]; omega
theorem ordT_eq {av bv : List Int} (h : ordA av bv = 0) : av = bv := by
  unfold ordA at h
  by_cases h1 : av.length < bv.length
  · simp [h1] at h
  · by_cases h2 : bv.length < av.length
    · simp [h1, h2] at h
    · simp only [if_neg h1, if_neg h2] at h
      exact lex_zero h
theorem ordT_gt {av bv : List Int} (ha : Fine av) (hb : Fine bv) (h : 0 < ordA av bv) : txt bv < txt av := by
  have h1 : ¬ txt av < txt bv := fun h' => by have := (ordT_lt ha hb).2 h'; omega
  rcases List.le_total (txt av) (txt bv) with h2 | h2
  · have h3 : txt av ≠ txt bv := fun e => by
      have := txt_inj ha hb e
      subst this
      have : ordA av av = 0 := by
        unfold ordA
        rw [if_neg (by omega), if_neg (by omega)]
        clear h h1 h2 e ha hb
        induction av with
        | nil => rfl
        | cons a r ih => rw [lexI, if_neg (by omega), if_neg (by omega)]; exact ih
      omega
    exact absurd ((List.le_antisymm h2 (List.not_lt.1 h1))) h3
  · rcases Classical.em (txt bv < txt av) with h3 | h3
    · exact h3
    · have e := List.le_antisymm (List.not_lt.1 h3) h2
      have := txt_inj ha hb e
      subst this
      have : ordA av av = 0 := by
        unfold ordA
        rw [if_neg (by omega), if_neg (by omega)]
        clear h h1 h2 e ha hb h3
        induction av with
        | nil => rfl
        | cons a r ih => rw [lexI, if_neg (by omega), if_neg (by omega)]; exact ih
      omega
end Go.Proofs.YtckhfpaicnjknaaGreat.Pol
