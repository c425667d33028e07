/-
  Plain facts on the bits of words: a sum is what parts, and twice what is in both; what is reckoned with words undoes and spreads. No program in it.
-/
import Derived.Laws.BitsAllLaws
namespace Go.Proofs.Ytmmlhmhlfmafgaa.Wrd
open Go

theorem mod2_xor (a b : Nat) : (a ^^^ b) % 2 = (a + b) % 2 := by
  have h := Nat.xor_mod_two_eq_one (a := a) (b := b)
  rcases Nat.mod_two_eq_zero_or_one (a ^^^ b) with h0 | h0 <;> rcases Nat.mod_two_eq_zero_or_one a with h1 | h1 <;> rcases Nat.mod_two_eq_zero_or_one b with h2 | h2 <;> simp [h0, h1, h2] at h <;> omega
theorem mod2_and (a b : Nat) : (a &&& b) % 2 = (a % 2) * (b % 2) := by
  have h := Nat.and_mod_two_eq_one (a := a) (b := b)
  rcases Nat.mod_two_eq_zero_or_one (a &&& b) with h0 | h0 <;> rcases Nat.mod_two_eq_zero_or_one a with h1 | h1 <;> rcases Nat.mod_two_eq_zero_or_one b with h2 | h2 <;> simp [h0, h1, h2] at h ⊢
theorem xor_and_add (a : Nat) : ∀ b : Nat, (a ^^^ b) + 2 * (a &&& b) = a + b := by
  induction a using Nat.strongRecOn with
  | ind a ih =>
    intro b
    by_cases h : a = 0
    · subst h; simp
    · have h1 := ih (a / 2) (by omega) (b / 2)
      have e1 := Nat.xor_div_two (a := a) (b := b)
      have e2 := Nat.and_div_two (a := a) (b := b)
      have m1 := mod2_xor a b
      have m2 := mod2_and a b
      rw [← e1, ← e2] at h1
      clear e1 e2 ih
      generalize a ^^^ b = X at *
      generalize a &&& b = Y at *
      rcases Nat.mod_two_eq_zero_or_one a with h2 | h2 <;> rcases Nat.mod_two_eq_zero_or_one b with h3 | h3 <;> rw [h2, h3] at m2 <;> omega
theorem xor_and_or (a : Nat) : ∀ b : Nat, (a ^^^ b) + (a &&& b) = a ||| b := by
  induction a using Nat.strongRecOn with
  | ind a ih =>
    intro b
    by_cases h : a = 0
    · subst h; simp
    · have h1 := ih (a / 2) (by omega) (b / 2)
      have e1 := Nat.xor_div_two (a := a) (b := b)
      have e2 := Nat.and_div_two (a := a) (b := b)
      have e3 := Nat.or_div_two (a := a) (b := b)
      have m1 := mod2_xor a b
      have m2 := mod2_and a b
      have m3 := Nat.or_mod_two_eq_one (a := a) (b := b)
      rw [← e1, ← e2, ← e3] at h1
      clear e1 e2 e3 ih
      generalize a ^^^ b = X at *
      generalize a &&& b = Y at *
      generalize a ||| b = Z at *
      rcases Nat.mod_two_eq_zero_or_one a with h2 | h2 <;> rcases Nat.mod_two_eq_zero_or_one b with h3 | h3 <;> rw [h2, h3] at m2 <;> omega

/-- What is reckoned with two words. -/
def wdo (op a b : Int) : Int :=
  if 0 ≤ a ∧ a < 65536 ∧ 0 ≤ b ∧ b < 65536 then
    if op = 1 then (a + b) % 65536 else if op = 2 then (a - b) % 65536 else if op = 3 then a * b % 65536 else if op = 4 then ((a.toNat &&& b.toNat : Nat) : Int) else if op = 5 then ((a.toNat ^^^ b.toNat : Nat) : Int) else 0
  else 0
theorem wdo_no {op a b : Int} (h : ¬ (0 ≤ a ∧ a < 65536 ∧ 0 ≤ b ∧ b < 65536)) : wdo op a b = 0 := if_neg h
theorem wdo1 {a b : Int} (ha : 0 ≤ a ∧ a < 65536) (hb : 0 ≤ b ∧ b < 65536) : wdo 1 a b = (a + b) % 65536 := by unfold wdo; rw [if_pos ⟨ha.1, ha.2, hb.1, hb.2⟩]; rfl
theorem wdo2 {a b : Int} (ha : 0 ≤ a ∧ a < 65536) (hb : 0 ≤ b ∧ b < 65536) : wdo 2 a b = (a - b) % 65536 := by unfold wdo; rw [if_pos ⟨ha.1, ha.2, hb.1, hb.2⟩]; rfl
theorem wdo3 {a b : Int} (ha : 0 ≤ a ∧ a < 65536) (hb : 0 ≤ b ∧ b < 65536) : wdo 3 a b = a * b % 65536 := by unfold wdo; rw [if_pos ⟨ha.1, ha.2, hb.1, hb.2⟩]; rfl
theorem wdo4 {a b : Int} (ha : 0 ≤ a ∧ a < 65536) (hb : 0 ≤ b ∧ b < 65536) : wdo 4 a b = ((a.toNat &&& b.toNat : Nat) : Int) := by unfold wdo; rw [if_pos ⟨ha.1, ha.2, hb.1, hb.2⟩]; rfl
theorem wdo5 {a b : Int} (ha : 0 ≤ a ∧ a < 65536) (hb : 0 ≤ b ∧ b < 65536) : wdo 5 a b = ((a.toNat ^^^ b.toNat : Nat) : Int) := by unfold wdo; rw [if_pos ⟨ha.1, ha.2, hb.1, hb.2⟩]; rfl
theorem wdo_bd (op a b : Int) : 0 ≤ wdo op a b ∧ wdo op a b < 65536 := by
  unfold wdo
  split
  · rename_i h
    have h1 : a.toNat &&& b.toNat < 2 ^ 16 := Nat.and_lt_two_pow _ (by omega)
    have h2 : a.toNat ^^^ b.toNat < 2 ^ 16 := Nat.xor_lt_two_pow (by omega) (by omega)
    split
    · omega
    split
    · omega
    split
    · omega
    split
    · omega
    split
    · omega
    · omega
  · omega
theorem undo_sub {a b : Int} (ha : 0 ≤ a ∧ a < 65536) (hb : 0 ≤ b ∧ b < 65536) : wdo 2 (wdo 1 a b) b = a := by
  rw [wdo2 (wdo_bd 1 a b) hb, wdo1 ha hb]; omega
theorem undo_xor {a b : Int} (ha : 0 ≤ a ∧ a < 65536) (hb : 0 ≤ b ∧ b < 65536) : wdo 5 (wdo 5 a b) b = a := by
  rw [wdo5 (wdo_bd 5 a b) hb, wdo5 ha hb, Int.toNat_natCast, Nat.xor_assoc, Nat.xor_self, Nat.xor_zero]; omega
theorem sum_bits {a b : Int} (ha : 0 ≤ a ∧ a < 65536) (hb : 0 ≤ b ∧ b < 65536) : wdo 1 (wdo 5 a b) (wdo 1 (wdo 4 a b) (wdo 4 a b)) = wdo 1 a b := by
  have h := xor_and_add a.toNat b.toNat
  have b4 := wdo_bd 4 a b
  rw [wdo1 (wdo_bd 5 a b) (wdo_bd 1 (wdo 4 a b) (wdo 4 a b)), wdo1 b4 b4, wdo1 ha hb, wdo5 ha hb, wdo4 ha hb]
  omega
theorem spread {a b c : Int} (ha : 0 ≤ a ∧ a < 65536) (hb : 0 ≤ b ∧ b < 65536) (hc : 0 ≤ c ∧ c < 65536) : wdo 3 (wdo 1 a b) c = wdo 1 (wdo 3 a c) (wdo 3 b c) := by
  rw [wdo3 (wdo_bd 1 a b) hc, wdo1 (wdo_bd 3 a c) (wdo_bd 3 b c), wdo1 ha hb, wdo3 ha hc, wdo3 hb hc, ← Int.add_emod, ← Int.add_mul, Int.mul_emod, Int.emod_emod_of_dvd _ (Int.dvd_refl _), ← Int.mul_emod]
theorem comm1 {a b : Int} (ha : 0 ≤ a ∧ a < 65536) (hb : 0 ≤ b ∧ b < 65536) : wdo 1 a b = wdo 1 b a := by rw [wdo1 ha hb, wdo1 hb ha, Int.add_comm]
theorem comm3 {a b : Int} (ha : 0 ≤ a ∧ a < 65536) (hb : 0 ≤ b ∧ b < 65536) : wdo 3 a b = wdo 3 b a := by rw [wdo3 ha hb, wdo3 hb ha, Int.mul_comm]
theorem comm4 {a b : Int} (ha : 0 ≤ a ∧ a < 65536) (hb : 0 ≤ b ∧ b < 65536) : wdo 4 a b = wdo 4 b a := by rw [wdo4 ha hb, wdo4 hb ha, Nat.and_comm]
theorem comm5 {a b : Int} (ha : 0 ≤ a ∧ a < 65536) (hb : 0 ≤ b ∧ b < 65536) : wdo 5 a b = wdo 5 b a := by rw [wdo5 ha hb, wdo5 hb ha, Nat.xor_comm]
theorem and_le {a b : Int} (ha : 0 ≤ a ∧ a < 65536) (hb : 0 ≤ b ∧ b < 65536) : wdo 4 a b ≤ a ∧ wdo 4 a b ≤ b := by
  have h1 := Nat.and_le_left (n := a.toNat) (m := b.toNat)
  have h2 := Nat.and_le_right (n := a.toNat) (m := b.toNat)
  rw [wdo4 ha hb]; omega
theorem xor_le {a b : Int} (ha : 0 ≤ a ∧ a < 65536) (hb : 0 ≤ b ∧ b < 65536) : wdo 5 a b ≤ a + b ∧ wdo 5 a b + wdo 4 a b ≤ 65535 := by
  have h := xor_and_add a.toNat b.toNat
  have h2 := xor_and_or a.toNat b.toNat
  have h3 : a.toNat ||| b.toNat < 2 ^ 16 := Nat.or_lt_two_pow (by omega) (by omega)
  rw [wdo4 ha hb, wdo5 ha hb]; omega
end Go.Proofs.Ytmmlhmhlfmafgaa.Wrd
