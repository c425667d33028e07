/-
  Plain facts on the bits of words: a sum is what parts, and twice what is in both; what is reckoned with words undoes and spreads. No program in it.
-/
import Derived.Laws.BitsAllLaws
import Derived.Test.YtckhfpaicnjknaaGreatProg
import Derived.WalkKit
import Derived.WalkSpells
import Derived.ProofKit
import Derived.OwnWalk
namespace Go.Proofs.YtckhfpaicnjknaaGreat.Wrd
open Go

theorem mod2_xor (a b : Nat) : (a ^^^ b) % 2 = (a + b) % 2 := by
  have h := Nat.xor_mod_two_eq_one (a := a) (b := b)
  rcases Nat.mod_two_eq_zero_or_one (a ^^^ b) with h0 | h0 <;> rcases Nat.mod_two_eq_zero_or_one a with h1 | h1 <;> rcases Nat.mod_two_eq_zero_or_one b with h2 | h2 <;> simp [h0, h1, h2] at h <;> omega
theorem mod2_and (a b : Nat) : (a &&& b) % 2 = (a % 2) * (b % 2) := by
  have h := Nat.and_mod_two_eq_one (a := a) (b := b)
  rcases Nat.mod_two_eq_zero_or_one (a &&& b) with h0 | h0 <;> rcases Nat.mod_two_eq_zero_or_one a with h1 | h1 <;> rcases Nat.mod_two_eq_zero_or_one b with h2 | h2 <;> simp [h0, h1, h2] at h ⊢
theorem xor_and_add (a : Nat) : ∀ b : Nat, (a ^^^ b) + 2 * (a &&& b) = a + b := by
  induction a using Nat.strongRecOn with
  | ind a ih =>
    intro b
    by_cases h : a = 0
    · subst h; simp
    · have h1 := ih (a / 2) (by omega) (b / 2)
      have e1 := Nat.xor_div_two (a := a) (b := b)
      have e2 := Nat.and_div_two (a := a) (b := b)
      have m1 := mod2_xor a b
      have m2 := mod2_and a b
      rw [← e1, ← e2] at h1
      clear e1 e2 ih
      generalize a ^^^ b = X at *
      generalize a &&& b = Y at *
      rcases Nat.mod_two_eq_zero_or_one a with h2 | h2 <;> rcases Nat.mod_two_eq_zero_or_one b with h3 | h3 <;> rw [h2, h3] at m2 <;> omega
theorem xor_and_or (a : Nat) : ∀ b : Nat, (a ^^^ b) + (a &&& b) = a ||| b := by
  induction a using Nat.strongRecOn with
  | ind a ih =>
    intro b
    by_cases h : a = 0
    · subst h; simp
    · have h1 := ih (a / 2) (by omega) (b / 2)
      have e1 := Nat.xor_div_two (a := a) (b := b)
      have e2 := Nat.and_div_two (a := a) (b := b)
      have e3 := Nat.or_div_two (a := a) (b := b)
      have m1 := mod2_xor a b
      have m2 := mod2_and a b
      have m3 := Nat.or_mod_two_eq_one (a := a) (b := b)
      rw [← e1, ← e2, ← e3] at h1
      clear e1 e2 e3 ih
      generalize a ^^^ b = X at *
      generalize a &&& b = Y at *
      generalize a ||| b = Z at *
      rcases Nat.mod_two_eq_zero_or_one a with h2 | h2 <;> rcases Nat.mod_two_eq_zero_or_one b with h3 | h3 <;> rw [h2, h3] at m2 <;> omega

/-- What is reckoned with two words. -/
def wdo (op a b : Int) : Int :=
  if 0 ≤ a ∧ a < 65536 ∧ 0 ≤ b ∧ b < 65536 then
    if op = 1 then (a + b) % 65536 else if op = 2 then (a - b) % 65536 else if op = 3 then a * b % 65536 else if op = 4 then ((a.toNat &&& b.toNat : Nat) : Int) else if op = 5 then ((a.toNat ^^^ b.toNat : Nat) : Int) else 0
  else 0
theorem wdo_no {op a b : Int} (h : ¬ (0 ≤ a ∧ a < 65536 ∧ 0 ≤ b ∧ b < 65536)) : wdo op a b = 0 := if_neg h
theorem wdo1 {a b : Int} (ha : 0 ≤ a ∧ a < 65536) (hb : 0 ≤ b ∧ b < 65536) : wdo 1 a b = (a + b) % 65536 := by unfold wdo; rw [if_pos ⟨ha.1, ha.2, hb.1, hb.2⟩]; rfl
theorem wdo2 {a b : Int} (ha : 0 ≤ a ∧ a < 65536) (hb : 0 ≤ b ∧ b < 65536) : wdo 2 a b = (a - b) % 65536 := by unfold wdo; rw [if_pos ⟨ha.1, ha.2, hb.1, hb.2⟩]; rfl
theorem wdo3 {a b : Int} (ha : 0 ≤ a ∧ a < 65536) (hb : 0 ≤ b ∧ b < 65536) : wdo 3 a b = a * b % 65536 := by unfold wdo; rw [if_pos ⟨ha.1, ha.2, hb.1, hb.2⟩]; rfl
theorem wdo4 {a b : Int} (ha : 0 ≤ a ∧ a < 65536) (hb : 0 ≤ b ∧ b < 65536) : wdo 4 a b = ((a.toNat &&& b.toNat : Nat) : Int) := by unfold wdo; rw [if_pos ⟨ha.1, ha.2, hb.1, hb.2⟩]; rfl
theorem wdo5 {a b : Int} (ha : 0 ≤ a ∧ a < 65536) (hb : 0 ≤ b ∧ b < 65536) : wdo 5 a b = ((a.toNat ^^^ b.toNat : Nat) : Int) := by unfold wdo; rw [if_pos ⟨ha.1, ha.2, hb.1, hb.2⟩]; rfl
theorem wdo_bd (op a b : Int) : 0 ≤ wdo op a b ∧ wdo op a b < 65536 := by
  unfold wdo
  split
  · rename_i h
    have h1 : a.toNat &&& b.toNat < 2 ^ 16 := Nat.and_lt_two_pow _ (by omega)
    have h2 : a.toNat ^^^ b.toNat < 2 ^ 16 := Nat.xor_lt_two_pow (by omega) (by omega)
    split
    · omega
    split
    · omega
    split
    · omega
    split
    · omega
    split
    · omega
    · omega
  · omega
theorem undo_sub {a b : Int} (ha : 0 ≤ a ∧ a < 65536) (hb : 0 ≤ b ∧ b < 65536) : wdo 2 (wdo 1 a b) b = a := by
  rw [wdo2 (wdo_bd 1 a b) hb, wdo1 ha hb]; omega
theorem undo_xor {a b : Int} (ha : 0 ≤ a ∧ a < 65536) (hb : 0 ≤ b ∧ b < 65536) : wdo 5 (wdo 5 a b) b = a := by
  rw [wdo5 (wdo_bd 5 a b) hb, wdo5 ha hb, Int.toNat_natCast, Nat.xor_assoc, Nat.xor_self, Nat.xor_zero]; omega
theorem sum_bits {a b : Int} (ha : 0 ≤ a ∧ a < 65536) (hb : 0 ≤ b ∧ b < 65536) : wdo 1 (wdo 5 a b) (wdo 1 (wdo 4 a b) (wdo 4 a b)) = wdo 1 a b := by
  have h := xor_and_add a.toNat b.toNat
  have b4 := wdo_bd 4 a b
  rw [wdo1 (wdo_bd 5 a b) (wdo_bd 1 (wdo 4 a b) (wdo 4 a b)), wdo1 b4 b4, wdo1 ha hb, wdo5 ha hb, wdo4 ha hb]
  omega
theorem spread {a b c : Int} (ha : 0 ≤ a ∧ a < 65536) (hb : 0 ≤ b ∧ b < 65536) (hc : 0 ≤ c ∧ c < 65536) : wdo 3 (wdo 1 a b) c = wdo 1 (wdo 3 a c) (wdo 3 b c) := by
  rw [wdo3 (wdo_bd 1 a b) hc, wdo1 (wdo_bd 3 a c) (wdo_bd 3 b c), wdo1 ha hb, wdo3 ha hc, wdo3 hb hc, ← Int.add_emod, ← Int.add_mul, Int.mul_emod, Int.emod_emod_of_dvd _ (Int.dvd_refl _), ← Int.mul_emod]
theorem comm1 {a b : Int} (ha : 0 ≤ a ∧ a < 65536) (hb : 0 ≤ b ∧ b < 65536) : wdo 1 a b = wdo 1 b a := by rw [wdo1 ha hb, wdo1 hb ha, Int.add_comm]
theorem comm3 {a b : Int} (ha : 0 ≤ a ∧ a < 65536) (hb : 0 ≤ b ∧ b < 65536) : wdo 3 a b = wdo 3 b a := by rw [wdo3 ha hb, wdo3 hb ha, Int.mul_comm]
theorem comm4 {a b : Int} (ha : 0 ≤ a ∧ a < 65536) (hb : 0 ≤ b ∧ b < 65536) : wdo 4 a b = wdo 4 b a := by rw [wdo4 ha hb, wdo4 hb ha, Nat.and_comm]
theorem comm5 {a b : Int} (ha : 0 ≤ a ∧ a < 65536) (hb : 0 ≤ b ∧ b < 65536) : wdo 5 a b = wdo 5 b a := by rw [wdo5 ha hb, wdo5 hb ha, Nat.xor_comm]
theorem and_le {a b : Int} (ha : 0 ≤ a ∧ a < 65536) (hb : 0 ≤ b ∧ b < 65536) : wdo 4 a b ≤ a ∧ wdo 4 a b ≤ b := by
  have h1 := Nat.and_le_left (n := a.toNat) (m := b.toNat)
  have h2 := Nat.and_le_right (n := a.toNat) (m := b.toNat)
  rw [wdo4 ha hb]; omega
theorem xor_le {a b : Int} (ha : 0 ≤ a ∧ a < 65536) (hb : 0 ≤ b ∧ b < 65536) : wdo 5 a b ≤ a + b ∧ wdo 5 a b + wdo 4 a b ≤ 65535 := by
  have h := xor_and_add a.toNat b.toNat
  have h2 := xor_and_or a.toNat b.toNat
  have h3 : a.toNat ||| b.toNat < 2 ^ 16 := Nat.or_lt_two_pow (by omega) (by omega)
  rw [wdo4 ha hb, wdo5 ha hb]; omega
end Go.Proofs.YtckhfpaicnjknaaGreat.Wrd
namespace Go.Proofs.YtckhfpaicnjknaaGreat.Wrd
open Go.ChangeShapes Go.WideShapes Go.ChangeAt Go.RowKit

theorem tmod_em (x : Int) : (x.tmod 65536 < 0 → x.tmod 65536 + 65536 = x % 65536) ∧ (¬ x.tmod 65536 < 0 → x.tmod 65536 = x % 65536) := by
  rw [Int.tmod_eq_emod]
  by_cases h : 0 ≤ x ∨ 65536 ∣ x
  · rw [if_pos h]; omega
  · rw [if_neg h]; simp only [Int.natAbs]; omega
theorem w16 (x : Int) : IntKind.u16.wrap x = x % 65536 := by simp [IntKind.wrap, IntKind.bits, IntKind.signed]
theorem w64 (x : Int) : wrap64 (x % 65536) = x % 65536 := IntWalk.wrap64_in _ ⟨by omega, by omega⟩

/-- Whether a number is a word. -/
def wok (n : Int) : Bool := decide (0 ≤ n ∧ n < 65536)
theorem wok_t {n : Int} (h0 : 0 ≤ n) (h1 : n < 65536) : wok n = true := decide_eq_true ⟨h0, h1⟩
theorem wok_f {n : Int} (h : ¬ (0 ≤ n ∧ n < 65536)) : wok n = false := decide_eq_false h

theorem implOk (n : Int) (w : World) : Calls Tryz.prog 38 #[.int .i64 n] w fun e w' => e = .returned (.bool (wok n)) ∧ w' = w := by
  by_cases h0 : 0 ≤ n
  · by_cases h1 : n < 65536
    · rw [wok_t h0 h1]
      go_enter Tryz.func38, Tryz.ntmps38
      go_wp2
      go_ret
      exact ⟨rfl, rfl⟩
    · rw [wok_f (by omega)]
      go_enter Tryz.func38, Tryz.ntmps38
      go_wp2
      go_ret
      exact ⟨rfl, rfl⟩
  · rw [wok_f (by omega)]
    go_enter Tryz.func38, Tryz.ntmps38
    go_wp2
    go_ret
    exact ⟨rfl, rfl⟩
theorem specOk (n : Int) (w : World) : Calls Tryz.prog 23 #[.int .i64 n] w fun e w' => e = .returned (.bool (wok n)) ∧ w' = w := by
  by_cases h0 : 0 ≤ n
  · by_cases h1 : n < 65536
    · rw [wok_t h0 h1]
      go_enter Tryz.func23, Tryz.ntmps23
      go_wp2
      go_ret
      exact ⟨rfl, rfl⟩
    · rw [wok_f (by omega)]
      go_enter Tryz.func23, Tryz.ntmps23
      go_wp2
      go_ret
      exact ⟨rfl, rfl⟩
  · rw [wok_f (by omega)]
    go_enter Tryz.func23, Tryz.ntmps23
    go_wp2
    go_ret
    exact ⟨rfl, rfl⟩
theorem ret_int {k : IntKind} {a b : Int} (h : a = b) : Ending.returned (.int k a) = .returned (.int k b) := by rw [h]
theorem specWrap (n : Int) (w : World) : Calls Tryz.prog 40 #[.int .i64 n] w fun e w' => e = .returned (.int .i64 (n % 65536)) ∧ w' = w := by
  by_cases h : n.tmod 65536 < 0
  · go_enter Tryz.func40, Tryz.ntmps40
    go_wp2
    go_ret
    exact ⟨ret_int (by rw [(tmod_em n).1 h, w64]), rfl⟩
  · go_enter Tryz.func40, Tryz.ntmps40
    go_wp2
    go_ret
    exact ⟨ret_int ((tmod_em n).2 (by omega)), rfl⟩
theorem win (x : Int) (h0 : 0 ≤ x) (h1 : x < 65536) : IntKind.u16.wrap x = x := IntWalk.u16_in x ⟨h0, by omega⟩
theorem mul_bd (a b : Int) (ha0 : 0 ≤ a) (ha1 : a < 65536) (hb0 : 0 ≤ b) (hb1 : b < 65536) : 0 ≤ a * b ∧ a * b ≤ 4294836225 := by
  refine ⟨Int.mul_nonneg ha0 hb0, ?_⟩
  have h1 : a * b ≤ 65535 * b := Int.mul_le_mul_of_nonneg_right (by omega) hb0
  omega
theorem i64_and (a b : Int) (h1 : 0 ≤ a) (h2 : a < 65536) (h3 : 0 ≤ b) (h4 : b < 65536) : bits .and .i64 a b = ((a.toNat &&& b.toNat : Nat) : Int) := by
  obtain ⟨A, rfl⟩ := Int.eq_ofNat_of_zero_le h1
  obtain ⟨B, rfl⟩ := Int.eq_ofNat_of_zero_le h3
  have hx : A &&& B < 2 ^ 16 := Nat.and_lt_two_pow _ (by omega)
  show IntKind.i64.wrap ((BitVec.ofInt 64 (A : Int) &&& BitVec.ofInt 64 (B : Int)).toNat : Int) = _
  rw [BitVec.toNat_and, ofInt_u64 A (by omega), ofInt_u64 B (by omega), IntWalk.i64_in _ ⟨by omega, by omega⟩]
  simp
theorem i64_xor (a b : Int) (h1 : 0 ≤ a) (h2 : a < 65536) (h3 : 0 ≤ b) (h4 : b < 65536) : bits .xor .i64 a b = ((a.toNat ^^^ b.toNat : Nat) : Int) := by
  obtain ⟨A, rfl⟩ := Int.eq_ofNat_of_zero_le h1
  obtain ⟨B, rfl⟩ := Int.eq_ofNat_of_zero_le h3
  have hx : A ^^^ B < 2 ^ 16 := Nat.xor_lt_two_pow (by omega) (by omega)
  show IntKind.i64.wrap ((BitVec.ofInt 64 (A : Int) ^^^ BitVec.ofInt 64 (B : Int)).toNat : Int) = _
  rw [BitVec.toNat_xor, ofInt_u64 A (by omega), ofInt_u64 B (by omega), IntWalk.i64_in _ ⟨by omega, by omega⟩]
  simp
theorem u_and (a b : Int) (h1 : 0 ≤ a) (h2 : a < 65536) (h3 : 0 ≤ b) (h4 : b < 65536) : wrap64 (bits .and .u16 a b) = ((a.toNat &&& b.toNat : Nat) : Int) := by
  have hx : a.toNat &&& b.toNat < 2 ^ 16 := Nat.and_lt_two_pow _ (by omega)
  rw [u16_and a b h1 h2 h3 h4, IntWalk.wrap64_in _ ⟨by omega, by omega⟩]
theorem u_xor (a b : Int) (h1 : 0 ≤ a) (h2 : a < 65536) (h3 : 0 ≤ b) (h4 : b < 65536) : wrap64 (bits .xor .u16 a b) = ((a.toNat ^^^ b.toNat : Nat) : Int) := by
  have hx : a.toNat ^^^ b.toNat < 2 ^ 16 := Nat.xor_lt_two_pow (by omega) (by omega)
  rw [u16_xor a b h1 h2 h3 h4, IntWalk.wrap64_in _ ⟨by omega, by omega⟩]
theorem implDo_add (a b : Int) (w : World) (ha0 : 0 ≤ a) (ha1 : a < 65536) (hb0 : 0 ≤ b) (hb1 : b < 65536) : Calls Tryz.prog 39 #[.int .i64 1, .int .i64 a, .int .i64 b] w fun e w' => e = .returned (.int .i64 ((a + b) % 65536)) ∧ Below w.heap.size w w' := by
  have i1 := win a ha0 ha1
  have i2 := win b hb0 hb1
  go_enter Tryz.func39, Tryz.ntmps39
  go_wp2
  go_ret
  exact ⟨ret_int (by rw [w16, w64]), (Below.refl _ _).alloc (Nat.le_refl _) _⟩
theorem specDo_add (a b : Int) (w : World) (ha0 : 0 ≤ a) (ha1 : a < 65536) (hb0 : 0 ≤ b) (hb1 : b < 65536) : Calls Tryz.prog 17 #[.int .i64 1, .int .i64 a, .int .i64 b] w fun e w' => e = .returned (.int .i64 ((a + b) % 65536)) ∧ w' = w := by
  have i1 := win a ha0 ha1
  have i2 := win b hb0 hb1
  go_enter Tryz.func17, Tryz.ntmps17
  go_wp2
  go_ret
  exact ⟨ret_int (rfl), rfl⟩
theorem implDo_sub (a b : Int) (w : World) (ha0 : 0 ≤ a) (ha1 : a < 65536) (hb0 : 0 ≤ b) (hb1 : b < 65536) : Calls Tryz.prog 39 #[.int .i64 2, .int .i64 a, .int .i64 b] w fun e w' => e = .returned (.int .i64 ((a - b) % 65536)) ∧ Below w.heap.size w w' := by
  have i1 := win a ha0 ha1
  have i2 := win b hb0 hb1
  go_enter Tryz.func39, Tryz.ntmps39
  go_wp2
  go_ret
  exact ⟨ret_int (by rw [w16, w64]), (Below.refl _ _).alloc (Nat.le_refl _) _⟩
theorem specDo_sub (a b : Int) (w : World) (ha0 : 0 ≤ a) (ha1 : a < 65536) (hb0 : 0 ≤ b) (hb1 : b < 65536) : Calls Tryz.prog 17 #[.int .i64 2, .int .i64 a, .int .i64 b] w fun e w' => e = .returned (.int .i64 ((a - b) % 65536)) ∧ w' = w := by
  by_cases h : (a - b).tmod 65536 < 0
  · go_enter Tryz.func17, Tryz.ntmps17
    go_wp2
    go_ret
    exact ⟨ret_int (by rw [(tmod_em (a - b)).1 h, w64]), rfl⟩
  · go_enter Tryz.func17, Tryz.ntmps17
    go_wp2
    go_ret
    exact ⟨ret_int ((tmod_em (a - b)).2 (by omega)), rfl⟩
theorem implDo_mul (a b : Int) (w : World) (ha0 : 0 ≤ a) (ha1 : a < 65536) (hb0 : 0 ≤ b) (hb1 : b < 65536) : Calls Tryz.prog 39 #[.int .i64 3, .int .i64 a, .int .i64 b] w fun e w' => e = .returned (.int .i64 (a * b % 65536)) ∧ Below w.heap.size w w' := by
  have i1 := win a ha0 ha1
  have i2 := win b hb0 hb1
  obtain ⟨m0, m1⟩ := mul_bd a b ha0 ha1 hb0 hb1
  go_enter Tryz.func39, Tryz.ntmps39
  go_wp2
  go_ret
  exact ⟨ret_int (by rw [w16, w64]), (Below.refl _ _).alloc (Nat.le_refl _) _⟩
theorem specDo_mul (a b : Int) (w : World) (ha0 : 0 ≤ a) (ha1 : a < 65536) (hb0 : 0 ≤ b) (hb1 : b < 65536) : Calls Tryz.prog 17 #[.int .i64 3, .int .i64 a, .int .i64 b] w fun e w' => e = .returned (.int .i64 (a * b % 65536)) ∧ w' = w := by
  have i1 := win a ha0 ha1
  have i2 := win b hb0 hb1
  obtain ⟨m0, m1⟩ := mul_bd a b ha0 ha1 hb0 hb1
  go_enter Tryz.func17, Tryz.ntmps17
  go_wp2
  go_ret
  exact ⟨ret_int (rfl), rfl⟩
theorem implDo_and (a b : Int) (w : World) (ha0 : 0 ≤ a) (ha1 : a < 65536) (hb0 : 0 ≤ b) (hb1 : b < 65536) : Calls Tryz.prog 39 #[.int .i64 4, .int .i64 a, .int .i64 b] w fun e w' => e = .returned (.int .i64 ((a.toNat &&& b.toNat : Nat))) ∧ Below w.heap.size w w' := by
  have i1 := win a ha0 ha1
  have i2 := win b hb0 hb1
  go_enter Tryz.func39, Tryz.ntmps39
  go_wp2
  go_ret
  exact ⟨ret_int (u_and a b ha0 ha1 hb0 hb1), (Below.refl _ _).alloc (Nat.le_refl _) _⟩
theorem specDo_and (a b : Int) (w : World) (ha0 : 0 ≤ a) (ha1 : a < 65536) (hb0 : 0 ≤ b) (hb1 : b < 65536) : Calls Tryz.prog 17 #[.int .i64 4, .int .i64 a, .int .i64 b] w fun e w' => e = .returned (.int .i64 ((a.toNat &&& b.toNat : Nat))) ∧ w' = w := by
  have i1 := win a ha0 ha1
  have i2 := win b hb0 hb1
  go_enter Tryz.func17, Tryz.ntmps17
  go_wp2
  go_ret
  exact ⟨ret_int (i64_and a b ha0 ha1 hb0 hb1), rfl⟩
theorem implDo_xor (a b : Int) (w : World) (ha0 : 0 ≤ a) (ha1 : a < 65536) (hb0 : 0 ≤ b) (hb1 : b < 65536) : Calls Tryz.prog 39 #[.int .i64 5, .int .i64 a, .int .i64 b] w fun e w' => e = .returned (.int .i64 ((a.toNat ^^^ b.toNat : Nat))) ∧ Below w.heap.size w w' := by
  have i1 := win a ha0 ha1
  have i2 := win b hb0 hb1
  go_enter Tryz.func39, Tryz.ntmps39
  go_wp2
  go_ret
  exact ⟨ret_int (u_xor a b ha0 ha1 hb0 hb1), (Below.refl _ _).alloc (Nat.le_refl _) _⟩
theorem specDo_xor (a b : Int) (w : World) (ha0 : 0 ≤ a) (ha1 : a < 65536) (hb0 : 0 ≤ b) (hb1 : b < 65536) : Calls Tryz.prog 17 #[.int .i64 5, .int .i64 a, .int .i64 b] w fun e w' => e = .returned (.int .i64 ((a.toNat ^^^ b.toNat : Nat))) ∧ w' = w := by
  have i1 := win a ha0 ha1
  have i2 := win b hb0 hb1
  go_enter Tryz.func17, Tryz.ntmps17
  go_wp2
  go_ret
  exact ⟨ret_int (i64_xor a b ha0 ha1 hb0 hb1), rfl⟩
theorem implDo_other (op a b : Int) (w : World) (ha0 : 0 ≤ a) (ha1 : a < 65536) (hb0 : 0 ≤ b) (hb1 : b < 65536) (h : op < 1 ∨ 5 < op) : Calls Tryz.prog 39 #[.int .i64 op, .int .i64 a, .int .i64 b] w fun e w' => e = .returned (.int .i64 0) ∧ Below w.heap.size w w' := by
  have f1 : (op == 1) = false := by simp; omega
  have f2 : (op == 2) = false := by simp; omega
  have f3 : (op == 3) = false := by simp; omega
  have f4 : (op == 4) = false := by simp; omega
  have f5 : (op == 5) = false := by simp; omega
  rcases h with h | h
  · go_enter Tryz.func39, Tryz.ntmps39
    go_wp2
    go_ret
    exact ⟨rfl, Below.refl _ _⟩
  · have h1 : 1 ≤ op := by omega
    have h5 : ¬ op ≤ 5 := by omega
    go_enter Tryz.func39, Tryz.ntmps39
    go_wp2
    go_ret
    exact ⟨rfl, Below.refl _ _⟩
theorem implDo_no (op a b : Int) (w : World) (h : ¬ (0 ≤ a ∧ a < 65536 ∧ 0 ≤ b ∧ b < 65536)) : Calls Tryz.prog 39 #[.int .i64 op, .int .i64 a, .int .i64 b] w fun e w' => e = .returned (.int .i64 0) ∧ Below w.heap.size w w' := by
  by_cases ha0 : 0 ≤ a
  · by_cases ha1 : a < 65536
    · by_cases hb0 : 0 ≤ b
      · have hb1 : ¬ b < 65536 := by omega
        go_enter Tryz.func39, Tryz.ntmps39
        go_wp2
        go_ret
        exact ⟨rfl, Below.refl _ _⟩
      · go_enter Tryz.func39, Tryz.ntmps39
        go_wp2
        go_ret
        exact ⟨rfl, Below.refl _ _⟩
    · go_enter Tryz.func39, Tryz.ntmps39
      go_wp2
      go_ret
      exact ⟨rfl, Below.refl _ _⟩
  · go_enter Tryz.func39, Tryz.ntmps39
    go_wp2
    go_ret
    exact ⟨rfl, Below.refl _ _⟩
theorem specDo_other (op a b : Int) (w : World) (ha0 : 0 ≤ a) (ha1 : a < 65536) (hb0 : 0 ≤ b) (hb1 : b < 65536) (h : op < 1 ∨ 5 < op) : Calls Tryz.prog 17 #[.int .i64 op, .int .i64 a, .int .i64 b] w fun e w' => e = .returned (.int .i64 0) ∧ w' = w := by
  have f1 : (op == 1) = false := by simp; omega
  have f2 : (op == 2) = false := by simp; omega
  have f3 : (op == 3) = false := by simp; omega
  have f4 : (op == 4) = false := by simp; omega
  have f5 : (op == 5) = false := by simp; omega
  rcases h with h | h
  · go_enter Tryz.func17, Tryz.ntmps17
    go_wp2
    go_ret
    exact ⟨rfl, rfl⟩
  · go_enter Tryz.func17, Tryz.ntmps17
    go_wp2
    go_ret
    exact ⟨rfl, rfl⟩
theorem specDo_no (op a b : Int) (w : World) (h : ¬ (0 ≤ a ∧ a < 65536 ∧ 0 ≤ b ∧ b < 65536)) : Calls Tryz.prog 17 #[.int .i64 op, .int .i64 a, .int .i64 b] w fun e w' => e = .returned (.int .i64 0) ∧ w' = w := by
  by_cases ha0 : 0 ≤ a
  · by_cases ha1 : a < 65536
    · by_cases hb0 : 0 ≤ b
      · have hb1 : ¬ b < 65536 := by omega
        go_enter Tryz.func17, Tryz.ntmps17
        go_wp2
        go_ret
        exact ⟨rfl, rfl⟩
      · go_enter Tryz.func17, Tryz.ntmps17
        go_wp2
        go_ret
        exact ⟨rfl, rfl⟩
    · go_enter Tryz.func17, Tryz.ntmps17
      go_wp2
      go_ret
      exact ⟨rfl, rfl⟩
  · go_enter Tryz.func17, Tryz.ntmps17
    go_wp2
    go_ret
    exact ⟨rfl, rfl⟩
theorem implDo (op a b : Int) (w : World) : Calls Tryz.prog 39 #[.int .i64 op, .int .i64 a, .int .i64 b] w fun e w' => e = .returned (.int .i64 (wdo op a b)) ∧ Below w.heap.size w w' := by
  unfold wdo
  by_cases h : 0 ≤ a ∧ a < 65536 ∧ 0 ≤ b ∧ b < 65536
  · rw [if_pos h]
    obtain ⟨ha0, ha1, hb0, hb1⟩ := h
    by_cases e1 : op = 1
    · subst e1; exact implDo_add a b w ha0 ha1 hb0 hb1
    rw [if_neg e1]
    by_cases e2 : op = 2
    · subst e2; exact implDo_sub a b w ha0 ha1 hb0 hb1
    rw [if_neg e2]
    by_cases e3 : op = 3
    · subst e3; exact implDo_mul a b w ha0 ha1 hb0 hb1
    rw [if_neg e3]
    by_cases e4 : op = 4
    · subst e4; exact implDo_and a b w ha0 ha1 hb0 hb1
    rw [if_neg e4]
    by_cases e5 : op = 5
    · subst e5; exact implDo_xor a b w ha0 ha1 hb0 hb1
    rw [if_neg e5]
    exact implDo_other op a b w ha0 ha1 hb0 hb1 (by omega)
  · rw [if_neg h]
    exact implDo_no op a b w h
theorem specDo (op a b : Int) (w : World) : Calls Tryz.prog 17 #[.int .i64 op, .int .i64 a, .int .i64 b] w fun e w' => e = .returned (.int .i64 (wdo op a b)) ∧ w' = w := by
  unfold wdo
  by_cases h : 0 ≤ a ∧ a < 65536 ∧ 0 ≤ b ∧ b < 65536
  · rw [if_pos h]
    obtain ⟨ha0, ha1, hb0, hb1⟩ := h
    by_cases e1 : op = 1
    · subst e1; exact specDo_add a b w ha0 ha1 hb0 hb1
    rw [if_neg e1]
    by_cases e2 : op = 2
    · subst e2; exact specDo_sub a b w ha0 ha1 hb0 hb1
    rw [if_neg e2]
    by_cases e3 : op = 3
    · subst e3; exact specDo_mul a b w ha0 ha1 hb0 hb1
    rw [if_neg e3]
    by_cases e4 : op = 4
    · subst e4; exact specDo_and a b w ha0 ha1 hb0 hb1
    rw [if_neg e4]
    by_cases e5 : op = 5
    · subst e5; exact specDo_xor a b w ha0 ha1 hb0 hb1
    rw [if_neg e5]
    exact specDo_other op a b w ha0 ha1 hb0 hb1 (by omega)
  · rw [if_neg h]
    exact specDo_no op a b w h
/-- How two words stand. -/
def wrel (rel a b : Int) : Bool := wok a && wok b && (if rel = 1 then decide (a = b) else if rel = 2 then decide (a < b) else false)
theorem wrel_no {rel a b : Int} (h : ¬ (0 ≤ a ∧ a < 65536 ∧ 0 ≤ b ∧ b < 65536)) : wrel rel a b = false := by
  unfold wrel
  by_cases ha : 0 ≤ a ∧ a < 65536
  · rw [wok_f (n := b) (by omega)]; simp
  · rw [wok_f ha]; simp
theorem wrel1 {a b : Int} (ha : 0 ≤ a ∧ a < 65536) (hb : 0 ≤ b ∧ b < 65536) : wrel 1 a b = decide (a = b) := by
  unfold wrel; rw [wok_t ha.1 ha.2, wok_t hb.1 hb.2]; simp
theorem wrel2 {a b : Int} (ha : 0 ≤ a ∧ a < 65536) (hb : 0 ≤ b ∧ b < 65536) : wrel 2 a b = decide (a < b) := by
  unfold wrel; rw [wok_t ha.1 ha.2, wok_t hb.1 hb.2]; simp
theorem wrel_other {rel a b : Int} (h1 : ¬ rel = 1) (h2 : ¬ rel = 2) : wrel rel a b = false := by
  unfold wrel; rw [if_neg h1, if_neg h2]; simp
end Go.Proofs.YtckhfpaicnjknaaGreat.Wrd
