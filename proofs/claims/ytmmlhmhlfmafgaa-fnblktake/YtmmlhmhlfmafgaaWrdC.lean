/-
  Contracts of the functions of chapter 1 without texts (WrdOk, WrdWrap, WrdDo, WrdRel, of the program and of the specification), each at every argument, by one Lean function each.
-/
import Derived.Test.YtmmlhmhlfmafgaaProg
import Derived.Test.YtmmlhmhlfmafgaaBitMath
import Derived.WalkKit
import Derived.WalkSpells
import Derived.ProofKit
import Derived.OwnWalk
import Derived.Laws.BitsAllLaws
namespace Go.Proofs.Ytmmlhmhlfmafgaa.Wrd
open Go.ChangeShapes Go.WideShapes Go.ChangeAt Go.RowKit

theorem tmod_em (x : Int) : (x.tmod 65536 < 0 → x.tmod 65536 + 65536 = x % 65536) ∧ (¬ x.tmod 65536 < 0 → x.tmod 65536 = x % 65536) := by
  rw [Int.tmod_eq_emod]
  by_cases h : 0 ≤ x ∨ 65536 ∣ x
  · rw [if_pos h]; omega
  · rw [if_neg h]; simp only [Int.natAbs]; omega
theorem w16 (x : Int) : IntKind.u16.wrap x = x % 65536 := by simp [IntKind.wrap, IntKind.bits, IntKind.signed]
theorem w64 (x : Int) : wrap64 (x % 65536) = x % 65536 := IntWalk.wrap64_in _ ⟨by omega, by omega⟩

/-- Whether a number is a word. -/
def wok (n : Int) : Bool := decide (0 ≤ n ∧ n < 65536)
theorem wok_t {n : Int} (h0 : 0 ≤ n) (h1 : n < 65536) : wok n = true := decide_eq_true ⟨h0, h1⟩
theorem wok_f {n : Int} (h : ¬ (0 ≤ n ∧ n < 65536)) : wok n = false := decide_eq_false h

theorem implOk (n : Int) (w : World) : Calls Try.prog 31 #[.int .i64 n] w fun e w' => e = .returned (.bool (wok n)) ∧ w' = w := by
  by_cases h0 : 0 ≤ n
  · by_cases h1 : n < 65536
    · rw [wok_t h0 h1]
      go_enter Try.func31, Try.ntmps31
      go_wp2
      go_ret
      exact ⟨rfl, rfl⟩
    · rw [wok_f (by omega)]
      go_enter Try.func31, Try.ntmps31
      go_wp2
      go_ret
      exact ⟨rfl, rfl⟩
  · rw [wok_f (by omega)]
    go_enter Try.func31, Try.ntmps31
    go_wp2
    go_ret
    exact ⟨rfl, rfl⟩
theorem specOk (n : Int) (w : World) : Calls Try.prog 38 #[.int .i64 n] w fun e w' => e = .returned (.bool (wok n)) ∧ w' = w := by
  by_cases h0 : 0 ≤ n
  · by_cases h1 : n < 65536
    · rw [wok_t h0 h1]
      go_enter Try.func38, Try.ntmps38
      go_wp2
      go_ret
      exact ⟨rfl, rfl⟩
    · rw [wok_f (by omega)]
      go_enter Try.func38, Try.ntmps38
      go_wp2
      go_ret
      exact ⟨rfl, rfl⟩
  · rw [wok_f (by omega)]
    go_enter Try.func38, Try.ntmps38
    go_wp2
    go_ret
    exact ⟨rfl, rfl⟩
theorem ret_int {k : IntKind} {a b : Int} (h : a = b) : Ending.returned (.int k a) = .returned (.int k b) := by rw [h]
theorem win (x : Int) (h0 : 0 ≤ x) (h1 : x < 65536) : IntKind.u16.wrap x = x := IntWalk.u16_in x ⟨h0, by omega⟩
theorem mul_bd (a b : Int) (ha0 : 0 ≤ a) (ha1 : a < 65536) (hb0 : 0 ≤ b) (hb1 : b < 65536) : 0 ≤ a * b ∧ a * b ≤ 4294836225 := by
  refine ⟨Int.mul_nonneg ha0 hb0, ?_⟩
  have h1 : a * b ≤ 65535 * b := Int.mul_le_mul_of_nonneg_right (by omega) hb0
  omega
theorem i64_and (a b : Int) (h1 : 0 ≤ a) (h2 : a < 65536) (h3 : 0 ≤ b) (h4 : b < 65536) : bits .and .i64 a b = ((a.toNat &&& b.toNat : Nat) : Int) := by
  obtain ⟨A, rfl⟩ := Int.eq_ofNat_of_zero_le h1
  obtain ⟨B, rfl⟩ := Int.eq_ofNat_of_zero_le h3
  have hx : A &&& B < 2 ^ 16 := Nat.and_lt_two_pow _ (by omega)
  show IntKind.i64.wrap ((BitVec.ofInt 64 (A : Int) &&& BitVec.ofInt 64 (B : Int)).toNat : Int) = _
  rw [BitVec.toNat_and, ofInt_u64 A (by omega), ofInt_u64 B (by omega), IntWalk.i64_in _ ⟨by omega, by omega⟩]
  simp
theorem i64_xor (a b : Int) (h1 : 0 ≤ a) (h2 : a < 65536) (h3 : 0 ≤ b) (h4 : b < 65536) : bits .xor .i64 a b = ((a.toNat ^^^ b.toNat : Nat) : Int) := by
  obtain ⟨A, rfl⟩ := Int.eq_ofNat_of_zero_le h1
  obtain ⟨B, rfl⟩ := Int.eq_ofNat_of_zero_le h3
  have hx : A ^^^ B < 2 ^ 16 := Nat.xor_lt_two_pow (by omega) (by omega)
  show IntKind.i64.wrap ((BitVec.ofInt 64 (A : Int) ^^^ BitVec.ofInt 64 (B : Int)).toNat : Int) = _
  rw [BitVec.toNat_xor, ofInt_u64 A (by omega), ofInt_u64 B (by omega), IntWalk.i64_in _ ⟨by omega, by omega⟩]
  simp
theorem u_and (a b : Int) (h1 : 0 ≤ a) (h2 : a < 65536) (h3 : 0 ≤ b) (h4 : b < 65536) : wrap64 (bits .and .u16 a b) = ((a.toNat &&& b.toNat : Nat) : Int) := by
  have hx : a.toNat &&& b.toNat < 2 ^ 16 := Nat.and_lt_two_pow _ (by omega)
  rw [u16_and a b h1 h2 h3 h4, IntWalk.wrap64_in _ ⟨by omega, by omega⟩]
theorem u_xor (a b : Int) (h1 : 0 ≤ a) (h2 : a < 65536) (h3 : 0 ≤ b) (h4 : b < 65536) : wrap64 (bits .xor .u16 a b) = ((a.toNat ^^^ b.toNat : Nat) : Int) := by
  have hx : a.toNat ^^^ b.toNat < 2 ^ 16 := Nat.xor_lt_two_pow (by omega) (by omega)
  rw [u16_xor a b h1 h2 h3 h4, IntWalk.wrap64_in _ ⟨by omega, by omega⟩]
/-- How two words stand. -/
def wrel (rel a b : Int) : Bool := wok a && wok b && (if rel = 1 then decide (a = b) else if rel = 2 then decide (a < b) else false)
theorem wrel_no {rel a b : Int} (h : ¬ (0 ≤ a ∧ a < 65536 ∧ 0 ≤ b ∧ b < 65536)) : wrel rel a b = false := by
  unfold wrel
  by_cases ha : 0 ≤ a ∧ a < 65536
  · rw [wok_f (n := b) (by omega)]; simp
  · rw [wok_f ha]; simp
theorem wrel1 {a b : Int} (ha : 0 ≤ a ∧ a < 65536) (hb : 0 ≤ b ∧ b < 65536) : wrel 1 a b = decide (a = b) := by
  unfold wrel; rw [wok_t ha.1 ha.2, wok_t hb.1 hb.2]; simp
theorem wrel2 {a b : Int} (ha : 0 ≤ a ∧ a < 65536) (hb : 0 ≤ b ∧ b < 65536) : wrel 2 a b = decide (a < b) := by
  unfold wrel; rw [wok_t ha.1 ha.2, wok_t hb.1 hb.2]; simp
theorem wrel_other {rel a b : Int} (h1 : ¬ rel = 1) (h2 : ¬ rel = 2) : wrel rel a b = false := by
  unfold wrel; rw [if_neg h1, if_neg h2]; simp
end Go.Proofs.Ytmmlhmhlfmafgaa.Wrd
