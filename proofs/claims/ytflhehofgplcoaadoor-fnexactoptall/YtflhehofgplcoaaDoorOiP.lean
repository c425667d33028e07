/-
  Our own hand, the program's sets of small numbers: has, with, without.
-/
import Derived.Test.YtflhehofgplcoaaDoorOiG
namespace Go.Proofs.YtflhehofgplcoaaDoor.Op
set_option linter.unusedVariables false
set_option linter.unusedSimpArgs false
open Go.ChangeShapes Go.WideShapes Go.ChangeAt Go.RowKit IntS Flat Irk
open Ir Dt
open Mch (Rec)
open Pol (Keep)
theorem wrapU {n : Nat} (h : n < 2 ^ 64) : IntKind.u64.wrap (n : Int) = (n : Int) := by
  rw [IntKind.wrap_u64]
  have : n < 18446744073709551616 := h
  omega
theorem wrapP {n : Nat} (h : n < 64) : IntKind.u64.wrap ((2 : Int) ^ n) = ((2 ^ n : Nat) : Int) := by
  have h2 : 2 ^ n < 2 ^ 64 := Nat.pow_lt_pow_right (by decide) h
  have := wrapU h2
  rw [← this]
  congr 1
theorem ofI (s : Nat) : BitVec.ofInt 64 (s : Int) = BitVec.ofNat 64 s := by simp
theorem bits_and (s t : Nat) (hs : s < 2 ^ 64) (ht : t < 2 ^ 64) : bits BinOp.and IntKind.u64 (s : Int) (t : Int) = ((s &&& t : Nat) : Int) := by
  show IntKind.u64.wrap ((BitVec.ofInt 64 (s : Int) &&& BitVec.ofInt 64 (t : Int)).toNat : Int) = _
  rw [ofI, ofI, BitVec.toNat_and, BitVec.toNat_ofNat, BitVec.toNat_ofNat, Nat.mod_eq_of_lt hs, Nat.mod_eq_of_lt ht]
  exact wrapU (Nat.lt_of_le_of_lt Nat.and_le_left hs)
theorem bits_or (s t : Nat) (hs : s < 2 ^ 64) (ht : t < 2 ^ 64) : bits BinOp.or IntKind.u64 (s : Int) (t : Int) = ((s ||| t : Nat) : Int) := by
  show IntKind.u64.wrap ((BitVec.ofInt 64 (s : Int) ||| BitVec.ofInt 64 (t : Int)).toNat : Int) = _
  rw [ofI, ofI, BitVec.toNat_or, BitVec.toNat_ofNat, BitVec.toNat_ofNat, Nat.mod_eq_of_lt hs, Nat.mod_eq_of_lt ht]
  exact wrapU (Nat.or_lt_two_pow hs ht)
theorem bits_not (s t : Nat) (hs : s < 2 ^ 64) (ht : t < 2 ^ 64) : ∃ r : Nat, bits BinOp.andNot IntKind.u64 (s : Int) (t : Int) = (r : Int) ∧ r < 2 ^ 64 ∧ ∀ i, r.testBit i = (s.testBit i && !t.testBit i) := by
  refine ⟨(BitVec.ofNat 64 s &&& ~~~ BitVec.ofNat 64 t).toNat, ?_, (BitVec.ofNat 64 s &&& ~~~ BitVec.ofNat 64 t).isLt, fun i => ?_⟩
  · show IntKind.u64.wrap ((BitVec.ofInt 64 (s : Int) &&& ~~~ BitVec.ofInt 64 (t : Int)).toNat : Int) = _
    rw [ofI, ofI]
    exact wrapU (BitVec.isLt _)
  · rw [BitVec.testBit_toNat, BitVec.getLsbD_and, BitVec.getLsbD_not, BitVec.getLsbD_ofNat, BitVec.getLsbD_ofNat]
    by_cases h : i < 64
    · simp [h]
    · have : s.testBit i = false := Nat.testBit_lt_two_pow (Nat.lt_of_lt_of_le hs (Nat.pow_le_pow_right (by decide) (by omega)))
      simp [h, this]
theorem has_eq (s n : Nat) : (((s &&& 2 ^ n : Nat) : Int) != 0) = s.testBit n := by
  have hb : ∀ i, (s &&& 2 ^ n).testBit i = (s.testBit i && decide (n = i)) := fun i => by rw [Nat.testBit_and, Nat.testBit_two_pow]
  cases h : s.testBit n with
  | false =>
    have e : s &&& 2 ^ n = 0 := Nat.eq_of_testBit_eq (fun i => by
      rw [hb i, Nat.zero_testBit]
      by_cases e : n = i
      · subst e; rw [h]; rfl
      · simp [e])
    rw [e]
    rfl
  | true =>
    have e : s &&& 2 ^ n ≠ 0 := fun e => by
      have := hb n
      rw [e, Nat.zero_testBit, h] at this
      simp at this
    exact bne_iff_ne.2 (by omega)
theorem pow64 {n : Nat} (h : n < 64) : 2 ^ n < 2 ^ 64 := Nat.pow_lt_pow_right (by decide) h
theorem bitHas (s n : Nat) (w : World) (hs : s < 2 ^ 64) (hn : n < 64) : Calls Tryd.prog 37 #[.int .u64 (s : Int), .int .i64 (n : Int)] w fun e w' => e = .returned (.bool (s.testBit n)) ∧ w' = w := by
  go_enter Tryd.func37, Tryd.ntmps37
  go_wp2
  exact bodyPost_ret (v := .bool (s.testBit n)) (by simp [results, Tryd.results37, go_sem]; rw [wrapP hn, bits_and s _ hs (pow64 hn)]; exact has_eq s n) rfl ⟨rfl, rfl⟩
theorem bitWith (s n : Nat) (w : World) (hs : s < 2 ^ 64) (hn : n < 64) : Calls Tryd.prog 49 #[.int .u64 (s : Int), .int .i64 (n : Int)] w fun e w' => e = .returned (.int .u64 ((s ||| 2 ^ n : Nat) : Int)) ∧ w' = w := by
  go_enter Tryd.func49, Tryd.ntmps49
  go_wp2
  exact bodyPost_ret (v := .int .u64 ((s ||| 2 ^ n : Nat) : Int)) (by simp [results, Tryd.results49, go_sem]; rw [wrapP hn, bits_or s _ hs (pow64 hn)]) rfl ⟨rfl, rfl⟩
theorem bitWithout (s n : Nat) (w : World) (hs : s < 2 ^ 64) (hn : n < 64) : Calls Tryd.prog 50 #[.int .u64 (s : Int), .int .i64 (n : Int)] w fun e w' => ∃ t : Nat, t < 2 ^ 64 ∧ (∀ i, t.testBit i = (s.testBit i && decide (i ≠ n))) ∧ e = .returned (.int .u64 (t : Int)) ∧ w' = w := by
  obtain ⟨r, h1, h2, h3⟩ := bits_not s (2 ^ n) hs (pow64 hn)
  have H1 := hide h1
  have H3 := hide h3
  clear h1 h3
  go_enter Tryd.func50, Tryd.ntmps50
  go_wp2
  exact bodyPost_ret (v := .int .u64 (r : Int)) (by simp [results, Tryd.results50, go_sem]; rw [wrapP hn]; exact H1.out) rfl ⟨r, h2, fun i => by rw [H3.out i, Nat.testBit_two_pow]; by_cases e : n = i; simp [e]; simp [e, Ne.symm e], rfl, rfl⟩
/-- What a set holds, as a number. -/
theorem with_bits (s n i : Nat) : (s ||| 2 ^ n).testBit i = (s.testBit i || decide (i = n)) := by
  rw [Nat.testBit_or, Nat.testBit_two_pow]
  by_cases e : n = i
  · subst e; simp
  · simp [e, Ne.symm e]
theorem with_lt {s n : Nat} (hs : s < 2 ^ 64) (hn : n < 64) : (s ||| 2 ^ n) < 2 ^ 64 := Nat.or_lt_two_pow hs (pow64 hn)
end Go.Proofs.YtflhehofgplcoaaDoor.Op
