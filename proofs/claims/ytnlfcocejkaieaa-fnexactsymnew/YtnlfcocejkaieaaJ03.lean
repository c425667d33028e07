/-
  Plain facts on the bits of words: a sum is what parts, and twice what is in both; what is reckoned with words undoes and spreads. No program in it.
  Contracts of the functions of chapter 1 without texts (WrdOk, WrdWrap, WrdDo, WrdRel, of the program and of the specification), each at every argument, by one Lean function each.
  Sums as lists of parts: which are ok, how they stand; slices that hold them.
  How lists of ints stand, and whether they fall: contracts of cmp.Compare, cmp.Less, slices.Compare, slices.IsSorted at ints, of the program's orderOfAtoms and of the specification's l4Order and l1In.
-/
import Derived.Laws.BitsAllLaws
import Derived.Test.YtnlfcocejkaieaaProg
import Derived.WalkKit
import Derived.WalkSpells
import Derived.ProofKit
import Derived.OwnWalk
import Derived.Test.YtnlfcocejkaieaaJ01
import Derived.StillTailTactics
namespace Go.Proofs.Ytnlfcocejkaieaa.Wrd
open Go

theorem mod2_xor (a b : Nat) : (a ^^^ b) % 2 = (a + b) % 2 := by
  have h := Nat.xor_mod_two_eq_one (a := a) (b := b)
  rcases Nat.mod_two_eq_zero_or_one (a ^^^ b) with h0 | h0 <;> rcases Nat.mod_two_eq_zero_or_one a with h1 | h1 <;> rcases Nat.mod_two_eq_zero_or_one b with h2 | h2 <;> simp [h0, h1, h2] at h <;> omega
theorem mod2_and (a b : Nat) : (a &&& b) % 2 = (a % 2) * (b % 2) := by
  have h := Nat.and_mod_two_eq_one (a := a) (b := b)
  rcases Nat.mod_two_eq_zero_or_one (a &&& b) with h0 | h0 <;> rcases Nat.mod_two_eq_zero_or_one a with h1 | h1 <;> rcases Nat.mod_two_eq_zero_or_one b with h2 | h2 <;> simp [h0, h1, h2] at h ⊢
theorem xor_and_add (a : Nat) : ∀ b : Nat, (a ^^^ b) + 2 * (a &&& b) = a + b := by
  induction a using Nat.strongRecOn with
  | ind a ih =>
    intro b
    by_cases h : a = 0
    · subst h; simp
    · have h1 := ih (a / 2) (by omega) (b / 2)
      have e1 := Nat.xor_div_two (a := a) (b := b)
      have e2 := Nat.and_div_two (a := a) (b := b)
      have m1 := mod2_xor a b
      have m2 := mod2_and a b
      rw [← e1, ← e2] at h1
      clear e1 e2 ih
      generalize a ^^^ b = X at *
      generalize a &&& b = Y at *
      rcases Nat.mod_two_eq_zero_or_one a with h2 | h2 <;> rcases Nat.mod_two_eq_zero_or_one b with h3 | h3 <;> rw [h2, h3] at m2 <;> omega
theorem xor_and_or (a : Nat) : ∀ b : Nat, (a ^^^ b) + (a &&& b) = a ||| b := by
  induction a using Nat.strongRecOn with
  | ind a ih =>
    intro b
    by_cases h : a = 0
    · subst h; simp
    · have h1 := ih (a / 2) (by omega) (b / 2)
      have e1 := Nat.xor_div_two (a := a) (b := b)
      have e2 := Nat.and_div_two (a := a) (b := b)
      have e3 := Nat.or_div_two (a := a) (b := b)
      have m1 := mod2_xor a b
      have m2 := mod2_and a b
      have m3 := Nat.or_mod_two_eq_one (a := a) (b := b)
      rw [← e1, ← e2, ← e3] at h1
      clear e1 e2 e3 ih
      generalize a ^^^ b = X at *
      generalize a &&& b = Y at *
      generalize a ||| b = Z at *
      rcases Nat.mod_two_eq_zero_or_one a with h2 | h2 <;> rcases Nat.mod_two_eq_zero_or_one b with h3 | h3 <;> rw [h2, h3] at m2 <;> omega

/-- What is reckoned with two words. -/
def wdo (op a b : Int) : Int :=
  if 0 ≤ a ∧ a < 65536 ∧ 0 ≤ b ∧ b < 65536 then
    if op = 1 then (a + b) % 65536 else if op = 2 then (a - b) % 65536 else if op = 3 then a * b % 65536 else if op = 4 then ((a.toNat &&& b.toNat : Nat) : Int) else if op = 5 then ((a.toNat ^^^ b.toNat : Nat) : Int) else 0
  else 0
theorem wdo_no {op a b : Int} (h : ¬ (0 ≤ a ∧ a < 65536 ∧ 0 ≤ b ∧ b < 65536)) : wdo op a b = 0 := if_neg h
theorem wdo1 {a b : Int} (ha : 0 ≤ a ∧ a < 65536) (hb : 0 ≤ b ∧ b < 65536) : wdo 1 a b = (a + b) % 65536 := by unfold wdo; rw [if_pos ⟨ha.1, ha.2, hb.1, hb.2⟩]; rfl
theorem wdo2 {a b : Int} (ha : 0 ≤ a ∧ a < 65536) (hb : 0 ≤ b ∧ b < 65536) : wdo 2 a b = (a - b) % 65536 := by unfold wdo; rw [if_pos ⟨ha.1, ha.2, hb.1, hb.2⟩]; rfl
theorem wdo3 {a b : Int} (ha : 0 ≤ a ∧ a < 65536) (hb : 0 ≤ b ∧ b < 65536) : wdo 3 a b = a * b % 65536 := by unfold wdo; rw [if_pos ⟨ha.1, ha.2, hb.1, hb.2⟩]; rfl
theorem wdo4 {a b : Int} (ha : 0 ≤ a ∧ a < 65536) (hb : 0 ≤ b ∧ b < 65536) : wdo 4 a b = ((a.toNat &&& b.toNat : Nat) : Int) := by unfold wdo; rw [if_pos ⟨ha.1, ha.2, hb.1, hb.2⟩]; rfl
theorem wdo5 {a b : Int} (ha : 0 ≤ a ∧ a < 65536) (hb : 0 ≤ b ∧ b < 65536) : wdo 5 a b = ((a.toNat ^^^ b.toNat : Nat) : Int) := by unfold wdo; rw [if_pos ⟨ha.1, ha.2, hb.1, hb.2⟩]; rfl
theorem wdo_bd (op a b : Int) : 0 ≤ wdo op a b ∧ wdo op a b < 65536 := by
  unfold wdo
  split
  · rename_i h
    have h1 : a.toNat &&& b.toNat < 2 ^ 16 := Nat.and_lt_two_pow _ (by omega)
    have h2 : a.toNat ^^^ b.toNat < 2 ^ 16 := Nat.xor_lt_two_pow (by omega) (by omega)
    split
    · omega
    split
    · omega
    split
    · omega
    split
    · omega
    split
    · omega
    · omega
  · omega
theorem undo_sub {a b : Int} (ha : 0 ≤ a ∧ a < 65536) (hb : 0 ≤ b ∧ b < 65536) : wdo 2 (wdo 1 a b) b = a := by
  rw [wdo2 (wdo_bd 1 a b) hb, wdo1 ha hb]; omega
theorem undo_xor {a b : Int} (ha : 0 ≤ a ∧ a < 65536) (hb : 0 ≤ b ∧ b < 65536) : wdo 5 (wdo 5 a b) b = a := by
  rw [wdo5 (wdo_bd 5 a b) hb, wdo5 ha hb, Int.toNat_natCast, Nat.xor_assoc, Nat.xor_self, Nat.xor_zero]; omega
theorem sum_bits {a b : Int} (ha : 0 ≤ a ∧ a < 65536) (hb : 0 ≤ b ∧ b < 65536) : wdo 1 (wdo 5 a b) (wdo 1 (wdo 4 a b) (wdo 4 a b)) = wdo 1 a b := by
  have h := xor_and_add a.toNat b.toNat
  have b4 := wdo_bd 4 a b
  rw [wdo1 (wdo_bd 5 a b) (wdo_bd 1 (wdo 4 a b) (wdo 4 a b)), wdo1 b4 b4, wdo1 ha hb, wdo5 ha hb, wdo4 ha hb]
  omega
theorem spread {a b c : Int} (ha : 0 ≤ a ∧ a < 65536) (hb : 0 ≤ b ∧ b < 65536) (hc : 0 ≤ c ∧ c < 65536) : wdo 3 (wdo 1 a b) c = wdo 1 (wdo 3 a c) (wdo 3 b c) := by
  rw [wdo3 (wdo_bd 1 a b) hc, wdo1 (wdo_bd 3 a c) (wdo_bd 3 b c), wdo1 ha hb, wdo3 ha hc, wdo3 hb hc, ← Int.add_emod, ← Int.add_mul, Int.mul_emod, Int.emod_emod_of_dvd _ (Int.dvd_refl _), ← Int.mul_emod]
theorem comm1 {a b : Int} (ha : 0 ≤ a ∧ a < 65536) (hb : 0 ≤ b ∧ b < 65536) : wdo 1 a b = wdo 1 b a := by rw [wdo1 ha hb, wdo1 hb ha, Int.add_comm]
theorem comm3 {a b : Int} (ha : 0 ≤ a ∧ a < 65536) (hb : 0 ≤ b ∧ b < 65536) : wdo 3 a b = wdo 3 b a := by rw [wdo3 ha hb, wdo3 hb ha, Int.mul_comm]
theorem comm4 {a b : Int} (ha : 0 ≤ a ∧ a < 65536) (hb : 0 ≤ b ∧ b < 65536) : wdo 4 a b = wdo 4 b a := by rw [wdo4 ha hb, wdo4 hb ha, Nat.and_comm]
theorem comm5 {a b : Int} (ha : 0 ≤ a ∧ a < 65536) (hb : 0 ≤ b ∧ b < 65536) : wdo 5 a b = wdo 5 b a := by rw [wdo5 ha hb, wdo5 hb ha, Nat.xor_comm]
theorem and_le {a b : Int} (ha : 0 ≤ a ∧ a < 65536) (hb : 0 ≤ b ∧ b < 65536) : wdo 4 a b ≤ a ∧ wdo 4 a b ≤ b := by
  have h1 := Nat.and_le_left (n := a.toNat) (m := b.toNat)
  have h2 := Nat.and_le_right (n := a.toNat) (m := b.toNat)
  rw [wdo4 ha hb]; omega
theorem xor_le {a b : Int} (ha : 0 ≤ a ∧ a < 65536) (hb : 0 ≤ b ∧ b < 65536) : wdo 5 a b ≤ a + b ∧ wdo 5 a b + wdo 4 a b ≤ 65535 := by
  have h := xor_and_add a.toNat b.toNat
  have h2 := xor_and_or a.toNat b.toNat
  have h3 : a.toNat ||| b.toNat < 2 ^ 16 := Nat.or_lt_two_pow (by omega) (by omega)
  rw [wdo4 ha hb, wdo5 ha hb]; omega
end Go.Proofs.Ytnlfcocejkaieaa.Wrd
namespace Go.Proofs.Ytnlfcocejkaieaa.Wrd
open Go.ChangeShapes Go.WideShapes Go.ChangeAt Go.RowKit

theorem tmod_em (x : Int) : (x.tmod 65536 < 0 → x.tmod 65536 + 65536 = x % 65536) ∧ (¬ x.tmod 65536 < 0 → x.tmod 65536 = x % 65536) := by
  rw [Int.tmod_eq_emod]
  by_cases h : 0 ≤ x ∨ 65536 ∣ x
  · rw [if_pos h]; omega
  · rw [if_neg h]; simp only [Int.natAbs]; omega
theorem w16 (x : Int) : IntKind.u16.wrap x = x % 65536 := by simp [IntKind.wrap, IntKind.bits, IntKind.signed]
theorem w64 (x : Int) : wrap64 (x % 65536) = x % 65536 := IntWalk.wrap64_in _ ⟨by omega, by omega⟩

/-- Whether a number is a word. -/
def wok (n : Int) : Bool := decide (0 ≤ n ∧ n < 65536)
theorem wok_t {n : Int} (h0 : 0 ≤ n) (h1 : n < 65536) : wok n = true := decide_eq_true ⟨h0, h1⟩
theorem wok_f {n : Int} (h : ¬ (0 ≤ n ∧ n < 65536)) : wok n = false := decide_eq_false h

theorem implOk (n : Int) (w : World) : Calls Try.prog 48 #[.int .i64 n] w fun e w' => e = .returned (.bool (wok n)) ∧ w' = w := by
  by_cases h0 : 0 ≤ n
  · by_cases h1 : n < 65536
    · rw [wok_t h0 h1]
      go_enter Try.func48, Try.ntmps48
      go_wp2
      go_ret
      exact ⟨rfl, rfl⟩
    · rw [wok_f (by omega)]
      go_enter Try.func48, Try.ntmps48
      go_wp2
      go_ret
      exact ⟨rfl, rfl⟩
  · rw [wok_f (by omega)]
    go_enter Try.func48, Try.ntmps48
    go_wp2
    go_ret
    exact ⟨rfl, rfl⟩
theorem ret_int {k : IntKind} {a b : Int} (h : a = b) : Ending.returned (.int k a) = .returned (.int k b) := by rw [h]
theorem win (x : Int) (h0 : 0 ≤ x) (h1 : x < 65536) : IntKind.u16.wrap x = x := IntWalk.u16_in x ⟨h0, by omega⟩
theorem mul_bd (a b : Int) (ha0 : 0 ≤ a) (ha1 : a < 65536) (hb0 : 0 ≤ b) (hb1 : b < 65536) : 0 ≤ a * b ∧ a * b ≤ 4294836225 := by
  refine ⟨Int.mul_nonneg ha0 hb0, ?_⟩
  have h1 : a * b ≤ 65535 * b := Int.mul_le_mul_of_nonneg_right (by omega) hb0
  omega
theorem i64_and (a b : Int) (h1 : 0 ≤ a) (h2 : a < 65536) (h3 : 0 ≤ b) (h4 : b < 65536) : bits .and .i64 a b = ((a.toNat &&& b.toNat : Nat) : Int) := by
  obtain ⟨A, rfl⟩ := Int.eq_ofNat_of_zero_le h1
  obtain ⟨B, rfl⟩ := Int.eq_ofNat_of_zero_le h3
  have hx : A &&& B < 2 ^ 16 := Nat.and_lt_two_pow _ (by omega)
  show IntKind.i64.wrap ((BitVec.ofInt 64 (A : Int) &&& BitVec.ofInt 64 (B : Int)).toNat : Int) = _
  rw [BitVec.toNat_and, ofInt_u64 A (by omega), ofInt_u64 B (by omega), IntWalk.i64_in _ ⟨by omega, by omega⟩]
  simp
theorem i64_xor (a b : Int) (h1 : 0 ≤ a) (h2 : a < 65536) (h3 : 0 ≤ b) (h4 : b < 65536) : bits .xor .i64 a b = ((a.toNat ^^^ b.toNat : Nat) : Int) := by
  obtain ⟨A, rfl⟩ := Int.eq_ofNat_of_zero_le h1
  obtain ⟨B, rfl⟩ := Int.eq_ofNat_of_zero_le h3
  have hx : A ^^^ B < 2 ^ 16 := Nat.xor_lt_two_pow (by omega) (by omega)
  show IntKind.i64.wrap ((BitVec.ofInt 64 (A : Int) ^^^ BitVec.ofInt 64 (B : Int)).toNat : Int) = _
  rw [BitVec.toNat_xor, ofInt_u64 A (by omega), ofInt_u64 B (by omega), IntWalk.i64_in _ ⟨by omega, by omega⟩]
  simp
theorem u_and (a b : Int) (h1 : 0 ≤ a) (h2 : a < 65536) (h3 : 0 ≤ b) (h4 : b < 65536) : wrap64 (bits .and .u16 a b) = ((a.toNat &&& b.toNat : Nat) : Int) := by
  have hx : a.toNat &&& b.toNat < 2 ^ 16 := Nat.and_lt_two_pow _ (by omega)
  rw [u16_and a b h1 h2 h3 h4, IntWalk.wrap64_in _ ⟨by omega, by omega⟩]
theorem u_xor (a b : Int) (h1 : 0 ≤ a) (h2 : a < 65536) (h3 : 0 ≤ b) (h4 : b < 65536) : wrap64 (bits .xor .u16 a b) = ((a.toNat ^^^ b.toNat : Nat) : Int) := by
  have hx : a.toNat ^^^ b.toNat < 2 ^ 16 := Nat.xor_lt_two_pow (by omega) (by omega)
  rw [u16_xor a b h1 h2 h3 h4, IntWalk.wrap64_in _ ⟨by omega, by omega⟩]
/-- How two words stand. -/
def wrel (rel a b : Int) : Bool := wok a && wok b && (if rel = 1 then decide (a = b) else if rel = 2 then decide (a < b) else false)
theorem wrel_no {rel a b : Int} (h : ¬ (0 ≤ a ∧ a < 65536 ∧ 0 ≤ b ∧ b < 65536)) : wrel rel a b = false := by
  unfold wrel
  by_cases ha : 0 ≤ a ∧ a < 65536
  · rw [wok_f (n := b) (by omega)]; simp
  · rw [wok_f ha]; simp
theorem wrel1 {a b : Int} (ha : 0 ≤ a ∧ a < 65536) (hb : 0 ≤ b ∧ b < 65536) : wrel 1 a b = decide (a = b) := by
  unfold wrel; rw [wok_t ha.1 ha.2, wok_t hb.1 hb.2]; simp
theorem wrel2 {a b : Int} (ha : 0 ≤ a ∧ a < 65536) (hb : 0 ≤ b ∧ b < 65536) : wrel 2 a b = decide (a < b) := by
  unfold wrel; rw [wok_t ha.1 ha.2, wok_t hb.1 hb.2]; simp
theorem wrel_other {rel a b : Int} (h1 : ¬ rel = 1) (h2 : ¬ rel = 2) : wrel rel a b = false := by
  unfold wrel; rw [if_neg h1, if_neg h2]; simp
end Go.Proofs.Ytnlfcocejkaieaa.Wrd
namespace Go.Proofs.Ytnlfcocejkaieaa.Pol
open Go.ChangeShapes Go.WideShapes Go.ChangeAt Go.RowKit IntS
/-- A part: a word and its atoms. -/
abbrev Mono := Int × List Int
theorem all_no {f : Nat → Bool} {n k : Nat} (hk : k < n) (h : f k = false) : (List.range n).all f = false := by
  rw [List.all_eq_false]
  exact ⟨k, List.mem_range.2 hk, by rw [h]; decide⟩
theorem all_yes {f : Nat → Bool} {n : Nat} (h : ∀ k, k < n → f k = true) : (List.range n).all f = true := by
  rw [List.all_eq_true]
  exact fun k hk => h k (List.mem_range.1 hk)
theorem all_at {f : Nat → Bool} {n k : Nat} (h : (List.range n).all f = true) (hk : k < n) : f k = true := by
  rw [List.all_eq_true] at h
  exact h k (List.mem_range.2 hk)
/-- How two numbers stand. -/
def cmpI (a b : Int) : Int := if a < b then -1 else if b < a then 1 else 0
theorem cmp_lt {a b : Int} (h : a < b) : cmpI a b = -1 := if_pos h
theorem cmp_gt {a b : Int} (h : b < a) : cmpI a b = 1 := by unfold cmpI; rw [if_neg (by omega), if_pos h]
theorem cmp_eq {a b : Int} (h : a = b) : cmpI a b = 0 := by unfold cmpI; rw [if_neg (by omega), if_neg (by omega)]
/-- How two lists stand, by the first that differs. -/
def lexI : List Int → List Int → Int
  | [], [] => 0
  | [], _ :: _ => -1
  | _ :: _, [] => 1
  | x :: xs, y :: ys => if x < y then -1 else if y < x then 1 else lexI xs ys
/-- How parts with these atoms stand. -/
def ordA (a b : List Int) : Int := if a.length < b.length then -1 else if b.length < a.length then 1 else lexI a b
/-- Whether a list does not fall at a place. -/
def upAt (a : List Int) (j : Nat) : Bool := decide (j = 0 ∨ a.getD (j - 1) 0 ≤ a.getD j 0)
def atomAt (a : List Int) (j : Nat) : Bool := decide (0 ≤ a.getD j 0 ∧ a.getD j 0 < 200)
/-- Whether a part is ok. -/
def monoB (m : Mono) : Bool := decide (1 ≤ m.1 ∧ m.1 ≤ 65535) && decide (m.2.length ≤ 4) && (List.range m.2.length).all (fun j => atomAt m.2 j && upAt m.2 j)
def partAt (p : List Mono) (k : Nat) : Bool := monoB (p.getD k (0, [])) && decide (k = 0 ∨ ordA (p.getD (k - 1) (0, [])).2 (p.getD k (0, [])).2 < 0)
/-- Whether a sum is ok. -/
def okP (p : List Mono) : Bool := decide (p.length ≤ 12) && (List.range p.length).all (partAt p)
/-- Whether all atoms are below a number. -/
def underB (p : List Mono) (n : Int) : Bool := (List.range p.length).all fun i => (List.range (p.getD i (0, [])).2.length).all fun j => decide ((p.getD i (0, [])).2.getD j 0 < n)
/-- The word that a sum is. -/
def numP (p : List Mono) : Int × Bool := if okP p = false then (0, false) else match p with
  | [] => (0, true)
  | [(c, [])] => (c, true)
  | _ => (0, false)
/-- How two lists of parts stand, part by part. -/
def ordM : List Mono → List Mono → Int
  | [], [] => 0
  | [], _ :: _ => -1
  | _ :: _, [] => 1
  | x :: xs, y :: ys => if ordA x.2 y.2 ≠ 0 then ordA x.2 y.2 else if x.1 < y.1 then -1 else if y.1 < x.1 then 1 else ordM xs ys
def ordP (a b : List Mono) : Int := if a.length < b.length then -1 else if b.length < a.length then 1 else ordM a b
/-- What a part comes to. -/
def monoVal (vals : List Int) : List Int → Int → Int
  | [], c => c
  | k :: ks, c => monoVal vals ks (c * (if k < vals.length then vals.getD k.toNat 0 else 0) % 65536)
def sumVal (vals : List Int) : List Mono → Int → Int
  | [], n => n
  | m :: r, n => sumVal vals r ((n + monoVal vals m.2 m.1) % 65536)
/-- A slice that holds parts; they lie in block B, if there are any. -/
structure PRow (w : World) (B : Nat) (v : Value) (ps : List Mono) : Prop where
  ex : ∃ a cap off, v = .slice a ps.length cap ∧ ps.length ≤ cap ∧ cap ≤ maxLen ∧ (a = none → cap = 0) ∧ (ps = [] ∨ (a = some ⟨B, off, none⟩ ∧ ∀ (i : Nat) x, ps[i]? = some x → w.cell? ⟨B, off + i * 2, none⟩ = some (.int .i64 x.1) ∧ ∃ s b, w.cell? ⟨B, off + i * 2 + 1, none⟩ = some s ∧ Row w b s x.2))
theorem PRow.below {w w' : World} {B : Nat} {v : Value} {ps : List Mono} (h : PRow w B v ps) (hb : Below w.heap.size w w') : PRow w' B v ps := by
  obtain ⟨a, cap, off, h1, h2, h3, hz, h4⟩ := h
  refine ⟨a, cap, off, h1, h2, h3, hz, ?_⟩
  rcases h4 with h4 | ⟨h4, h5⟩
  · exact Or.inl h4
  · refine Or.inr ⟨h4, fun i x hx => ?_⟩
    obtain ⟨h6, s, b, h7, h8⟩ := h5 i x hx
    exact ⟨cell_below hb h6, s, b, cell_below hb h7, h8.below hb⟩
theorem Row.of_get {w : World} {B : Nat} {v : Value} {xs : List Int} (h : Row w B v xs) : ∃ a cap, v = .slice a xs.length cap := by
  obtain ⟨a, cap, _, rfl, _⟩ := h
  exact ⟨a, cap, rfl⟩
theorem getD_at {xs : List Int} {i : Nat} {x : Int} (h : xs[i]? = some x) : xs.getD i 0 = x := by rw [List.getD_eq_getElem?_getD, h]; rfl
theorem getD_part {ps : List Mono} {i : Nat} {x : Mono} (h : ps[i]? = some x) : ps.getD i (0, []) = x := by rw [List.getD_eq_getElem?_getD, h]; rfl
end Go.Proofs.Ytnlfcocejkaieaa.Pol
namespace Go.Proofs.Ytnlfcocejkaieaa.Pol
open Go.ChangeShapes Go.WideShapes Go.ChangeAt Go.RowKit IntS
theorem region_tail {P : Program} {id : Nat} {Q : Exit → Act → World → Prop} {a : Act} {w : World} {l : List Oper} (n : Nat) (hm : P.follows .mixedOrders = true) (hB : Region.lexTailB .any l.toArray n = true)
    (h : wpStill P l.toArray w.drew (fun a' => wpList P l.toArray Q (l.drop n) a' w.drew) (l.take n) a) : (Code.region id l.toArray true).wp P Q a w := wp_region_still_tail n hm hB h
/-- A head of reads that is still to be walked; nothing unfolds it by itself. -/
structure Head (P : Program) (ops : Array Oper) (w : World) (Q : Act → Prop) (l : List Oper) (a : Act) : Prop where
  h : wpStill P ops w Q l a
theorem head_yes {P : Program} {ops : Array Oper} {w : World} {Q : Act → Prop} {a : Act} {o : Oper} {rest : List Oper} (hw : Region.wanted o (yielded ops a.tmps) = true)
    (h : ∀ K : Act → Prop, (∀ a, Head P ops w Q rest a → K a) → o.still P a w K) : Head P ops w Q (o :: rest) a := ⟨wpStill_step fun K hK => by rw [if_pos hw]; exact h K (fun a h => hK a h.h)⟩
theorem head_no {P : Program} {ops : Array Oper} {w : World} {Q : Act → Prop} {a : Act} {o : Oper} {rest : List Oper} (hw : Region.wanted o (yielded ops a.tmps) = false)
    (h : Head P ops w Q rest (a.put o.dst undef)) : Head P ops w Q (o :: rest) a := ⟨wpStill_step fun K hK => by rw [if_neg (by rw [hw]; decide)]; exact hK _ h.h⟩
theorem head_nil {P : Program} {ops : Array Oper} {w : World} {Q : Act → Prop} {a : Act} (h : Q a) : Head P ops w Q [] a := ⟨wpStill_nil h⟩
theorem region_head {P : Program} {id : Nat} {Q : Exit → Act → World → Prop} {a : Act} {w : World} {l : List Oper} (n : Nat) (hm : P.follows .mixedOrders = true) (hB : Region.lexTailB .any l.toArray n = true)
    (h : Head P l.toArray w.drew (fun a' => wpList P l.toArray Q (l.drop n) a' w.drew) (l.take n) a) : (Code.region id l.toArray true).wp P Q a w := wp_region_still_tail n hm hB h.h
theorem drop_cons {α : Type} {a : List α} {k : Nat} {x : α} (h : a[k]? = some x) : a.drop k = x :: a.drop (k + 1) := by
  obtain ⟨hk, rfl⟩ := List.getElem?_eq_some_iff.1 h
  exact List.drop_eq_getElem_cons hk
theorem lex_lt {a b : List Int} {k : Nat} {x y : Int} (hx : a[k]? = some x) (hy : b[k]? = some y) (h : x < y) : lexI (a.drop k) (b.drop k) = -1 := by
  rw [drop_cons hx, drop_cons hy, lexI, if_pos h]
theorem lex_gt {a b : List Int} {k : Nat} {x y : Int} (hx : a[k]? = some x) (hy : b[k]? = some y) (h : y < x) : lexI (a.drop k) (b.drop k) = 1 := by
  rw [drop_cons hx, drop_cons hy, lexI, if_neg (by omega), if_pos h]
theorem lex_eq {a b : List Int} {k : Nat} {x y : Int} (hx : a[k]? = some x) (hy : b[k]? = some y) (h : x = y) : lexI (a.drop k) (b.drop k) = lexI (a.drop (k + 1)) (b.drop (k + 1)) := by
  rw [drop_cons hx, drop_cons hy, lexI, if_neg (by omega), if_neg (by omega)]
theorem lex_end {a b : List Int} {k : Nat} (ha : a.length ≤ k) (hb : b.length ≤ k) : lexI (a.drop k) (b.drop k) = 0 := by
  rw [List.drop_eq_nil_of_le ha, List.drop_eq_nil_of_le hb]
  rfl
theorem ord_same {a b : List Int} (h : a.length = b.length) : ordA a b = lexI a b := by unfold ordA; rw [if_neg (by omega), if_neg (by omega)]
theorem ord_lt {a b : List Int} (h : a.length < b.length) : ordA a b = -1 := by unfold ordA; rw [if_pos h]
theorem ord_gt {a b : List Int} (h : b.length < a.length) : ordA a b = 1 := by unfold ordA; rw [if_neg (by omega), if_pos h]
theorem lex_bd : ∀ a b : List Int, lexI a b = -1 ∨ lexI a b = 0 ∨ lexI a b = 1
  | [], [] => by simp [lexI]
  | [], _ :: _ => by simp [lexI]
  | _ :: _, [] => by simp [lexI]
  | x :: xs, y :: ys => by
    rw [lexI]
    split
    · exact Or.inl rfl
    · split
      · exact Or.inr (Or.inr rfl)
      · exact lex_bd xs ys
theorem ord_bd (a b : List Int) : ordA a b = -1 ∨ ordA a b = 0 ∨ ordA a b = 1 := by
  unfold ordA
  split
  · exact Or.inl rfl
  · split
    · exact Or.inr (Or.inr rfl)
    · exact lex_bd a b
def inI (n lo hi : Int) : Bool := decide (lo ≤ n ∧ n ≤ hi)
theorem l1In (n lo hi : Int) (w : World) : Calls Try.prog 21 #[.int .i64 n, .int .i64 lo, .int .i64 hi] w fun e w' => e = .returned (.bool (inI n lo hi)) ∧ w' = w := by
  by_cases h0 : lo ≤ n
  · by_cases h1 : n ≤ hi
    · have HD : Hid (inI n lo hi = true) := decide_eq_true ⟨h0, h1⟩
      go_enter Try.func21, Try.ntmps21
      go_wp2
      go_ret
      exact ⟨ret_bool HD.out.symm, rfl⟩
    · have HD : Hid (inI n lo hi = false) := decide_eq_false (fun h => h1 h.2)
      go_enter Try.func21, Try.ntmps21
      go_wp2
      go_ret
      exact ⟨ret_bool HD.out.symm, rfl⟩
  · have HD : Hid (inI n lo hi = false) := decide_eq_false (fun h => h0 h.1)
    go_enter Try.func21, Try.ntmps21
    go_wp2
    go_ret
    exact ⟨ret_bool HD.out.symm, rfl⟩
theorem isNaN (x : Int) (w : World) : Calls Try.prog 57 #[.int .i64 x] w fun e w' => e = .returned (.bool false) ∧ w' = w := by
  have h : (x != x) = false := by simp
  go_enter Try.func57, Try.ntmps57
  go_wp2
  go_ret
  exact ⟨rfl, rfl⟩
theorem compare (x y : Int) (w : World) : Calls Try.prog 51 #[.int .i64 x, .int .i64 y] w fun e w' => e = .returned (.int .i64 (cmpI x y)) ∧ w' = w := by
  by_cases h0 : x < y
  · have HD := hide (cmp_lt h0)
    go_enter Try.func51, Try.ntmps51
    go_wp2_with fail
    refine (isNaN x _).mono ?_
    rintro e u ⟨rfl, rfl⟩
    go_wp2_with fail
    refine (isNaN y _).mono ?_
    rintro e u ⟨rfl, rfl⟩
    go_wp2
    go_ret
    exact ⟨ret_int HD.out.symm, rfl⟩
  · by_cases h1 : y < x
    · have HD := hide (cmp_gt h1)
      go_enter Try.func51, Try.ntmps51
      go_wp2_with fail
      refine (isNaN x _).mono ?_
      rintro e u ⟨rfl, rfl⟩
      go_wp2_with fail
      refine (isNaN y _).mono ?_
      rintro e u ⟨rfl, rfl⟩
      go_wp2
      go_ret
      exact ⟨ret_int HD.out.symm, rfl⟩
    · have HD := hide (cmp_eq (a := x) (b := y) (by omega))
      go_enter Try.func51, Try.ntmps51
      go_wp2_with fail
      refine (isNaN x _).mono ?_
      rintro e u ⟨rfl, rfl⟩
      go_wp2_with fail
      refine (isNaN y _).mono ?_
      rintro e u ⟨rfl, rfl⟩
      go_wp2
      go_ret
      exact ⟨ret_int HD.out.symm, rfl⟩
theorem less (x y : Int) (w : World) : Calls Try.prog 56 #[.int .i64 x, .int .i64 y] w fun e w' => e = .returned (.bool (decide (x < y))) ∧ w' = w := by
  go_enter Try.func56, Try.ntmps56
  go_wp2_with fail
  refine (isNaN x _).mono ?_
  rintro e u ⟨rfl, rfl⟩
  go_wp2
  go_ret
  exact ⟨rfl, rfl⟩
set_option maxRecDepth 8000 in
set_option maxHeartbeats 2000000 in
theorem sliceCompare (xs ys : List Int) (B B' : Nat) (v v' : Value) (w : World) (h : Row w B v xs) (h' : Row w B' v' ys) (hl : xs.length = ys.length) :
    Calls Try.prog 52 #[v, v'] w fun e w' => e = .returned (.int .i64 (lexI xs ys)) ∧ w' = w := by
  obtain ⟨a, cap, off, rfl, h2, h3, hz, h4⟩ := h
  obtain ⟨a', cap', off', rfl, h2', h3', hz', h4'⟩ := h'
  unfold maxLen at h3 h3'
  clear hz hz'
  obtain ⟨n, hn⟩ : ∃ n, xs.length = n := ⟨_, rfl⟩
  have hn' : ys.length = n := by omega
  rw [hn] at h2 ⊢
  rw [hn'] at h2' ⊢
  have EN := hide hn
  have EN' := hide hn'
  have H4 := hide h4
  have H4' := hide h4'
  clear hn hn' h4 h4' hl
  by_cases h0 : n = 0
  · subst h0
    have HD : Hid (lexI xs ys = 0) := show _ = _ by rw [List.length_eq_zero_iff.1 EN.out, List.length_eq_zero_iff.1 EN'.out]; rfl
    clear H4 H4' EN EN'
    go_enter Try.func52, Try.ntmps52
    go_wp2
    refine wp_loop_rounds 1 ?_
    rw [rounds_succ]
    go_wp2
    go_ret
    exact ⟨ret_int HD.out.symm, rfl⟩
  · obtain ⟨rfl, hc⟩ := H4.out.resolve_left (fun e => h0 (by rw [← EN.out, e]; rfl))
    obtain ⟨rfl, hc'⟩ := H4'.out.resolve_left (fun e => h0 (by rw [← EN'.out, e]; rfl))
    have HC := hide hc
    have HC' := hide hc'
    clear hc hc' H4 H4'
    go_enter Try.func52, Try.ntmps52
    go_wp2
    go_loopw [11] (fun i wr => ∃ k : Nat, k ≤ n ∧ i = .int .i64 k ∧ Hid (lexI (xs.drop k) (ys.drop k) = lexI xs ys) ∧ wr = w) (fun i _ => n - (intOf i).toNat)
    case atStart => exact ⟨0, by omega, rfl, rfl, rfl⟩
    case round =>
      obtain ⟨k, hk, rfl, HE, rfl⟩ := hrel
      by_cases hlt : k < n
      · obtain ⟨x, ex⟩ : ∃ x, xs[k]? = some x := ⟨_, List.getElem?_eq_getElem (by rw [EN.out]; exact hlt)⟩
        obtain ⟨y, ey⟩ : ∃ y, ys[k]? = some y := ⟨_, List.getElem?_eq_getElem (by rw [EN'.out]; exact hlt)⟩
        have cx := HC.out k x ex
        have cy := HC'.out k y ey
        have EX := hide ex
        have EY := hide ey
        clear ex ey
        have hlt2 : ¬ (n : Int) ≤ k := by omega
        go_wp2_with fail
        refine (compare x y _).mono ?_
        rintro e u ⟨rfl, rfl⟩
        by_cases e1 : x < y
        · have HD : Hid (lexI xs ys = -1) := HE.out.symm.trans (lex_lt EX.out EY.out e1)
          rw [cmp_lt e1]
          clear e1
          go_wp2
          go_ret
          exact ⟨ret_int HD.out.symm, rfl⟩
        · by_cases e2 : y < x
          · have HD : Hid (lexI xs ys = 1) := HE.out.symm.trans (lex_gt EX.out EY.out e2)
            rw [cmp_gt e2]
            clear e1 e2
            go_wp2
            go_ret
            exact ⟨ret_int HD.out.symm, rfl⟩
          · have HX : Hid (lexI (xs.drop (k + 1)) (ys.drop (k + 1)) = lexI xs ys) := (lex_eq EX.out EY.out (by omega)).symm.trans HE.out
            rw [cmp_eq (show x = y by omega)]
            clear e1 e2
            go_wp2
            exact ⟨⟨k + 1, by omega, by go_num, HX, trivial⟩, by simp [intOf]; omega⟩
      · have HD : Hid (lexI xs ys = 0) := HE.out.symm.trans (lex_end (by rw [EN.out]; omega) (by rw [EN'.out]; omega))
        go_wp2
        go_ret
        exact ⟨ret_int HD.out.symm, rfl⟩
theorem orderOfAtoms (xs ys : List Int) (B B' : Nat) (v v' : Value) (w : World) (h : Row w B v xs) (h' : Row w B' v' ys) :
    Calls Try.prog 45 #[v, v'] w fun e w' => e = .returned (.int .i64 (ordA xs ys)) ∧ w' = w := by
  have H := hide h
  have H' := hide h'
  obtain ⟨a, cap, off, rfl, h2, h3, hz, h4⟩ := h
  obtain ⟨a', cap', off', rfl, h2', h3', hz', h4'⟩ := h'
  unfold maxLen at h3 h3'
  clear hz hz' h4 h4'
  go_enter Try.func45, Try.ntmps45
  go_wp2_with fail
  refine (compare xs.length ys.length _).mono ?_
  rintro e u ⟨rfl, rfl⟩
  by_cases e1 : xs.length < ys.length
  · have HD := hide (ord_lt e1)
    rw [cmp_lt (show (xs.length : Int) < ys.length by omega)]
    clear e1
    go_wp2
    go_ret
    exact ⟨ret_int HD.out.symm, rfl⟩
  · by_cases e2 : ys.length < xs.length
    · have HD := hide (ord_gt e2)
      rw [cmp_gt (show (ys.length : Int) < xs.length by omega)]
      clear e1 e2
      go_wp2
      go_ret
      exact ⟨ret_int HD.out.symm, rfl⟩
    · have HL : Hid (xs.length = ys.length) := show _ = _ by omega
      have HD := hide (ord_same HL.out)
      rw [cmp_eq (show (xs.length : Int) = ys.length by omega)]
      clear e1 e2
      go_wp2_with fail
      refine (sliceCompare xs ys B B' _ _ _ H.out H'.out HL.out).mono ?_
      rintro e u ⟨rfl, rfl⟩
      go_wp2
      go_ret
      exact ⟨ret_int HD.out.symm, rfl⟩
end Go.Proofs.Ytnlfcocejkaieaa.Pol
