/-
  At every three ints the program's WrdDo answers as the specification's WrdDo does (the law FnExactWrdDo returns true); no condition.
  The frame (the steps lifted, over, proved) is the guide's shell, written by its program; the walk and the lemmas ahead of it are mine.
-/
import Derived.Test.YtihkmcdnmffipaaRows
import Derived.WalkKit
import Derived.ProofKit
import Derived.OpenShut
import Derived.Laws.BitsAllLaws
namespace Go.Proofs.Ytihkmcdnmffipaa.fnExactWrdDo
open Go.ChangeShapes Go.WideShapes Go.ChangeAt Go.RowKit
set_option linter.unusedVariables false      -- a walk need not use every 'w<i>' (that an integer argument fits its kind)

theorem own : ownKnob Try.prog.godebug = none := by kernel_rfl

theorem i64_and (a b : Int) (h1 : 0 ≤ a) (h2 : a < 65536) (h3 : 0 ≤ b) (h4 : b < 65536) : bits .and .i64 a b = ((a.toNat &&& b.toNat : Nat) : Int) := by
  obtain ⟨A, rfl⟩ := Int.eq_ofNat_of_zero_le h1
  obtain ⟨B, rfl⟩ := Int.eq_ofNat_of_zero_le h3
  have hx : A &&& B < 2 ^ 16 := Nat.and_lt_two_pow _ (by omega)
  show IntKind.i64.wrap ((BitVec.ofInt 64 (A : Int) &&& BitVec.ofInt 64 (B : Int)).toNat : Int) = _
  rw [BitVec.toNat_and, ofInt_u64 A (by omega), ofInt_u64 B (by omega), IntWalk.i64_in _ ⟨by omega, by omega⟩]
  simp
theorem i64_xor (a b : Int) (h1 : 0 ≤ a) (h2 : a < 65536) (h3 : 0 ≤ b) (h4 : b < 65536) : bits .xor .i64 a b = ((a.toNat ^^^ b.toNat : Nat) : Int) := by
  obtain ⟨A, rfl⟩ := Int.eq_ofNat_of_zero_le h1
  obtain ⟨B, rfl⟩ := Int.eq_ofNat_of_zero_le h3
  have hx : A ^^^ B < 2 ^ 16 := Nat.xor_lt_two_pow (by omega) (by omega)
  show IntKind.i64.wrap ((BitVec.ofInt 64 (A : Int) ^^^ BitVec.ofInt 64 (B : Int)).toNat : Int) = _
  rw [BitVec.toNat_xor, ofInt_u64 A (by omega), ofInt_u64 B (by omega), IntWalk.i64_in _ ⟨by omega, by omega⟩]
  simp
theorem and_eq (a b : Int) (h1 : 0 ≤ a) (h2 : a < 65536) (h3 : 0 ≤ b) (h4 : b < 65536) : wrap64 (bits .and .u16 a b) = bits .and .i64 a b := by
  have hx : a.toNat &&& b.toNat < 2 ^ 16 := Nat.and_lt_two_pow _ (by omega)
  rw [i64_and a b h1 h2 h3 h4, u16_and a b h1 h2 h3 h4, IntWalk.wrap64_in _ ⟨by omega, by omega⟩]
theorem xor_eq (a b : Int) (h1 : 0 ≤ a) (h2 : a < 65536) (h3 : 0 ≤ b) (h4 : b < 65536) : wrap64 (bits .xor .u16 a b) = bits .xor .i64 a b := by
  have hx : a.toNat ^^^ b.toNat < 2 ^ 16 := Nat.xor_lt_two_pow (by omega) (by omega)
  rw [i64_xor a b h1 h2 h3 h4, u16_xor a b h1 h2 h3 h4, IntWalk.wrap64_in _ ⟨by omega, by omega⟩]
theorem tmod_em (x : Int) : (x.tmod 65536 < 0 → x.tmod 65536 + 65536 = x % 65536) ∧ (¬ x.tmod 65536 < 0 → x.tmod 65536 = x % 65536) := by
  rw [Int.tmod_eq_emod]
  by_cases h : 0 ≤ x ∨ 65536 ∣ x
  · rw [if_pos h]; omega
  · rw [if_neg h]; simp only [Int.natAbs]; omega
theorem w16 (x : Int) : IntKind.u16.wrap x = x % 65536 := by simp [IntKind.wrap, IntKind.bits, IntKind.signed]
theorem w64 (x : Int) : wrap64 (x % 65536) = x % 65536 := IntWalk.wrap64_in _ ⟨by omega, by omega⟩
theorem win (x : Int) (h0 : 0 ≤ x) (h1 : x < 65536) : IntKind.u16.wrap x = x := IntWalk.u16_in x ⟨h0, by omega⟩
theorem mul_bd (a b : Int) (ha0 : 0 ≤ a) (ha1 : a < 65536) (hb0 : 0 ≤ b) (hb1 : b < 65536) : 0 ≤ a * b ∧ a * b ≤ 4294836225 := by
  refine ⟨Int.mul_nonneg ha0 hb0, ?_⟩
  have h1 : a * b ≤ 65535 * b := Int.mul_le_mul_of_nonneg_right (by omega) hb0
  omega
theorem one (a1 a2 : Int) (w : World) (ha0 : 0 ≤ a1) (ha1 : a1 < 65536) (hb0 : 0 ≤ a2) (hb1 : a2 < 65536) :
    Calls Try.prog 5 #[.int .i64 1, .int .i64 a1, .int .i64 a2] w fun e w' => e = .returned (.bool true) ∧ Grown w w' := by
  have i1 := win a1 ha0 ha1
  have i2 := win a2 hb0 hb1
  have e : (wrap64 (IntKind.u16.wrap (a1 + a2)) != (a1 + a2) % 65536) = false := by rw [w16, w64]; simp
  go_enter Try.func5, Try.ntmps5
  go_wp2
  go_ret
  exact ⟨rfl, by repeat (first | exact Grown.refl _ | apply Grown.drew | apply Grown.alloc)⟩
theorem two (a1 a2 : Int) (w : World) (ha0 : 0 ≤ a1) (ha1 : a1 < 65536) (hb0 : 0 ≤ a2) (hb1 : a2 < 65536) :
    Calls Try.prog 5 #[.int .i64 2, .int .i64 a1, .int .i64 a2] w fun e w' => e = .returned (.bool true) ∧ Grown w w' := by
  have i1 := win a1 ha0 ha1
  have i2 := win a2 hb0 hb1
  by_cases h : (a1 - a2).tmod 65536 < 0
  · have e : (wrap64 (IntKind.u16.wrap (a1 - a2)) != wrap64 ((a1 - a2).tmod 65536 + 65536)) = false := by rw [w16, (tmod_em _).1 h, w64]; simp
    go_enter Try.func5, Try.ntmps5
    go_wp2
    go_ret
    exact ⟨rfl, by repeat (first | exact Grown.refl _ | apply Grown.drew | apply Grown.alloc)⟩
  · have e : (wrap64 (IntKind.u16.wrap (a1 - a2)) != (a1 - a2).tmod 65536) = false := by rw [w16, (tmod_em _).2 h, w64]; simp
    go_enter Try.func5, Try.ntmps5
    go_wp2
    go_ret
    exact ⟨rfl, by repeat (first | exact Grown.refl _ | apply Grown.drew | apply Grown.alloc)⟩
theorem three (a1 a2 : Int) (w : World) (ha0 : 0 ≤ a1) (ha1 : a1 < 65536) (hb0 : 0 ≤ a2) (hb1 : a2 < 65536) :
    Calls Try.prog 5 #[.int .i64 3, .int .i64 a1, .int .i64 a2] w fun e w' => e = .returned (.bool true) ∧ Grown w w' := by
  have i1 := win a1 ha0 ha1
  have i2 := win a2 hb0 hb1
  obtain ⟨m0, m1⟩ := mul_bd a1 a2 ha0 ha1 hb0 hb1
  have e : (wrap64 (IntKind.u16.wrap (a1 * a2)) != (a1 * a2) % 65536) = false := by rw [w16, w64]; simp
  go_enter Try.func5, Try.ntmps5
  go_wp2
  go_ret
  exact ⟨rfl, by repeat (first | exact Grown.refl _ | apply Grown.drew | apply Grown.alloc)⟩
theorem four (a1 a2 : Int) (w : World) (ha0 : 0 ≤ a1) (ha1 : a1 < 65536) (hb0 : 0 ≤ a2) (hb1 : a2 < 65536) :
    Calls Try.prog 5 #[.int .i64 4, .int .i64 a1, .int .i64 a2] w fun e w' => e = .returned (.bool true) ∧ Grown w w' := by
  have i1 := win a1 ha0 ha1
  have i2 := win a2 hb0 hb1
  have e : (wrap64 (bits BinOp.and IntKind.u16 a1 a2) != bits BinOp.and IntKind.i64 a1 a2) = false := by rw [and_eq a1 a2 ha0 ha1 hb0 hb1]; simp
  go_enter Try.func5, Try.ntmps5
  go_wp2
  go_ret
  exact ⟨rfl, by repeat (first | exact Grown.refl _ | apply Grown.drew | apply Grown.alloc)⟩
theorem five (a1 a2 : Int) (w : World) (ha0 : 0 ≤ a1) (ha1 : a1 < 65536) (hb0 : 0 ≤ a2) (hb1 : a2 < 65536) :
    Calls Try.prog 5 #[.int .i64 5, .int .i64 a1, .int .i64 a2] w fun e w' => e = .returned (.bool true) ∧ Grown w w' := by
  have i1 := win a1 ha0 ha1
  have i2 := win a2 hb0 hb1
  have e : (wrap64 (bits BinOp.xor IntKind.u16 a1 a2) != bits BinOp.xor IntKind.i64 a1 a2) = false := by rw [xor_eq a1 a2 ha0 ha1 hb0 hb1]; simp
  go_enter Try.func5, Try.ntmps5
  go_wp2
  go_ret
  exact ⟨rfl, by repeat (first | exact Grown.refl _ | apply Grown.drew | apply Grown.alloc)⟩
theorem other (a0 a1 a2 : Int) (w : World) (ha0 : 0 ≤ a1) (ha1 : a1 < 65536) (hb0 : 0 ≤ a2) (hb1 : a2 < 65536) (h : a0 < 1 ∨ 5 < a0) :
    Calls Try.prog 5 #[.int .i64 a0, .int .i64 a1, .int .i64 a2] w fun e w' => e = .returned (.bool true) ∧ Grown w w' := by
  have f1 : (a0 == 1) = false := by simp; omega
  have f2 : (a0 == 2) = false := by simp; omega
  have f3 : (a0 == 3) = false := by simp; omega
  have f4 : (a0 == 4) = false := by simp; omega
  have f5 : (a0 == 5) = false := by simp; omega
  rcases h with h | h
  · go_enter Try.func5, Try.ntmps5
    go_wp2
    go_ret
    exact ⟨rfl, by repeat (first | exact Grown.refl _ | apply Grown.drew | apply Grown.alloc)⟩
  · have h1 : 1 ≤ a0 := by omega
    have h5 : ¬ a0 ≤ 5 := by omega
    go_enter Try.func5, Try.ntmps5
    go_wp2
    go_ret
    exact ⟨rfl, by repeat (first | exact Grown.refl _ | apply Grown.drew | apply Grown.alloc)⟩
theorem nowords (a0 a1 a2 : Int) (w : World) (h : ¬ (0 ≤ a1 ∧ a1 < 65536 ∧ 0 ≤ a2 ∧ a2 < 65536)) :
    Calls Try.prog 5 #[.int .i64 a0, .int .i64 a1, .int .i64 a2] w fun e w' => e = .returned (.bool true) ∧ Grown w w' := by
  by_cases ha0 : 0 ≤ a1
  · by_cases ha1 : a1 < 65536
    · by_cases hb0 : 0 ≤ a2
      · have hb1 : ¬ a2 < 65536 := by omega
        go_enter Try.func5, Try.ntmps5
        go_wp2
        go_ret
        exact ⟨rfl, by repeat (first | exact Grown.refl _ | apply Grown.drew | apply Grown.alloc)⟩
      · go_enter Try.func5, Try.ntmps5
        go_wp2
        go_ret
        exact ⟨rfl, by repeat (first | exact Grown.refl _ | apply Grown.drew | apply Grown.alloc)⟩
    · go_enter Try.func5, Try.ntmps5
      go_wp2
      go_ret
      exact ⟨rfl, by repeat (first | exact Grown.refl _ | apply Grown.drew | apply Grown.alloc)⟩
  · go_enter Try.func5, Try.ntmps5
    go_wp2
    go_ret
    exact ⟨rfl, by repeat (first | exact Grown.refl _ | apply Grown.drew | apply Grown.alloc)⟩

theorem walk (a0 : Int) (a1 : Int) (a2 : Int) (w0 : (Lit.int .i64 a0).wf = true) (w1 : (Lit.int .i64 a1).wf = true) (w2 : (Lit.int .i64 a2).wf = true) (w : World) :
    Calls Try.prog 5 #[.int .i64 a0, .int .i64 a1, .int .i64 a2] w fun e w' => e = .returned (.bool true) ∧ Grown w w' := by
  by_cases ha : 0 ≤ a1 ∧ a1 < 65536 ∧ 0 ≤ a2 ∧ a2 < 65536
  · obtain ⟨ha0, ha1, hb0, hb1⟩ := ha
    by_cases h : a0 < 1 ∨ 5 < a0
    · exact other a0 a1 a2 w ha0 ha1 hb0 hb1 h
    · have h5 : a0 = 1 ∨ a0 = 2 ∨ a0 = 3 ∨ a0 = 4 ∨ a0 = 5 := by omega
      rcases h5 with rfl | rfl | rfl | rfl | rfl
      · exact one a1 a2 w ha0 ha1 hb0 hb1
      · exact two a1 a2 w ha0 ha1 hb0 hb1
      · exact three a1 a2 w ha0 ha1 hb0 hb1
      · exact four a1 a2 w ha0 ha1 hb0 hb1
      · exact five a1 a2 w ha0 ha1 hb0 hb1
  · exact nowords a0 a1 a2 w ha

set_option maxRecDepth 100000 in
theorem lifted (os : Os) (started : os.Started) (H : Type) (enc : TypeId × Value → H) :
    ReturnsInHanded {} Try.checked os 5 .any (Rows.fnExactWrdDoSpec.pre6 enc Try.prog Try.f5 Rows.fnExactWrdDoRow.domain false) (Rows.fnExactWrdDoSpec.post enc Try.prog Try.f5 false true false false) := by
  refine returnsInHanded_of_change (C := Try.checked) own started (by kernel_rfl) Try.func5
    (ChangeSpec.witness6 (enc := enc) (C := Try.checked) false ⟨#[], #[.int .i64 0, .int .i64 0, .int .i64 0], []⟩ 8 (by kernel_rfl) (by kernel_rfl) (by kernel_rfl) (by kernel_rfl)) ?_
  intro W base args ds gs before hval0 hW hcnd _
  have hval : ∀ (j : Nat) t v, Try.f5.params[j]? = some t → args[j]? = some v → Value.okWide Try.prog W .any base t v := hval0
  have hW' := hW
  obtain ⟨p, q, hA0, hV, rfl, hfz, hnd⟩ := hW
  have hA : DataW.TrodAll enc Try.prog W 0 (fun _ => true) true Try.f5.params.toList args.toList ds p := hA0
  rw [Try.params5] at hA hval
  obtain ⟨v0, vs0, d0, ds0, p0, q0, hargs, rfl, rfl, h0, r0⟩ := trodAll_cons hA
  obtain ⟨v1, vs1, d1, ds1, p1, q1, rfl, rfl, rfl, h1, r1⟩ := trodAll_cons r0
  obtain ⟨v2, vs2, d2, ds2, p2, q2, rfl, rfl, rfl, h2, r2⟩ := trodAll_cons r1
  obtain ⟨rfl, rfl, rfl⟩ := trodAll_nil r2
  obtain rfl : args = #[v0, v1, v2] := by cases args; simp_all
  obtain ⟨rfl, rfl⟩ := trodVars_none hV
  obtain ⟨a0, rfl, rfl, rfl, w0⟩ := open_int Try.underlying3 (hval 0 3 v0 rfl rfl) h0
  obtain ⟨a1, rfl, rfl, rfl, w1⟩ := open_int Try.underlying3 (hval 1 3 v1 rfl rfl) h1
  obtain ⟨a2, rfl, rfl, rfl, w2⟩ := open_int Try.underlying3 (hval 2 3 v2 rfl rfl) h2
  clear hA0 hval0
  simp only [List.append_nil] at hW'
  refine (walk a0 a1 a2 w0 w1 w2 W).mono fun e W' ⟨he, hg⟩ => ?_
  subst he
  exact ⟨_, rfl, post_of_same (pa := []) (pv := []) hW' (fun _ _ _ => (trodAll_cons_mk (shut_bool Try.underlying4 _) trodAll_mk0)) (fun sp _ => (trodAll_cons_mk (shut_int Try.underlying3 w0) (trodAll_cons_mk (shut_int Try.underlying3 w1) (trodAll_cons_mk (shut_int Try.underlying3 w2) trodAll_mk0)))) (fun _ _ => rfl) rfl
    (hg.frame _) hg.2.1 (ok_one (by kernel_rfl) rfl (okWide_bool_mk Try.underlying4 _))⟩

theorem over : Rows.fnExactWrdDoRow.holds Try.pinned (OpenSpec.ofChange Rows.fnExactWrdDoSpec) :=
  OpenClaim.holds_of_wide 5 Try.f5 rfl rfl rfl rfl rfl rfl rfl ⟨rfl, rfl, rfl, rfl, rfl⟩ rfl rfl rfl rfl rfl (by kernel_rfl) Try.func5 (by kernel_rfl)
    (of_decide_eq_true (by kernel_rfl)) (by unfold Func.isWrapper; first | (rw [if_pos (by decide +kernel)]; kernel_rfl) | (rw [if_neg (by decide +kernel)]; exact ⟨rfl, rfl⟩))
    (fun os started H enc _ => lifted os started H enc)

theorem proved : Rows.FnExactWrdDoSaid :=
  over
#print axioms proved
end Go.Proofs.Ytihkmcdnmffipaa.fnExactWrdDo
