/-
  At every two codes of bytes the law FnWrdDo returns true (P10: sums and differences undo each other, a product is spread over a sum, OpXor twice is gone, OpAnd twice with OpXor is the sum); no condition.
  The frame (the steps lifted, over, proved) is the guide's shell, written by its program; the walk and the lemmas ahead of it are mine.
-/
import Derived.Test.YtihkmcdnmffipaaRows
import Derived.WalkKit
import Derived.ProofKit
import Derived.OpenShut
import Derived.Test.YtihkmcdnmffipaaDrawC
import Derived.Test.YtihkmcdnmffipaaWrdC
import Derived.ShutString
import Derived.ChangeOld
import Derived.Below
namespace Go.Proofs.Ytihkmcdnmffipaa.fnWrdDo
open Go.ChangeShapes Go.WideShapes Go.ChangeAt Go.RowKit
open Go.ChangeMaps (open_string shut_string)
set_option linter.unusedVariables false

theorem own : ownKnob Try.prog.godebug = none := by kernel_rfl
theorem laidOut : laidOutB Try.prog = true := by kernel_rfl

def IsRow (k : IntKind) (w : World) (a : Option Addr) (len cap : Nat) (zs : List Int) : Prop :=
  (a = none ∧ len = 0 ∧ cap = 0 ∧ zs = []) ∨
  ∃ x, a = some x ∧ len ≤ cap ∧ cap ≤ maxLen ∧ zs.length = cap ∧ (∀ i, i < zs.length → w.cell? (x.add i) = some (.int k (zs.getD i 0))) ∧ ∀ n ∈ zs, (Lit.int k n).wf = true

theorem laOk (w : World) : Calls Try.prog 12 #[] w fun e w' => e = .returned (.bool true) ∧ w' = w := by
  go_enter Try.func12, Try.ntmps12
  go_wp2
  go_ret
  exact ⟨rfl, rfl⟩
theorem same_ne (a : Int) : (a != a) = false := by simp
theorem same_eq (a : Int) : (a == a) = true := by simp

set_option maxHeartbeats 4000000 in
theorem walk (a0 : Option Addr) (len0 cap0 : Nat) (z0 : List Int) (a1 : Option Addr) (len1 cap1 : Nat) (z1 : List Int) (w : World) (w0 : IsRow .u8 w a0 len0 cap0 z0) (w1 : IsRow .u8 w a1 len1 cap1 z1) :
    Calls Try.prog 3 #[.slice a0 len0 cap0, .slice a1 len1 cap1] w fun e w' => e = .returned (.bool true) ∧ Below w.heap.size w w' := by
  obtain ⟨hlc, hm, hc⟩ := Draw.code_row w a0 len0 cap0 z0 w0
  obtain ⟨hlc1, hm1, hc1⟩ := Draw.code_row w a1 len1 cap1 z1 w1
  by_cases hl : 1048576 < len0
  · unfold maxLen at hm hm1
    go_enter Try.func3, Try.ntmps3
    go_wp2
    go_ret
    exact ⟨rfl, Below.refl _ _⟩
  by_cases hl1 : 1048576 < len1
  · unfold maxLen at hm hm1
    go_enter Try.func3, Try.ntmps3
    go_wp2
    go_ret
    exact ⟨rfl, Below.refl _ _⟩
  clear w0 w1
  go_enter Try.func3, Try.ntmps3
  go_wp2_with fail
  refine (Draw.drawDo a0 len0 cap0 _ hlc hm hc).mono ?_
  rintro e w1 ⟨op, a, b, rfl, hb⟩
  have hc2 := hc1.below hb
  clear hc hm hc1
  go_wp2_with fail
  refine (Draw.drawWrap a1 len1 cap1 _ hlc1 hm1 hc2).mono ?_
  rintro e w2 ⟨c0, rfl, hb2⟩
  have B2 := hb.trans (hb2.mono hb.size)
  clear hc2 hm1 hb hb2
  go_wp2_with fail
  refine (Wrd.specWrap c0 _).mono ?_
  rintro e w3 ⟨rfl, rfl⟩
  obtain ⟨c, ec⟩ : ∃ c, c = c0 % 65536 := ⟨_, rfl⟩
  have hC : 0 ≤ c ∧ c < 65536 := by omega
  rw [← ec]
  clear ec
  go_wp2_with fail
  refine (Wrd.implDo op a b _).mono ?_
  rintro e wN ⟨rfl, hN⟩
  replace B2 := B2.trans (hN.mono B2.size)
  clear hN
  go_wp2_with fail
  refine (Wrd.specDo op a b _).mono ?_
  rintro e wN ⟨rfl, rfl⟩
  have nb := Wrd.wdo_bd op a b
  have hno := fun h => Wrd.wdo_no (op := op) (a := a) (b := b) h
  generalize Wrd.wdo op a b = n at nb hno ⊢
  have hNo : Hid (¬ (0 ≤ a ∧ a < 65536 ∧ 0 ≤ b ∧ b < 65536) → n = 0) := hno
  clear hno
  have nn := same_ne n
  go_wp2_with fail
  refine (Wrd.specOk a _).mono ?_
  rintro e wN ⟨rfl, rfl⟩
  by_cases ha : 0 ≤ a ∧ a < 65536
  · rw [Wrd.wok_t ha.1 ha.2]
    go_wp2_with fail
    refine (Wrd.specOk b _).mono ?_
    rintro e wN ⟨rfl, rfl⟩
    by_cases hB : 0 ≤ b ∧ b < 65536
    · rw [Wrd.wok_t hB.1 hB.2]
      go_wp2_with fail
      refine (Wrd.implDo 1 a b _).mono ?_
      rintro e wN ⟨rfl, hN⟩
      replace B2 := B2.trans (hN.mono B2.size)
      clear hN
      go_wp2_with fail
      refine (Wrd.implDo 5 a b _).mono ?_
      rintro e wN ⟨rfl, hN⟩
      replace B2 := B2.trans (hN.mono B2.size)
      clear hN
      go_wp2_with fail
      refine (Wrd.implDo 4 a b _).mono ?_
      rintro e wN ⟨rfl, hN⟩
      replace B2 := B2.trans (hN.mono B2.size)
      clear hN
      go_wp2_with fail
      refine (Wrd.implDo 2 (Wrd.wdo 1 a b) b _).mono ?_
      rintro e wN ⟨rfl, hN⟩
      replace B2 := B2.trans (hN.mono B2.size)
      clear hN
      rw [Wrd.undo_sub ha hB]
      have na := same_ne a
      go_wp2_with fail
      refine (Wrd.implDo 5 (Wrd.wdo 5 a b) b _).mono ?_
      rintro e wN ⟨rfl, hN⟩
      replace B2 := B2.trans (hN.mono B2.size)
      clear hN
      rw [Wrd.undo_xor ha hB]
      go_wp2_with fail
      refine (Wrd.implDo 1 (Wrd.wdo 4 a b) (Wrd.wdo 4 a b) _).mono ?_
      rintro e wN ⟨rfl, hN⟩
      replace B2 := B2.trans (hN.mono B2.size)
      clear hN
      go_wp2_with fail
      refine (Wrd.implDo 1 (Wrd.wdo 5 a b) (Wrd.wdo 1 (Wrd.wdo 4 a b) (Wrd.wdo 4 a b)) _).mono ?_
      rintro e wN ⟨rfl, hN⟩
      replace B2 := B2.trans (hN.mono B2.size)
      clear hN
      rw [Wrd.sum_bits ha hB]
      have ns := same_ne (Wrd.wdo 1 a b)
      go_wp2_with fail
      refine (Wrd.implDo 3 (Wrd.wdo 1 a b) c _).mono ?_
      rintro e wN ⟨rfl, hN⟩
      replace B2 := B2.trans (hN.mono B2.size)
      clear hN
      go_wp2_with fail
      refine (Wrd.implDo 3 a c _).mono ?_
      rintro e wN ⟨rfl, hN⟩
      replace B2 := B2.trans (hN.mono B2.size)
      clear hN
      go_wp2_with fail
      refine (Wrd.implDo 3 b c _).mono ?_
      rintro e wN ⟨rfl, hN⟩
      replace B2 := B2.trans (hN.mono B2.size)
      clear hN
      go_wp2_with fail
      refine (Wrd.implDo 1 (Wrd.wdo 3 a c) (Wrd.wdo 3 b c) _).mono ?_
      rintro e wN ⟨rfl, hN⟩
      replace B2 := B2.trans (hN.mono B2.size)
      clear hN
      rw [← Wrd.spread ha hB hC]
      have nq := same_eq (Wrd.wdo 3 (Wrd.wdo 1 a b) c)
      go_wp2_with fail
      refine (Wrd.implOk n _).mono ?_
      rintro e wN ⟨rfl, rfl⟩
      rw [Wrd.wok_t nb.1 nb.2]
      go_wp2
      go_ret
      exact ⟨rfl, B2⟩
    · rw [Wrd.wok_f hB]
      obtain rfl := hNo.out (by omega)
      go_wp2_with fail
      refine (laOk _).mono ?_
      rintro e wN ⟨rfl, rfl⟩
      go_wp2
      go_ret
      exact ⟨rfl, B2⟩
  · rw [Wrd.wok_f ha]
    obtain rfl := hNo.out (by omega)
    go_wp2_with fail
    refine (laOk _).mono ?_
    rintro e wN ⟨rfl, rfl⟩
    go_wp2
    go_ret
    exact ⟨rfl, B2⟩

set_option maxRecDepth 100000 in
theorem lifted (os : Os) (started : os.Started) (H : Type) (enc : TypeId × Value → H) :
    ReturnsInHanded {} Try.checked os 3 .any (Rows.fnWrdDoSpec.pre6 enc Try.prog Try.f3 Rows.fnWrdDoRow.domain false) (Rows.fnWrdDoSpec.post enc Try.prog Try.f3 false true false false) := by
  refine returnsInHanded_of_change (C := Try.checked) own started (by kernel_rfl) Try.func3
    (ChangeSpec.witness6 (enc := enc) (C := Try.checked) false ⟨#[], #[.slice none 0 0, .slice none 0 0], []⟩ 8 (by kernel_rfl) (by kernel_rfl) (by kernel_rfl) (by kernel_rfl)) ?_
  intro W base args ds gs before hval0 hW hcnd _
  have hval : ∀ (j : Nat) t v, Try.f3.params[j]? = some t → args[j]? = some v → Value.okWide Try.prog W .any base t v := hval0
  have hW' := hW
  obtain ⟨p, q, hA0, hV, rfl, hfz, hnd⟩ := hW
  have hA : DataW.TrodAll enc Try.prog W 0 (fun _ => true) true Try.f3.params.toList args.toList ds p := hA0
  rw [Try.params3] at hA hval
  obtain ⟨v0, vs0, d0, ds0, p0, q0, hargs, rfl, rfl, h0, r0⟩ := trodAll_cons hA
  obtain ⟨v1, vs1, d1, ds1, p1, q1, rfl, rfl, rfl, h1, r1⟩ := trodAll_cons r0
  obtain ⟨rfl, rfl, rfl⟩ := trodAll_nil r1
  obtain rfl : args = #[v0, v1] := by cases args; simp_all
  obtain ⟨rfl, rfl⟩ := trodVars_none hV
  obtain ⟨a0, len0, cap0, rfl⟩ := okWide_slice Try.underlying22 (hval 0 22 v0 rfl rfl)
  have k0 := h0
  have lt0 : ∀ x ∈ p0, x.block < W.heap.size := by obtain ⟨m, hm⟩ := k0; exact DataW.trod_lt m _ _ _ hm
  obtain ⟨z0, w0⟩ : ∃ zs, IsRow .u8 W a0 len0 cap0 zs := by
    obtain ⟨fuel, hf⟩ := h0
    rcases open_ints Try.underlying22 Try.underlying5 (by kernel_rfl) hf with ⟨hcs, _⟩ | ⟨x, l, c, zs, hcs, _, hl, hm, hz, _, hcell, hwz⟩
    · simp [Value.cells] at hcs
      obtain ⟨rfl, rfl, rfl⟩ := hcs
      exact ⟨[], .inl ⟨rfl, rfl, rfl, rfl⟩⟩
    · simp [Value.cells] at hcs
      obtain ⟨rfl, rfl, rfl⟩ := hcs
      exact ⟨zs, .inr ⟨_, rfl, hl, hm, by simpa using hz, hcell, hwz⟩⟩
  obtain ⟨a1, len1, cap1, rfl⟩ := okWide_slice Try.underlying22 (hval 1 22 v1 rfl rfl)
  have k1 := h1
  have lt1 : ∀ x ∈ p1, x.block < W.heap.size := by obtain ⟨m, hm⟩ := k1; exact DataW.trod_lt m _ _ _ hm
  obtain ⟨z1, w1⟩ : ∃ zs, IsRow .u8 W a1 len1 cap1 zs := by
    obtain ⟨fuel, hf⟩ := h1
    rcases open_ints Try.underlying22 Try.underlying5 (by kernel_rfl) hf with ⟨hcs, _⟩ | ⟨x, l, c, zs, hcs, _, hl, hm, hz, _, hcell, hwz⟩
    · simp [Value.cells] at hcs
      obtain ⟨rfl, rfl, rfl⟩ := hcs
      exact ⟨[], .inl ⟨rfl, rfl, rfl, rfl⟩⟩
    · simp [Value.cells] at hcs
      obtain ⟨rfl, rfl, rfl⟩ := hcs
      exact ⟨zs, .inr ⟨_, rfl, hl, hm, by simpa using hz, hcell, hwz⟩⟩
  clear hA0 hval0
  refine (walk a0 len0 cap0 z0 a1 len1 cap1 z1 W w0 w1).mono fun e W' ⟨he, bel⟩ => ?_
  subst he
  exact ⟨_, rfl, _, _, _, [], _, [], hW', trodAll_mk1 (shut_bool Try.underlying4 _), (trodAll_cons_mk (Below.trod laidOut (by kernel_rfl) (of_decide_eq_true (by kernel_rfl)) k0 bel lt0) (trodAll_cons_mk (Below.trod laidOut (by kernel_rfl) (of_decide_eq_true (by kernel_rfl)) k1 bel lt1) trodAll_mk0)), rfl, bel.frame _, fun h => by cases h⟩

theorem over : Rows.fnWrdDoRow.holds Try.pinned (OpenSpec.ofChange Rows.fnWrdDoSpec) :=
  OpenClaim.holds_of_wide 3 Try.f3 rfl rfl rfl rfl rfl rfl rfl ⟨rfl, rfl, rfl, rfl, rfl⟩ rfl rfl rfl rfl rfl (by kernel_rfl) Try.func3 (by kernel_rfl)
    (of_decide_eq_true (by kernel_rfl)) (by unfold Func.isWrapper; first | (rw [if_pos (by decide +kernel)]; kernel_rfl) | (rw [if_neg (by decide +kernel)]; exact ⟨rfl, rfl⟩))
    (fun os started H enc _ => lifted os started H enc)

theorem proved : Rows.FnWrdDoSaid := over
#print axioms proved
end Go.Proofs.Ytihkmcdnmffipaa.fnWrdDo
