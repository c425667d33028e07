/-
  At every code of bytes the law FnWrdRel returns true (P11: of two words one is less, or both are the same); no condition.
  The frame (the steps lifted, over, proved) is the guide's shell, written by its program; the walk and the lemmas ahead of it are mine.
-/
import Derived.Test.YtapohghigmalcaaRows
import Derived.WalkKit
import Derived.ProofKit
import Derived.OpenShut
import Derived.Test.YtapohghigmalcaaDrawC
import Derived.Test.YtapohghigmalcaaWrdC
import Derived.ShutString
import Derived.ChangeOld
import Derived.Below
namespace Go.Proofs.Ytapohghigmalcaa.fnWrdRel
open Go.ChangeShapes Go.WideShapes Go.ChangeAt Go.RowKit
open Go.ChangeMaps (open_string shut_string)
set_option linter.unusedVariables false

theorem own : ownKnob Try.prog.godebug = none := by kernel_rfl
theorem laidOut : laidOutB Try.prog = true := by kernel_rfl

def IsRow (k : IntKind) (w : World) (a : Option Addr) (len cap : Nat) (zs : List Int) : Prop :=
  (a = none ∧ len = 0 ∧ cap = 0 ∧ zs = []) ∨
  ∃ x, a = some x ∧ len ≤ cap ∧ cap ≤ maxLen ∧ zs.length = cap ∧ (∀ i, i < zs.length → w.cell? (x.add i) = some (.int k (zs.getD i 0))) ∧ ∀ n ∈ zs, (Lit.int k n).wf = true

theorem laOk (w : World) : Calls Try.prog 16 #[] w fun e w' => e = .returned (.bool true) ∧ w' = w := by
  go_enter Try.func16, Try.ntmps16
  go_wp2
  go_ret
  exact ⟨rfl, rfl⟩

set_option maxHeartbeats 2000000 in
theorem walk (a0 : Option Addr) (len0 cap0 : Nat) (z0 : List Int) (w : World) (w0 : IsRow .u8 w a0 len0 cap0 z0) :
    Calls Try.prog 5 #[.slice a0 len0 cap0] w fun e w' => e = .returned (.bool true) ∧ Below w.heap.size w w' := by
  obtain ⟨hlc, hm, hc⟩ := Draw.code_row w a0 len0 cap0 z0 w0
  by_cases hl : 1048576 < len0
  · unfold maxLen at hm
    go_enter Try.func5, Try.ntmps5
    go_wp2
    go_ret
    exact ⟨rfl, Below.refl _ _⟩
  · clear w0
    go_enter Try.func5, Try.ntmps5
    go_wp2_with fail
    refine (Draw.drawRel a0 len0 cap0 _ hlc hm hc).mono ?_
    rintro e w1 ⟨r, a, b, rfl, hb⟩
    clear hc hm
    go_wp2_with fail
    refine (Wrd.implRel r a b _).mono ?_
    rintro e w2 ⟨rfl, rfl⟩
    go_wp2_with fail
    refine (Wrd.specRel r a b _).mono ?_
    rintro e w2 ⟨rfl, rfl⟩
    go_wp2_with fail
    refine (Wrd.implRel 1 a b _).mono ?_
    rintro e w2 ⟨rfl, rfl⟩
    go_wp2_with fail
    refine (Wrd.implRel 2 a b _).mono ?_
    rintro e w2 ⟨rfl, rfl⟩
    go_wp2_with fail
    refine (Wrd.implRel 2 b a _).mono ?_
    rintro e w2 ⟨rfl, rfl⟩
    go_wp2_with fail
    refine (Wrd.specOk a _).mono ?_
    rintro e w2 ⟨rfl, rfl⟩
    by_cases ha : 0 ≤ a ∧ a < 65536
    · rw [Wrd.wok_t ha.1 ha.2]
      go_wp2_with fail
      refine (Wrd.specOk b _).mono ?_
      rintro e w2 ⟨rfl, rfl⟩
      by_cases hB : 0 ≤ b ∧ b < 65536
      · rw [Wrd.wok_t hB.1 hB.2, Wrd.wrel1 ha hB, Wrd.wrel2 ha hB, Wrd.wrel2 hB ha]
        rcases Int.lt_trichotomy a b with h | h | h
        · have d : (a == b) = false := beq_eq_false_iff_ne.2 (by omega)
          rw [decide_eq_false (p := a = b) (by omega), decide_eq_true (p := a < b) h, decide_eq_false (p := b < a) (by omega)]
          go_wp2_with fail
          refine (Wrd.implRel 1 b a _).mono ?_
          rintro e w2 ⟨rfl, rfl⟩
          rw [Wrd.wrel1 hB ha, decide_eq_false (p := b = a) (by omega)]
          go_wp2
          go_ret
          exact ⟨rfl, hb⟩
        · subst h
          rw [decide_eq_true (p := a = a) rfl, decide_eq_false (p := a < a) (by omega)]
          go_wp2_with fail
          refine (Wrd.implRel 1 a a _).mono ?_
          rintro e w2 ⟨rfl, rfl⟩
          rw [Wrd.wrel1 hB ha, decide_eq_true (p := a = a) rfl]
          go_wp2
          go_ret
          exact ⟨rfl, hb⟩
        · have d : (a == b) = false := beq_eq_false_iff_ne.2 (by omega)
          rw [decide_eq_false (p := a = b) (by omega), decide_eq_false (p := a < b) (by omega), decide_eq_true (p := b < a) h]
          go_wp2_with fail
          refine (Wrd.implRel 1 b a _).mono ?_
          rintro e w2 ⟨rfl, rfl⟩
          rw [Wrd.wrel1 hB ha, decide_eq_false (p := b = a) (by omega)]
          go_wp2
          go_ret
          exact ⟨rfl, hb⟩
      · rw [Wrd.wok_f hB, Wrd.wrel_no (rel := 1) (a := a) (b := b) (by omega), Wrd.wrel_no (rel := 2) (a := a) (b := b) (by omega), Wrd.wrel_no (rel := 2) (a := b) (b := a) (by omega)]
        go_wp2_with fail
        refine (laOk _).mono ?_
        rintro e w2 ⟨rfl, rfl⟩
        go_wp2
        go_ret
        exact ⟨rfl, hb⟩
    · rw [Wrd.wok_f ha, Wrd.wrel_no (rel := 1) (a := a) (b := b) (by omega), Wrd.wrel_no (rel := 2) (a := a) (b := b) (by omega), Wrd.wrel_no (rel := 2) (a := b) (b := a) (by omega)]
      go_wp2_with fail
      refine (laOk _).mono ?_
      rintro e w2 ⟨rfl, rfl⟩
      go_wp2
      go_ret
      exact ⟨rfl, hb⟩

set_option maxRecDepth 100000 in
theorem lifted (os : Os) (started : os.Started) (H : Type) (enc : TypeId × Value → H) :
    ReturnsInHanded {} Try.checked os 5 .any (Rows.fnWrdRelSpec.pre6 enc Try.prog Try.f5 Rows.fnWrdRelRow.domain false) (Rows.fnWrdRelSpec.post enc Try.prog Try.f5 false true false false) := by
  refine returnsInHanded_of_change (C := Try.checked) own started (by kernel_rfl) Try.func5
    (ChangeSpec.witness6 (enc := enc) (C := Try.checked) false ⟨#[], #[.slice none 0 0], []⟩ 8 (by kernel_rfl) (by kernel_rfl) (by kernel_rfl) (by kernel_rfl)) ?_
  intro W base args ds gs before hval0 hW hcnd _
  have hval : ∀ (j : Nat) t v, Try.f5.params[j]? = some t → args[j]? = some v → Value.okWide Try.prog W .any base t v := hval0
  have hW' := hW
  obtain ⟨p, q, hA0, hV, rfl, hfz, hnd⟩ := hW
  have hA : DataW.TrodAll enc Try.prog W 0 (fun _ => true) true Try.f5.params.toList args.toList ds p := hA0
  rw [Try.params5] at hA hval
  obtain ⟨v0, vs0, d0, ds0, p0, q0, hargs, rfl, rfl, h0, r0⟩ := trodAll_cons hA
  obtain ⟨rfl, rfl, rfl⟩ := trodAll_nil r0
  obtain rfl : args = #[v0] := by cases args; simp_all
  obtain ⟨rfl, rfl⟩ := trodVars_none hV
  obtain ⟨a0, len0, cap0, rfl⟩ := okWide_slice Try.underlying22 (hval 0 22 v0 rfl rfl)
  have k0 := h0
  have lt0 : ∀ x ∈ p0, x.block < W.heap.size := by obtain ⟨m, hm⟩ := k0; exact DataW.trod_lt m _ _ _ hm
  obtain ⟨z0, w0⟩ : ∃ zs, IsRow .u8 W a0 len0 cap0 zs := by
    obtain ⟨fuel, hf⟩ := h0
    rcases open_ints Try.underlying22 Try.underlying5 (by kernel_rfl) hf with ⟨hcs, _⟩ | ⟨x, l, c, zs, hcs, _, hl, hm, hz, _, hcell, hwz⟩
    · simp [Value.cells] at hcs
      obtain ⟨rfl, rfl, rfl⟩ := hcs
      exact ⟨[], .inl ⟨rfl, rfl, rfl, rfl⟩⟩
    · simp [Value.cells] at hcs
      obtain ⟨rfl, rfl, rfl⟩ := hcs
      exact ⟨zs, .inr ⟨_, rfl, hl, hm, by simpa using hz, hcell, hwz⟩⟩
  clear hA0 hval0
  refine (walk a0 len0 cap0 z0 W w0).mono fun e W' ⟨he, bel⟩ => ?_
  subst he
  exact ⟨_, rfl, _, _, _, [], _, [], hW', trodAll_mk1 (shut_bool Try.underlying4 _), (trodAll_cons_mk (Below.trod laidOut (by kernel_rfl) (of_decide_eq_true (by kernel_rfl)) k0 bel lt0) trodAll_mk0), rfl, bel.frame _, fun h => by cases h⟩

theorem over : Rows.fnWrdRelRow.holds Try.pinned (OpenSpec.ofChange Rows.fnWrdRelSpec) :=
  OpenClaim.holds_of_wide 5 Try.f5 rfl rfl rfl rfl rfl rfl rfl ⟨rfl, rfl, rfl, rfl, rfl⟩ rfl rfl rfl rfl rfl (by kernel_rfl) Try.func5 (by kernel_rfl)
    (of_decide_eq_true (by kernel_rfl)) (by unfold Func.isWrapper; first | (rw [if_pos (by decide +kernel)]; kernel_rfl) | (rw [if_neg (by decide +kernel)]; exact ⟨rfl, rfl⟩))
    (fun os started H enc _ => lifted os started H enc)

theorem proved : Rows.FnWrdRelSaid := over
#print axioms proved
end Go.Proofs.Ytapohghigmalcaa.fnWrdRel
