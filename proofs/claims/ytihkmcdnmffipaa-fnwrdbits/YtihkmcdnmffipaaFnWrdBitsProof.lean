/-
  At every code of bytes the law FnWrdBits returns true (P79: OpAnd of two words is no more than each, OpXor no more than both together, and what is the same both ways is); no condition.
  The frame (the steps lifted, over, proved) is the guide's shell, written by its program; the walk and the lemmas ahead of it are mine.
-/
import Derived.Test.YtihkmcdnmffipaaRows
import Derived.WalkKit
import Derived.ProofKit
import Derived.OpenShut
import Derived.Test.YtihkmcdnmffipaaDrawC
import Derived.Test.YtihkmcdnmffipaaWrdC
import Derived.ShutString
import Derived.ChangeOld
import Derived.Below
namespace Go.Proofs.Ytihkmcdnmffipaa.fnWrdBits
open Go.ChangeShapes Go.WideShapes Go.ChangeAt Go.RowKit
open Go.ChangeMaps (open_string shut_string)
set_option linter.unusedVariables false

theorem own : ownKnob Try.prog.godebug = none := by kernel_rfl
theorem laidOut : laidOutB Try.prog = true := by kernel_rfl

def IsRow (k : IntKind) (w : World) (a : Option Addr) (len cap : Nat) (zs : List Int) : Prop :=
  (a = none ∧ len = 0 ∧ cap = 0 ∧ zs = []) ∨
  ∃ x, a = some x ∧ len ≤ cap ∧ cap ≤ maxLen ∧ zs.length = cap ∧ (∀ i, i < zs.length → w.cell? (x.add i) = some (.int k (zs.getD i 0))) ∧ ∀ n ∈ zs, (Lit.int k n).wf = true

theorem laOk (w : World) : Calls Try.prog 12 #[] w fun e w' => e = .returned (.bool true) ∧ w' = w := by
  go_enter Try.func12, Try.ntmps12
  go_wp2
  go_ret
  exact ⟨rfl, rfl⟩
theorem same_ne (a : Int) : (a != a) = false := by simp
theorem wcomm {op a b : Int} (ha : 0 ≤ a ∧ a < 65536) (hb : 0 ≤ b ∧ b < 65536) (h2 : ¬ op = 2) (h1 : 1 ≤ op) (h5 : op ≤ 5) : Wrd.wdo op b a = Wrd.wdo op a b := by
  have : op = 1 ∨ op = 3 ∨ op = 4 ∨ op = 5 := by omega
  rcases this with rfl | rfl | rfl | rfl
  · exact Wrd.comm1 hb ha
  · exact Wrd.comm3 hb ha
  · exact Wrd.comm4 hb ha
  · exact Wrd.comm5 hb ha

set_option maxHeartbeats 4000000 in
theorem walk (a0 : Option Addr) (len0 cap0 : Nat) (z0 : List Int) (w : World) (w0 : IsRow .u8 w a0 len0 cap0 z0) :
    Calls Try.prog 4 #[.slice a0 len0 cap0] w fun e w' => e = .returned (.bool true) ∧ Below w.heap.size w w' := by
  obtain ⟨hlc, hm, hc⟩ := Draw.code_row w a0 len0 cap0 z0 w0
  by_cases hl : 1048576 < len0
  · unfold maxLen at hm
    go_enter Try.func4, Try.ntmps4
    go_wp2
    go_ret
    exact ⟨rfl, Below.refl _ _⟩
  clear w0
  go_enter Try.func4, Try.ntmps4
  go_wp2_with fail
  refine (Draw.drawDo a0 len0 cap0 _ hlc hm hc).mono ?_
  rintro e w1 ⟨op, a, b, rfl, B2⟩
  clear hc hm
  go_wp2_with fail
  refine (Wrd.implDo 4 a b _).mono ?_
  rintro e wN ⟨rfl, hN⟩
  replace B2 := B2.trans (hN.mono B2.size)
  clear hN
  go_wp2_with fail
  refine (Wrd.implDo 5 a b _).mono ?_
  rintro e wN ⟨rfl, hN⟩
  replace B2 := B2.trans (hN.mono B2.size)
  clear hN
  have n4 := same_ne (Wrd.wdo 4 a b)
  have n5 := same_ne (Wrd.wdo 5 a b)
  go_wp2_with fail
  refine (Wrd.specDo 4 a b _).mono ?_
  rintro e wN ⟨rfl, rfl⟩
  go_wp2_with fail
  refine (Wrd.specDo 5 a b _).mono ?_
  rintro e wN ⟨rfl, rfl⟩
  go_wp2_with fail
  refine (Wrd.specOk a _).mono ?_
  rintro e wN ⟨rfl, rfl⟩
  by_cases ha : 0 ≤ a ∧ a < 65536
  · rw [Wrd.wok_t ha.1 ha.2]
    go_wp2_with fail
    refine (Wrd.specOk b _).mono ?_
    rintro e wN ⟨rfl, rfl⟩
    by_cases hB : 0 ≤ b ∧ b < 65536
    · rw [Wrd.wok_t hB.1 hB.2]
      have l4 := Wrd.and_le ha hB
      have l5 := Wrd.xor_le ha hB
      have d4 := Wrd.wdo_bd 4 a b
      have d5 := Wrd.wdo_bd 5 a b
      go_wp2
      go_loopw [8] (fun i wr => ∃ k : Int, 1 ≤ k ∧ k ≤ 6 ∧ i = .int .i64 k ∧ Below w.heap.size w wr) (fun i _ => (6 - intOf i).toNat)
      case atStart => exact ⟨1, by omega, by omega, rfl, B2⟩
      case round =>
        obtain ⟨k, k1, k6, rfl, B3⟩ := hrel
        clear B2
        by_cases h5 : k ≤ 5
        · by_cases e2 : k = 2
          · subst e2
            go_wp2
            exact ⟨⟨3, by omega, by omega, rfl, B3⟩, by simp [intOf]⟩
          · have n2 : (k != 2) = true := by simp [e2]
            have nk := same_ne (Wrd.wdo k a b)
            go_wp2_with fail
            refine (Wrd.implDo k a b _).mono ?_
            rintro e wM ⟨rfl, hN⟩
            replace B3 := B3.trans (hN.mono B3.size)
            clear hN
            go_wp2_with fail
            refine (Wrd.implDo k b a _).mono ?_
            rintro e wL ⟨rfl, hN⟩
            replace B3 := B3.trans (hN.mono B3.size)
            clear hN
            rw [wcomm ha hB e2 k1 h5]
            go_wp2
            exact ⟨⟨k + 1, by omega, by omega, rfl, B3⟩, by simp [intOf]; omega⟩
        · go_wp2
          go_ret
          exact ⟨rfl, B3⟩
    · rw [Wrd.wok_f hB, Wrd.wdo_no (op := 4) (a := a) (b := b) (by omega), Wrd.wdo_no (op := 5) (a := a) (b := b) (by omega)]
      go_wp2_with fail
      refine (laOk _).mono ?_
      rintro e wN ⟨rfl, rfl⟩
      go_wp2
      go_ret
      exact ⟨rfl, B2⟩
  · rw [Wrd.wok_f ha, Wrd.wdo_no (op := 4) (a := a) (b := b) (by omega), Wrd.wdo_no (op := 5) (a := a) (b := b) (by omega)]
    go_wp2_with fail
    refine (laOk _).mono ?_
    rintro e wN ⟨rfl, rfl⟩
    go_wp2
    go_ret
    exact ⟨rfl, B2⟩

set_option maxRecDepth 100000 in
theorem lifted (os : Os) (started : os.Started) (H : Type) (enc : TypeId × Value → H) :
    ReturnsInHanded {} Try.checked os 4 .any (Rows.fnWrdBitsSpec.pre6 enc Try.prog Try.f4 Rows.fnWrdBitsRow.domain false) (Rows.fnWrdBitsSpec.post enc Try.prog Try.f4 false true false false) := by
  refine returnsInHanded_of_change (C := Try.checked) own started (by kernel_rfl) Try.func4
    (ChangeSpec.witness6 (enc := enc) (C := Try.checked) false ⟨#[], #[.slice none 0 0], []⟩ 8 (by kernel_rfl) (by kernel_rfl) (by kernel_rfl) (by kernel_rfl)) ?_
  intro W base args ds gs before hval0 hW hcnd _
  have hval : ∀ (j : Nat) t v, Try.f4.params[j]? = some t → args[j]? = some v → Value.okWide Try.prog W .any base t v := hval0
  have hW' := hW
  obtain ⟨p, q, hA0, hV, rfl, hfz, hnd⟩ := hW
  have hA : DataW.TrodAll enc Try.prog W 0 (fun _ => true) true Try.f4.params.toList args.toList ds p := hA0
  rw [Try.params4] at hA hval
  obtain ⟨v0, vs0, d0, ds0, p0, q0, hargs, rfl, rfl, h0, r0⟩ := trodAll_cons hA
  obtain ⟨rfl, rfl, rfl⟩ := trodAll_nil r0
  obtain rfl : args = #[v0] := by cases args; simp_all
  obtain ⟨rfl, rfl⟩ := trodVars_none hV
  obtain ⟨a0, len0, cap0, rfl⟩ := okWide_slice Try.underlying22 (hval 0 22 v0 rfl rfl)
  have k0 := h0
  have lt0 : ∀ x ∈ p0, x.block < W.heap.size := by obtain ⟨m, hm⟩ := k0; exact DataW.trod_lt m _ _ _ hm
  obtain ⟨z0, w0⟩ : ∃ zs, IsRow .u8 W a0 len0 cap0 zs := by
    obtain ⟨fuel, hf⟩ := h0
    rcases open_ints Try.underlying22 Try.underlying5 (by kernel_rfl) hf with ⟨hcs, _⟩ | ⟨x, l, c, zs, hcs, _, hl, hm, hz, _, hcell, hwz⟩
    · simp [Value.cells] at hcs
      obtain ⟨rfl, rfl, rfl⟩ := hcs
      exact ⟨[], .inl ⟨rfl, rfl, rfl, rfl⟩⟩
    · simp [Value.cells] at hcs
      obtain ⟨rfl, rfl, rfl⟩ := hcs
      exact ⟨zs, .inr ⟨_, rfl, hl, hm, by simpa using hz, hcell, hwz⟩⟩
  clear hA0 hval0
  refine (walk a0 len0 cap0 z0 W w0).mono fun e W' ⟨he, bel⟩ => ?_
  subst he
  exact ⟨_, rfl, _, _, _, [], _, [], hW', trodAll_mk1 (shut_bool Try.underlying4 _), (trodAll_cons_mk (Below.trod laidOut (by kernel_rfl) (of_decide_eq_true (by kernel_rfl)) k0 bel lt0) trodAll_mk0), rfl, bel.frame _, fun h => by cases h⟩

theorem over : Rows.fnWrdBitsRow.holds Try.pinned (OpenSpec.ofChange Rows.fnWrdBitsSpec) :=
  OpenClaim.holds_of_wide 4 Try.f4 rfl rfl rfl rfl rfl rfl rfl ⟨rfl, rfl, rfl, rfl, rfl⟩ rfl rfl rfl rfl rfl (by kernel_rfl) Try.func4 (by kernel_rfl)
    (of_decide_eq_true (by kernel_rfl)) (by unfold Func.isWrapper; first | (rw [if_pos (by decide +kernel)]; kernel_rfl) | (rw [if_neg (by decide +kernel)]; exact ⟨rfl, rfl⟩))
    (fun os started H enc _ => lifted os started H enc)

theorem proved : Rows.FnWrdBitsSaid := over
#print axioms proved
end Go.Proofs.Ytihkmcdnmffipaa.fnWrdBits
