/-
  At every code of bytes the law FnBlkOk returns true (P67: of instructions that are a piece of code the first ones are one, too, and so are the last ones, at their place; and what ends it stands last alone); no condition.
  The frame (the steps lifted, over, proved) is the guide's shell, written by its program; the walk and the lemmas ahead of it are mine.
-/
import Derived.Test.YtmmlhmhlfmafgaaRows
import Derived.WalkKit
import Derived.ProofKit
import Derived.OpenShut
import Derived.Test.YtmmlhmhlfmafgaaLsP
import Derived.Test.YtmmlhmhlfmafgaaLsM
import Derived.Test.YtmmlhmhlfmafgaaLaM
import Derived.ShutString
import Derived.ChangeOld
import Derived.Below
namespace Go.Proofs.Ytmmlhmhlfmafgaa.fnBlkOk
open Go.ChangeShapes Go.WideShapes Go.ChangeAt Go.RowKit
open Go.ChangeMaps (open_string shut_string)
set_option linter.unusedVariables false

theorem own : ownKnob Try.prog.godebug = none := by kernel_rfl
theorem laidOut : laidOutB Try.prog = true := by kernel_rfl

def IsRow (k : IntKind) (w : World) (a : Option Addr) (len cap : Nat) (zs : List Int) : Prop :=
  (a = none ∧ len = 0 ∧ cap = 0 ∧ zs = []) ∨
  ∃ x, a = some x ∧ len ≤ cap ∧ cap ≤ maxLen ∧ zs.length = cap ∧ (∀ i, i < zs.length → w.cell? (x.add i) = some (.int k (zs.getD i 0))) ∧ ∀ n ∈ zs, (Lit.int k n).wf = true

open IntS Flat InsS
set_option linter.unusedVariables false
set_option linter.unusedSimpArgs false

set_option maxRecDepth 8000 in
set_option maxHeartbeats 16000000 in
theorem walk (a0 : Option Addr) (len0 cap0 : Nat) (z0 : List Int) (w : World) (w0 : IsRow .u8 w a0 len0 cap0 z0) :
    Calls Try.prog 4 #[.slice a0 len0 cap0] w fun e w' => e = .returned (.bool true) ∧ Below w.heap.size w w' := by
  obtain ⟨hlc, hm, hc⟩ := Draw.code_row w a0 len0 cap0 z0 w0
  by_cases hl : 1048576 < len0
  · unfold maxLen at hm
    go_enter Try.func4, Try.ntmps4
    go_wp2
    go_ret
    exact ⟨rfl, Below.refl _ _⟩
  clear w0
  go_enter Try.func4, Try.ntmps4
  go_wp2_with fail
  refine (Draw.drawBlkOk a0 len0 cap0 _ hlc hm hc).mono ?_
  rintro e va ⟨pc, qs, cap, is, B, rfl, r1, l1, p1, hb⟩
  have R1 := hide r1
  have BW := hide hb
  clear hc hm hlc r1 hb
  obtain ⟨n, en⟩ : ∃ n, is.length = n := ⟨_, rfl⟩
  have EN := hide en
  rw [en] at l1
  clear en
  go_wp2_with fail
  refine (Blk.implOk pc is B _ va R1.out (by rw [EN.out]; omega)).mono ?_
  rintro e vb ⟨rfl, hb⟩
  replace R1 := hide (R1.out.below hb)
  replace BW := hide (BW.out.trans (hb.mono BW.out.size))
  clear hb
  go_wp2_with fail
  refine (Blk.specOk pc is B _ vb R1.out (by rw [EN.out]; omega)).mono ?_
  rintro e vc ⟨rfl, hb⟩
  replace R1 := hide (R1.out.below hb)
  replace BW := hide (BW.out.trans (hb.mono BW.out.size))
  clear hb
  have bs : (Blk.okL pc is != Blk.okL pc is) = false := by simp
  cases hk : Blk.okL pc is with
  | false =>
    go_wp2_with fail
    refine (La.laOk vc).mono ?_
    rintro e vd ⟨rfl, rfl⟩
    go_wp2
    go_ret
    exact ⟨rfl, BW.out⟩
  | true =>
    have HK := hide hk
    clear hk bs
    have P3 := Blk.okL_parts HK.out
    have pb := P3.2.1
    rw [EN.out] at pb ⊢
    have n1 : 1 ≤ n := by rw [← EN.out]; exact P3.1.1
    obtain ⟨a, cap', off, hv, c2, c3, hz, hfl, h4⟩ := R1.out
    rw [EN.out] at hv c2 h4
    injection hv with i1 i2 i3
    subst i1 i3
    clear hz hfl P3 R1 i2
    obtain ⟨rfl, hc⟩ := h4.resolve_left (by omega)
    have HC := hide hc
    clear h4 hc
    have CM := hide c3
    unfold maxLen at c3
    go_wp2
    go_loopw [6] (fun i wr => ∃ k : Nat, 1 ≤ k ∧ k ≤ n ∧ i = .int .i64 k ∧ Hid (Below w.heap.size w wr) ∧ Hid (Below vc.heap.size vc wr)) (fun i _ => n - (intOf i).toNat)
    case atStart => exact ⟨1, by omega, by omega, rfl, BW.out, Below.refl _ _⟩
    case round =>
      obtain ⟨k, k1, hk, rfl, HB, HV⟩ := hrel
      by_cases hlt : k < n
      · have lk : ((k : Nat) : Int) < (n : Nat) := by omega
        have RT := hide ((Blk.irow_take EN.out c2 CM.out (Nat.le_of_lt hlt) HC.out).below HV.out)
        have RD := hide ((Blk.irow_drop EN.out c2 CM.out (Nat.le_of_lt hlt) HC.out).below HV.out)
        have OT := hide (Blk.okL_take HK.out k1 (by rw [EN.out]; exact hlt))
        have OD := hide (Blk.okL_drop HK.out (k := k) (by rw [EN.out]; exact hlt))
        obtain ⟨j, rfl⟩ : ∃ j, k = j + 1 := ⟨k - 1, by omega⟩
        obtain ⟨i, et⟩ : ∃ i, is[j]? = some i := ⟨_, List.getElem?_eq_getElem (by rw [EN.out]; omega)⟩
        have OE := hide (Blk.okL_ends HK.out et (by rw [EN.out]; omega))
        have d0 := cell_below HV.out (at4 HC.out et).1
        have kj : (((j + 1 : Nat) : Int) - 1) = (j : Int) := by omega
        have D0 := hide d0
        clear et d0
        go_wp2_with fail
        refine (Blk.implOk pc (is.take (j + 1)) B _ wr RT.out (by rw [List.length_take]; omega)).mono ?_
        rintro e u1 ⟨rfl, hb⟩
        rw [OT.out]
        have HB1 := hide (HB.out.trans (hb.mono HB.out.size))
        have HV1 := hide (HV.out.trans (hb.mono HV.out.size))
        have RD1 := hide (RD.out.below hb)
        have d1 := cell_below hb D0.out
        clear hb RT RD D0 HB HV
        have D1 := hide d1
        clear d1
        go_wp2_with fail
        refine (Blk.implOk (pc + ((j + 1 : Nat) : Int)) (is.drop (j + 1)) B _ u1 RD1.out (by rw [List.length_drop, EN.out]; omega)).mono ?_
        rintro e u2 ⟨rfl, hb⟩
        rw [OD.out]
        have HB2 := hide (HB1.out.trans (hb.mono HB1.out.size))
        have HV2 := hide (HV1.out.trans (hb.mono HV1.out.size))
        have d2 := cell_below hb D1.out
        clear hb RD1 D1 HB1 HV1
        go_wp2_with fail
        refine (InsI.insEnds i.op _).mono ?_
        rintro e u3 ⟨rfl, hw⟩
        rw [hw, OE.out]
        clear hw u3 d2
        go_wp2
        exact ⟨⟨j + 2, by omega, by omega, by go_num, HB2, HV2⟩, by simp [intOf]; omega⟩
      · go_wp2_with fail
        refine (La.laOk wr).mono ?_
        rintro e vd ⟨rfl, rfl⟩
        go_wp2
        go_ret
        exact ⟨rfl, HB.out⟩

set_option maxRecDepth 100000 in
theorem lifted (os : Os) (started : os.Started) (H : Type) (enc : TypeId × Value → H) :
    ReturnsInHanded {} Try.checked os 4 .any (Rows.fnBlkOkSpec.pre6 enc Try.prog Try.f4 Rows.fnBlkOkRow.domain false) (Rows.fnBlkOkSpec.post enc Try.prog Try.f4 false true false false) := by
  refine returnsInHanded_of_change (C := Try.checked) own started (by kernel_rfl) Try.func4
    (ChangeSpec.witness6 (enc := enc) (C := Try.checked) false ⟨#[], #[.slice none 0 0], []⟩ 8 (by kernel_rfl) (by kernel_rfl) (by kernel_rfl) (by kernel_rfl)) ?_
  intro W base args ds gs before hval0 hW hcnd _
  have hval : ∀ (j : Nat) t v, Try.f4.params[j]? = some t → args[j]? = some v → Value.okWide Try.prog W .any base t v := hval0
  have hW' := hW
  obtain ⟨p, q, hA0, hV, rfl, hfz, hnd⟩ := hW
  have hA : DataW.TrodAll enc Try.prog W 0 (fun _ => true) true Try.f4.params.toList args.toList ds p := hA0
  rw [Try.params4] at hA hval
  obtain ⟨v0, vs0, d0, ds0, p0, q0, hargs, rfl, rfl, h0, r0⟩ := trodAll_cons hA
  obtain ⟨rfl, rfl, rfl⟩ := trodAll_nil r0
  obtain rfl : args = #[v0] := by cases args; simp_all
  obtain ⟨rfl, rfl⟩ := trodVars_none hV
  obtain ⟨a0, len0, cap0, rfl⟩ := okWide_slice Try.underlying22 (hval 0 22 v0 rfl rfl)
  have k0 := h0
  have lt0 : ∀ x ∈ p0, x.block < W.heap.size := by obtain ⟨m, hm⟩ := k0; exact DataW.trod_lt m _ _ _ hm
  obtain ⟨z0, w0⟩ : ∃ zs, IsRow .u8 W a0 len0 cap0 zs := by
    obtain ⟨fuel, hf⟩ := h0
    rcases open_ints Try.underlying22 Try.underlying5 (by kernel_rfl) hf with ⟨hcs, _⟩ | ⟨x, l, c, zs, hcs, _, hl, hm, hz, _, hcell, hwz⟩
    · simp [Value.cells] at hcs
      obtain ⟨rfl, rfl, rfl⟩ := hcs
      exact ⟨[], .inl ⟨rfl, rfl, rfl, rfl⟩⟩
    · simp [Value.cells] at hcs
      obtain ⟨rfl, rfl, rfl⟩ := hcs
      exact ⟨zs, .inr ⟨_, rfl, hl, hm, by simpa using hz, hcell, hwz⟩⟩
  clear hA0 hval0
  refine (walk a0 len0 cap0 z0 W w0).mono fun e W' ⟨he, bel⟩ => ?_
  subst he
  exact ⟨_, rfl, _, _, _, [], _, [], hW', trodAll_mk1 (shut_bool Try.underlying4 _), (trodAll_cons_mk (Below.trod laidOut (by kernel_rfl) (of_decide_eq_true (by kernel_rfl)) k0 bel lt0) trodAll_mk0), rfl, bel.frame _, fun h => by cases h⟩

theorem over : Rows.fnBlkOkRow.holds Try.pinned (OpenSpec.ofChange Rows.fnBlkOkSpec) :=
  OpenClaim.holds_of_wide 4 Try.f4 rfl rfl rfl rfl rfl rfl rfl ⟨rfl, rfl, rfl, rfl, rfl⟩ rfl rfl rfl rfl rfl (by kernel_rfl) Try.func4 (by kernel_rfl)
    (of_decide_eq_true (by kernel_rfl)) (by unfold Func.isWrapper; first | (rw [if_pos (by decide +kernel)]; kernel_rfl) | (rw [if_neg (by decide +kernel)]; exact ⟨rfl, rfl⟩))
    (fun os started H enc _ => lifted os started H enc)

theorem proved : Rows.FnBlkOkSaid := over
#print axioms proved
end Go.Proofs.Ytmmlhmhlfmafgaa.fnBlkOk
