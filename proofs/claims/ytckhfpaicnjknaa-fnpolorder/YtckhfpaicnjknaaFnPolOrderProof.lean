/-
  At every code of bytes the law FnPolOrder returns true (P26: PolOrder of two sums is 0 just where they are the same, and the other way round the other sign); no condition.
  The frame (the steps lifted, over, proved) is the guide's shell, written by its program; the walk and the lemmas ahead of it are mine.
-/
import Derived.Test.YtckhfpaicnjknaaRows
import Derived.WalkKit
import Derived.ProofKit
import Derived.OpenShut
import Derived.Test.YtckhfpaicnjknaaPolSi
import Derived.Test.YtckhfpaicnjknaaPolO
import Derived.ShutString
import Derived.ChangeOld
import Derived.Below
namespace Go.Proofs.Ytckhfpaicnjknaa.fnPolOrder
open Go.ChangeShapes Go.WideShapes Go.ChangeAt Go.RowKit
open Go.ChangeMaps (open_string shut_string)
set_option linter.unusedVariables false

theorem own : ownKnob Try.prog.godebug = none := by kernel_rfl
theorem laidOut : laidOutB Try.prog = true := by kernel_rfl

def IsRow (k : IntKind) (w : World) (a : Option Addr) (len cap : Nat) (zs : List Int) : Prop :=
  (a = none ∧ len = 0 ∧ cap = 0 ∧ zs = []) ∨
  ∃ x, a = some x ∧ len ≤ cap ∧ cap ≤ maxLen ∧ zs.length = cap ∧ (∀ i, i < zs.length → w.cell? (x.add i) = some (.int k (zs.getD i 0))) ∧ ∀ n ∈ zs, (Lit.int k n).wf = true

open IntS Pol
set_option linter.unusedVariables false
set_option linter.unusedSimpArgs false

set_option maxRecDepth 8000 in
set_option maxHeartbeats 16000000 in
theorem walk (a0 : Option Addr) (len0 cap0 : Nat) (z0 : List Int) (w : World) (w0 : IsRow .u8 w a0 len0 cap0 z0) :
    Calls Try.prog 5 #[.slice a0 len0 cap0] w fun e w' => e = .returned (.bool true) ∧ Below w.heap.size w w' := by
  obtain ⟨hlc, hm, hc⟩ := Draw.code_row w a0 len0 cap0 z0 w0
  by_cases hl : 1048576 < len0
  · unfold maxLen at hm
    go_enter Try.func5, Try.ntmps5
    go_wp2
    go_ret
    exact ⟨rfl, Below.refl _ _⟩
  clear w0
  go_enter Try.func5, Try.ntmps5
  go_wp2_with fail
  refine (Draw.drawOrder a0 len0 cap0 _ hlc hm hc).mono ?_
  rintro e va ⟨a1, c1, ps, a2, c2, qs, B1, B2, rfl, r1, r2, hb⟩
  have r3 := r2.below ((Below.refl va.heap.size va).alloc (Nat.le_refl _) (.cells #[.slice a1 ps.length c1] 25))
  have S := hide (Pit.new hb)
  clear hb hc hm hlc r2
  have S2 := hide (Pit.add S.out r1)
  clear S r1
  have S := S2
  clear S2
  have S2 := hide (Pit.add S.out r3)
  clear S r3
  have S := S2
  clear S2
  rw [show (va.alloc (.cells #[.slice a1 ps.length c1] 25)).heap.size = va.heap.size + 1 by simp] at S
  have zA := (S.out.box (va.heap.size, .slice a1 ps.length c1, ps) (List.mem_cons_of_mem _ List.mem_cons_self)).1.cell 0 _ rfl
  have zB := (S.out.box (va.heap.size + 1, .slice a2 qs.length c2, qs) List.mem_cons_self).1.cell 0 _ rfl
  go_wp2_with fail
  clear zA zB
  generalize hZ1 : va.heap.size + 1 = X2 at S ⊢
  clear hZ1
  generalize hZ0 : va.heap.size = X1 at S ⊢
  clear hZ0
  generalize ((va.alloc (.cells #[.slice a1 ps.length c1] 25)).alloc (.cells #[.slice a2 qs.length c2] 25)) = wv1 at S ⊢
  obtain ⟨o, eo⟩ : ∃ o, ordP ps qs = o := ⟨_, rfl⟩
  have EO := hide eo
  have bd := ordP_bd ps qs
  have EZ := hide (ordP_zero (a := ps) (b := qs))
  rw [eo] at bd
  obtain ⟨b0, b1⟩ := bd
  have g1 : ¬ o < -1 := by omega
  have g2 : ¬ 1 < o := by omega
  have n1 : (o != o) = false := by simp
  have n2 : (-o != -o) = false := by simp
  clear eo
  obtain ⟨D0, d0⟩ := (S.out.box (X1, .slice a1 ps.length c1, ps) (List.mem_cons_of_mem _ List.mem_cons_self)).2
  obtain ⟨D1, d1⟩ := (S.out.box (X2, .slice a2 qs.length c2, qs) List.mem_cons_self).2
  refine (implOrder ps qs   D0 D1  _ _ _ d0 d1 ).mono ?_
  rintro e wv2 ⟨he, hb⟩
  clear d0 d1 
  rw [EO.out] at he
  subst he
  have S2 := hide (S.out.below hb)
  clear S hb
  have S := S2
  clear S2
  have zA := (S.out.box (X1, .slice a1 ps.length c1, ps) (List.mem_cons_of_mem _ List.mem_cons_self)).1.cell 0 _ rfl
  have zB := (S.out.box (X2, .slice a2 qs.length c2, qs) List.mem_cons_self).1.cell 0 _ rfl
  go_wp2_with fail
  clear zA zB
  obtain ⟨D0, d0⟩ := (S.out.box (X1, .slice a1 ps.length c1, ps) (List.mem_cons_of_mem _ List.mem_cons_self)).2
  obtain ⟨D1, d1⟩ := (S.out.box (X2, .slice a2 qs.length c2, qs) List.mem_cons_self).2
  refine (specOrder ps qs   D0 D1  _ _ _ d0 d1 ).mono ?_
  rintro e wv3 ⟨he, hb⟩
  clear d0 d1 
  rw [EO.out] at he
  subst he
  have S2 := hide (S.out.below hb)
  clear S hb
  have S := S2
  clear S2
  have zA := (S.out.box (X1, .slice a1 ps.length c1, ps) (List.mem_cons_of_mem _ List.mem_cons_self)).1.cell 0 _ rfl
  have zB := (S.out.box (X2, .slice a2 qs.length c2, qs) List.mem_cons_self).1.cell 0 _ rfl
  go_wp2_with fail
  clear zA zB
  obtain ⟨D0, d0⟩ := (S.out.box (X2, .slice a2 qs.length c2, qs) List.mem_cons_self).2
  obtain ⟨D1, d1⟩ := (S.out.box (X1, .slice a1 ps.length c1, ps) (List.mem_cons_of_mem _ List.mem_cons_self)).2
  refine (implOrder qs ps   D0 D1  _ _ _ d0 d1 ).mono ?_
  rintro e wv4 ⟨he, hb⟩
  clear d0 d1 
  rw [ordP_neg, EO.out] at he
  subst he
  have S2 := hide (S.out.below hb)
  clear S hb
  have S := S2
  clear S2
  have zA := (S.out.box (X1, .slice a1 ps.length c1, ps) (List.mem_cons_of_mem _ List.mem_cons_self)).1.cell 0 _ rfl
  have zB := (S.out.box (X2, .slice a2 qs.length c2, qs) List.mem_cons_self).1.cell 0 _ rfl
  go_wp2_with fail
  clear zA zB
  obtain ⟨D0, d0⟩ := (S.out.box (X1, .slice a1 ps.length c1, ps) (List.mem_cons_of_mem _ List.mem_cons_self)).2
  obtain ⟨D1, d1⟩ := (S.out.box (X1, .slice a1 ps.length c1, ps) (List.mem_cons_of_mem _ List.mem_cons_self)).2
  refine (implOrder ps ps   D0 D1  _ _ _ d0 d1 ).mono ?_
  rintro e wv5 ⟨he, hb⟩
  clear d0 d1 
  rw [ordP_self] at he
  subst he
  have S2 := hide (S.out.below hb)
  clear S hb
  have S := S2
  clear S2
  have zA := (S.out.box (X1, .slice a1 ps.length c1, ps) (List.mem_cons_of_mem _ List.mem_cons_self)).1.cell 0 _ rfl
  have zB := (S.out.box (X2, .slice a2 qs.length c2, qs) List.mem_cons_self).1.cell 0 _ rfl
  go_wp2_with fail
  clear zA zB
  obtain ⟨D0, d0⟩ := (S.out.box (X1, .slice a1 ps.length c1, ps) (List.mem_cons_of_mem _ List.mem_cons_self)).2
  obtain ⟨D1, d1⟩ := (S.out.box (X2, .slice a2 qs.length c2, qs) List.mem_cons_self).2
  refine (La.laPoly ps qs   D0 D1  _ _ _ d0 d1 ).mono ?_
  rintro e wv6 ⟨he, hb⟩
  clear d0 d1 
  have S2 := hide (S.out.below hb)
  clear S hb
  have S := S2
  clear S2
  by_cases h0 : o = 0
  · have e0 : decide (ps = qs) = true := decide_eq_true (EZ.out.1 (EO.out.trans h0))
    rw [e0] at he
    subst he h0
    go_wp2_with fail
    refine (La.laOk wv6).mono ?_
    rintro e wz ⟨rfl, rfl⟩
    have FIN := hide S.out.bw
    clear S
    go_wp2
    go_ret
    exact ⟨rfl, FIN.out⟩
  · have e0 : decide (ps = qs) = false := decide_eq_false (fun h => h0 (EO.out.symm.trans (EZ.out.2 h)))
    have z0 : (o == 0) = false := beq_eq_false_iff_ne.2 h0
    rw [e0] at he
    subst he
    go_wp2_with fail
    refine (La.laOk wv6).mono ?_
    rintro e wz ⟨rfl, rfl⟩
    have FIN := hide S.out.bw
    clear S
    go_wp2
    go_ret
    exact ⟨rfl, FIN.out⟩

set_option maxRecDepth 100000 in
theorem lifted (os : Os) (started : os.Started) (H : Type) (enc : TypeId × Value → H) :
    ReturnsInHanded {} Try.checked os 5 .any (Rows.fnPolOrderSpec.pre6 enc Try.prog Try.f5 Rows.fnPolOrderRow.domain false) (Rows.fnPolOrderSpec.post enc Try.prog Try.f5 false true false false) := by
  refine returnsInHanded_of_change (C := Try.checked) own started (by kernel_rfl) Try.func5
    (ChangeSpec.witness6 (enc := enc) (C := Try.checked) false ⟨#[], #[.slice none 0 0], []⟩ 8 (by kernel_rfl) (by kernel_rfl) (by kernel_rfl) (by kernel_rfl)) ?_
  intro W base args ds gs before hval0 hW hcnd _
  have hval : ∀ (j : Nat) t v, Try.f5.params[j]? = some t → args[j]? = some v → Value.okWide Try.prog W .any base t v := hval0
  have hW' := hW
  obtain ⟨p, q, hA0, hV, rfl, hfz, hnd⟩ := hW
  have hA : DataW.TrodAll enc Try.prog W 0 (fun _ => true) true Try.f5.params.toList args.toList ds p := hA0
  rw [Try.params5] at hA hval
  obtain ⟨v0, vs0, d0, ds0, p0, q0, hargs, rfl, rfl, h0, r0⟩ := trodAll_cons hA
  obtain ⟨rfl, rfl, rfl⟩ := trodAll_nil r0
  obtain rfl : args = #[v0] := by cases args; simp_all
  obtain ⟨rfl, rfl⟩ := trodVars_none hV
  obtain ⟨a0, len0, cap0, rfl⟩ := okWide_slice Try.underlying22 (hval 0 22 v0 rfl rfl)
  have k0 := h0
  have lt0 : ∀ x ∈ p0, x.block < W.heap.size := by obtain ⟨m, hm⟩ := k0; exact DataW.trod_lt m _ _ _ hm
  obtain ⟨z0, w0⟩ : ∃ zs, IsRow .u8 W a0 len0 cap0 zs := by
    obtain ⟨fuel, hf⟩ := h0
    rcases open_ints Try.underlying22 Try.underlying5 (by kernel_rfl) hf with ⟨hcs, _⟩ | ⟨x, l, c, zs, hcs, _, hl, hm, hz, _, hcell, hwz⟩
    · simp [Value.cells] at hcs
      obtain ⟨rfl, rfl, rfl⟩ := hcs
      exact ⟨[], .inl ⟨rfl, rfl, rfl, rfl⟩⟩
    · simp [Value.cells] at hcs
      obtain ⟨rfl, rfl, rfl⟩ := hcs
      exact ⟨zs, .inr ⟨_, rfl, hl, hm, by simpa using hz, hcell, hwz⟩⟩
  clear hA0 hval0
  refine (walk a0 len0 cap0 z0 W w0).mono fun e W' ⟨he, bel⟩ => ?_
  subst he
  exact ⟨_, rfl, _, _, _, [], _, [], hW', trodAll_mk1 (shut_bool Try.underlying4 _), (trodAll_cons_mk (Below.trod laidOut (by kernel_rfl) (of_decide_eq_true (by kernel_rfl)) k0 bel lt0) trodAll_mk0), rfl, bel.frame _, fun h => by cases h⟩

theorem over : Rows.fnPolOrderRow.holds Try.pinned (OpenSpec.ofChange Rows.fnPolOrderSpec) :=
  OpenClaim.holds_of_wide 5 Try.f5 rfl rfl rfl rfl rfl rfl rfl ⟨rfl, rfl, rfl, rfl, rfl⟩ rfl rfl rfl rfl rfl (by kernel_rfl) Try.func5 (by kernel_rfl)
    (of_decide_eq_true (by kernel_rfl)) (by unfold Func.isWrapper; first | (rw [if_pos (by decide +kernel)]; kernel_rfl) | (rw [if_neg (by decide +kernel)]; exact ⟨rfl, rfl⟩))
    (fun os started H enc _ => lifted os started H enc)

theorem proved : Rows.FnPolOrderSaid := over
#print axioms proved
end Go.Proofs.Ytckhfpaicnjknaa.fnPolOrder
