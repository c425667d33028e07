/-
  At every machine the program's MchOk answers as the specification's MchOk does, and writes into no argument (the law FnExactMchOk returns true); no condition.
  The frame (lifted, over, proved) is written by my own program after the guide's worked texts; the walk and the lemmas ahead of it are mine.
-/
import Derived.Test.YtdomocmhbaflnaaRows
import Derived.Test.YtdomocmhbaflnaaShape
import Derived.Test.YtdomocmhbaflnaaMchH
import Derived.Test.YtdomocmhbaflnaaMchI
import Derived.Deep.RegionWith
import Derived.WalkKit
import Derived.ProofKit
import Derived.OpenShut
import Derived.ShutString
import Derived.ChangeOld
import Derived.Below
import Derived.SizedLaws
namespace Go.Proofs.Ytdomocmhbaflnaa.fnExactMchOk
open Go.ChangeShapes Go.WideShapes Go.ChangeAt Go.RowKit
open Go.ChangeMaps (open_string shut_string)
set_option linter.unusedVariables false

theorem own : ownKnob Try.prog.godebug = none := by kernel_rfl
theorem laidOut : laidOutB Try.prog = true := by kernel_rfl



set_option maxRecDepth 8000 in
set_option maxHeartbeats 4000000 in
theorem walk (a0 : Array Value) (w : World) (w0 : Shape.Holds Try.prog w 9 24 a0.toList)  :
    Calls Try.prog 3 #[.agg a0] w fun e w' => e = .returned (.bool true) ∧ Below w.heap.size w w' := by
  obtain ⟨l, m, rfl, hm⟩ := Mch.of_holds w0
  obtain ⟨r, e, i, o, b1, b2, b3, b4, rfl, h1, h2, h3, h4⟩ := hm
  obtain ⟨regs, pc, mem, save, lets, waits, halt, ins, outs, count⟩ := m
  have RM : Hid (Mch.RMach w [r, .int .i64 pc, e, .int .i64 save, .bool lets, .bool waits, .int .i64 halt, i, o, .int .i64 count] ⟨regs, pc, mem, save, lets, waits, halt, ins, outs, count⟩) := ⟨r, e, i, o, b1, b2, b3, b4, rfl, h1, h2, h3, h4⟩
  simp only [Mch.mv] at *
  clear w0 h1 h2 h3 h4
  have T := IntS.hide (Mch.One.new w [r, .int .i64 pc, e, .int .i64 save, .bool lets, .bool waits, .int .i64 halt, i, o, .int .i64 count] 24)
  go_enter Try.func3, Try.ntmps3
  go_wp2_with fail
  refine (Mch.szMch _ _ _ (RM.out.below T.out.bw)).mono ?_
  rintro e w1 ⟨n, rfl, n0, hs, hb⟩
  replace T := IntS.hide (T.out.below hb)
  clear hb
  by_cases hn : n < 0
  · have BW := IntS.hide T.out.bw
    clear T
    go_wp2
    go_ret
    exact ⟨rfl, BW.out⟩
  have HS := IntS.hide (hs (by omega))
  clear hs
  have a0 := T.out.a.cell 0 _ rfl
  have a1 := T.out.a.cell 1 _ rfl
  have a2 := T.out.a.cell 2 _ rfl
  have a3 := T.out.a.cell 3 _ rfl
  have a4 := T.out.a.cell 4 _ rfl
  have a5 := T.out.a.cell 5 _ rfl
  have a6 := T.out.a.cell 6 _ rfl
  have a7 := T.out.a.cell 7 _ rfl
  have a8 := T.out.a.cell 8 _ rfl
  have a9 := T.out.a.cell 9 _ rfl
  go_wp2_with fail
  refine (Mch.toMch _ _ _ (RM.out.below T.out.bw) HS.out).mono ?_
  rintro e w2 ⟨c1, rfl, M1, hb⟩
  replace T := IntS.hide (T.out.below hb)
  clear hb
  clear a0 a1 a2 a3 a4 a5 a6 a7 a8 a9
  go_wp2_with fail
  refine (Mch.mchOk _ _ _ M1.read).mono ?_
  rintro e w3 ⟨rfl, hb⟩
  replace T := IntS.hide (T.out.below hb)
  clear hb M1
  obtain ⟨B, eB⟩ : ∃ B, Mch.okM ⟨regs, pc, mem, save, lets, waits, halt, ins, outs, count⟩ = B := ⟨_, rfl⟩
  rw [eB]
  have EB := IntS.hide eB
  clear eB
  have a0 := T.out.a.cell 0 _ rfl
  have a1 := T.out.a.cell 1 _ rfl
  have a2 := T.out.a.cell 2 _ rfl
  have a3 := T.out.a.cell 3 _ rfl
  have a4 := T.out.a.cell 4 _ rfl
  have a5 := T.out.a.cell 5 _ rfl
  have a6 := T.out.a.cell 6 _ rfl
  have a7 := T.out.a.cell 7 _ rfl
  have a8 := T.out.a.cell 8 _ rfl
  have a9 := T.out.a.cell 9 _ rfl
  go_wp2_with fail
  refine (Mch.toMch _ _ _ (RM.out.below T.out.bw) HS.out).mono ?_
  rintro e w4 ⟨c2, rfl, M2, hb⟩
  replace T := IntS.hide (T.out.below hb)
  clear hb
  clear a0 a1 a2 a3 a4 a5 a6 a7 a8 a9
  obtain ⟨r2, e2, i2, o2, d1, d2, d3, d4, rfl, g1, g2, g3, g4, _⟩ := M2
  have RX : Hid (Mch.RMach w4 [r2, .int .i64 pc, e2, .int .i64 save, .bool lets, .bool waits, .int .i64 halt, i2, o2, .int .i64 count] ⟨regs, pc, mem, save, lets, waits, halt, ins, outs, count⟩) := ⟨r2, e2, i2, o2, d1, d2, d3, d4, rfl, g1.row, g2.row, g3.row, g4.row⟩
  obtain ⟨q1, k1, _, rfl, _⟩ := g1.row
  obtain ⟨q2, k2, _, rfl, _⟩ := g2.row
  obtain ⟨q3, k3, _, rfl, _⟩ := g3.row
  obtain ⟨q4, k4, _, rfl, _⟩ := g4.row
  simp only [Mch.mv]
  clear g1 g2 g3 g4
  have bX : Below w4.heap.size w4 (w4.alloc (.cells #[.slice q1 regs.length k1, .int .i64 pc, .slice q2 mem.length k2, .int .i64 save, .bool lets, .bool waits, .int .i64 halt, .slice q3 ins.length k3, .slice q4 outs.length k4, .int .i64 count] 27)) := (Below.refl _ _).alloc (Nat.le_refl _) _
  have X := IntS.hide (Mch.Rec.new w4 [.slice q1 regs.length k1, .int .i64 pc, .slice q2 mem.length k2, .int .i64 save, .bool lets, .bool waits, .int .i64 halt, .slice q3 ins.length k3, .slice q4 outs.length k4, .int .i64 count] 27)
  replace RX := IntS.hide (RX.out.below bX)
  replace T := IntS.hide (T.out.below bX)
  clear bX
  have x0 := X.out.cell 0 _ rfl
  have x1 := X.out.cell 1 _ rfl
  have x2 := X.out.cell 2 _ rfl
  have x3 := X.out.cell 3 _ rfl
  have x4 := X.out.cell 4 _ rfl
  have x5 := X.out.cell 5 _ rfl
  have x6 := X.out.cell 6 _ rfl
  have x7 := X.out.cell 7 _ rfl
  have x8 := X.out.cell 8 _ rfl
  have x9 := X.out.cell 9 _ rfl
  go_wp2_with fail
  refine (MchI.mchOk _ _ _ RX.out).mono ?_
  rintro e w5 ⟨rfl, hb⟩
  clear x0 x1 x2 x3 x4 x5 x6 x7 x8 x9
  replace T := IntS.hide (T.out.below hb)
  replace X := IntS.hide (X.out.below hb)
  replace RX := IntS.hide (RX.out.below hb)
  clear hb
  rw [EB.out]
  have nb := Mch.same_neb B
  have a0 := T.out.a.cell 0 _ rfl
  have a1 := T.out.a.cell 1 _ rfl
  have a2 := T.out.a.cell 2 _ rfl
  have a3 := T.out.a.cell 3 _ rfl
  have a4 := T.out.a.cell 4 _ rfl
  have a5 := T.out.a.cell 5 _ rfl
  have a6 := T.out.a.cell 6 _ rfl
  have a7 := T.out.a.cell 7 _ rfl
  have a8 := T.out.a.cell 8 _ rfl
  have a9 := T.out.a.cell 9 _ rfl
  have x0 := X.out.cell 0 _ rfl
  have x1 := X.out.cell 1 _ rfl
  have x2 := X.out.cell 2 _ rfl
  have x3 := X.out.cell 3 _ rfl
  have x4 := X.out.cell 4 _ rfl
  have x5 := X.out.cell 5 _ rfl
  have x6 := X.out.cell 6 _ rfl
  have x7 := X.out.cell 7 _ rfl
  have x8 := X.out.cell 8 _ rfl
  have x9 := X.out.cell 9 _ rfl
  go_wp2_with fail
  replace T := IntS.hide T.out.drew
  replace X := IntS.hide X.out.drew
  replace RX := IntS.hide RX.out.drew
  first | (go_region_with (first | (go_at_call 9; refine (Mch.toMch _ _ _ (RM.out.below T.out.bw) HS.out).mono ?_; rintro e w6 ⟨c3, rfl, M3, hb6⟩; have X6 := X.out.below hb6; have y0 := X6.cell 0 _ rfl; have y1 := X6.cell 1 _ rfl; have y2 := X6.cell 2 _ rfl; have y3 := X6.cell 3 _ rfl; have y4 := X6.cell 4 _ rfl; have y5 := X6.cell 5 _ rfl; have y6 := X6.cell 6 _ rfl; have y7 := X6.cell 7 _ rfl; have y8 := X6.cell 8 _ rfl; have y9 := X6.cell 9 _ rfl) | (go_at_call 11; refine (Mch.eqMch _ _ _ _ (RX.out.below hb6) M3.read).mono ?_; rintro e w7 ⟨rfl, hb7⟩))) | fail
  all_goals
    have BW := IntS.hide ((T.out.below hb6).below hb7).bw
    clear T X RX
  all_goals
    go_wp2
    go_ret
    exact ⟨rfl, BW.out⟩

set_option maxRecDepth 100000 in
theorem lifted (os : Os) (started : os.Started) (H : Type) (enc : TypeId × Value → H) :
    ReturnsInHanded {} Try.checked os 3 .any (Rows.fnExactMchOkSpec.pre6 enc Try.prog Try.f3 Rows.fnExactMchOkRow.domain false) (Rows.fnExactMchOkSpec.post enc Try.prog Try.f3 false true false false) := by
  refine returnsInHanded_of_change (C := Try.checked) own started (by kernel_rfl) Try.func3
    (ChangeSpec.witness6 (enc := enc) (C := Try.checked) false ⟨#[], #[.agg #[.slice none 0 0, .int .i64 0, .slice none 0 0, .int .i64 0, .bool false, .bool false, .int .i64 0, .slice none 0 0, .slice none 0 0, .int .i64 0]], []⟩ 8 (by kernel_rfl) (by kernel_rfl) (by kernel_rfl) (by kernel_rfl)) ?_
  intro W base args ds gs before hval0 hW hcnd hsz0
  have hval : ∀ (j : Nat) t v, Try.f3.params[j]? = some t → args[j]? = some v → Value.okWide Try.prog W .any base t v := hval0
  have hW' := hW
  obtain ⟨p, q, hA0, hV, rfl, hfz, hnd⟩ := hW
  have hA : DataW.TrodAll enc Try.prog W 0 (fun _ => true) true Try.f3.params.toList args.toList ds p := hA0
  rw [Try.params3] at hA hval
  obtain ⟨v0, vs0, d0, ds0, p0, q0, hargs, rfl, rfl, h0, r0⟩ := trodAll_cons hA
  obtain ⟨rfl, rfl, rfl⟩ := trodAll_nil r0
  obtain rfl : args = #[v0] := by cases args; simp_all
  obtain ⟨rfl, rfl⟩ := trodVars_none hV
  have k0 := h0
  have lt0 : ∀ x ∈ p0, x.block < W.heap.size := by obtain ⟨m, hm⟩ := k0; exact DataW.trod_lt m _ _ _ hm
  obtain ⟨a0, rfl, _⟩ := okWide_struct Try.underlying24 (hval 0 24 v0 rfl rfl)
  have w0 : Shape.Holds Try.prog W 9 24 a0.toList := Shape.opened 9 h0
  clear hA0 hval0
  refine (walk a0 W w0).mono fun e W' ⟨he, hnx⟩ => ?_
  subst he
  exact ⟨_, rfl, _, _, _, [], _, [], hW', trodAll_cons_mk (shut_bool Try.underlying4 _) trodAll_mk0, (trodAll_cons_mk (Below.trod laidOut (by kernel_rfl) (of_decide_eq_true (by kernel_rfl)) k0 hnx lt0) trodAll_mk0), rfl, hnx.frame _, fun h => by cases h⟩

theorem over : Rows.fnExactMchOkRow.holds Try.pinned (OpenSpec.ofChange Rows.fnExactMchOkSpec) :=
  OpenClaim.holds_of_wide 3 Try.f3 rfl rfl rfl rfl rfl rfl rfl ⟨rfl, rfl, rfl, rfl, rfl⟩ rfl rfl rfl rfl rfl (by kernel_rfl) Try.func3 (by kernel_rfl)
    (of_decide_eq_true (by kernel_rfl)) (by unfold Func.isWrapper; first | (rw [if_pos (by decide +kernel)]; kernel_rfl) | (rw [if_neg (by decide +kernel)]; exact ⟨rfl, rfl⟩))
    (fun os started H enc _ => lifted os started H enc)

theorem proved : Rows.FnExactMchOkSaid := over
#print axioms proved
end Go.Proofs.Ytdomocmhbaflnaa.fnExactMchOk
