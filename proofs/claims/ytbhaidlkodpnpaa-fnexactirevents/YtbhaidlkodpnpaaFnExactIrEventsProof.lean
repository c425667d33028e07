/-
  At every piece of code the program's IrEvents answers as the specification's IrEvents does; it writes into no argument (the law FnExactIrEvents returns true); no condition.
  The frame (lifted, over, proved) is written by my own program after the guide's worked texts; the walk and the lemmas ahead of it are mine.
-/
import Derived.Test.YtbhaidlkodpnpaaRows
import Derived.Test.YtbhaidlkodpnpaaShape
import Derived.Test.YtbhaidlkodpnpaaIrE
import Derived.Test.YtbhaidlkodpnpaaPhaseIn
import Derived.WalkKit
import Derived.ProofKit
import Derived.OpenShut
import Derived.ShutString
import Derived.ChangeOld
import Derived.Below
import Derived.SizedLaws
namespace Go.Proofs.Ytbhaidlkodpnpaa.fnExactIrEvents
open Go.ChangeShapes Go.WideShapes Go.ChangeAt Go.RowKit
open Go.ChangeMaps (open_string shut_string)
set_option linter.unusedVariables false

theorem own : ownKnob Try.prog.godebug = none := by kernel_rfl
theorem laidOut : laidOutB Try.prog = true := by kernel_rfl

open IntS Mch Ir
set_option linter.unusedSimpArgs false

set_option maxRecDepth 8000 in
set_option maxHeartbeats 8000000 in
theorem walk (a0 : Array Value) (w : World) (w0 : Shape.Holds Try.prog w 9 24 a0.toList)  :
    Calls Try.prog 3 #[.agg a0] w fun e w' => e = .returned (.bool true) ∧ Below w.heap.size w w' := by
  obtain ⟨l, b, rfl, hP⟩ := Ir.of_holds w0
  obtain ⟨a, cap, B, rfl, hq⟩ := hP
  obtain ⟨pc, ln, ops, en, x, y, k⟩ := b
  have RM : Hid (RBk w [.int .i64 pc, .int .i64 ln, .slice a ops.length cap, .int .i64 en, .int .i64 x, .int .i64 y, .int .i64 k] ⟨pc, ln, ops, en, x, y, k⟩) := ⟨a, cap, B, rfl, hq⟩
  simp only [bv] at *
  clear w0 hq
  obtain ⟨R, eR⟩ : ∃ R, ((evN ops : Nat) : Int) = R := ⟨_, rfl⟩
  have ER := hide eR
  clear eR
  have pn : (R != R) = false := by simp
  have TA := hide (Rec.new w [.int .i64 pc, .int .i64 ln, .slice a ops.length cap, .int .i64 en, .int .i64 x, .int .i64 y, .int .i64 k] 24)
  have BW := hide ((Below.refl w.heap.size w).alloc (Nat.le_refl _) (.cells #[.int .i64 pc, .int .i64 ln, .slice a ops.length cap, .int .i64 en, .int .i64 x, .int .i64 y, .int .i64 k] 24))
  go_enter Try.func3, Try.ntmps3
  go_wp2_with fail
  refine (szIrBlock ⟨pc, ln, ops, en, x, y, k⟩ _ 1048576 _ (RM.out.below BW.out) (by omega) (by omega)).mono ?_
  rintro e u0 ⟨n, rfl, n0, hs, hb⟩
  replace TA := hide (TA.out.below hb)
  replace BW := hide (BW.out.trans (hb.mono BW.out.size))
  clear hb
  by_cases hn : n < 0
  · clear TA
    go_wp2
    go_ret
    exact ⟨rfl, BW.out⟩
  have HS : Hid (ops.length ≤ 1048576) := show _ ≤ _ by have := hs (by omega); simp only [] at this; omega
  clear hs
  have ta0 := TA.out.cell 0 _ rfl
  have ta1 := TA.out.cell 1 _ rfl
  have ta2 := TA.out.cell 2 _ rfl
  have ta3 := TA.out.cell 3 _ rfl
  have ta4 := TA.out.cell 4 _ rfl
  have ta5 := TA.out.cell 5 _ rfl
  have ta6 := TA.out.cell 6 _ rfl
  go_wp2_with fail
  refine (toIrBlock ⟨pc, ln, ops, en, x, y, k⟩ _ _ (RM.out.below BW.out) HS.out).mono ?_
  rintro e u1 ⟨g1, c', rfl, rfl, M1, -, -, hb⟩
  simp only [bv] at M1 ⊢
  clear ta0 ta1 ta2 ta3 ta4 ta5 ta6
  have R1 := hide M1.read
  clear M1
  replace TA := hide (TA.out.below hb)
  replace BW := hide (BW.out.trans (hb.mono BW.out.size))
  clear hb
  go_wp2_with fail
  refine (specEvents ⟨pc, ln, ops, en, x, y, k⟩ _ _ R1.out).mono ?_
  rintro e u2 ⟨rfl, hb⟩
  rw [ER.out]
  clear R1
  replace TA := hide (TA.out.below hb)
  replace BW := hide (BW.out.trans (hb.mono BW.out.size))
  clear hb
  have ta0 := TA.out.cell 0 _ rfl
  have ta1 := TA.out.cell 1 _ rfl
  have ta2 := TA.out.cell 2 _ rfl
  have ta3 := TA.out.cell 3 _ rfl
  have ta4 := TA.out.cell 4 _ rfl
  have ta5 := TA.out.cell 5 _ rfl
  have ta6 := TA.out.cell 6 _ rfl
  go_wp2_with fail
  refine (toIrBlock ⟨pc, ln, ops, en, x, y, k⟩ _ _ (RM.out.below BW.out) HS.out).mono ?_
  rintro e u3 ⟨gx, c', rfl, rfl, MX, -, -, hb⟩
  simp only [bv] at MX ⊢
  clear ta0 ta1 ta2 ta3 ta4 ta5 ta6
  replace MX := hide MX
  replace TA := hide (TA.out.below hb)
  replace BW := hide (BW.out.trans (hb.mono BW.out.size))
  clear hb
  have bX : Below u3.heap.size u3 (u3.alloc (.cells #[.int .i64 pc, .int .i64 ln, .slice (some ⟨gx, 0, none⟩) ops.length ops.length, .int .i64 en, .int .i64 x, .int .i64 y, .int .i64 k] 29)) := (Below.refl _ _).alloc (Nat.le_refl _) _
  have X := hide (Rec.new u3 [.int .i64 pc, .int .i64 ln, .slice (some ⟨gx, 0, none⟩) ops.length ops.length, .int .i64 en, .int .i64 x, .int .i64 y, .int .i64 k] 29)
  replace BW := hide (BW.out.trans (bX.mono BW.out.size))
  replace TA := hide (TA.out.below bX)
  replace MX := hide (MX.out.below bX)
  clear bX
  have RX := hide MX.out.read
  go_wp2_with fail
  refine (implEvents ⟨pc, ln, ops, en, x, y, k⟩ _ _ RX.out).mono ?_
  rintro e u5 ⟨rfl, hb⟩
  rw [ER.out]
  clear RX
  replace TA := hide (TA.out.below hb)
  replace MX := hide (MX.out.below hb)
  replace X := hide (X.out.below hb)
  replace BW := hide (BW.out.trans (hb.mono BW.out.size))
  clear hb
  go_wp2_with fail
  refine (wpIn_wide (n := 0)).1 ?_
  refine PhaseIn.region (S := fun w' => Rec u3.heap.size [.int .i64 pc, .int .i64 ln, .slice (some ⟨gx, 0, none⟩) ops.length ops.length, .int .i64 en, .int .i64 x, .int .i64 y, .int .i64 k] w' ∧ Rec w.heap.size [.int .i64 pc, .int .i64 ln, .slice a ops.length cap, .int .i64 en, .int .i64 x, .int .i64 y, .int .i64 k] w') 5 (by kernel_rfl) ?_
  have hb : Below u5.heap.size u5 u5.drew := (Below.refl _ _).drew
  replace TA := hide (TA.out.below hb)
  replace MX := hide (MX.out.below hb)
  replace X := hide (X.out.below hb)
  replace BW := hide (BW.out.trans (hb.mono BW.out.size))
  clear hb
  generalize u5.drew = d5 at BW TA MX X ⊢
  have hHeld := And.intro X.out TA.out
  refine PhaseIn.takeD (i := 0) (v := ?_) [0, 3, 4] 22 rfl (by rfl) (by kernel_rfl) (by kernel_rfl) (by kernel_rfl) (by kernel_rfl) (by kernel_rfl) (fun _ _ _ h => h) (Or.inl ⟨by kernel_rfl, ?_⟩) hHeld ?_
  rotate_left
  · intro w' hSw
    (try dsimp only at hSw)
    have e0 := hSw.1.cell 0 _ rfl; have e1 := hSw.1.cell 1 _ rfl; have e2 := hSw.1.cell 2 _ rfl; have e3 := hSw.1.cell 3 _ rfl; have e4 := hSw.1.cell 4 _ rfl; have e5 := hSw.1.cell 5 _ rfl; have e6 := hSw.1.cell 6 _ rfl
    go_simp
    first | done | with_reducible rfl
  try simp only [Act.put, List.setIfInBounds_toArray, List.set]
  refine PhaseIn.takeD (i := 1) (v := ?_) [1, 2, 3, 4] 23 rfl (by rfl) (by kernel_rfl) (by kernel_rfl) (by kernel_rfl) (by kernel_rfl) (by kernel_rfl) (fun _ _ _ h => h) (Or.inl ⟨by kernel_rfl, ?_⟩) hHeld ?_
  rotate_left
  · intro w' hSw
    (try dsimp only at hSw)
    have e0 := hSw.2.cell 0 _ rfl; have e1 := hSw.2.cell 1 _ rfl; have e2 := hSw.2.cell 2 _ rfl; have e3 := hSw.2.cell 3 _ rfl; have e4 := hSw.2.cell 4 _ rfl; have e5 := hSw.2.cell 5 _ rfl; have e6 := hSw.2.cell 6 _ rfl
    go_simp
    first | done | with_reducible rfl
  try simp only [Act.put, List.setIfInBounds_toArray, List.set]
  refine PhaseIn.one (i := 2) (by kernel_rfl) rfl (by kernel_rfl) (fun K hK => ?_)
  unfold Oper.wpIn
  refine ⟨fun _ _ => trivial, ?_⟩
  go_simp
  refine ⟨rfl, (callsIn_wide.2 (toIrBlock ⟨pc, ln, ops, en, x, y, k⟩ _ _ (RM.out.below BW.out) HS.out)).mono ?_⟩
  rintro e u6 ⟨g6, c', rfl, rfl, M6, -, -, hb⟩
  simp only [bv] at M6 ⊢
  have hHeld2 := And.intro (hHeld.1.below hb) (hHeld.2.below hb)
  refine hK _ _ (fun _ => hHeld2) ?_
  have R6 := hide M6.read
  clear hK K M6 hHeld
  replace TA := hide (TA.out.below hb)
  replace MX := hide (MX.out.below hb)
  replace X := hide (X.out.below hb)
  replace BW := hide (BW.out.trans (hb.mono BW.out.size))
  clear hb
  have RX := hide MX.out.read
  try simp only [Act.put, List.setIfInBounds_toArray, List.set]
  refine PhaseIn.one (i := 3) (by kernel_rfl) rfl (by kernel_rfl) (fun K hK => ?_)
  unfold Oper.wpIn
  refine ⟨fun _ _ => trivial, ?_⟩
  go_simp
  refine ⟨rfl, (callsIn_wide.2 (eqIrBlock ⟨pc, ln, ops, en, x, y, k⟩ _ _ _ RX.out R6.out)).mono ?_⟩
  rintro e u7 ⟨rfl, hb⟩
  have hHeld := And.intro (hHeld2.1.below hb) (hHeld2.2.below hb)
  refine hK _ _ (fun _ => hHeld) ?_
  clear hK K R6 RX hHeld2
  replace TA := hide (TA.out.below hb)
  replace MX := hide (MX.out.below hb)
  replace X := hide (X.out.below hb)
  replace BW := hide (BW.out.trans (hb.mono BW.out.size))
  clear hb
  try simp only [Act.put, List.setIfInBounds_toArray, List.set]
  refine PhaseIn.takeD (i := 4) (v := ?_) [4] 26 rfl (by rfl) (by kernel_rfl) (by kernel_rfl) (by kernel_rfl) (by kernel_rfl) (by kernel_rfl) (fun _ _ _ h => h) (Or.inl ⟨by kernel_rfl, ?_⟩) hHeld ?_
  rotate_left
  · intro w' hSw
    (try dsimp only at hSw)
    go_simp
    first | done | with_reducible rfl
  try simp only [Act.put, List.setIfInBounds_toArray, List.set]
  refine PhaseIn.done (by kernel_rfl) ?_ _
  clear hHeld
  go_wp2
  go_ret
  exact ⟨rfl, BW.out⟩

set_option maxRecDepth 100000 in
theorem lifted (os : Os) (started : os.Started) (H : Type) (enc : TypeId × Value → H) :
    ReturnsInHanded {} Try.checked os 3 .any (Rows.fnExactIrEventsSpec.pre6 enc Try.prog Try.f3 Rows.fnExactIrEventsRow.domain false) (Rows.fnExactIrEventsSpec.post enc Try.prog Try.f3 false true false false) := by
  refine returnsInHanded_of_change (C := Try.checked) own started (by kernel_rfl) Try.func3
    (ChangeSpec.witness6 (enc := enc) (C := Try.checked) false ⟨#[], #[.agg #[.int .i64 0, .int .i64 0, .slice none 0 0, .int .i64 0, .int .i64 0, .int .i64 0, .int .i64 0]], []⟩ 8 (by kernel_rfl) (by kernel_rfl) (by kernel_rfl) (by kernel_rfl)) ?_
  intro W base args ds gs before hval0 hW hcnd hsz0
  have hval : ∀ (j : Nat) t v, Try.f3.params[j]? = some t → args[j]? = some v → Value.okWide Try.prog W .any base t v := hval0
  have hW' := hW
  obtain ⟨p, q, hA0, hV, rfl, hfz, hnd⟩ := hW
  have hA : DataW.TrodAll enc Try.prog W 0 (fun _ => true) true Try.f3.params.toList args.toList ds p := hA0
  rw [Try.params3] at hA hval
  obtain ⟨v0, vs0, d0, ds0, p0, q0, hargs, rfl, rfl, h0, r0⟩ := trodAll_cons hA
  obtain ⟨rfl, rfl, rfl⟩ := trodAll_nil r0
  obtain rfl : args = #[v0] := by cases args; simp_all
  obtain ⟨rfl, rfl⟩ := trodVars_none hV
  have k0 := h0
  have lt0 : ∀ x ∈ p0, x.block < W.heap.size := by obtain ⟨m, hm⟩ := k0; exact DataW.trod_lt m _ _ _ hm
  obtain ⟨a0, rfl, _⟩ := okWide_struct Try.underlying24 (hval 0 24 v0 rfl rfl)
  have w0 : Shape.Holds Try.prog W 9 24 a0.toList := Shape.opened 9 h0
  clear hA0 hval0
  refine (walk a0 W w0).mono fun e W' ⟨he, hnx⟩ => ?_
  subst he
  exact ⟨_, rfl, _, _, _, [], _, [], hW', trodAll_cons_mk (shut_bool Try.underlying4 _) trodAll_mk0, (trodAll_cons_mk (Below.trod laidOut (by kernel_rfl) (of_decide_eq_true (by kernel_rfl)) k0 hnx lt0) trodAll_mk0), rfl, hnx.frame _, fun h => by cases h⟩

theorem over : Rows.fnExactIrEventsRow.holds Try.pinned (OpenSpec.ofChange Rows.fnExactIrEventsSpec) :=
  OpenClaim.holds_of_wide 3 Try.f3 rfl rfl rfl rfl rfl rfl rfl ⟨rfl, rfl, rfl, rfl, rfl⟩ rfl rfl rfl rfl rfl (by kernel_rfl) Try.func3 (by kernel_rfl)
    (of_decide_eq_true (by kernel_rfl)) (by unfold Func.isWrapper; first | (rw [if_pos (by decide +kernel)]; kernel_rfl) | (rw [if_neg (by decide +kernel)]; exact ⟨rfl, rfl⟩))
    (fun os started H enc _ => lifted os started H enc)

theorem proved : Rows.FnExactIrEventsSaid := over
#print axioms proved
end Go.Proofs.Ytbhaidlkodpnpaa.fnExactIrEvents
