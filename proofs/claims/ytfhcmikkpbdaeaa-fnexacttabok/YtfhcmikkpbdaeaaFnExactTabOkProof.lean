/-
  At every table of atoms the program's TabOk answers as the specification's TabOk does; it writes into no argument (the law FnExactTabOk returns true); no condition.
  The frame (lifted, over, proved) is written by my own program after the guide's worked texts; the walk and the lemmas ahead of it are mine.
-/
import Derived.Test.YtfhcmikkpbdaeaaRows
import Derived.Test.YtfhcmikkpbdaeaaShape
import Derived.Test.YtfhcmikkpbdaeaaTabY
import Derived.Test.YtfhcmikkpbdaeaaPhaseIn
import Derived.WalkKit
import Derived.ProofKit
import Derived.OpenShut
import Derived.ShutString
import Derived.ChangeOld
import Derived.Below
import Derived.SizedLaws
namespace Go.Proofs.Ytfhcmikkpbdaeaa.fnExactTabOk
open Go.ChangeShapes Go.WideShapes Go.ChangeAt Go.RowKit
open Go.ChangeMaps (open_string shut_string)
set_option linter.unusedVariables false

theorem own : ownKnob Try.prog.godebug = none := by kernel_rfl
theorem laidOut : laidOutB Try.prog = true := by kernel_rfl

open IntS Pol Tab

set_option maxRecDepth 8000 in
set_option maxHeartbeats 8000000 in
theorem walk (a0 : Array Value) (w : World) (w0 : Shape.Holds Try.prog w 9 24 a0.toList)  :
    Calls Try.prog 3 #[.agg a0] w fun e w' => e = .returned (.bool true) ∧ Below w.heap.size w w' := by
  obtain ⟨v, ts, B, rfl, hP⟩ := Tab.of_holds w0
  have RM := hide hP
  obtain ⟨qa, ca, _, rfl, _⟩ := hP
  clear w0
  obtain ⟨R, eR⟩ : ∃ R, tabB ts = R := ⟨_, rfl⟩
  have ER := hide eR
  clear eR
  have pn : (R != R) = false := by simp
  have TA := hide (Rec.new w [.slice qa ts.length ca] 24)
  have BW := hide ((Below.refl w.heap.size w).alloc (Nat.le_refl _) (.cells #[.slice qa ts.length ca] 24))
  go_enter Try.func3, Try.ntmps3
  go_wp2_with fail
  refine (szTabTab ts B _ 1048576 _ (RM.out.below BW.out) (by omega) (by omega)).mono ?_
  rintro e u0 ⟨n, rfl, n0, hs, hb⟩
  replace TA := hide (TA.out.below hb)
  replace BW := hide (BW.out.trans (hb.mono BW.out.size))
  clear hb
  by_cases hn : n < 0
  · clear TA
    go_wp2
    go_ret
    exact ⟨rfl, BW.out⟩
  have HS : Hid (SmallT ts) := show SmallT ts by have := hs (by omega); unfold SmallT; omega
  clear hs
  have ta0 := TA.out.cell 0 _ rfl
  go_wp2_with fail
  refine (toTabTab ts B _ _ (RM.out.below BW.out) HS.out).mono ?_
  rintro e u1 ⟨g1, rfl, M1, hb⟩
  obtain ⟨B1, R1⟩ := M1.read
  replace R1 := hide R1
  clear ta0 M1
  replace TA := hide (TA.out.below hb)
  replace BW := hide (BW.out.trans (hb.mono BW.out.size))
  clear hb
  go_wp2_with fail
  refine (specTab ts B1 _ _ R1.out).mono ?_
  rintro e u2 ⟨rfl, hb⟩
  rw [ER.out]
  clear R1
  replace TA := hide (TA.out.below hb)
  replace BW := hide (BW.out.trans (hb.mono BW.out.size))
  clear hb
  have ta0 := TA.out.cell 0 _ rfl
  go_wp2_with fail
  refine (toTabTab ts B _ _ (RM.out.below BW.out) HS.out).mono ?_
  rintro e u3 ⟨gx, rfl, MX, hb⟩
  replace MX := hide MX
  clear ta0
  replace TA := hide (TA.out.below hb)
  replace BW := hide (BW.out.trans (hb.mono BW.out.size))
  clear hb
  have bX : Below u3.heap.size u3 (u3.alloc (.cells #[.slice (some ⟨gx, 0, none⟩) ts.length ts.length] 29)) := (Below.refl _ _).alloc (Nat.le_refl _) _
  have X := hide (Rec.new u3 [.slice (some ⟨gx, 0, none⟩) ts.length ts.length] 29)
  replace BW := hide (BW.out.trans (bX.mono BW.out.size))
  replace TA := hide (TA.out.below bX)
  replace MX := hide (MX.out.below bX)
  clear bX
  obtain ⟨BX, RBX⟩ := MX.out.read
  replace RBX := hide RBX
  have x0 := X.out.cell 0 _ rfl
  go_wp2_with fail
  refine (implTab ts BX _ _ RBX.out).mono ?_
  rintro e u5 ⟨rfl, hb⟩
  rw [ER.out]
  clear x0 RBX
  replace TA := hide (TA.out.below hb)
  replace MX := hide (MX.out.below hb)
  replace X := hide (X.out.below hb)
  replace BW := hide (BW.out.trans (hb.mono BW.out.size))
  clear hb
  have x0 := X.out.cell 0 _ rfl
  have ta0 := TA.out.cell 0 _ rfl
  go_wp2_with fail
  refine (wpIn_wide (n := 0)).1 ?_
  refine PhaseIn.region (S := fun w' => w'.cell? ⟨u3.heap.size, 0, none⟩ = some (.slice (some ⟨gx, 0, none⟩) ts.length ts.length) ∧ w'.cell? ⟨w.heap.size, 0, none⟩ = some (.slice qa ts.length ca)) 5 (by kernel_rfl) ?_
  have hHeld : u5.drew.cell? ⟨u3.heap.size, 0, none⟩ = some (.slice (some ⟨gx, 0, none⟩) ts.length ts.length) ∧ u5.drew.cell? ⟨w.heap.size, 0, none⟩ = some (.slice qa ts.length ca) := ⟨x0, ta0⟩
  have hb : Below u5.heap.size u5 u5.drew := (Below.refl _ _).drew
  clear x0 ta0
  replace TA := hide (TA.out.below hb)
  replace MX := hide (MX.out.below hb)
  replace X := hide (X.out.below hb)
  replace BW := hide (BW.out.trans (hb.mono BW.out.size))
  clear hb
  generalize u5.drew = d5 at hHeld BW TA MX X ⊢
  refine PhaseIn.takeD (i := 0) (v := ?_) [0, 3, 4] 22 rfl (by rfl) (by kernel_rfl) (by kernel_rfl) (by kernel_rfl) (by kernel_rfl) (by kernel_rfl) (fun _ _ _ h => h) (Or.inl ⟨by kernel_rfl, ?_⟩) hHeld ?_
  rotate_left
  · intro w' hSw
    (try dsimp only at hSw)
    go_simp
    first | done | with_reducible rfl
  try simp only [Act.put, List.setIfInBounds_toArray, List.set]
  refine PhaseIn.takeD (i := 1) (v := ?_) [1, 2, 3, 4] 23 rfl (by rfl) (by kernel_rfl) (by kernel_rfl) (by kernel_rfl) (by kernel_rfl) (by kernel_rfl) (fun _ _ _ h => h) (Or.inl ⟨by kernel_rfl, ?_⟩) hHeld ?_
  rotate_left
  · intro w' hSw
    (try dsimp only at hSw)
    go_simp
    first | done | with_reducible rfl
  try simp only [Act.put, List.setIfInBounds_toArray, List.set]
  refine PhaseIn.one (i := 2) (by kernel_rfl) rfl (by kernel_rfl) (fun K hK => ?_)
  unfold Oper.wpIn
  refine ⟨fun _ _ => trivial, ?_⟩
  go_simp
  refine ⟨rfl, (callsIn_wide.2 (toTabTab ts B _ _ (RM.out.below BW.out) HS.out)).mono ?_⟩
  rintro e u6 ⟨g6, rfl, M6, hb⟩
  have hHeld2 := And.intro (cell_below hb hHeld.1) (cell_below hb hHeld.2)
  refine hK _ _ (fun _ => hHeld2) ?_
  obtain ⟨B6, R6⟩ := M6.read
  replace R6 := hide R6
  clear hK K M6 hHeld
  replace TA := hide (TA.out.below hb)
  replace MX := hide (MX.out.below hb)
  replace X := hide (X.out.below hb)
  replace BW := hide (BW.out.trans (hb.mono BW.out.size))
  clear hb
  obtain ⟨BX, RBX⟩ := MX.out.read
  replace RBX := hide RBX
  try simp only [Act.put, List.setIfInBounds_toArray, List.set]
  refine PhaseIn.one (i := 3) (by kernel_rfl) rfl (by kernel_rfl) (fun K hK => ?_)
  unfold Oper.wpIn
  refine ⟨fun _ _ => trivial, ?_⟩
  go_simp
  refine ⟨rfl, (callsIn_wide.2 (eqTabTab ts BX B6 _ _ _ RBX.out R6.out)).mono ?_⟩
  rintro e u7 ⟨rfl, hb⟩
  have hHeld := And.intro (cell_below hb hHeld2.1) (cell_below hb hHeld2.2)
  refine hK _ _ (fun _ => hHeld) ?_
  clear hK K R6 RBX hHeld2
  replace TA := hide (TA.out.below hb)
  replace MX := hide (MX.out.below hb)
  replace X := hide (X.out.below hb)
  replace BW := hide (BW.out.trans (hb.mono BW.out.size))
  clear hb
  try simp only [Act.put, List.setIfInBounds_toArray, List.set]
  refine PhaseIn.takeD (i := 4) (v := ?_) [4] 26 rfl (by rfl) (by kernel_rfl) (by kernel_rfl) (by kernel_rfl) (by kernel_rfl) (by kernel_rfl) (fun _ _ _ h => h) (Or.inl ⟨by kernel_rfl, ?_⟩) hHeld ?_
  rotate_left
  · intro w' hSw
    (try dsimp only at hSw)
    go_simp
    first | done | with_reducible rfl
  try simp only [Act.put, List.setIfInBounds_toArray, List.set]
  refine PhaseIn.done (by kernel_rfl) ?_ _
  clear hHeld
  go_wp2
  go_ret
  exact ⟨rfl, BW.out⟩

set_option maxRecDepth 100000 in
theorem lifted (os : Os) (started : os.Started) (H : Type) (enc : TypeId × Value → H) :
    ReturnsInHanded {} Try.checked os 3 .any (Rows.fnExactTabOkSpec.pre6 enc Try.prog Try.f3 Rows.fnExactTabOkRow.domain false) (Rows.fnExactTabOkSpec.post enc Try.prog Try.f3 false true false false) := by
  refine returnsInHanded_of_change (C := Try.checked) own started (by kernel_rfl) Try.func3
    (ChangeSpec.witness6 (enc := enc) (C := Try.checked) false ⟨#[], #[.agg #[.slice none 0 0]], []⟩ 8 (by kernel_rfl) (by kernel_rfl) (by kernel_rfl) (by kernel_rfl)) ?_
  intro W base args ds gs before hval0 hW hcnd hsz0
  have hval : ∀ (j : Nat) t v, Try.f3.params[j]? = some t → args[j]? = some v → Value.okWide Try.prog W .any base t v := hval0
  have hW' := hW
  obtain ⟨p, q, hA0, hV, rfl, hfz, hnd⟩ := hW
  have hA : DataW.TrodAll enc Try.prog W 0 (fun _ => true) true Try.f3.params.toList args.toList ds p := hA0
  rw [Try.params3] at hA hval
  obtain ⟨v0, vs0, d0, ds0, p0, q0, hargs, rfl, rfl, h0, r0⟩ := trodAll_cons hA
  obtain ⟨rfl, rfl, rfl⟩ := trodAll_nil r0
  obtain rfl : args = #[v0] := by cases args; simp_all
  obtain ⟨rfl, rfl⟩ := trodVars_none hV
  have k0 := h0
  have lt0 : ∀ x ∈ p0, x.block < W.heap.size := by obtain ⟨m, hm⟩ := k0; exact DataW.trod_lt m _ _ _ hm
  obtain ⟨a0, rfl, _⟩ := okWide_struct Try.underlying24 (hval 0 24 v0 rfl rfl)
  have w0 : Shape.Holds Try.prog W 9 24 a0.toList := Shape.opened 9 h0
  clear hA0 hval0
  refine (walk a0 W w0).mono fun e W' ⟨he, hnx⟩ => ?_
  subst he
  exact ⟨_, rfl, _, _, _, [], _, [], hW', trodAll_cons_mk (shut_bool Try.underlying4 _) trodAll_mk0, (trodAll_cons_mk (Below.trod laidOut (by kernel_rfl) (of_decide_eq_true (by kernel_rfl)) k0 hnx lt0) trodAll_mk0), rfl, hnx.frame _, fun h => by cases h⟩

theorem over : Rows.fnExactTabOkRow.holds Try.pinned (OpenSpec.ofChange Rows.fnExactTabOkSpec) :=
  OpenClaim.holds_of_wide 3 Try.f3 rfl rfl rfl rfl rfl rfl rfl ⟨rfl, rfl, rfl, rfl, rfl⟩ rfl rfl rfl rfl rfl (by kernel_rfl) Try.func3 (by kernel_rfl)
    (of_decide_eq_true (by kernel_rfl)) (by unfold Func.isWrapper; first | (rw [if_pos (by decide +kernel)]; kernel_rfl) | (rw [if_neg (by decide +kernel)]; exact ⟨rfl, rfl⟩))
    (fun os started H enc _ => lifted os started H enc)

theorem proved : Rows.FnExactTabOkSaid := over
#print axioms proved
end Go.Proofs.Ytfhcmikkpbdaeaa.fnExactTabOk
