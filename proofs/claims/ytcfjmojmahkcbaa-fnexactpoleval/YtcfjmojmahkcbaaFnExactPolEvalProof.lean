/-
  At every sum and every list of ints the program's PolEval answers as the specification's PolEval does, and writes into neither argument (the law FnExactPolEval returns true); no condition.
  The frame (lifted, over, proved) is written by my own program after the guide's worked texts; the walk and the lemmas ahead of it are mine.
-/
import Derived.Test.YtcfjmojmahkcbaaRows
import Derived.Test.YtcfjmojmahkcbaaShape
import Derived.Test.YtcfjmojmahkcbaaPolK
import Derived.Test.YtcfjmojmahkcbaaPolV
import Derived.WalkKit
import Derived.ProofKit
import Derived.OpenShut
import Derived.ShutString
import Derived.ChangeOld
import Derived.Below
import Derived.SizedLaws
namespace Go.Proofs.Ytcfjmojmahkcbaa.fnExactPolEval
open Go.ChangeShapes Go.WideShapes Go.ChangeAt Go.RowKit
open Go.ChangeMaps (open_string shut_string)
set_option linter.unusedVariables false

theorem own : ownKnob Try.prog.godebug = none := by kernel_rfl
theorem laidOut : laidOutB Try.prog = true := by kernel_rfl

open IntS Pol
set_option linter.unusedSimpArgs false
theorem same_ne (b : Int) : (b != b) = false := by simp
theorem len_of {w : World} {B : Nat} {a : Option Addr} {n cap : Nat} {xs : List Int} (h : Row w B (.slice a n cap) xs) : n = xs.length := by
  obtain ⟨x, j, o, e, _⟩ := h
  cases e
  rfl

set_option maxRecDepth 8000 in
set_option maxHeartbeats 8000000 in
theorem walk (a0 : Array Value) (a1 : Option Addr) (len1 cap1 : Nat) (w : World) (w0 : Shape.Holds Try.prog w 9 24 a0.toList) (w1 : Shape.Holds Try.prog w 9 25 [.slice a1 len1 cap1])  :
    Calls Try.prog 3 #[.agg a0, .slice a1 len1 cap1] w fun e w' => e = .returned (.bool true) ∧ Below w.heap.size w w' := by
  obtain ⟨v1, is, BI, hv1, AI⟩ := row_holds (n := 7) w1
  simp only [List.cons.injEq, and_true] at hv1
  subst hv1
  obtain rfl := len_of AI
  replace AI := hide AI
  clear w1
  obtain ⟨v, ps, B, rfl, hP⟩ := Pol.of_holds w0
  have RM := hide hP
  obtain ⟨qa, ca, _, rfl, _⟩ := hP
  clear w0
  by_cases li : is.length ≤ 1048576
  case neg =>
    have ti : (1048576 : Int) < is.length := by omega
    have BW := hide ((Below.refl w.heap.size w).alloc (Nat.le_refl _) (.cells #[.slice qa ps.length ca] 24))
    clear li
    go_enter Try.func3, Try.ntmps3
    go_wp2
    go_ret
    exact ⟨rfl, BW.out⟩
  have ti : ¬ (1048576 : Int) < is.length := by omega
  have LI := hide li
  clear li
  have TA := hide (Rec.new w [.slice qa ps.length ca] 24)
  have BW := hide ((Below.refl w.heap.size w).alloc (Nat.le_refl _) (.cells #[.slice qa ps.length ca] 24))
  go_enter Try.func3, Try.ntmps3
  go_wp2_with fail
  refine (szTrmPoly ps B _ 1048576 _ (RM.out.below BW.out) (by omega) (by omega)).mono ?_
  rintro e u0 ⟨n, rfl, n0, hs, hb⟩
  replace TA := hide (TA.out.below hb)
  replace BW := hide (BW.out.trans (hb.mono BW.out.size))
  clear hb
  by_cases hn : n < 0
  · clear TA
    go_wp2
    go_ret
    exact ⟨rfl, BW.out⟩
  have HS : Hid (SmallP ps) := show SmallP ps by have := hs (by omega); unfold SmallP; omega
  clear hs
  have ta0 := TA.out.cell 0 _ rfl
  go_wp2_with fail
  refine (toTrmPoly ps B _ _ (RM.out.below BW.out) HS.out).mono ?_
  rintro e u1 ⟨g1, rfl, M1, hb⟩
  obtain ⟨B1, R1⟩ := M1.read
  replace R1 := hide R1
  clear ta0 M1
  replace TA := hide (TA.out.below hb)
  replace BW := hide (BW.out.trans (hb.mono BW.out.size))
  clear hb
  go_wp2_with fail
  refine (toIntS is _ _ _ (AI.out.below BW.out) LI.out).mono ?_
  rintro e u1b ⟨gi, rfl, RI, gie, gil, hb⟩
  replace RI := hide RI
  replace R1 := hide (R1.out.below hb)
  replace TA := hide (TA.out.below hb)
  replace BW := hide (BW.out.trans (hb.mono BW.out.size))
  clear gie gil hb
  go_wp2_with fail
  refine (specEval ps is B1 gi _ _ _ R1.out RI.out.row).mono ?_
  rintro e u2 ⟨rfl, hb⟩
  obtain ⟨nn, eb⟩ : ∃ b, evalP ps is = b := ⟨_, rfl⟩
  rw [eb]
  have EB := hide eb
  clear eb RI
  replace TA := hide (TA.out.below hb)
  replace BW := hide (BW.out.trans (hb.mono BW.out.size))
  clear hb
  clear R1
  have ta0 := TA.out.cell 0 _ rfl
  go_wp2_with fail
  refine (toTrmPoly ps B _ _ (RM.out.below BW.out) HS.out).mono ?_
  rintro e u3 ⟨gx, rfl, MX, hb⟩
  clear ta0
  obtain ⟨BX, RX⟩ := MX.read
  clear MX
  replace TA := hide (TA.out.below hb)
  replace BW := hide (BW.out.trans (hb.mono BW.out.size))
  clear hb
  have bX : Below u3.heap.size u3 (u3.alloc (.cells #[.slice (some ⟨gx, 0, none⟩) ps.length ps.length] 30)) := (Below.refl _ _).alloc (Nat.le_refl _) _
  have X := hide (Rec.new u3 [.slice (some ⟨gx, 0, none⟩) ps.length ps.length] 30)
  replace RX := hide (RX.below bX)
  replace TA := hide (TA.out.below bX)
  replace BW := hide (BW.out.trans (bX.mono BW.out.size))
  clear bX
  have x0 := X.out.cell 0 _ rfl
  clear x0
  go_wp2_with fail
  refine (toIntS is _ _ _ (AI.out.below BW.out) LI.out).mono ?_
  rintro e u3b ⟨gj, rfl, RJ, gje, gjl, hb⟩
  replace RJ := hide RJ
  replace X := hide (X.out.below hb)
  replace RX := hide (RX.out.below hb)
  replace TA := hide (TA.out.below hb)
  replace BW := hide (BW.out.trans (hb.mono BW.out.size))
  clear gje gjl hb
  have x0 := X.out.cell 0 _ rfl
  go_wp2_with fail
  refine (implEval ps is BX gj _ _ _ RX.out RJ.out.row).mono ?_
  rintro e u4 ⟨rfl, hb⟩
  rw [EB.out]
  replace RJ := hide (RJ.out.below hb)
  clear x0
  replace TA := hide (TA.out.below hb)
  replace X := hide (X.out.below hb)
  replace RX := hide (RX.out.below hb)
  replace BW := hide (BW.out.trans (hb.mono BW.out.size))
  clear hb
  have na := same_ne nn
  have x0 := X.out.cell 0 _ rfl
  have ta0 := TA.out.cell 0 _ rfl
  go_wp2_with fail
  have DU : Below u4.heap.size u4 u4.drew := (Below.refl _ _).drew
  replace TA := hide (TA.out.below DU)
  replace X := hide (X.out.below DU)
  replace RX := hide (RX.out.below DU)
  replace RJ := hide (RJ.out.below DU)
  replace BW := hide (BW.out.drew)
  clear DU
  have SS : u4.drew.cell? ⟨u3.heap.size, 0, none⟩ = some (.slice (some ⟨gx, 0, none⟩) ps.length ps.length) ∧ u4.drew.cell? ⟨w.heap.size, 0, none⟩ = some (.slice qa ps.length ca) := ⟨x0, ta0⟩
  refine wp_region_held_drew (S := fun v => (v.cell? ⟨u3.heap.size, 0, none⟩ = some (.slice (some ⟨gx, 0, none⟩) ps.length ps.length) ∧ v.cell? ⟨w.heap.size, 0, none⟩ = some (.slice qa ps.length ca))) (by kernel_rfl) SS (fun hHeld => ?_)
  refine wpAnyH_take (i := 0) (v := ?_) rfl (by kernel_rfl) (by kernel_rfl) (by kernel_rfl) (fun _ _ _ h => h) (Or.inl ⟨by kernel_rfl, ?_⟩) hHeld ?_
  rotate_left
  · intro w' hSw
    (try dsimp only at hSw)
    go_simp
    first | done | with_reducible rfl
  try simp only [Act.put, List.getElem_toArray, List.getElem_cons_succ, List.getElem_cons_zero, List.setIfInBounds_toArray, List.set]
  refine wpAnyH_take (i := 1) (v := ?_) rfl (by kernel_rfl) (by kernel_rfl) (by kernel_rfl) (fun _ _ _ h => h) (Or.inl ⟨by kernel_rfl, ?_⟩) hHeld ?_
  rotate_left
  · intro w' hSw
    (try dsimp only at hSw)
    go_simp
    first | done | with_reducible rfl
  try simp only [Act.put, List.getElem_toArray, List.getElem_cons_succ, List.getElem_cons_zero, List.setIfInBounds_toArray, List.set]
  clear SS x0 ta0
  refine wpAnyH_ready (rs := [2]) (by kernel_rfl) (by simp) ?_
  refine AllReadyH.cons rfl (fun K hK => ?_) AllReadyH.nil
  go_simp
  refine (toTrmPoly ps B _ _ (RM.out.below BW.out) HS.out).mono ?_
  rintro e u6 ⟨g6, rfl, M6, hb⟩
  obtain ⟨B6, R6⟩ := M6.read
  replace R6 := hide R6
  clear M6
  replace TA := hide (TA.out.below hb)
  replace X := hide (X.out.below hb)
  replace RX := hide (RX.out.below hb)
  replace RJ := hide (RJ.out.below hb)
  replace BW := hide (BW.out.trans (hb.mono BW.out.size))
  clear hb
  have SU : u6.cell? ⟨u3.heap.size, 0, none⟩ = some (.slice (some ⟨gx, 0, none⟩) ps.length ps.length) ∧ u6.cell? ⟨w.heap.size, 0, none⟩ = some (.slice qa ps.length ca) := ⟨X.out.cell 0 _ rfl, TA.out.cell 0 _ rfl⟩
  refine hK.out _ _ SU (fun hHeld => ?_)
  clear hK K SU
  try simp only [Act.put, List.getElem_toArray, List.getElem_cons_succ, List.getElem_cons_zero, List.setIfInBounds_toArray, List.set]
  refine wpAnyH_ready (rs := [3]) (by kernel_rfl) (by simp) ?_
  refine AllReadyH.cons rfl (fun K hK => ?_) AllReadyH.nil
  go_simp
  refine (eqTrmPoly ps BX B6 _ _ _ RX.out R6.out).mono ?_
  rintro e u7 ⟨rfl, hb⟩
  clear R6
  replace TA := hide (TA.out.below hb)
  replace X := hide (X.out.below hb)
  replace RX := hide (RX.out.below hb)
  replace RJ := hide (RJ.out.below hb)
  replace BW := hide (BW.out.trans (hb.mono BW.out.size))
  clear hb
  have SU : u7.cell? ⟨u3.heap.size, 0, none⟩ = some (.slice (some ⟨gx, 0, none⟩) ps.length ps.length) ∧ u7.cell? ⟨w.heap.size, 0, none⟩ = some (.slice qa ps.length ca) := ⟨X.out.cell 0 _ rfl, TA.out.cell 0 _ rfl⟩
  refine hK.out _ _ SU (fun hHeld => ?_)
  clear hK K SU
  try simp only [Act.put, List.getElem_toArray, List.getElem_cons_succ, List.getElem_cons_zero, List.setIfInBounds_toArray, List.set]
  refine wpAnyH_take (i := 4) (v := ?_) rfl (by kernel_rfl) (by kernel_rfl) (by kernel_rfl) (fun _ _ _ h => h) (Or.inl ⟨by kernel_rfl, ?_⟩) hHeld ?_
  rotate_left
  · intro w' hSw
    (try dsimp only at hSw)
    go_simp
    first | done | with_reducible rfl
  try simp only [Act.put, List.getElem_toArray, List.getElem_cons_succ, List.getElem_cons_zero, List.setIfInBounds_toArray, List.set]
  refine wpAnyH_done (by kernel_rfl) ?_ _
  clear hHeld TA X RX
  go_wp2_with fail
  refine (toIntS is _ _ _ (AI.out.below BW.out) LI.out).mono ?_
  rintro e u8 ⟨gk, rfl, RK, gke, gkl, hb⟩
  replace RK := hide RK
  replace RJ := hide (RJ.out.below hb)
  replace BW := hide (BW.out.trans (hb.mono BW.out.size))
  clear gke gkl hb
  go_wp2_with fail
  refine (eqIntS is is _ _ _ _ _ RJ.out.row RK.out.row).mono ?_
  rintro e u9 ⟨rfl, hb⟩
  rw [decide_eq_true (rfl : is = is)]
  replace BW := hide (BW.out.trans (hb.mono BW.out.size))
  clear hb RJ RK
  go_wp2
  go_ret
  exact ⟨rfl, BW.out⟩

set_option maxRecDepth 100000 in
theorem lifted (os : Os) (started : os.Started) (H : Type) (enc : TypeId × Value → H) :
    ReturnsInHanded {} Try.checked os 3 .any (Rows.fnExactPolEvalSpec.pre6 enc Try.prog Try.f3 Rows.fnExactPolEvalRow.domain false) (Rows.fnExactPolEvalSpec.post enc Try.prog Try.f3 false true false false) := by
  refine returnsInHanded_of_change (C := Try.checked) own started (by kernel_rfl) Try.func3
    (ChangeSpec.witness6 (enc := enc) (C := Try.checked) false ⟨#[], #[.agg #[.slice none 0 0], .slice none 0 0], []⟩ 8 (by kernel_rfl) (by kernel_rfl) (by kernel_rfl) (by kernel_rfl)) ?_
  intro W base args ds gs before hval0 hW hcnd hsz0
  have hval : ∀ (j : Nat) t v, Try.f3.params[j]? = some t → args[j]? = some v → Value.okWide Try.prog W .any base t v := hval0
  have hW' := hW
  obtain ⟨p, q, hA0, hV, rfl, hfz, hnd⟩ := hW
  have hA : DataW.TrodAll enc Try.prog W 0 (fun _ => true) true Try.f3.params.toList args.toList ds p := hA0
  rw [Try.params3] at hA hval
  obtain ⟨v0, vs0, d0, ds0, p0, q0, hargs, rfl, rfl, h0, r0⟩ := trodAll_cons hA
  obtain ⟨v1, vs1, d1, ds1, p1, q1, rfl, rfl, rfl, h1, r1⟩ := trodAll_cons r0
  obtain ⟨rfl, rfl, rfl⟩ := trodAll_nil r1
  obtain rfl : args = #[v0, v1] := by cases args; simp_all
  obtain ⟨rfl, rfl⟩ := trodVars_none hV
  have k0 := h0
  have lt0 : ∀ x ∈ p0, x.block < W.heap.size := by obtain ⟨m, hm⟩ := k0; exact DataW.trod_lt m _ _ _ hm
  obtain ⟨a0, rfl, _⟩ := okWide_struct Try.underlying24 (hval 0 24 v0 rfl rfl)
  have w0 : Shape.Holds Try.prog W 9 24 a0.toList := Shape.opened 9 h0
  have k1 := h1
  have lt1 : ∀ x ∈ p1, x.block < W.heap.size := by obtain ⟨m, hm⟩ := k1; exact DataW.trod_lt m _ _ _ hm
  obtain ⟨a1, len1, cap1, rfl⟩ := okWide_slice Try.underlying25 (hval 1 25 v1 rfl rfl)
  have w1 : Shape.Holds Try.prog W 9 25 [.slice a1 len1 cap1] := Shape.opened 9 h1
  clear hA0 hval0
  refine (walk a0 a1 len1 cap1 W w0 w1).mono fun e W' ⟨he, hnx⟩ => ?_
  subst he
  exact ⟨_, rfl, _, _, _, [], _, [], hW', trodAll_cons_mk (shut_bool Try.underlying4 _) trodAll_mk0, (trodAll_cons_mk (Below.trod laidOut (by kernel_rfl) (of_decide_eq_true (by kernel_rfl)) k0 hnx lt0) (trodAll_cons_mk (Below.trod laidOut (by kernel_rfl) (of_decide_eq_true (by kernel_rfl)) k1 hnx lt1) trodAll_mk0)), rfl, hnx.frame _, fun h => by cases h⟩

theorem over : Rows.fnExactPolEvalRow.holds Try.pinned (OpenSpec.ofChange Rows.fnExactPolEvalSpec) :=
  OpenClaim.holds_of_wide 3 Try.f3 rfl rfl rfl rfl rfl rfl rfl ⟨rfl, rfl, rfl, rfl, rfl⟩ rfl rfl rfl rfl rfl (by kernel_rfl) Try.func3 (by kernel_rfl)
    (of_decide_eq_true (by kernel_rfl)) (by unfold Func.isWrapper; first | (rw [if_pos (by decide +kernel)]; kernel_rfl) | (rw [if_neg (by decide +kernel)]; exact ⟨rfl, rfl⟩))
    (fun os started H enc _ => lifted os started H enc)

theorem proved : Rows.FnExactPolEvalSaid := over
#print axioms proved
end Go.Proofs.Ytcfjmojmahkcbaa.fnExactPolEval
