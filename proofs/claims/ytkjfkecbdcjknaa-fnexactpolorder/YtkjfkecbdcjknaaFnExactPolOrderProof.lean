/-
  At every two sums the program's PolOrder answers as the specification's PolOrder does, and writes into no argument (the law FnExactPolOrder returns true); no condition.
  The frame (lifted, over, proved) is written by my own program after the guide's worked texts; the walk and the lemmas ahead of it are mine.
-/
import Derived.Test.YtkjfkecbdcjknaaRows
import Derived.Test.YtkjfkecbdcjknaaShape
import Derived.Test.YtkjfkecbdcjknaaPolK
import Derived.Test.YtkjfkecbdcjknaaPolO
import Derived.WalkKit
import Derived.ProofKit
import Derived.OpenShut
import Derived.ShutString
import Derived.ChangeOld
import Derived.Below
import Derived.SizedLaws
namespace Go.Proofs.Ytkjfkecbdcjknaa.fnExactPolOrder
open Go.ChangeShapes Go.WideShapes Go.ChangeAt Go.RowKit
open Go.ChangeMaps (open_string shut_string)
set_option linter.unusedVariables false

theorem own : ownKnob Try.prog.godebug = none := by kernel_rfl
theorem laidOut : laidOutB Try.prog = true := by kernel_rfl

open IntS Pol
set_option linter.unusedSimpArgs false
theorem same_ne (b : Int) : (b != b) = false := by simp

set_option maxRecDepth 8000 in
set_option maxHeartbeats 8000000 in
theorem walk (a0 : Array Value) (a1 : Array Value) (w : World) (w0 : Shape.Holds Try.prog w 9 24 a0.toList) (w1 : Shape.Holds Try.prog w 9 24 a1.toList)  :
    Calls Try.prog 7 #[.agg a0, .agg a1] w fun e w' => e = .returned (.bool true) ∧ Below w.heap.size w w' := by
  obtain ⟨v, ps, B, rfl, hP⟩ := Pol.of_holds w0
  obtain ⟨v', rs, B', rfl, hP'⟩ := Pol.of_holds w1
  have RM := hide hP
  have RN := hide hP'
  obtain ⟨qa, ca, _, rfl, _⟩ := hP
  obtain ⟨qb, cb, _, rfl, _⟩ := hP'
  clear w0 w1
  have TA := hide ((Rec.new w [.slice qa ps.length ca] 24).alloc (.cells #[.slice qb rs.length cb] 24))
  have tb := Rec.new (w.alloc (.cells #[.slice qa ps.length ca] 24)) [.slice qb rs.length cb] 24
  rw [show (w.alloc (.cells #[.slice qa ps.length ca] 24)).heap.size = w.heap.size + 1 by simp] at tb
  have TB := hide tb
  clear tb
  have BW := hide (((Below.refl w.heap.size w).alloc (Nat.le_refl _) (.cells #[.slice qa ps.length ca] 24)).alloc (by simp) (.cells #[.slice qb rs.length cb] 24))
  go_enter Try.func7, Try.ntmps7
  go_wp2_with fail
  refine (szTrmPoly ps B _ 1048576 _ (RM.out.below BW.out) (by omega) (by omega)).mono ?_
  rintro e u0 ⟨n, rfl, n0, hs, hb⟩
  replace TA := hide (TA.out.below hb)
  replace TB := hide (TB.out.below hb)
  replace BW := hide (BW.out.trans (hb.mono BW.out.size))
  clear hb
  by_cases hn : n < 0
  · clear TA TB
    go_wp2
    go_ret
    exact ⟨rfl, BW.out⟩
  have hs1 := hs (by omega)
  have HS : Hid (SmallP ps) := show SmallP ps by unfold SmallP; omega
  have NL : Hid (0 ≤ n ∧ n ≤ 1048576) := show _ ∧ _ by omega
  clear hs hs1
  have tb0 := TB.out.cell 0 _ rfl
  go_wp2_with fail
  refine (szTrmPoly rs B' _ n _ (RN.out.below BW.out) NL.out.1 NL.out.2).mono ?_
  rintro e u0b ⟨n', rfl, n0', hs', hb⟩
  clear tb0
  replace TA := hide (TA.out.below hb)
  replace TB := hide (TB.out.below hb)
  replace BW := hide (BW.out.trans (hb.mono BW.out.size))
  clear hb
  by_cases hn' : n' < 0
  · clear TA TB
    go_wp2
    go_ret
    exact ⟨rfl, BW.out⟩
  have HR : Hid (SmallP rs) := show SmallP rs by have := hs' (by omega); have := NL.out; unfold SmallP; omega
  clear hs' NL
  have ta0 := TA.out.cell 0 _ rfl
  have tb0 := TB.out.cell 0 _ rfl
  go_wp2_with fail
  have DU : Below u0b.heap.size u0b u0b.drew := (Below.refl _ _).drew
  replace TA := hide (TA.out.below DU)
  replace TB := hide (TB.out.below DU)
  replace BW := hide (BW.out.drew)
  clear DU
  have SS : u0b.drew.cell? ⟨w.heap.size, 0, none⟩ = some (.slice qa ps.length ca) ∧ u0b.drew.cell? ⟨w.heap.size + 1, 0, none⟩ = some (.slice qb rs.length cb) := ⟨ta0, tb0⟩
  refine wp_region_held_drew (S := fun v => (v.cell? ⟨w.heap.size, 0, none⟩ = some (.slice qa ps.length ca) ∧ v.cell? ⟨w.heap.size + 1, 0, none⟩ = some (.slice qb rs.length cb))) (by kernel_rfl) SS (fun hHeld => ?_)
  refine wpAnyH_take (i := 0) (v := ?_) rfl (by kernel_rfl) (by kernel_rfl) (by kernel_rfl) (fun _ _ _ h => h) (Or.inl ⟨by kernel_rfl, ?_⟩) hHeld ?_
  rotate_left
  · intro w' hSw
    (try dsimp only at hSw)
    go_simp
    first | done | with_reducible rfl
  try simp only [Act.put, List.getElem_toArray, List.getElem_cons_succ, List.getElem_cons_zero, List.setIfInBounds_toArray, List.set]
  refine wpAnyH_take (i := 2) (v := ?_) rfl (by kernel_rfl) (by kernel_rfl) (by kernel_rfl) (fun _ _ _ h => h) (Or.inl ⟨by kernel_rfl, ?_⟩) hHeld ?_
  rotate_left
  · intro w' hSw
    (try dsimp only at hSw)
    go_simp
    first | done | with_reducible rfl
  try simp only [Act.put, List.getElem_toArray, List.getElem_cons_succ, List.getElem_cons_zero, List.setIfInBounds_toArray, List.set]
  clear SS ta0 tb0 hHeld
  refine wpAnyH_ready (rs := [1]) (by kernel_rfl) (by simp) ?_
  refine AllReadyH.cons rfl (fun K hK => ?_) AllReadyH.nil
  go_simp
  refine (toTrmPoly ps B _ _ (RM.out.below BW.out) HS.out).mono ?_
  rintro e u1 ⟨g1, rfl, M1, hb⟩
  obtain ⟨B1, R1⟩ := M1.read
  replace R1 := hide R1
  clear M1
  replace TA := hide (TA.out.below hb)
  replace TB := hide (TB.out.below hb)
  replace BW := hide (BW.out.trans (hb.mono BW.out.size))
  clear hb
  have SU : u1.cell? ⟨w.heap.size, 0, none⟩ = some (.slice qa ps.length ca) ∧ u1.cell? ⟨w.heap.size + 1, 0, none⟩ = some (.slice qb rs.length cb) := ⟨TA.out.cell 0 _ rfl, TB.out.cell 0 _ rfl⟩
  refine hK.out _ _ SU (fun hHeld => ?_)
  clear hK K SU
  try simp only [Act.put, List.getElem_toArray, List.getElem_cons_succ, List.getElem_cons_zero, List.setIfInBounds_toArray, List.set]
  refine wpAnyH_ready (rs := [3]) (by kernel_rfl) (by simp) ?_
  refine AllReadyH.cons rfl (fun K hK => ?_) AllReadyH.nil
  go_simp
  refine (toTrmPoly rs B' _ _ (RN.out.below BW.out) HR.out).mono ?_
  rintro e u2 ⟨g2, rfl, M2, hb⟩
  obtain ⟨B2, R2⟩ := M2.read
  replace R2 := hide R2
  replace R1 := hide (R1.out.below hb)
  clear M2
  replace TA := hide (TA.out.below hb)
  replace TB := hide (TB.out.below hb)
  replace BW := hide (BW.out.trans (hb.mono BW.out.size))
  clear hb
  have SU : u2.cell? ⟨w.heap.size, 0, none⟩ = some (.slice qa ps.length ca) ∧ u2.cell? ⟨w.heap.size + 1, 0, none⟩ = some (.slice qb rs.length cb) := ⟨TA.out.cell 0 _ rfl, TB.out.cell 0 _ rfl⟩
  refine hK.out _ _ SU (fun hHeld => ?_)
  clear hK K SU
  try simp only [Act.put, List.getElem_toArray, List.getElem_cons_succ, List.getElem_cons_zero, List.setIfInBounds_toArray, List.set]
  refine wpAnyH_ready (rs := [4]) (by kernel_rfl) (by simp) ?_
  refine AllReadyH.cons rfl (fun K hK => ?_) AllReadyH.nil
  go_simp
  refine (specOrder ps rs B1 B2 _ _ _ R1.out R2.out).mono ?_
  rintro e u3 ⟨rfl, hb⟩
  obtain ⟨nn, eb⟩ : ∃ b, ordP ps rs = b := ⟨_, rfl⟩
  rw [eb]
  have EB := hide eb
  clear eb R1 R2
  replace TA := hide (TA.out.below hb)
  replace TB := hide (TB.out.below hb)
  replace BW := hide (BW.out.trans (hb.mono BW.out.size))
  clear hb
  have SU : u3.cell? ⟨w.heap.size, 0, none⟩ = some (.slice qa ps.length ca) ∧ u3.cell? ⟨w.heap.size + 1, 0, none⟩ = some (.slice qb rs.length cb) := ⟨TA.out.cell 0 _ rfl, TB.out.cell 0 _ rfl⟩
  refine hK.out _ _ SU (fun hHeld => ?_)
  clear hK K SU
  try simp only [Act.put, List.getElem_toArray, List.getElem_cons_succ, List.getElem_cons_zero, List.setIfInBounds_toArray, List.set]
  refine wpAnyH_take (i := 5) (v := ?_) rfl (by kernel_rfl) (by kernel_rfl) (by kernel_rfl) (fun _ _ _ h => h) (Or.inl ⟨by kernel_rfl, ?_⟩) hHeld ?_
  rotate_left
  · intro w' hSw
    (try dsimp only at hSw)
    go_simp
    first | done | with_reducible rfl
  try simp only [Act.put, List.getElem_toArray, List.getElem_cons_succ, List.getElem_cons_zero, List.setIfInBounds_toArray, List.set]
  refine wpAnyH_done (by kernel_rfl) ?_ _
  clear hHeld
  have ta0 := TA.out.cell 0 _ rfl
  go_wp2_with fail
  refine (toTrmPoly ps B _ _ (RM.out.below BW.out) HS.out).mono ?_
  rintro e u4 ⟨gx, rfl, MX, hb⟩
  clear ta0
  obtain ⟨BX, RX⟩ := MX.read
  clear MX
  replace TA := hide (TA.out.below hb)
  replace TB := hide (TB.out.below hb)
  replace BW := hide (BW.out.trans (hb.mono BW.out.size))
  clear hb
  have bX : Below u4.heap.size u4 (u4.alloc (.cells #[.slice (some ⟨gx, 0, none⟩) ps.length ps.length] 29)) := (Below.refl _ _).alloc (Nat.le_refl _) _
  have X := hide (Rec.new u4 [.slice (some ⟨gx, 0, none⟩) ps.length ps.length] 29)
  replace RX := hide (RX.below bX)
  replace TA := hide (TA.out.below bX)
  replace TB := hide (TB.out.below bX)
  replace BW := hide (BW.out.trans (bX.mono BW.out.size))
  clear bX
  have tb0 := TB.out.cell 0 _ rfl
  go_wp2_with fail
  refine (toTrmPoly rs B' _ _ (RN.out.below BW.out) HR.out).mono ?_
  rintro e u5 ⟨gy, rfl, MY, hb⟩
  clear tb0
  obtain ⟨BY, RY⟩ := MY.read
  clear MY
  replace TA := hide (TA.out.below hb)
  replace TB := hide (TB.out.below hb)
  replace X := hide (X.out.below hb)
  replace RX := hide (RX.out.below hb)
  replace BW := hide (BW.out.trans (hb.mono BW.out.size))
  clear hb
  have bX : Below u5.heap.size u5 (u5.alloc (.cells #[.slice (some ⟨gy, 0, none⟩) rs.length rs.length] 29)) := (Below.refl _ _).alloc (Nat.le_refl _) _
  have Y := hide (Rec.new u5 [.slice (some ⟨gy, 0, none⟩) rs.length rs.length] 29)
  replace RY := hide (RY.below bX)
  replace TA := hide (TA.out.below bX)
  replace TB := hide (TB.out.below bX)
  replace X := hide (X.out.below bX)
  replace RX := hide (RX.out.below bX)
  replace BW := hide (BW.out.trans (bX.mono BW.out.size))
  clear bX
  have x0 := X.out.cell 0 _ rfl
  have y0 := Y.out.cell 0 _ rfl
  go_wp2_with fail
  refine (implOrder ps rs BX BY _ _ _ RX.out RY.out).mono ?_
  rintro e u6 ⟨rfl, hb⟩
  rw [EB.out]
  clear x0 y0
  replace TA := hide (TA.out.below hb)
  replace TB := hide (TB.out.below hb)
  replace X := hide (X.out.below hb)
  replace RX := hide (RX.out.below hb)
  replace Y := hide (Y.out.below hb)
  replace RY := hide (RY.out.below hb)
  replace BW := hide (BW.out.trans (hb.mono BW.out.size))
  clear hb
  have nb := same_ne nn
  have x0 := X.out.cell 0 _ rfl
  have ta0 := TA.out.cell 0 _ rfl
  go_wp2_with fail
  have DU : Below u6.heap.size u6 u6.drew := (Below.refl _ _).drew
  replace TA := hide (TA.out.below DU)
  replace TB := hide (TB.out.below DU)
  replace X := hide (X.out.below DU)
  replace RX := hide (RX.out.below DU)
  replace Y := hide (Y.out.below DU)
  replace RY := hide (RY.out.below DU)
  replace BW := hide (BW.out.drew)
  clear DU
  have SS : u6.drew.cell? ⟨u4.heap.size, 0, none⟩ = some (.slice (some ⟨gx, 0, none⟩) ps.length ps.length) ∧ u6.drew.cell? ⟨w.heap.size, 0, none⟩ = some (.slice qa ps.length ca) := ⟨x0, ta0⟩
  refine wp_region_held_drew (S := fun v => (v.cell? ⟨u4.heap.size, 0, none⟩ = some (.slice (some ⟨gx, 0, none⟩) ps.length ps.length) ∧ v.cell? ⟨w.heap.size, 0, none⟩ = some (.slice qa ps.length ca))) (by kernel_rfl) SS (fun hHeld => ?_)
  refine wpAnyH_take (i := 0) (v := ?_) rfl (by kernel_rfl) (by kernel_rfl) (by kernel_rfl) (fun _ _ _ h => h) (Or.inl ⟨by kernel_rfl, ?_⟩) hHeld ?_
  rotate_left
  · intro w' hSw
    (try dsimp only at hSw)
    go_simp
    first | done | with_reducible rfl
  try simp only [Act.put, List.getElem_toArray, List.getElem_cons_succ, List.getElem_cons_zero, List.setIfInBounds_toArray, List.set]
  refine wpAnyH_take (i := 1) (v := ?_) rfl (by kernel_rfl) (by kernel_rfl) (by kernel_rfl) (fun _ _ _ h => h) (Or.inl ⟨by kernel_rfl, ?_⟩) hHeld ?_
  rotate_left
  · intro w' hSw
    (try dsimp only at hSw)
    go_simp
    first | done | with_reducible rfl
  try simp only [Act.put, List.getElem_toArray, List.getElem_cons_succ, List.getElem_cons_zero, List.setIfInBounds_toArray, List.set]
  clear SS x0 ta0 hHeld
  refine wpAnyH_ready (rs := [2]) (by kernel_rfl) (by simp) ?_
  refine AllReadyH.cons rfl (fun K hK => ?_) AllReadyH.nil
  go_simp
  refine (toTrmPoly ps B _ _ (RM.out.below BW.out) HS.out).mono ?_
  rintro e v7 ⟨g7, rfl, M7, hb⟩
  obtain ⟨B7, R7⟩ := M7.read
  replace R7 := hide R7
  clear M7
  replace TA := hide (TA.out.below hb)
  replace TB := hide (TB.out.below hb)
  replace X := hide (X.out.below hb)
  replace RX := hide (RX.out.below hb)
  replace Y := hide (Y.out.below hb)
  replace RY := hide (RY.out.below hb)
  replace BW := hide (BW.out.trans (hb.mono BW.out.size))
  clear hb
  have SU : v7.cell? ⟨u4.heap.size, 0, none⟩ = some (.slice (some ⟨gx, 0, none⟩) ps.length ps.length) ∧ v7.cell? ⟨w.heap.size, 0, none⟩ = some (.slice qa ps.length ca) := ⟨X.out.cell 0 _ rfl, TA.out.cell 0 _ rfl⟩
  refine hK.out _ _ SU (fun hHeld => ?_)
  clear hK K SU
  try simp only [Act.put, List.getElem_toArray, List.getElem_cons_succ, List.getElem_cons_zero, List.setIfInBounds_toArray, List.set]
  refine wpAnyH_ready (rs := [3]) (by kernel_rfl) (by simp) ?_
  refine AllReadyH.cons rfl (fun K hK => ?_) AllReadyH.nil
  go_simp
  refine (eqTrmPoly ps BX B7 _ _ _ RX.out R7.out).mono ?_
  rintro e x7 ⟨rfl, hb⟩
  clear R7
  replace TA := hide (TA.out.below hb)
  replace TB := hide (TB.out.below hb)
  replace X := hide (X.out.below hb)
  replace RX := hide (RX.out.below hb)
  replace Y := hide (Y.out.below hb)
  replace RY := hide (RY.out.below hb)
  replace BW := hide (BW.out.trans (hb.mono BW.out.size))
  clear hb
  have SU : x7.cell? ⟨u4.heap.size, 0, none⟩ = some (.slice (some ⟨gx, 0, none⟩) ps.length ps.length) ∧ x7.cell? ⟨w.heap.size, 0, none⟩ = some (.slice qa ps.length ca) := ⟨X.out.cell 0 _ rfl, TA.out.cell 0 _ rfl⟩
  refine hK.out _ _ SU (fun hHeld => ?_)
  clear hK K SU
  try simp only [Act.put, List.getElem_toArray, List.getElem_cons_succ, List.getElem_cons_zero, List.setIfInBounds_toArray, List.set]
  refine wpAnyH_take (i := 4) (v := ?_) rfl (by kernel_rfl) (by kernel_rfl) (by kernel_rfl) (fun _ _ _ h => h) (Or.inl ⟨by kernel_rfl, ?_⟩) hHeld ?_
  rotate_left
  · intro w' hSw
    (try dsimp only at hSw)
    go_simp
    first | done | with_reducible rfl
  try simp only [Act.put, List.getElem_toArray, List.getElem_cons_succ, List.getElem_cons_zero, List.setIfInBounds_toArray, List.set]
  refine wpAnyH_done (by kernel_rfl) ?_ _
  clear hHeld
  have x0 := Y.out.cell 0 _ rfl
  have ta0 := TB.out.cell 0 _ rfl
  go_wp2_with fail
  have DU : Below x7.heap.size x7 x7.drew := (Below.refl _ _).drew
  replace TA := hide (TA.out.below DU)
  replace TB := hide (TB.out.below DU)
  replace X := hide (X.out.below DU)
  replace RX := hide (RX.out.below DU)
  replace Y := hide (Y.out.below DU)
  replace RY := hide (RY.out.below DU)
  replace BW := hide (BW.out.drew)
  clear DU
  have SS : x7.drew.cell? ⟨u5.heap.size, 0, none⟩ = some (.slice (some ⟨gy, 0, none⟩) rs.length rs.length) ∧ x7.drew.cell? ⟨w.heap.size + 1, 0, none⟩ = some (.slice qb rs.length cb) := ⟨x0, ta0⟩
  refine wp_region_held_drew (S := fun v => (v.cell? ⟨u5.heap.size, 0, none⟩ = some (.slice (some ⟨gy, 0, none⟩) rs.length rs.length) ∧ v.cell? ⟨w.heap.size + 1, 0, none⟩ = some (.slice qb rs.length cb))) (by kernel_rfl) SS (fun hHeld => ?_)
  refine wpAnyH_take (i := 0) (v := ?_) rfl (by kernel_rfl) (by kernel_rfl) (by kernel_rfl) (fun _ _ _ h => h) (Or.inl ⟨by kernel_rfl, ?_⟩) hHeld ?_
  rotate_left
  · intro w' hSw
    (try dsimp only at hSw)
    go_simp
    first | done | with_reducible rfl
  try simp only [Act.put, List.getElem_toArray, List.getElem_cons_succ, List.getElem_cons_zero, List.setIfInBounds_toArray, List.set]
  refine wpAnyH_take (i := 1) (v := ?_) rfl (by kernel_rfl) (by kernel_rfl) (by kernel_rfl) (fun _ _ _ h => h) (Or.inl ⟨by kernel_rfl, ?_⟩) hHeld ?_
  rotate_left
  · intro w' hSw
    (try dsimp only at hSw)
    go_simp
    first | done | with_reducible rfl
  try simp only [Act.put, List.getElem_toArray, List.getElem_cons_succ, List.getElem_cons_zero, List.setIfInBounds_toArray, List.set]
  clear SS x0 ta0 hHeld
  refine wpAnyH_ready (rs := [2]) (by kernel_rfl) (by simp) ?_
  refine AllReadyH.cons rfl (fun K hK => ?_) AllReadyH.nil
  go_simp
  refine (toTrmPoly rs B' _ _ (RN.out.below BW.out) HR.out).mono ?_
  rintro e v8 ⟨g8, rfl, M8, hb⟩
  obtain ⟨B8, R8⟩ := M8.read
  replace R8 := hide R8
  clear M8
  replace TA := hide (TA.out.below hb)
  replace TB := hide (TB.out.below hb)
  replace X := hide (X.out.below hb)
  replace RX := hide (RX.out.below hb)
  replace Y := hide (Y.out.below hb)
  replace RY := hide (RY.out.below hb)
  replace BW := hide (BW.out.trans (hb.mono BW.out.size))
  clear hb
  have SU : v8.cell? ⟨u5.heap.size, 0, none⟩ = some (.slice (some ⟨gy, 0, none⟩) rs.length rs.length) ∧ v8.cell? ⟨w.heap.size + 1, 0, none⟩ = some (.slice qb rs.length cb) := ⟨Y.out.cell 0 _ rfl, TB.out.cell 0 _ rfl⟩
  refine hK.out _ _ SU (fun hHeld => ?_)
  clear hK K SU
  try simp only [Act.put, List.getElem_toArray, List.getElem_cons_succ, List.getElem_cons_zero, List.setIfInBounds_toArray, List.set]
  refine wpAnyH_ready (rs := [3]) (by kernel_rfl) (by simp) ?_
  refine AllReadyH.cons rfl (fun K hK => ?_) AllReadyH.nil
  go_simp
  refine (eqTrmPoly rs BY B8 _ _ _ RY.out R8.out).mono ?_
  rintro e x8 ⟨rfl, hb⟩
  clear R8
  replace TA := hide (TA.out.below hb)
  replace TB := hide (TB.out.below hb)
  replace X := hide (X.out.below hb)
  replace RX := hide (RX.out.below hb)
  replace Y := hide (Y.out.below hb)
  replace RY := hide (RY.out.below hb)
  replace BW := hide (BW.out.trans (hb.mono BW.out.size))
  clear hb
  have SU : x8.cell? ⟨u5.heap.size, 0, none⟩ = some (.slice (some ⟨gy, 0, none⟩) rs.length rs.length) ∧ x8.cell? ⟨w.heap.size + 1, 0, none⟩ = some (.slice qb rs.length cb) := ⟨Y.out.cell 0 _ rfl, TB.out.cell 0 _ rfl⟩
  refine hK.out _ _ SU (fun hHeld => ?_)
  clear hK K SU
  try simp only [Act.put, List.getElem_toArray, List.getElem_cons_succ, List.getElem_cons_zero, List.setIfInBounds_toArray, List.set]
  refine wpAnyH_take (i := 4) (v := ?_) rfl (by kernel_rfl) (by kernel_rfl) (by kernel_rfl) (fun _ _ _ h => h) (Or.inl ⟨by kernel_rfl, ?_⟩) hHeld ?_
  rotate_left
  · intro w' hSw
    (try dsimp only at hSw)
    go_simp
    first | done | with_reducible rfl
  try simp only [Act.put, List.getElem_toArray, List.getElem_cons_succ, List.getElem_cons_zero, List.setIfInBounds_toArray, List.set]
  refine wpAnyH_done (by kernel_rfl) ?_ _
  clear hHeld
  clear TA TB X RX Y RY
  go_wp2
  go_ret
  exact ⟨rfl, BW.out⟩

set_option maxRecDepth 100000 in
theorem lifted (os : Os) (started : os.Started) (H : Type) (enc : TypeId × Value → H) :
    ReturnsInHanded {} Try.checked os 7 .any (Rows.fnExactPolOrderSpec.pre6 enc Try.prog Try.f7 Rows.fnExactPolOrderRow.domain false) (Rows.fnExactPolOrderSpec.post enc Try.prog Try.f7 false true false false) := by
  refine returnsInHanded_of_change (C := Try.checked) own started (by kernel_rfl) Try.func7
    (ChangeSpec.witness6 (enc := enc) (C := Try.checked) false ⟨#[], #[.agg #[.slice none 0 0], .agg #[.slice none 0 0]], []⟩ 8 (by kernel_rfl) (by kernel_rfl) (by kernel_rfl) (by kernel_rfl)) ?_
  intro W base args ds gs before hval0 hW hcnd hsz0
  have hval : ∀ (j : Nat) t v, Try.f7.params[j]? = some t → args[j]? = some v → Value.okWide Try.prog W .any base t v := hval0
  have hW' := hW
  obtain ⟨p, q, hA0, hV, rfl, hfz, hnd⟩ := hW
  have hA : DataW.TrodAll enc Try.prog W 0 (fun _ => true) true Try.f7.params.toList args.toList ds p := hA0
  rw [Try.params7] at hA hval
  obtain ⟨v0, vs0, d0, ds0, p0, q0, hargs, rfl, rfl, h0, r0⟩ := trodAll_cons hA
  obtain ⟨v1, vs1, d1, ds1, p1, q1, rfl, rfl, rfl, h1, r1⟩ := trodAll_cons r0
  obtain ⟨rfl, rfl, rfl⟩ := trodAll_nil r1
  obtain rfl : args = #[v0, v1] := by cases args; simp_all
  obtain ⟨rfl, rfl⟩ := trodVars_none hV
  have k0 := h0
  have lt0 : ∀ x ∈ p0, x.block < W.heap.size := by obtain ⟨m, hm⟩ := k0; exact DataW.trod_lt m _ _ _ hm
  obtain ⟨a0, rfl, _⟩ := okWide_struct Try.underlying24 (hval 0 24 v0 rfl rfl)
  have w0 : Shape.Holds Try.prog W 9 24 a0.toList := Shape.opened 9 h0
  have k1 := h1
  have lt1 : ∀ x ∈ p1, x.block < W.heap.size := by obtain ⟨m, hm⟩ := k1; exact DataW.trod_lt m _ _ _ hm
  obtain ⟨a1, rfl, _⟩ := okWide_struct Try.underlying24 (hval 1 24 v1 rfl rfl)
  have w1 : Shape.Holds Try.prog W 9 24 a1.toList := Shape.opened 9 h1
  clear hA0 hval0
  refine (walk a0 a1 W w0 w1).mono fun e W' ⟨he, hnx⟩ => ?_
  subst he
  exact ⟨_, rfl, _, _, _, [], _, [], hW', trodAll_cons_mk (shut_bool Try.underlying4 _) trodAll_mk0, (trodAll_cons_mk (Below.trod laidOut (by kernel_rfl) (of_decide_eq_true (by kernel_rfl)) k0 hnx lt0) (trodAll_cons_mk (Below.trod laidOut (by kernel_rfl) (of_decide_eq_true (by kernel_rfl)) k1 hnx lt1) trodAll_mk0)), rfl, hnx.frame _, fun h => by cases h⟩

theorem over : Rows.fnExactPolOrderRow.holds Try.pinned (OpenSpec.ofChange Rows.fnExactPolOrderSpec) :=
  OpenClaim.holds_of_wide 7 Try.f7 rfl rfl rfl rfl rfl rfl rfl ⟨rfl, rfl, rfl, rfl, rfl⟩ rfl rfl rfl rfl rfl (by kernel_rfl) Try.func7 (by kernel_rfl)
    (of_decide_eq_true (by kernel_rfl)) (by unfold Func.isWrapper; first | (rw [if_pos (by decide +kernel)]; kernel_rfl) | (rw [if_neg (by decide +kernel)]; exact ⟨rfl, rfl⟩))
    (fun os started H enc _ => lifted os started H enc)

theorem proved : Rows.FnExactPolOrderSaid := over
#print axioms proved
end Go.Proofs.Ytkjfkecbdcjknaa.fnExactPolOrder
