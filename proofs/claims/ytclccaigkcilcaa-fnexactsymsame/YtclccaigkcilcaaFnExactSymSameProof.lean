/-
  At every two tellings of what code does the program's SymSame answers as the specification's SymSame does, and writes into no argument (the law FnExactSymSame returns true); no condition.
  The frame (lifted, over, proved) is written by my own program after the guide's worked texts; the walk and the lemmas ahead of it are mine.
-/
import Derived.Test.YtclccaigkcilcaaRows
import Derived.Test.YtclccaigkcilcaaShape
import Derived.Test.YtclccaigkcilcaaDtS
import Derived.Test.YtclccaigkcilcaaSsB
import Derived.WalkKit
import Derived.ProofKit
import Derived.OpenShut
import Derived.ShutString
import Derived.ChangeOld
import Derived.Below
import Derived.SizedLaws
namespace Go.Proofs.Ytclccaigkcilcaa.fnExactSymSame
open Go.ChangeShapes Go.WideShapes Go.ChangeAt Go.RowKit
open Go.ChangeMaps (open_string shut_string)
set_option linter.unusedVariables false

theorem own : ownKnob Try.prog.godebug = none := by kernel_rfl
theorem laidOut : laidOutB Try.prog = true := by kernel_rfl

open IntS Pol Dt
set_option linter.unusedSimpArgs false
theorem same_ne (b : Bool) : (b != b) = false := by simp

set_option maxRecDepth 8000 in
set_option maxHeartbeats 8000000 in
theorem walk (a0 : Array Value) (a1 : Array Value) (w : World) (w0 : Shape.Holds Try.prog w 9 28 a0.toList) (w1 : Shape.Holds Try.prog w 9 28 a1.toList)  :
    Calls Try.prog 3 #[.agg a0, .agg a1] w fun e w' => e = .returned (.bool true) ∧ Below w.heap.size w w' := by
  obtain ⟨l, rfl⟩ : ∃ l : List Value, a0 = l.toArray := ⟨a0.toList, by simp⟩
  obtain ⟨l', rfl⟩ : ∃ l : List Value, a1 = l.toArray := ⟨a1.toList, by simp⟩
  obtain ⟨x0, x1, a2, x3, x4, a5, hP⟩ := symR_hold (n := 0) (cs := l) w0
  obtain ⟨x0', x1', a2', x3', x4', a5', hP'⟩ := symR_hold (n := 0) (cs := l') w1
  have RM : Hid (SymRd w l (x0, x1, a2, x3, x4, a5)) := hP
  have RN : Hid (SymRd w l' (x0', x1', a2', x3', x4', a5')) := hP'
  obtain ⟨q0, c0, q1, c1, q3, c3, q4, c4, rfl, -⟩ := symR_rd hP
  obtain ⟨p0, d0, p1, d1, p3, d3, p4, d4, rfl, -⟩ := symR_rd hP'
  clear hP hP'
  clear w0 w1
  have TA := hide ((Rec.new w [.slice q0 x0.length c0, .slice q1 x1.length c1, .int .i64 a2, .slice q3 x3.length c3, .slice q4 x4.length c4, .int .i64 a5] 28).alloc (.cells #[.slice p0 x0'.length d0, .slice p1 x1'.length d1, .int .i64 a2', .slice p3 x3'.length d3, .slice p4 x4'.length d4, .int .i64 a5'] 28))
  have tb := Rec.new (w.alloc (.cells #[.slice q0 x0.length c0, .slice q1 x1.length c1, .int .i64 a2, .slice q3 x3.length c3, .slice q4 x4.length c4, .int .i64 a5] 28)) [.slice p0 x0'.length d0, .slice p1 x1'.length d1, .int .i64 a2', .slice p3 x3'.length d3, .slice p4 x4'.length d4, .int .i64 a5'] 28
  rw [show (w.alloc (.cells #[.slice q0 x0.length c0, .slice q1 x1.length c1, .int .i64 a2, .slice q3 x3.length c3, .slice q4 x4.length c4, .int .i64 a5] 28)).heap.size = w.heap.size + 1 by simp] at tb
  have TB := hide tb
  clear tb
  have BW := hide (((Below.refl w.heap.size w).alloc (Nat.le_refl _) (.cells #[.slice q0 x0.length c0, .slice q1 x1.length c1, .int .i64 a2, .slice q3 x3.length c3, .slice q4 x4.length c4, .int .i64 a5] 28)).alloc (by simp) (.cells #[.slice p0 x0'.length d0, .slice p1 x1'.length d1, .int .i64 a2', .slice p3 x3'.length d3, .slice p4 x4'.length d4, .int .i64 a5'] 28))
  go_enter Try.func3, Try.ntmps3
  go_wp2_with fail
  refine (szSymSym x0 x1 a2 x3 x4 a5 _ 1048576 _ (RM.out.below BW.out) (by omega) (by omega)).mono ?_
  rintro e u0 ⟨n, rfl, n0, hs, hb⟩
  replace TA := hide (TA.out.below hb)
  replace TB := hide (TB.out.below hb)
  replace BW := hide (BW.out.trans (hb.mono BW.out.size))
  clear hb
  by_cases hn : n < 0
  · clear TA TB
    go_wp2
    go_ret
    exact ⟨rfl, BW.out⟩
  have hs1 := hs (by omega)
  have HS : Hid (symR.sz (x0, x1, a2, x3, x4, a5) ≤ 1048576) := show _ ≤ _ by omega
  have NL : Hid (0 ≤ n ∧ n ≤ 1048576) := show _ ∧ _ by omega
  clear hs hs1
  have tb0 := TB.out.cell 0 _ rfl
  have tb1 := TB.out.cell 1 _ rfl
  have tb2 := TB.out.cell 2 _ rfl
  have tb3 := TB.out.cell 3 _ rfl
  have tb4 := TB.out.cell 4 _ rfl
  have tb5 := TB.out.cell 5 _ rfl
  go_wp2_with fail
  refine (szSymSym x0' x1' a2' x3' x4' a5' _ n _ (RN.out.below BW.out) NL.out.1 NL.out.2).mono ?_
  rintro e u0b ⟨n', rfl, n0', hs', hb⟩
  clear tb0 tb1 tb2 tb3 tb4 tb5
  replace TA := hide (TA.out.below hb)
  replace TB := hide (TB.out.below hb)
  replace BW := hide (BW.out.trans (hb.mono BW.out.size))
  clear hb
  by_cases hn' : n' < 0
  · clear TA TB
    go_wp2
    go_ret
    exact ⟨rfl, BW.out⟩
  have hs1 := hs' (by omega)
  have NLo := NL.out
  have HR : Hid (symR.sz (x0', x1', a2', x3', x4', a5') ≤ 1048576) := show _ ≤ _ by omega
  clear hs' NL hs1 NLo
  have ta0 := TA.out.cell 0 _ rfl
  have ta1 := TA.out.cell 1 _ rfl
  have ta2 := TA.out.cell 2 _ rfl
  have ta3 := TA.out.cell 3 _ rfl
  have ta4 := TA.out.cell 4 _ rfl
  have ta5 := TA.out.cell 5 _ rfl
  have tb0 := TB.out.cell 0 _ rfl
  have tb1 := TB.out.cell 1 _ rfl
  have tb2 := TB.out.cell 2 _ rfl
  have tb3 := TB.out.cell 3 _ rfl
  have tb4 := TB.out.cell 4 _ rfl
  have tb5 := TB.out.cell 5 _ rfl
  go_wp2_with fail
  have DU : Below u0b.heap.size u0b u0b.drew := (Below.refl _ _).drew
  replace TA := hide (TA.out.below DU)
  replace TB := hide (TB.out.below DU)
  replace BW := hide (BW.out.drew)
  clear DU
  clear ta0 ta1 ta2 ta3 ta4 ta5
  clear tb0 tb1 tb2 tb3 tb4 tb5
  have SS : Rec w.heap.size [.slice q0 x0.length c0, .slice q1 x1.length c1, .int .i64 a2, .slice q3 x3.length c3, .slice q4 x4.length c4, .int .i64 a5] u0b.drew ∧ Rec (w.heap.size + 1) [.slice p0 x0'.length d0, .slice p1 x1'.length d1, .int .i64 a2', .slice p3 x3'.length d3, .slice p4 x4'.length d4, .int .i64 a5'] u0b.drew := ⟨TA.out, TB.out⟩
  refine wp_region_held_drew (S := fun v => (Rec w.heap.size [.slice q0 x0.length c0, .slice q1 x1.length c1, .int .i64 a2, .slice q3 x3.length c3, .slice q4 x4.length c4, .int .i64 a5] v ∧ Rec (w.heap.size + 1) [.slice p0 x0'.length d0, .slice p1 x1'.length d1, .int .i64 a2', .slice p3 x3'.length d3, .slice p4 x4'.length d4, .int .i64 a5'] v)) (by kernel_rfl) SS (fun hHeld => ?_)
  refine wpAnyH_take (i := 0) (v := ?_) rfl (by kernel_rfl) (by kernel_rfl) (by kernel_rfl) (fun _ _ _ h => h) (Or.inl ⟨by kernel_rfl, ?_⟩) hHeld ?_
  rotate_left
  · intro w' hSw
    (try dsimp only at hSw)
    have z0 := hSw.1.cell 0 _ rfl
    have z1 := hSw.1.cell 1 _ rfl
    have z2 := hSw.1.cell 2 _ rfl
    have z3 := hSw.1.cell 3 _ rfl
    have z4 := hSw.1.cell 4 _ rfl
    have z5 := hSw.1.cell 5 _ rfl
    go_simp
    first | done | with_reducible rfl
  try simp only [Act.put, List.getElem_toArray, List.getElem_cons_succ, List.getElem_cons_zero, List.setIfInBounds_toArray, List.set]
  refine wpAnyH_take (i := 2) (v := ?_) rfl (by kernel_rfl) (by kernel_rfl) (by kernel_rfl) (fun _ _ _ h => h) (Or.inl ⟨by kernel_rfl, ?_⟩) hHeld ?_
  rotate_left
  · intro w' hSw
    (try dsimp only at hSw)
    have z0 := hSw.2.cell 0 _ rfl
    have z1 := hSw.2.cell 1 _ rfl
    have z2 := hSw.2.cell 2 _ rfl
    have z3 := hSw.2.cell 3 _ rfl
    have z4 := hSw.2.cell 4 _ rfl
    have z5 := hSw.2.cell 5 _ rfl
    go_simp
    first | done | with_reducible rfl
  try simp only [Act.put, List.getElem_toArray, List.getElem_cons_succ, List.getElem_cons_zero, List.setIfInBounds_toArray, List.set]
  clear SS hHeld
  refine wpAnyH_ready (rs := [1]) (by kernel_rfl) (by simp) ?_
  refine AllReadyH.cons rfl (fun K hK => ?_) AllReadyH.nil
  go_simp
  refine (toSymSym x0 x1 a2 x3 x4 a5 _ _ (RM.out.below BW.out) HS.out).mono ?_
  rintro e u1 ⟨g10, g11, g13, g14, rfl, M1, hb⟩
  have R1 : Hid (SymRd _ _ _) := show SymRd _ _ _ from symR.od M1
  clear M1
  replace TA := hide (TA.out.below hb)
  replace TB := hide (TB.out.below hb)
  replace BW := hide (BW.out.trans (hb.mono BW.out.size))
  clear hb
  have SU : Rec w.heap.size [.slice q0 x0.length c0, .slice q1 x1.length c1, .int .i64 a2, .slice q3 x3.length c3, .slice q4 x4.length c4, .int .i64 a5] u1 ∧ Rec (w.heap.size + 1) [.slice p0 x0'.length d0, .slice p1 x1'.length d1, .int .i64 a2', .slice p3 x3'.length d3, .slice p4 x4'.length d4, .int .i64 a5'] u1 := ⟨TA.out, TB.out⟩
  refine hK.out _ _ SU (fun hHeld => ?_)
  clear hK K SU
  try simp only [Act.put, List.getElem_toArray, List.getElem_cons_succ, List.getElem_cons_zero, List.setIfInBounds_toArray, List.set]
  refine wpAnyH_ready (rs := [3]) (by kernel_rfl) (by simp) ?_
  refine AllReadyH.cons rfl (fun K hK => ?_) AllReadyH.nil
  go_simp
  refine (toSymSym x0' x1' a2' x3' x4' a5' _ _ (RN.out.below BW.out) HR.out).mono ?_
  rintro e u2 ⟨g20, g21, g23, g24, rfl, M2, hb⟩
  have R2 : Hid (SymRd _ _ _) := show SymRd _ _ _ from symR.od M2
  clear M2
  replace R1 := hide (R1.out.below hb)
  replace TA := hide (TA.out.below hb)
  replace TB := hide (TB.out.below hb)
  replace BW := hide (BW.out.trans (hb.mono BW.out.size))
  clear hb
  have SU : Rec w.heap.size [.slice q0 x0.length c0, .slice q1 x1.length c1, .int .i64 a2, .slice q3 x3.length c3, .slice q4 x4.length c4, .int .i64 a5] u2 ∧ Rec (w.heap.size + 1) [.slice p0 x0'.length d0, .slice p1 x1'.length d1, .int .i64 a2', .slice p3 x3'.length d3, .slice p4 x4'.length d4, .int .i64 a5'] u2 := ⟨TA.out, TB.out⟩
  refine hK.out _ _ SU (fun hHeld => ?_)
  clear hK K SU
  try simp only [Act.put, List.getElem_toArray, List.getElem_cons_succ, List.getElem_cons_zero, List.setIfInBounds_toArray, List.set]
  refine wpAnyH_ready (rs := [4]) (by kernel_rfl) (by simp) ?_
  refine AllReadyH.cons rfl (fun K hK => ?_) AllReadyH.nil
  go_simp
  refine (specSame x0 x0' x1 x1' a2 a2' x3 x3' x4 x4' a5 a5' _ _ _ R1.out R2.out).mono ?_
  rintro e u3 ⟨rfl, hb⟩
  obtain ⟨nn, eb⟩ : ∃ b, symE (x0, x1, a2, x3, x4, a5) (x0', x1', a2', x3', x4', a5') = b := ⟨_, rfl⟩
  rw [eb]
  have EB := hide eb
  clear eb R1 R2
  replace TA := hide (TA.out.below hb)
  replace TB := hide (TB.out.below hb)
  replace BW := hide (BW.out.trans (hb.mono BW.out.size))
  clear hb
  have SU : Rec w.heap.size [.slice q0 x0.length c0, .slice q1 x1.length c1, .int .i64 a2, .slice q3 x3.length c3, .slice q4 x4.length c4, .int .i64 a5] u3 ∧ Rec (w.heap.size + 1) [.slice p0 x0'.length d0, .slice p1 x1'.length d1, .int .i64 a2', .slice p3 x3'.length d3, .slice p4 x4'.length d4, .int .i64 a5'] u3 := ⟨TA.out, TB.out⟩
  refine hK.out _ _ SU (fun hHeld => ?_)
  clear hK K SU
  try simp only [Act.put, List.getElem_toArray, List.getElem_cons_succ, List.getElem_cons_zero, List.setIfInBounds_toArray, List.set]
  refine wpAnyH_take (i := 5) (v := ?_) rfl (by kernel_rfl) (by kernel_rfl) (by kernel_rfl) (fun _ _ _ h => h) (Or.inl ⟨by kernel_rfl, ?_⟩) hHeld ?_
  rotate_left
  · intro w' hSw
    (try dsimp only at hSw)
    go_simp
    first | done | with_reducible rfl
  try simp only [Act.put, List.getElem_toArray, List.getElem_cons_succ, List.getElem_cons_zero, List.setIfInBounds_toArray, List.set]
  refine wpAnyH_done (by kernel_rfl) ?_ _
  clear hHeld
  have ta0 := TA.out.cell 0 _ rfl
  have ta1 := TA.out.cell 1 _ rfl
  have ta2 := TA.out.cell 2 _ rfl
  have ta3 := TA.out.cell 3 _ rfl
  have ta4 := TA.out.cell 4 _ rfl
  have ta5 := TA.out.cell 5 _ rfl
  go_wp2_with fail
  refine (toSymSym x0 x1 a2 x3 x4 a5 _ _ (RM.out.below BW.out) HS.out).mono ?_
  rintro e u4 ⟨gx0, gx1, gx3, gx4, rfl, MX, hb⟩
  clear ta0 ta1 ta2 ta3 ta4 ta5
  have RX : Hid (SymRd _ _ _) := show SymRd _ _ _ from symR.od MX
  clear MX
  replace TA := hide (TA.out.below hb)
  replace TB := hide (TB.out.below hb)
  replace BW := hide (BW.out.trans (hb.mono BW.out.size))
  clear hb
  have bX : Below u4.heap.size u4 (u4.alloc (.cells #[.slice (some ⟨gx0, 0, none⟩) x0.length x0.length, .slice (some ⟨gx1, 0, none⟩) x1.length x1.length, .int .i64 a2, .slice (some ⟨gx3, 0, none⟩) x3.length x3.length, .slice (some ⟨gx4, 0, none⟩) x4.length x4.length, .int .i64 a5] 37)) := (Below.refl _ _).alloc (Nat.le_refl _) _
  have X := hide (Rec.new u4 [.slice (some ⟨gx0, 0, none⟩) x0.length x0.length, .slice (some ⟨gx1, 0, none⟩) x1.length x1.length, .int .i64 a2, .slice (some ⟨gx3, 0, none⟩) x3.length x3.length, .slice (some ⟨gx4, 0, none⟩) x4.length x4.length, .int .i64 a5] 37)
  replace RX := hide (RX.out.below bX)
  replace TA := hide (TA.out.below bX)
  replace TB := hide (TB.out.below bX)
  replace BW := hide (BW.out.trans (bX.mono BW.out.size))
  clear bX
  have tb0 := TB.out.cell 0 _ rfl
  have tb1 := TB.out.cell 1 _ rfl
  have tb2 := TB.out.cell 2 _ rfl
  have tb3 := TB.out.cell 3 _ rfl
  have tb4 := TB.out.cell 4 _ rfl
  have tb5 := TB.out.cell 5 _ rfl
  go_wp2_with fail
  refine (toSymSym x0' x1' a2' x3' x4' a5' _ _ (RN.out.below BW.out) HR.out).mono ?_
  rintro e u5 ⟨gy0, gy1, gy3, gy4, rfl, MY, hb⟩
  clear tb0 tb1 tb2 tb3 tb4 tb5
  have RY : Hid (SymRd _ _ _) := show SymRd _ _ _ from symR.od MY
  clear MY
  replace TA := hide (TA.out.below hb)
  replace TB := hide (TB.out.below hb)
  replace X := hide (X.out.below hb)
  replace RX := hide (RX.out.below hb)
  replace BW := hide (BW.out.trans (hb.mono BW.out.size))
  clear hb
  have bX : Below u5.heap.size u5 (u5.alloc (.cells #[.slice (some ⟨gy0, 0, none⟩) x0'.length x0'.length, .slice (some ⟨gy1, 0, none⟩) x1'.length x1'.length, .int .i64 a2', .slice (some ⟨gy3, 0, none⟩) x3'.length x3'.length, .slice (some ⟨gy4, 0, none⟩) x4'.length x4'.length, .int .i64 a5'] 37)) := (Below.refl _ _).alloc (Nat.le_refl _) _
  have Y := hide (Rec.new u5 [.slice (some ⟨gy0, 0, none⟩) x0'.length x0'.length, .slice (some ⟨gy1, 0, none⟩) x1'.length x1'.length, .int .i64 a2', .slice (some ⟨gy3, 0, none⟩) x3'.length x3'.length, .slice (some ⟨gy4, 0, none⟩) x4'.length x4'.length, .int .i64 a5'] 37)
  replace RY := hide (RY.out.below bX)
  replace TA := hide (TA.out.below bX)
  replace TB := hide (TB.out.below bX)
  replace X := hide (X.out.below bX)
  replace RX := hide (RX.out.below bX)
  replace BW := hide (BW.out.trans (bX.mono BW.out.size))
  clear bX
  have x0 := X.out.cell 0 _ rfl
  have x1 := X.out.cell 1 _ rfl
  have x2 := X.out.cell 2 _ rfl
  have x3 := X.out.cell 3 _ rfl
  have x4 := X.out.cell 4 _ rfl
  have x5 := X.out.cell 5 _ rfl
  have y0 := Y.out.cell 0 _ rfl
  have y1 := Y.out.cell 1 _ rfl
  have y2 := Y.out.cell 2 _ rfl
  have y3 := Y.out.cell 3 _ rfl
  have y4 := Y.out.cell 4 _ rfl
  have y5 := Y.out.cell 5 _ rfl
  go_wp2_with fail
  refine (implSame _ _ _ _ _ _ _ _ _ _ _ _ _ _ _ RX.out RY.out).mono ?_
  rintro e u6 ⟨rfl, hb⟩
  rw [EB.out]
  clear x0 x1 x2 x3 x4 x5
  clear y0 y1 y2 y3 y4 y5
  replace TA := hide (TA.out.below hb)
  replace TB := hide (TB.out.below hb)
  replace X := hide (X.out.below hb)
  replace RX := hide (RX.out.below hb)
  replace Y := hide (Y.out.below hb)
  replace RY := hide (RY.out.below hb)
  replace BW := hide (BW.out.trans (hb.mono BW.out.size))
  clear hb
  have nb := same_ne nn
  have x0 := X.out.cell 0 _ rfl
  have x1 := X.out.cell 1 _ rfl
  have x2 := X.out.cell 2 _ rfl
  have x3 := X.out.cell 3 _ rfl
  have x4 := X.out.cell 4 _ rfl
  have x5 := X.out.cell 5 _ rfl
  have ta0 := TA.out.cell 0 _ rfl
  have ta1 := TA.out.cell 1 _ rfl
  have ta2 := TA.out.cell 2 _ rfl
  have ta3 := TA.out.cell 3 _ rfl
  have ta4 := TA.out.cell 4 _ rfl
  have ta5 := TA.out.cell 5 _ rfl
  go_wp2_with fail
  have DU : Below u6.heap.size u6 u6.drew := (Below.refl _ _).drew
  replace TA := hide (TA.out.below DU)
  replace TB := hide (TB.out.below DU)
  replace X := hide (X.out.below DU)
  replace RX := hide (RX.out.below DU)
  replace Y := hide (Y.out.below DU)
  replace RY := hide (RY.out.below DU)
  replace BW := hide (BW.out.drew)
  clear DU
  clear x0 x1 x2 x3 x4 x5
  clear ta0 ta1 ta2 ta3 ta4 ta5
  have SS : Rec u4.heap.size [.slice (some ⟨gx0, 0, none⟩) x0.length x0.length, .slice (some ⟨gx1, 0, none⟩) x1.length x1.length, .int .i64 a2, .slice (some ⟨gx3, 0, none⟩) x3.length x3.length, .slice (some ⟨gx4, 0, none⟩) x4.length x4.length, .int .i64 a5] u6.drew ∧ Rec w.heap.size [.slice q0 x0.length c0, .slice q1 x1.length c1, .int .i64 a2, .slice q3 x3.length c3, .slice q4 x4.length c4, .int .i64 a5] u6.drew := ⟨X.out, TA.out⟩
  refine wp_region_held_drew (S := fun v => (Rec u4.heap.size [.slice (some ⟨gx0, 0, none⟩) x0.length x0.length, .slice (some ⟨gx1, 0, none⟩) x1.length x1.length, .int .i64 a2, .slice (some ⟨gx3, 0, none⟩) x3.length x3.length, .slice (some ⟨gx4, 0, none⟩) x4.length x4.length, .int .i64 a5] v ∧ Rec w.heap.size [.slice q0 x0.length c0, .slice q1 x1.length c1, .int .i64 a2, .slice q3 x3.length c3, .slice q4 x4.length c4, .int .i64 a5] v)) (by kernel_rfl) SS (fun hHeld => ?_)
  refine wpAnyH_take (i := 0) (v := ?_) rfl (by kernel_rfl) (by kernel_rfl) (by kernel_rfl) (fun _ _ _ h => h) (Or.inl ⟨by kernel_rfl, ?_⟩) hHeld ?_
  rotate_left
  · intro w' hSw
    (try dsimp only at hSw)
    have z0 := hSw.1.cell 0 _ rfl
    have z1 := hSw.1.cell 1 _ rfl
    have z2 := hSw.1.cell 2 _ rfl
    have z3 := hSw.1.cell 3 _ rfl
    have z4 := hSw.1.cell 4 _ rfl
    have z5 := hSw.1.cell 5 _ rfl
    go_simp
    first | done | with_reducible rfl
  try simp only [Act.put, List.getElem_toArray, List.getElem_cons_succ, List.getElem_cons_zero, List.setIfInBounds_toArray, List.set]
  refine wpAnyH_take (i := 1) (v := ?_) rfl (by kernel_rfl) (by kernel_rfl) (by kernel_rfl) (fun _ _ _ h => h) (Or.inl ⟨by kernel_rfl, ?_⟩) hHeld ?_
  rotate_left
  · intro w' hSw
    (try dsimp only at hSw)
    have z0 := hSw.2.cell 0 _ rfl
    have z1 := hSw.2.cell 1 _ rfl
    have z2 := hSw.2.cell 2 _ rfl
    have z3 := hSw.2.cell 3 _ rfl
    have z4 := hSw.2.cell 4 _ rfl
    have z5 := hSw.2.cell 5 _ rfl
    go_simp
    first | done | with_reducible rfl
  try simp only [Act.put, List.getElem_toArray, List.getElem_cons_succ, List.getElem_cons_zero, List.setIfInBounds_toArray, List.set]
  clear SS hHeld
  refine wpAnyH_ready (rs := [2]) (by kernel_rfl) (by simp) ?_
  refine AllReadyH.cons rfl (fun K hK => ?_) AllReadyH.nil
  go_simp
  refine (toSymSym x0 x1 a2 x3 x4 a5 _ _ (RM.out.below BW.out) HS.out).mono ?_
  rintro e v7 ⟨g70, g71, g73, g74, rfl, M7, hb⟩
  have R7 : Hid (SymRd _ _ _) := show SymRd _ _ _ from symR.od M7
  clear M7
  replace TA := hide (TA.out.below hb)
  replace TB := hide (TB.out.below hb)
  replace X := hide (X.out.below hb)
  replace RX := hide (RX.out.below hb)
  replace Y := hide (Y.out.below hb)
  replace RY := hide (RY.out.below hb)
  replace BW := hide (BW.out.trans (hb.mono BW.out.size))
  clear hb
  have SU : Rec u4.heap.size [.slice (some ⟨gx0, 0, none⟩) x0.length x0.length, .slice (some ⟨gx1, 0, none⟩) x1.length x1.length, .int .i64 a2, .slice (some ⟨gx3, 0, none⟩) x3.length x3.length, .slice (some ⟨gx4, 0, none⟩) x4.length x4.length, .int .i64 a5] v7 ∧ Rec w.heap.size [.slice q0 x0.length c0, .slice q1 x1.length c1, .int .i64 a2, .slice q3 x3.length c3, .slice q4 x4.length c4, .int .i64 a5] v7 := ⟨X.out, TA.out⟩
  refine hK.out _ _ SU (fun hHeld => ?_)
  clear hK K SU
  try simp only [Act.put, List.getElem_toArray, List.getElem_cons_succ, List.getElem_cons_zero, List.setIfInBounds_toArray, List.set]
  refine wpAnyH_ready (rs := [3]) (by kernel_rfl) (by simp) ?_
  refine AllReadyH.cons rfl (fun K hK => ?_) AllReadyH.nil
  go_simp
  refine (eqSymSym x0 x1 a2 x3 x4 a5 _ _ _ RX.out R7.out).mono ?_
  rintro e x7 ⟨rfl, hb⟩
  clear R7
  replace TA := hide (TA.out.below hb)
  replace TB := hide (TB.out.below hb)
  replace X := hide (X.out.below hb)
  replace RX := hide (RX.out.below hb)
  replace Y := hide (Y.out.below hb)
  replace RY := hide (RY.out.below hb)
  replace BW := hide (BW.out.trans (hb.mono BW.out.size))
  clear hb
  have SU : Rec u4.heap.size [.slice (some ⟨gx0, 0, none⟩) x0.length x0.length, .slice (some ⟨gx1, 0, none⟩) x1.length x1.length, .int .i64 a2, .slice (some ⟨gx3, 0, none⟩) x3.length x3.length, .slice (some ⟨gx4, 0, none⟩) x4.length x4.length, .int .i64 a5] x7 ∧ Rec w.heap.size [.slice q0 x0.length c0, .slice q1 x1.length c1, .int .i64 a2, .slice q3 x3.length c3, .slice q4 x4.length c4, .int .i64 a5] x7 := ⟨X.out, TA.out⟩
  refine hK.out _ _ SU (fun hHeld => ?_)
  clear hK K SU
  try simp only [Act.put, List.getElem_toArray, List.getElem_cons_succ, List.getElem_cons_zero, List.setIfInBounds_toArray, List.set]
  refine wpAnyH_take (i := 4) (v := ?_) rfl (by kernel_rfl) (by kernel_rfl) (by kernel_rfl) (fun _ _ _ h => h) (Or.inl ⟨by kernel_rfl, ?_⟩) hHeld ?_
  rotate_left
  · intro w' hSw
    (try dsimp only at hSw)
    go_simp
    first | done | with_reducible rfl
  try simp only [Act.put, List.getElem_toArray, List.getElem_cons_succ, List.getElem_cons_zero, List.setIfInBounds_toArray, List.set]
  refine wpAnyH_done (by kernel_rfl) ?_ _
  clear hHeld
  have x0 := Y.out.cell 0 _ rfl
  have x1 := Y.out.cell 1 _ rfl
  have x2 := Y.out.cell 2 _ rfl
  have x3 := Y.out.cell 3 _ rfl
  have x4 := Y.out.cell 4 _ rfl
  have x5 := Y.out.cell 5 _ rfl
  have ta0 := TB.out.cell 0 _ rfl
  have ta1 := TB.out.cell 1 _ rfl
  have ta2 := TB.out.cell 2 _ rfl
  have ta3 := TB.out.cell 3 _ rfl
  have ta4 := TB.out.cell 4 _ rfl
  have ta5 := TB.out.cell 5 _ rfl
  go_wp2_with fail
  have DU : Below x7.heap.size x7 x7.drew := (Below.refl _ _).drew
  replace TA := hide (TA.out.below DU)
  replace TB := hide (TB.out.below DU)
  replace X := hide (X.out.below DU)
  replace RX := hide (RX.out.below DU)
  replace Y := hide (Y.out.below DU)
  replace RY := hide (RY.out.below DU)
  replace BW := hide (BW.out.drew)
  clear DU
  clear x0 x1 x2 x3 x4 x5
  clear ta0 ta1 ta2 ta3 ta4 ta5
  have SS : Rec u5.heap.size [.slice (some ⟨gy0, 0, none⟩) x0'.length x0'.length, .slice (some ⟨gy1, 0, none⟩) x1'.length x1'.length, .int .i64 a2', .slice (some ⟨gy3, 0, none⟩) x3'.length x3'.length, .slice (some ⟨gy4, 0, none⟩) x4'.length x4'.length, .int .i64 a5'] x7.drew ∧ Rec (w.heap.size + 1) [.slice p0 x0'.length d0, .slice p1 x1'.length d1, .int .i64 a2', .slice p3 x3'.length d3, .slice p4 x4'.length d4, .int .i64 a5'] x7.drew := ⟨Y.out, TB.out⟩
  refine wp_region_held_drew (S := fun v => (Rec u5.heap.size [.slice (some ⟨gy0, 0, none⟩) x0'.length x0'.length, .slice (some ⟨gy1, 0, none⟩) x1'.length x1'.length, .int .i64 a2', .slice (some ⟨gy3, 0, none⟩) x3'.length x3'.length, .slice (some ⟨gy4, 0, none⟩) x4'.length x4'.length, .int .i64 a5'] v ∧ Rec (w.heap.size + 1) [.slice p0 x0'.length d0, .slice p1 x1'.length d1, .int .i64 a2', .slice p3 x3'.length d3, .slice p4 x4'.length d4, .int .i64 a5'] v)) (by kernel_rfl) SS (fun hHeld => ?_)
  refine wpAnyH_take (i := 0) (v := ?_) rfl (by kernel_rfl) (by kernel_rfl) (by kernel_rfl) (fun _ _ _ h => h) (Or.inl ⟨by kernel_rfl, ?_⟩) hHeld ?_
  rotate_left
  · intro w' hSw
    (try dsimp only at hSw)
    have z0 := hSw.1.cell 0 _ rfl
    have z1 := hSw.1.cell 1 _ rfl
    have z2 := hSw.1.cell 2 _ rfl
    have z3 := hSw.1.cell 3 _ rfl
    have z4 := hSw.1.cell 4 _ rfl
    have z5 := hSw.1.cell 5 _ rfl
    go_simp
    first | done | with_reducible rfl
  try simp only [Act.put, List.getElem_toArray, List.getElem_cons_succ, List.getElem_cons_zero, List.setIfInBounds_toArray, List.set]
  refine wpAnyH_take (i := 1) (v := ?_) rfl (by kernel_rfl) (by kernel_rfl) (by kernel_rfl) (fun _ _ _ h => h) (Or.inl ⟨by kernel_rfl, ?_⟩) hHeld ?_
  rotate_left
  · intro w' hSw
    (try dsimp only at hSw)
    have z0 := hSw.2.cell 0 _ rfl
    have z1 := hSw.2.cell 1 _ rfl
    have z2 := hSw.2.cell 2 _ rfl
    have z3 := hSw.2.cell 3 _ rfl
    have z4 := hSw.2.cell 4 _ rfl
    have z5 := hSw.2.cell 5 _ rfl
    go_simp
    first | done | with_reducible rfl
  try simp only [Act.put, List.getElem_toArray, List.getElem_cons_succ, List.getElem_cons_zero, List.setIfInBounds_toArray, List.set]
  clear SS hHeld
  refine wpAnyH_ready (rs := [2]) (by kernel_rfl) (by simp) ?_
  refine AllReadyH.cons rfl (fun K hK => ?_) AllReadyH.nil
  go_simp
  refine (toSymSym x0' x1' a2' x3' x4' a5' _ _ (RN.out.below BW.out) HR.out).mono ?_
  rintro e v8 ⟨g80, g81, g83, g84, rfl, M8, hb⟩
  have R8 : Hid (SymRd _ _ _) := show SymRd _ _ _ from symR.od M8
  clear M8
  replace TA := hide (TA.out.below hb)
  replace TB := hide (TB.out.below hb)
  replace X := hide (X.out.below hb)
  replace RX := hide (RX.out.below hb)
  replace Y := hide (Y.out.below hb)
  replace RY := hide (RY.out.below hb)
  replace BW := hide (BW.out.trans (hb.mono BW.out.size))
  clear hb
  have SU : Rec u5.heap.size [.slice (some ⟨gy0, 0, none⟩) x0'.length x0'.length, .slice (some ⟨gy1, 0, none⟩) x1'.length x1'.length, .int .i64 a2', .slice (some ⟨gy3, 0, none⟩) x3'.length x3'.length, .slice (some ⟨gy4, 0, none⟩) x4'.length x4'.length, .int .i64 a5'] v8 ∧ Rec (w.heap.size + 1) [.slice p0 x0'.length d0, .slice p1 x1'.length d1, .int .i64 a2', .slice p3 x3'.length d3, .slice p4 x4'.length d4, .int .i64 a5'] v8 := ⟨Y.out, TB.out⟩
  refine hK.out _ _ SU (fun hHeld => ?_)
  clear hK K SU
  try simp only [Act.put, List.getElem_toArray, List.getElem_cons_succ, List.getElem_cons_zero, List.setIfInBounds_toArray, List.set]
  refine wpAnyH_ready (rs := [3]) (by kernel_rfl) (by simp) ?_
  refine AllReadyH.cons rfl (fun K hK => ?_) AllReadyH.nil
  go_simp
  refine (eqSymSym x0' x1' a2' x3' x4' a5' _ _ _ RY.out R8.out).mono ?_
  rintro e x8 ⟨rfl, hb⟩
  clear R8
  replace TA := hide (TA.out.below hb)
  replace TB := hide (TB.out.below hb)
  replace X := hide (X.out.below hb)
  replace RX := hide (RX.out.below hb)
  replace Y := hide (Y.out.below hb)
  replace RY := hide (RY.out.below hb)
  replace BW := hide (BW.out.trans (hb.mono BW.out.size))
  clear hb
  have SU : Rec u5.heap.size [.slice (some ⟨gy0, 0, none⟩) x0'.length x0'.length, .slice (some ⟨gy1, 0, none⟩) x1'.length x1'.length, .int .i64 a2', .slice (some ⟨gy3, 0, none⟩) x3'.length x3'.length, .slice (some ⟨gy4, 0, none⟩) x4'.length x4'.length, .int .i64 a5'] x8 ∧ Rec (w.heap.size + 1) [.slice p0 x0'.length d0, .slice p1 x1'.length d1, .int .i64 a2', .slice p3 x3'.length d3, .slice p4 x4'.length d4, .int .i64 a5'] x8 := ⟨Y.out, TB.out⟩
  refine hK.out _ _ SU (fun hHeld => ?_)
  clear hK K SU
  try simp only [Act.put, List.getElem_toArray, List.getElem_cons_succ, List.getElem_cons_zero, List.setIfInBounds_toArray, List.set]
  refine wpAnyH_take (i := 4) (v := ?_) rfl (by kernel_rfl) (by kernel_rfl) (by kernel_rfl) (fun _ _ _ h => h) (Or.inl ⟨by kernel_rfl, ?_⟩) hHeld ?_
  rotate_left
  · intro w' hSw
    (try dsimp only at hSw)
    go_simp
    first | done | with_reducible rfl
  try simp only [Act.put, List.getElem_toArray, List.getElem_cons_succ, List.getElem_cons_zero, List.setIfInBounds_toArray, List.set]
  refine wpAnyH_done (by kernel_rfl) ?_ _
  clear hHeld
  clear TA TB X RX Y RY
  go_wp2
  go_ret
  exact ⟨rfl, BW.out⟩

set_option maxRecDepth 100000 in
theorem lifted (os : Os) (started : os.Started) (H : Type) (enc : TypeId × Value → H) :
    ReturnsInHanded {} Try.checked os 3 .any (Rows.fnExactSymSameSpec.pre6 enc Try.prog Try.f3 Rows.fnExactSymSameRow.domain false) (Rows.fnExactSymSameSpec.post enc Try.prog Try.f3 false true false false) := by
  refine returnsInHanded_of_change (C := Try.checked) own started (by kernel_rfl) Try.func3
    (ChangeSpec.witness6 (enc := enc) (C := Try.checked) false ⟨#[], #[.agg #[.slice none 0 0, .slice none 0 0, .int .i64 0, .slice none 0 0, .slice none 0 0, .int .i64 0], .agg #[.slice none 0 0, .slice none 0 0, .int .i64 0, .slice none 0 0, .slice none 0 0, .int .i64 0]], []⟩ 8 (by kernel_rfl) (by kernel_rfl) (by kernel_rfl) (by kernel_rfl)) ?_
  intro W base args ds gs before hval0 hW hcnd hsz0
  have hval : ∀ (j : Nat) t v, Try.f3.params[j]? = some t → args[j]? = some v → Value.okWide Try.prog W .any base t v := hval0
  have hW' := hW
  obtain ⟨p, q, hA0, hV, rfl, hfz, hnd⟩ := hW
  have hA : DataW.TrodAll enc Try.prog W 0 (fun _ => true) true Try.f3.params.toList args.toList ds p := hA0
  rw [Try.params3] at hA hval
  obtain ⟨v0, vs0, d0, ds0, p0, q0, hargs, rfl, rfl, h0, r0⟩ := trodAll_cons hA
  obtain ⟨v1, vs1, d1, ds1, p1, q1, rfl, rfl, rfl, h1, r1⟩ := trodAll_cons r0
  obtain ⟨rfl, rfl, rfl⟩ := trodAll_nil r1
  obtain rfl : args = #[v0, v1] := by cases args; simp_all
  obtain ⟨rfl, rfl⟩ := trodVars_none hV
  have k0 := h0
  have lt0 : ∀ x ∈ p0, x.block < W.heap.size := by obtain ⟨m, hm⟩ := k0; exact DataW.trod_lt m _ _ _ hm
  obtain ⟨a0, rfl, _⟩ := okWide_struct Try.underlying28 (hval 0 28 v0 rfl rfl)
  have w0 : Shape.Holds Try.prog W 9 28 a0.toList := Shape.opened 9 h0
  have k1 := h1
  have lt1 : ∀ x ∈ p1, x.block < W.heap.size := by obtain ⟨m, hm⟩ := k1; exact DataW.trod_lt m _ _ _ hm
  obtain ⟨a1, rfl, _⟩ := okWide_struct Try.underlying28 (hval 1 28 v1 rfl rfl)
  have w1 : Shape.Holds Try.prog W 9 28 a1.toList := Shape.opened 9 h1
  clear hA0 hval0
  refine (walk a0 a1 W w0 w1).mono fun e W' ⟨he, hnx⟩ => ?_
  subst he
  exact ⟨_, rfl, _, _, _, [], _, [], hW', trodAll_cons_mk (shut_bool Try.underlying4 _) trodAll_mk0, (trodAll_cons_mk (Below.trod laidOut (by kernel_rfl) (of_decide_eq_true (by kernel_rfl)) k0 hnx lt0) (trodAll_cons_mk (Below.trod laidOut (by kernel_rfl) (of_decide_eq_true (by kernel_rfl)) k1 hnx lt1) trodAll_mk0)), rfl, hnx.frame _, fun h => by cases h⟩

theorem over : Rows.fnExactSymSameRow.holds Try.pinned (OpenSpec.ofChange Rows.fnExactSymSameSpec) :=
  OpenClaim.holds_of_wide 3 Try.f3 rfl rfl rfl rfl rfl rfl rfl ⟨rfl, rfl, rfl, rfl, rfl⟩ rfl rfl rfl rfl rfl (by kernel_rfl) Try.func3 (by kernel_rfl)
    (of_decide_eq_true (by kernel_rfl)) (by unfold Func.isWrapper; first | (rw [if_pos (by decide +kernel)]; kernel_rfl) | (rw [if_neg (by decide +kernel)]; exact ⟨rfl, rfl⟩))
    (fun os started H enc _ => lifted os started H enc)

theorem proved : Rows.FnExactSymSameSaid := over
#print axioms proved
end Go.Proofs.Ytclccaigkcilcaa.fnExactSymSame
