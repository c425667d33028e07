/-
  At every telling of what code does, and every place behind it, the program's SymEnd answers as the specification's SymEnd does, field by field, writes into no argument, and its answer owns its memory, behind another call too (the law FnExactSymEnd returns true); no condition.
  The frame (lifted, over, proved) is written by my own program after the guide's worked texts; the walk and the lemmas ahead of it are mine.
-/
import Derived.Test.YtclccaigkcilcaaRows
import Derived.Test.YtclccaigkcilcaaShape
import Derived.Test.YtclccaigkcilcaaSeC
import Derived.Test.YtclccaigkcilcaaSeF
import Derived.Test.YtclccaigkcilcaaSeG
import Derived.WalkKit
import Derived.ProofKit
import Derived.OpenShut
import Derived.ShutString
import Derived.ChangeOld
import Derived.Below
import Derived.SizedLaws
namespace Go.Proofs.Ytclccaigkcilcaa.fnExactSymEnd
open Go.ChangeShapes Go.WideShapes Go.ChangeAt Go.RowKit
open Go.ChangeMaps (open_string shut_string)
set_option linter.unusedVariables false

theorem own : ownKnob Try.prog.godebug = none := by kernel_rfl
theorem laidOut : laidOutB Try.prog = true := by kernel_rfl

open IntS Pol Dt
set_option linter.unusedSimpArgs false
set_option linter.unusedVariables false
theorem same_int (z : Int) : (z != z) = false := by simp

set_option maxRecDepth 8000 in
set_option maxHeartbeats 16000000 in
theorem walk (a0 : Array Value) (a1 : Int) (w1 : (Lit.int .i64 a1).wf = true) (w : World) (w0 : Shape.Holds Try.prog w 9 28 a0.toList)  :
    Calls Try.prog 4 #[.agg a0, .int .i64 a1] w fun e w' => e = .returned (.bool true) ∧ Below w.heap.size w w' := by
  obtain ⟨l, rfl⟩ : ∃ l : List Value, a0 = l.toArray := ⟨a0.toList, by simp⟩
  obtain ⟨x0, x1, a2, x3, x4, a5, hP⟩ := symR_hold (n := 0) (cs := l) w0
  have RM : Hid (symR.rd w l (x0, x1, a2, x3, x4, a5)) := hP
  obtain ⟨q0, c0, q1, c1, q3, c3, q4, c4, rfl, -⟩ := symR_rd hP
  clear hP w0
  obtain ⟨OUT, eO⟩ : ∃ z, symEndD (x0, x1, a2, x3, x4, a5) a1 = z := ⟨_, rfl⟩
  have NXI : Hid (symR.sz (x0, x1, a2, x3, x4, a5) ≤ 1048576 → symR.nx (x0, x1, a2, x3, x4, a5) ≤ 10000000) := fun h => Nat.le_trans (sym_nx _) (by omega)
  have NXO : Hid (symR.sz (x0, x1, a2, x3, x4, a5) ≤ 1048576 → symR.nx OUT ≤ 10000000) := eO ▸ (fun h => Nat.le_trans (sym_nx _) (by have := sym_end_sz (x0, x1, a2, x3, x4, a5) a1; omega))
  obtain ⟨ox0, ox1, oa2, ox3, ox4, oa5⟩ := OUT
  have EO := hide eO
  clear eO
  have TA := hide (Rec.new w [.slice q0 x0.length c0, .slice q1 x1.length c1, .int .i64 a2, .slice q3 x3.length c3, .slice q4 x4.length c4, .int .i64 a5] 28)
  have BW := hide ((Below.refl w.heap.size w).alloc (Nat.le_refl _) (.cells #[.slice q0 x0.length c0, .slice q1 x1.length c1, .int .i64 a2, .slice q3 x3.length c3, .slice q4 x4.length c4, .int .i64 a5] 28))
  go_enter Try.func4, Try.ntmps4
  go_wp2_with fail
  refine (szSymSym x0 x1 a2 x3 x4 a5 _ 1048576 _ (symR.rb RM.out BW.out) (by omega) (by omega)).mono ?_
  rintro e u0 ⟨n, rfl, n0, hs, hb⟩
  replace TA := hide (TA.out.below hb)
  replace BW := hide (BW.out.trans (hb.mono BW.out.size))
  clear hb
  by_cases hn : n < 0
  · clear TA
    go_wp2
    go_ret
    exact ⟨rfl, BW.out⟩
  have hs1 := hs (by omega)
  have HS : Hid (symR.sz (x0, x1, a2, x3, x4, a5) ≤ 1048576) := show _ ≤ _ by omega
  replace NXI := hide (NXI.out HS.out)
  replace NXO := hide (NXO.out HS.out)
  have LT0 : Hid (w.heap.size < u0.heap.size) := TA.out.lt
  clear hs hs1
  have ta0 := TA.out.cell 0 _ rfl
  have ta1 := TA.out.cell 1 _ rfl
  have ta2 := TA.out.cell 2 _ rfl
  have ta3 := TA.out.cell 3 _ rfl
  have ta4 := TA.out.cell 4 _ rfl
  have ta5 := TA.out.cell 5 _ rfl
  go_wp2_with fail
  refine (toSymSym x0 x1 a2 x3 x4 a5 _ _ (symR.rb RM.out BW.out) HS.out).mono ?_
  rintro e u1 ⟨g0, g1, g3, g4, rfl, M1, hb⟩
  have R1 := hide (symR.od M1)
  have L1 : Hid (u0.heap.size ≤ u1.heap.size) := hb.size
  clear M1
  clear ta0 ta1 ta2 ta3 ta4 ta5
  replace TA := hide (TA.out.below hb)
  replace BW := hide (BW.out.trans (hb.mono BW.out.size))
  clear hb
  go_wp2_with fail
  refine (specEnd x0 x1 a2 x3 x4 a5 a1 _ _ R1.out HS.out).mono ?_
  rintro e u2 ⟨cw, rfl, OW, hb⟩
  have L2 : Hid (u1.heap.size ≤ u2.heap.size) := hb.size
  clear R1
  replace TA := hide (TA.out.below hb)
  replace BW := hide (BW.out.trans (hb.mono BW.out.size))
  clear hb
  rw [EO.out] at OW
  have W0 := hide OW
  obtain ⟨wq0, wc0, wq1, wc1, wq3, wc3, wq4, wc4, _, _, _, _, rfl, -⟩ := symR_own OW
  clear OW
  have bX : Below u2.heap.size u2 (u2.alloc (.cells #[.slice wq0 ox0.length wc0, .slice wq1 ox1.length wc1, .int .i64 oa2, .slice wq3 ox3.length wc3, .slice wq4 ox4.length wc4, .int .i64 oa5] 37)) := (Below.refl _ _).alloc (Nat.le_refl _) _
  have B6n := hide (Rec.new u2 [.slice wq0 ox0.length wc0, .slice wq1 ox1.length wc1, .int .i64 oa2, .slice wq3 ox3.length wc3, .slice wq4 ox4.length wc4, .int .i64 oa5] 37)
  have B6s : Hid (u2.heap.size < (u2.alloc (.cells #[.slice wq0 ox0.length wc0, .slice wq1 ox1.length wc1, .int .i64 oa2, .slice wq3 ox3.length wc3, .slice wq4 ox4.length wc4, .int .i64 oa5] 37)).heap.size) := B6n.out.lt
  replace TA := hide (TA.out.below bX)
  replace W0 := hide (symR.ob W0.out bX)
  replace BW := hide (BW.out.trans (bX.mono BW.out.size))
  clear bX
  have B6 := B6n
  clear B6n
  have ta0 := TA.out.cell 0 _ rfl
  have ta1 := TA.out.cell 1 _ rfl
  have ta2 := TA.out.cell 2 _ rfl
  have ta3 := TA.out.cell 3 _ rfl
  have ta4 := TA.out.cell 4 _ rfl
  have ta5 := TA.out.cell 5 _ rfl
  go_wp2_with fail
  refine (toSymSym x0 x1 a2 x3 x4 a5 _ _ (symR.rb RM.out BW.out) HS.out).mono ?_
  rintro e u3 ⟨h0, h1, h3, h4, rfl, MX, hb⟩
  clear ta0 ta1 ta2 ta3 ta4 ta5
  have L3 : Hid ((u2.alloc (.cells #[.slice wq0 ox0.length wc0, .slice wq1 ox1.length wc1, .int .i64 oa2, .slice wq3 ox3.length wc3, .slice wq4 ox4.length wc4, .int .i64 oa5] 37)).heap.size ≤ u3.heap.size) := hb.size
  replace TA := hide (TA.out.below hb)
  replace B6 := hide (B6.out.below hb)
  replace W0 := hide (symR.ob W0.out hb)
  replace BW := hide (BW.out.trans (hb.mono BW.out.size))
  clear hb
  have X0 := hide MX
  clear MX
  have bX : Below u3.heap.size u3 (u3.alloc (.cells #[.slice (some ⟨h0, 0, none⟩) x0.length x0.length, .slice (some ⟨h1, 0, none⟩) x1.length x1.length, .int .i64 a2, .slice (some ⟨h3, 0, none⟩) x3.length x3.length, .slice (some ⟨h4, 0, none⟩) x4.length x4.length, .int .i64 a5] 37)) := (Below.refl _ _).alloc (Nat.le_refl _) _
  have B7n := hide (Rec.new u3 [.slice (some ⟨h0, 0, none⟩) x0.length x0.length, .slice (some ⟨h1, 0, none⟩) x1.length x1.length, .int .i64 a2, .slice (some ⟨h3, 0, none⟩) x3.length x3.length, .slice (some ⟨h4, 0, none⟩) x4.length x4.length, .int .i64 a5] 37)
  have B7s : Hid (u3.heap.size < (u3.alloc (.cells #[.slice (some ⟨h0, 0, none⟩) x0.length x0.length, .slice (some ⟨h1, 0, none⟩) x1.length x1.length, .int .i64 a2, .slice (some ⟨h3, 0, none⟩) x3.length x3.length, .slice (some ⟨h4, 0, none⟩) x4.length x4.length, .int .i64 a5] 37)).heap.size) := B7n.out.lt
  replace TA := hide (TA.out.below bX)
  replace B6 := hide (B6.out.below bX)
  replace W0 := hide (symR.ob W0.out bX)
  replace X0 := hide (symR.ob X0.out bX)
  replace BW := hide (BW.out.trans (bX.mono BW.out.size))
  clear bX
  have B7 := B7n
  clear B7n
  have cx0 := B7.out.cell 0 _ rfl
  have cx1 := B7.out.cell 1 _ rfl
  have cx2 := B7.out.cell 2 _ rfl
  have cx3 := B7.out.cell 3 _ rfl
  have cx4 := B7.out.cell 4 _ rfl
  have cx5 := B7.out.cell 5 _ rfl
  go_wp2_with fail
  refine (implEnd x0 x1 a2 x3 x4 a5 a1 _ _ (symR.od X0.out) HS.out).mono ?_
  rintro e u4 ⟨cg, rfl, OW, hb⟩
  have L4 : Hid ((u3.alloc (.cells #[.slice (some ⟨h0, 0, none⟩) x0.length x0.length, .slice (some ⟨h1, 0, none⟩) x1.length x1.length, .int .i64 a2, .slice (some ⟨h3, 0, none⟩) x3.length x3.length, .slice (some ⟨h4, 0, none⟩) x4.length x4.length, .int .i64 a5] 37)).heap.size ≤ u4.heap.size) := hb.size
  clear cx0 cx1 cx2 cx3 cx4 cx5
  replace TA := hide (TA.out.below hb)
  replace B6 := hide (B6.out.below hb)
  replace B7 := hide (B7.out.below hb)
  replace W0 := hide (symR.ob W0.out hb)
  replace X0 := hide (symR.ob X0.out hb)
  replace BW := hide (BW.out.trans (hb.mono BW.out.size))
  clear hb
  rw [EO.out] at OW
  have G0 := hide OW
  obtain ⟨gq0, gc0, gq1, gc1, gq3, gc3, gq4, gc4, _, _, _, _, rfl, -⟩ := symR_own OW
  clear OW
  have bX : Below u4.heap.size u4 (u4.alloc (.cells #[.slice gq0 ox0.length gc0, .slice gq1 ox1.length gc1, .int .i64 oa2, .slice gq3 ox3.length gc3, .slice gq4 ox4.length gc4, .int .i64 oa5] 37)) := (Below.refl _ _).alloc (Nat.le_refl _) _
  have B8n := hide (Rec.new u4 [.slice gq0 ox0.length gc0, .slice gq1 ox1.length gc1, .int .i64 oa2, .slice gq3 ox3.length gc3, .slice gq4 ox4.length gc4, .int .i64 oa5] 37)
  have B8s : Hid (u4.heap.size < (u4.alloc (.cells #[.slice gq0 ox0.length gc0, .slice gq1 ox1.length gc1, .int .i64 oa2, .slice gq3 ox3.length gc3, .slice gq4 ox4.length gc4, .int .i64 oa5] 37)).heap.size) := B8n.out.lt
  replace TA := hide (TA.out.below bX)
  replace B6 := hide (B6.out.below bX)
  replace B7 := hide (B7.out.below bX)
  replace W0 := hide (symR.ob W0.out bX)
  replace X0 := hide (symR.ob X0.out bX)
  replace G0 := hide (symR.ob G0.out bX)
  replace BW := hide (BW.out.trans (bX.mono BW.out.size))
  clear bX
  have B8 := B8n
  clear B8n
  have cx0 := B8.out.cell 0 _ rfl
  have cx1 := B8.out.cell 1 _ rfl
  have cx2 := B8.out.cell 2 _ rfl
  have cx3 := B8.out.cell 3 _ rfl
  have cx4 := B8.out.cell 4 _ rfl
  have cx5 := B8.out.cell 5 _ rfl
  have cy0 := B6.out.cell 0 _ rfl
  have cy1 := B6.out.cell 1 _ rfl
  have cy2 := B6.out.cell 2 _ rfl
  have cy3 := B6.out.cell 3 _ rfl
  have cy4 := B6.out.cell 4 _ rfl
  have cy5 := B6.out.cell 5 _ rfl
  go_wp2_with fail
  refine (eqSymSym ox0 ox1 oa2 ox3 ox4 oa5 _ _ _ (symR.od G0.out) (symR.od W0.out)).mono ?_
  rintro e u5 ⟨rfl, hb⟩
  clear cx0 cx1 cx2 cx3 cx4 cx5
  clear cy0 cy1 cy2 cy3 cy4 cy5
  have L5 : Hid ((u4.alloc (.cells #[.slice gq0 ox0.length gc0, .slice gq1 ox1.length gc1, .int .i64 oa2, .slice gq3 ox3.length gc3, .slice gq4 ox4.length gc4, .int .i64 oa5] 37)).heap.size ≤ u5.heap.size) := hb.size
  replace TA := hide (TA.out.below hb)
  replace B6 := hide (B6.out.below hb)
  replace B7 := hide (B7.out.below hb)
  replace B8 := hide (B8.out.below hb)
  replace W0 := hide (symR.ob W0.out hb)
  replace X0 := hide (symR.ob X0.out hb)
  replace G0 := hide (symR.ob G0.out hb)
  replace BW := hide (BW.out.trans (hb.mono BW.out.size))
  clear hb
  have cx0 := B7.out.cell 0 _ rfl
  have cx1 := B7.out.cell 1 _ rfl
  have cx2 := B7.out.cell 2 _ rfl
  have cx3 := B7.out.cell 3 _ rfl
  have cx4 := B7.out.cell 4 _ rfl
  have cx5 := B7.out.cell 5 _ rfl
  have ta0 := TA.out.cell 0 _ rfl
  have ta1 := TA.out.cell 1 _ rfl
  have ta2 := TA.out.cell 2 _ rfl
  have ta3 := TA.out.cell 3 _ rfl
  have ta4 := TA.out.cell 4 _ rfl
  have ta5 := TA.out.cell 5 _ rfl
  go_wp2_with fail
  have DU : Below u5.heap.size u5 u5.drew := (Below.refl _ _).drew
  replace TA := hide (TA.out.below DU)
  replace B6 := hide (B6.out.below DU)
  replace B7 := hide (B7.out.below DU)
  replace B8 := hide (B8.out.below DU)
  replace W0 := hide (symR.ob W0.out DU)
  replace X0 := hide (symR.ob X0.out DU)
  replace G0 := hide (symR.ob G0.out DU)
  replace BW := hide (BW.out.trans (DU.mono BW.out.size))
  clear DU
  clear cx0 cx1 cx2 cx3 cx4 cx5
  clear ta0 ta1 ta2 ta3 ta4 ta5
  have SS : Rec u3.heap.size [.slice (some ⟨h0, 0, none⟩) x0.length x0.length, .slice (some ⟨h1, 0, none⟩) x1.length x1.length, .int .i64 a2, .slice (some ⟨h3, 0, none⟩) x3.length x3.length, .slice (some ⟨h4, 0, none⟩) x4.length x4.length, .int .i64 a5] u5.drew ∧ Rec w.heap.size [.slice q0 x0.length c0, .slice q1 x1.length c1, .int .i64 a2, .slice q3 x3.length c3, .slice q4 x4.length c4, .int .i64 a5] u5.drew := ⟨B7.out, TA.out⟩
  refine wp_region_held_drew (S := fun v => (Rec u3.heap.size [.slice (some ⟨h0, 0, none⟩) x0.length x0.length, .slice (some ⟨h1, 0, none⟩) x1.length x1.length, .int .i64 a2, .slice (some ⟨h3, 0, none⟩) x3.length x3.length, .slice (some ⟨h4, 0, none⟩) x4.length x4.length, .int .i64 a5] v ∧ Rec w.heap.size [.slice q0 x0.length c0, .slice q1 x1.length c1, .int .i64 a2, .slice q3 x3.length c3, .slice q4 x4.length c4, .int .i64 a5] v)) (by kernel_rfl) SS (fun hHeld => ?_)
  refine wpAnyH_take (i := 0) (v := ?_) rfl (by kernel_rfl) (by kernel_rfl) (by kernel_rfl) (fun _ _ _ h => h) (Or.inl ⟨by kernel_rfl, ?_⟩) hHeld ?_
  rotate_left
  · intro w' hSw
    (try dsimp only at hSw)
    have z0 := hSw.1.cell 0 _ rfl
    have z1 := hSw.1.cell 1 _ rfl
    have z2 := hSw.1.cell 2 _ rfl
    have z3 := hSw.1.cell 3 _ rfl
    have z4 := hSw.1.cell 4 _ rfl
    have z5 := hSw.1.cell 5 _ rfl
    go_simp
    first | done | with_reducible rfl
  try simp only [Act.put, List.getElem_toArray, List.getElem_cons_succ, List.getElem_cons_zero, List.setIfInBounds_toArray, List.set]
  refine wpAnyH_take (i := 1) (v := ?_) rfl (by kernel_rfl) (by kernel_rfl) (by kernel_rfl) (fun _ _ _ h => h) (Or.inl ⟨by kernel_rfl, ?_⟩) hHeld ?_
  rotate_left
  · intro w' hSw
    (try dsimp only at hSw)
    have z0 := hSw.2.cell 0 _ rfl
    have z1 := hSw.2.cell 1 _ rfl
    have z2 := hSw.2.cell 2 _ rfl
    have z3 := hSw.2.cell 3 _ rfl
    have z4 := hSw.2.cell 4 _ rfl
    have z5 := hSw.2.cell 5 _ rfl
    go_simp
    first | done | with_reducible rfl
  try simp only [Act.put, List.getElem_toArray, List.getElem_cons_succ, List.getElem_cons_zero, List.setIfInBounds_toArray, List.set]
  clear SS hHeld
  refine wpAnyH_ready (rs := [2]) (by kernel_rfl) (by simp) ?_
  refine AllReadyH.cons rfl (fun K hK => ?_) AllReadyH.nil
  go_simp
  refine (toSymSym x0 x1 a2 x3 x4 a5 _ _ (symR.rb RM.out BW.out) HS.out).mono ?_
  rintro e v7 ⟨k0, k1, k3, k4, rfl, M7, hb⟩
  have R7 := hide (symR.od M7)
  have L6 : Hid (u5.heap.size ≤ v7.heap.size) := hb.size
  clear M7
  replace TA := hide (TA.out.below hb)
  replace B6 := hide (B6.out.below hb)
  replace B7 := hide (B7.out.below hb)
  replace B8 := hide (B8.out.below hb)
  replace W0 := hide (symR.ob W0.out hb)
  replace X0 := hide (symR.ob X0.out hb)
  replace G0 := hide (symR.ob G0.out hb)
  replace BW := hide (BW.out.trans (hb.mono BW.out.size))
  clear hb
  have SU : Rec u3.heap.size [.slice (some ⟨h0, 0, none⟩) x0.length x0.length, .slice (some ⟨h1, 0, none⟩) x1.length x1.length, .int .i64 a2, .slice (some ⟨h3, 0, none⟩) x3.length x3.length, .slice (some ⟨h4, 0, none⟩) x4.length x4.length, .int .i64 a5] v7 ∧ Rec w.heap.size [.slice q0 x0.length c0, .slice q1 x1.length c1, .int .i64 a2, .slice q3 x3.length c3, .slice q4 x4.length c4, .int .i64 a5] v7 := ⟨B7.out, TA.out⟩
  refine hK.out _ _ SU (fun hHeld => ?_)
  clear hK K SU
  try simp only [Act.put, List.getElem_toArray, List.getElem_cons_succ, List.getElem_cons_zero, List.setIfInBounds_toArray, List.set]
  refine wpAnyH_ready (rs := [3]) (by kernel_rfl) (by simp) ?_
  refine AllReadyH.cons rfl (fun K hK => ?_) AllReadyH.nil
  go_simp
  refine (eqSymSym x0 x1 a2 x3 x4 a5 _ _ _ (symR.od X0.out) R7.out).mono ?_
  rintro e x7 ⟨rfl, hb⟩
  clear R7
  have L7 : Hid (v7.heap.size ≤ x7.heap.size) := hb.size
  replace TA := hide (TA.out.below hb)
  replace B6 := hide (B6.out.below hb)
  replace B7 := hide (B7.out.below hb)
  replace B8 := hide (B8.out.below hb)
  replace W0 := hide (symR.ob W0.out hb)
  replace X0 := hide (symR.ob X0.out hb)
  replace G0 := hide (symR.ob G0.out hb)
  replace BW := hide (BW.out.trans (hb.mono BW.out.size))
  clear hb
  have SU : Rec u3.heap.size [.slice (some ⟨h0, 0, none⟩) x0.length x0.length, .slice (some ⟨h1, 0, none⟩) x1.length x1.length, .int .i64 a2, .slice (some ⟨h3, 0, none⟩) x3.length x3.length, .slice (some ⟨h4, 0, none⟩) x4.length x4.length, .int .i64 a5] x7 ∧ Rec w.heap.size [.slice q0 x0.length c0, .slice q1 x1.length c1, .int .i64 a2, .slice q3 x3.length c3, .slice q4 x4.length c4, .int .i64 a5] x7 := ⟨B7.out, TA.out⟩
  refine hK.out _ _ SU (fun hHeld => ?_)
  clear hK K SU
  try simp only [Act.put, List.getElem_toArray, List.getElem_cons_succ, List.getElem_cons_zero, List.setIfInBounds_toArray, List.set]
  refine wpAnyH_take (i := 4) (v := ?_) rfl (by kernel_rfl) (by kernel_rfl) (by kernel_rfl) (fun _ _ _ h => h) (Or.inl ⟨by kernel_rfl, ?_⟩) hHeld ?_
  rotate_left
  · intro w' hSw
    (try dsimp only at hSw)
    go_simp
    first | done | with_reducible rfl
  try simp only [Act.put, List.getElem_toArray, List.getElem_cons_succ, List.getElem_cons_zero, List.setIfInBounds_toArray, List.set]
  refine wpAnyH_done (by kernel_rfl) ?_ _
  clear hHeld
  obtain ⟨kx, ekx⟩ : ∃ z : Int, 1 + ((symR.nx (x0, x1, a2, x3, x4, a5) : Nat) : Int) = z := ⟨_, rfl⟩
  have kx0 : ¬ kx < 0 := by omega
  have EK := hide ekx
  have NI := NXI.out
  clear ekx
  have cx0 := B7.out.cell 0 _ rfl
  have cx1 := B7.out.cell 1 _ rfl
  have cx2 := B7.out.cell 2 _ rfl
  have cx3 := B7.out.cell 3 _ rfl
  have cx4 := B7.out.cell 4 _ rfl
  have cx5 := B7.out.cell 5 _ rfl
  go_wp2_with fail
  refine (markSymSym x0 x1 a2 x3 x4 a5 1 _ _ _ X0.out (fun b hb => by have := hb.2; have := LT0.out; have := L1.out; have := L2.out; have := L3.out; have := L4.out; have := L5.out; have := B6s.out; have := B7s.out; have := B8s.out; have := L6.out; have := L7.out; omega) (by omega) (by omega)).mono ?_
  rintro e u8 ⟨rfl, XM, KP⟩
  rw [EK.out]
  have L8 : Hid (x7.heap.size ≤ u8.heap.size) := KP.size
  clear cx0 cx1 cx2 cx3 cx4 cx5
  replace TA := hide (TA.out.keep KP (fun hb => by have := hb.1; have := hb.2; have := LT0.out; have := L1.out; have := L2.out; have := L3.out; have := L4.out; have := L5.out; have := B6s.out; have := B7s.out; have := B8s.out; have := L6.out; have := L7.out; omega))
  replace B6 := hide (B6.out.keep KP (fun hb => by have := hb.1; have := hb.2; have := LT0.out; have := L1.out; have := L2.out; have := L3.out; have := L4.out; have := L5.out; have := B6s.out; have := B7s.out; have := B8s.out; have := L6.out; have := L7.out; omega))
  replace B7 := hide (B7.out.keep KP (fun hb => by have := hb.1; have := hb.2; have := LT0.out; have := L1.out; have := L2.out; have := L3.out; have := L4.out; have := L5.out; have := B6s.out; have := B7s.out; have := B8s.out; have := L6.out; have := L7.out; omega))
  replace B8 := hide (B8.out.keep KP (fun hb => by have := hb.1; have := hb.2; have := LT0.out; have := L1.out; have := L2.out; have := L3.out; have := L4.out; have := L5.out; have := B6s.out; have := B7s.out; have := B8s.out; have := L6.out; have := L7.out; omega))
  replace W0 := hide (symR.ok W0.out KP (fun b hx hb => by have := hb.1; have := hb.2; have := hx.1; have := hx.2; have := LT0.out; have := L1.out; have := L2.out; have := L3.out; have := L4.out; have := L5.out; have := B6s.out; have := B7s.out; have := B8s.out; have := L6.out; have := L7.out; omega))
  replace G0 := hide (symR.ok G0.out KP (fun b hx hb => by have := hb.1; have := hb.2; have := hx.1; have := hx.2; have := LT0.out; have := L1.out; have := L2.out; have := L3.out; have := L4.out; have := L5.out; have := B6s.out; have := B7s.out; have := B8s.out; have := L6.out; have := L7.out; omega))
  replace BW := hide (BW.out.trans (KP.below BW.out.size (fun k hk hb => by have := hb.1; have := LT0.out; have := L1.out; have := L2.out; have := L3.out; have := L4.out; have := L5.out; have := B6s.out; have := B7s.out; have := B8s.out; have := L6.out; have := L7.out; omega)))
  clear KP
  have XM2 := hide XM
  clear XM X0
  have cx0 := B8.out.cell 0 _ rfl
  have cx1 := B8.out.cell 1 _ rfl
  have cx2 := B8.out.cell 2 _ rfl
  have cx3 := B8.out.cell 3 _ rfl
  have cx4 := B8.out.cell 4 _ rfl
  have cx5 := B8.out.cell 5 _ rfl
  have cy0 := B6.out.cell 0 _ rfl
  have cy1 := B6.out.cell 1 _ rfl
  have cy2 := B6.out.cell 2 _ rfl
  have cy3 := B6.out.cell 3 _ rfl
  have cy4 := B6.out.cell 4 _ rfl
  have cy5 := B6.out.cell 5 _ rfl
  go_wp2_with fail
  refine (eqSymSym ox0 ox1 oa2 ox3 ox4 oa5 _ _ _ (symR.od G0.out) (symR.od W0.out)).mono ?_
  rintro e u9 ⟨rfl, hb⟩
  clear cx0 cx1 cx2 cx3 cx4 cx5
  clear cy0 cy1 cy2 cy3 cy4 cy5
  have L9 : Hid (u8.heap.size ≤ u9.heap.size) := hb.size
  clear XM2 EK
  clear B7
  replace TA := hide (TA.out.below hb)
  replace B6 := hide (B6.out.below hb)
  replace B8 := hide (B8.out.below hb)
  replace W0 := hide (symR.ob W0.out hb)
  replace G0 := hide (symR.ob G0.out hb)
  replace BW := hide (BW.out.trans (hb.mono BW.out.size))
  clear hb
  obtain ⟨kg, ekg⟩ : ∃ z : Int, 1 + ((symR.nx (ox0, ox1, oa2, ox3, ox4, oa5) : Nat) : Int) = z := ⟨_, rfl⟩
  have kg0 : ¬ kg < 0 := by omega
  have kg1 := same_int kg
  have EG := hide ekg
  have NG := NXO.out
  clear ekg
  have cx0 := B8.out.cell 0 _ rfl
  have cx1 := B8.out.cell 1 _ rfl
  have cx2 := B8.out.cell 2 _ rfl
  have cx3 := B8.out.cell 3 _ rfl
  have cx4 := B8.out.cell 4 _ rfl
  have cx5 := B8.out.cell 5 _ rfl
  go_wp2_with fail
  refine (markSymSym ox0 ox1 oa2 ox3 ox4 oa5 1 _ _ _ G0.out (fun b hb => by have := hb.2; have := LT0.out; have := L1.out; have := L2.out; have := L3.out; have := L4.out; have := L5.out; have := B6s.out; have := B7s.out; have := B8s.out; have := L6.out; have := L7.out; have := L8.out; have := L9.out; omega) (by omega) (by omega)).mono ?_
  rintro e u10 ⟨rfl, GM, KP⟩
  rw [EG.out]
  have L10 : Hid (u9.heap.size ≤ u10.heap.size) := KP.size
  clear cx0 cx1 cx2 cx3 cx4 cx5
  replace TA := hide (TA.out.keep KP (fun hb => by have := hb.1; have := hb.2; have := LT0.out; have := L1.out; have := L2.out; have := L3.out; have := L4.out; have := L5.out; have := B6s.out; have := B7s.out; have := B8s.out; have := L6.out; have := L7.out; have := L8.out; have := L9.out; omega))
  replace B6 := hide (B6.out.keep KP (fun hb => by have := hb.1; have := hb.2; have := LT0.out; have := L1.out; have := L2.out; have := L3.out; have := L4.out; have := L5.out; have := B6s.out; have := B7s.out; have := B8s.out; have := L6.out; have := L7.out; have := L8.out; have := L9.out; omega))
  replace B8 := hide (B8.out.keep KP (fun hb => by have := hb.1; have := hb.2; have := LT0.out; have := L1.out; have := L2.out; have := L3.out; have := L4.out; have := L5.out; have := B6s.out; have := B7s.out; have := B8s.out; have := L6.out; have := L7.out; have := L8.out; have := L9.out; omega))
  replace W0 := hide (symR.ok W0.out KP (fun b hx hb => by have := hb.1; have := hb.2; have := hx.1; have := hx.2; have := LT0.out; have := L1.out; have := L2.out; have := L3.out; have := L4.out; have := L5.out; have := B6s.out; have := B7s.out; have := B8s.out; have := L6.out; have := L7.out; have := L8.out; have := L9.out; omega))
  replace BW := hide (BW.out.trans (KP.below BW.out.size (fun k hk hb => by have := hb.1; have := LT0.out; have := L1.out; have := L2.out; have := L3.out; have := L4.out; have := L5.out; have := B6s.out; have := B7s.out; have := B8s.out; have := L6.out; have := L7.out; have := L8.out; have := L9.out; omega)))
  clear KP
  have GM2 := hide GM
  clear GM G0
  have cx0 := B8.out.cell 0 _ rfl
  have cx1 := B8.out.cell 1 _ rfl
  have cx2 := B8.out.cell 2 _ rfl
  have cx3 := B8.out.cell 3 _ rfl
  have cx4 := B8.out.cell 4 _ rfl
  have cx5 := B8.out.cell 5 _ rfl
  go_wp2_with fail
  refine (heldSymSym ox0 ox1 oa2 ox3 ox4 oa5 1 _ _ (symR.od GM2.out) (by omega) (by omega)).mono ?_
  rintro e u11 ⟨rfl, hb⟩
  rw [EG.out]
  clear cx0 cx1 cx2 cx3 cx4 cx5
  replace TA := hide (TA.out.below hb)
  replace B6 := hide (B6.out.below hb)
  replace B8 := hide (B8.out.below hb)
  replace W0 := hide (symR.ob W0.out hb)
  replace GM2 := hide (symR.ob GM2.out hb)
  replace BW := hide (BW.out.trans (hb.mono BW.out.size))
  clear hb
  have ta0 := TA.out.cell 0 _ rfl
  have ta1 := TA.out.cell 1 _ rfl
  have ta2 := TA.out.cell 2 _ rfl
  have ta3 := TA.out.cell 3 _ rfl
  have ta4 := TA.out.cell 4 _ rfl
  have ta5 := TA.out.cell 5 _ rfl
  go_wp2_with fail
  refine (toSymSym x0 x1 a2 x3 x4 a5 _ _ (symR.rb RM.out BW.out) HS.out).mono ?_
  rintro e u12 ⟨r0, r1, r3, r4, rfl, MH, hb⟩
  clear ta0 ta1 ta2 ta3 ta4 ta5
  have RH := hide (symR.od MH)
  clear MH
  replace TA := hide (TA.out.below hb)
  replace B6 := hide (B6.out.below hb)
  replace B8 := hide (B8.out.below hb)
  replace W0 := hide (symR.ob W0.out hb)
  replace GM2 := hide (symR.ob GM2.out hb)
  replace BW := hide (BW.out.trans (hb.mono BW.out.size))
  clear hb
  go_wp2_with fail
  refine (implEnd x0 x1 a2 x3 x4 a5 a1 _ _ RH.out HS.out).mono ?_
  rintro e u13 ⟨ch, rfl, OW, hb⟩
  clear RH
  replace TA := hide (TA.out.below hb)
  replace B6 := hide (B6.out.below hb)
  replace B8 := hide (B8.out.below hb)
  replace W0 := hide (symR.ob W0.out hb)
  replace GM2 := hide (symR.ob GM2.out hb)
  replace BW := hide (BW.out.trans (hb.mono BW.out.size))
  clear hb
  rw [EO.out] at OW
  have H0 := hide OW
  obtain ⟨hq0, hc0, hq1, hc1, hq3, hc3, hq4, hc4, _, _, _, _, rfl, -⟩ := symR_own OW
  clear OW
  have bX : Below u13.heap.size u13 (u13.alloc (.cells #[.slice hq0 ox0.length hc0, .slice hq1 ox1.length hc1, .int .i64 oa2, .slice hq3 ox3.length hc3, .slice hq4 ox4.length hc4, .int .i64 oa5] 37)) := (Below.refl _ _).alloc (Nat.le_refl _) _
  have B9n := hide (Rec.new u13 [.slice hq0 ox0.length hc0, .slice hq1 ox1.length hc1, .int .i64 oa2, .slice hq3 ox3.length hc3, .slice hq4 ox4.length hc4, .int .i64 oa5] 37)
  have B9s : Hid (u13.heap.size < (u13.alloc (.cells #[.slice hq0 ox0.length hc0, .slice hq1 ox1.length hc1, .int .i64 oa2, .slice hq3 ox3.length hc3, .slice hq4 ox4.length hc4, .int .i64 oa5] 37)).heap.size) := B9n.out.lt
  replace TA := hide (TA.out.below bX)
  replace B6 := hide (B6.out.below bX)
  replace B8 := hide (B8.out.below bX)
  replace W0 := hide (symR.ob W0.out bX)
  replace GM2 := hide (symR.ob GM2.out bX)
  replace H0 := hide (symR.ob H0.out bX)
  replace BW := hide (BW.out.trans (bX.mono BW.out.size))
  clear bX
  have B9 := B9n
  clear B9n
  have cx0 := B9.out.cell 0 _ rfl
  have cx1 := B9.out.cell 1 _ rfl
  have cx2 := B9.out.cell 2 _ rfl
  have cx3 := B9.out.cell 3 _ rfl
  have cx4 := B9.out.cell 4 _ rfl
  have cx5 := B9.out.cell 5 _ rfl
  have cy0 := B6.out.cell 0 _ rfl
  have cy1 := B6.out.cell 1 _ rfl
  have cy2 := B6.out.cell 2 _ rfl
  have cy3 := B6.out.cell 3 _ rfl
  have cy4 := B6.out.cell 4 _ rfl
  have cy5 := B6.out.cell 5 _ rfl
  go_wp2_with fail
  refine (eqSymSym ox0 ox1 oa2 ox3 ox4 oa5 _ _ _ (symR.od H0.out) (symR.od W0.out)).mono ?_
  rintro e u14 ⟨rfl, hb⟩
  clear cx0 cx1 cx2 cx3 cx4 cx5
  clear cy0 cy1 cy2 cy3 cy4 cy5
  replace TA := hide (TA.out.below hb)
  replace B6 := hide (B6.out.below hb)
  replace B8 := hide (B8.out.below hb)
  replace B9 := hide (B9.out.below hb)
  replace W0 := hide (symR.ob W0.out hb)
  replace GM2 := hide (symR.ob GM2.out hb)
  replace H0 := hide (symR.ob H0.out hb)
  replace BW := hide (BW.out.trans (hb.mono BW.out.size))
  clear hb
  have cx0 := B8.out.cell 0 _ rfl
  have cx1 := B8.out.cell 1 _ rfl
  have cx2 := B8.out.cell 2 _ rfl
  have cx3 := B8.out.cell 3 _ rfl
  have cx4 := B8.out.cell 4 _ rfl
  have cx5 := B8.out.cell 5 _ rfl
  go_wp2_with fail
  refine (heldSymSym ox0 ox1 oa2 ox3 ox4 oa5 1 _ _ (symR.od GM2.out) (by omega) (by omega)).mono ?_
  rintro e u15 ⟨rfl, hb⟩
  rw [EG.out]
  clear cx0 cx1 cx2 cx3 cx4 cx5
  replace TA := hide (TA.out.below hb)
  replace B6 := hide (B6.out.below hb)
  replace B8 := hide (B8.out.below hb)
  replace B9 := hide (B9.out.below hb)
  replace W0 := hide (symR.ob W0.out hb)
  replace GM2 := hide (symR.ob GM2.out hb)
  replace H0 := hide (symR.ob H0.out hb)
  replace BW := hide (BW.out.trans (hb.mono BW.out.size))
  clear hb
  clear TA B6 B8 B9 W0 H0 GM2
  go_wp2
  go_ret
  exact ⟨rfl, BW.out⟩

set_option maxRecDepth 100000 in
theorem lifted (os : Os) (started : os.Started) (H : Type) (enc : TypeId × Value → H) :
    ReturnsInHanded {} Try.checked os 4 .any (Rows.fnExactSymEndSpec.pre6 enc Try.prog Try.f4 Rows.fnExactSymEndRow.domain false) (Rows.fnExactSymEndSpec.post enc Try.prog Try.f4 false true false false) := by
  refine returnsInHanded_of_change (C := Try.checked) own started (by kernel_rfl) Try.func4
    (ChangeSpec.witness6 (enc := enc) (C := Try.checked) false ⟨#[], #[.agg #[.slice none 0 0, .slice none 0 0, .int .i64 0, .slice none 0 0, .slice none 0 0, .int .i64 0], .int .i64 0], []⟩ 8 (by kernel_rfl) (by kernel_rfl) (by kernel_rfl) (by kernel_rfl)) ?_
  intro W base args ds gs before hval0 hW hcnd hsz0
  have hval : ∀ (j : Nat) t v, Try.f4.params[j]? = some t → args[j]? = some v → Value.okWide Try.prog W .any base t v := hval0
  have hW' := hW
  obtain ⟨p, q, hA0, hV, rfl, hfz, hnd⟩ := hW
  have hA : DataW.TrodAll enc Try.prog W 0 (fun _ => true) true Try.f4.params.toList args.toList ds p := hA0
  rw [Try.params4] at hA hval
  obtain ⟨v0, vs0, d0, ds0, p0, q0, hargs, rfl, rfl, h0, r0⟩ := trodAll_cons hA
  obtain ⟨v1, vs1, d1, ds1, p1, q1, rfl, rfl, rfl, h1, r1⟩ := trodAll_cons r0
  obtain ⟨rfl, rfl, rfl⟩ := trodAll_nil r1
  obtain rfl : args = #[v0, v1] := by cases args; simp_all
  obtain ⟨rfl, rfl⟩ := trodVars_none hV
  have k0 := h0
  have lt0 : ∀ x ∈ p0, x.block < W.heap.size := by obtain ⟨m, hm⟩ := k0; exact DataW.trod_lt m _ _ _ hm
  obtain ⟨a0, rfl, _⟩ := okWide_struct Try.underlying28 (hval 0 28 v0 rfl rfl)
  have w0 : Shape.Holds Try.prog W 9 28 a0.toList := Shape.opened 9 h0
  have k1 := h1
  have lt1 : ∀ x ∈ p1, x.block < W.heap.size := by obtain ⟨m, hm⟩ := k1; exact DataW.trod_lt m _ _ _ hm
  obtain ⟨a1, rfl, rfl, rfl, w1⟩ := open_int Try.underlying3 (hval 1 3 v1 rfl rfl) h1
  clear hA0 hval0
  refine (walk a0 a1 w1 W w0).mono fun e W' ⟨he, hnx⟩ => ?_
  subst he
  exact ⟨_, rfl, _, _, _, [], _, [], hW', trodAll_cons_mk (shut_bool Try.underlying4 _) trodAll_mk0, (trodAll_cons_mk (Below.trod laidOut (by kernel_rfl) (of_decide_eq_true (by kernel_rfl)) k0 hnx lt0) (trodAll_cons_mk (Below.trod laidOut (by kernel_rfl) (of_decide_eq_true (by kernel_rfl)) k1 hnx lt1) trodAll_mk0)), rfl, hnx.frame _, fun h => by cases h⟩

theorem over : Rows.fnExactSymEndRow.holds Try.pinned (OpenSpec.ofChange Rows.fnExactSymEndSpec) :=
  OpenClaim.holds_of_wide 4 Try.f4 rfl rfl rfl rfl rfl rfl rfl ⟨rfl, rfl, rfl, rfl, rfl⟩ rfl rfl rfl rfl rfl (by kernel_rfl) Try.func4 (by kernel_rfl)
    (of_decide_eq_true (by kernel_rfl)) (by unfold Func.isWrapper; first | (rw [if_pos (by decide +kernel)]; kernel_rfl) | (rw [if_neg (by decide +kernel)]; exact ⟨rfl, rfl⟩))
    (fun os started H enc _ => lifted os started H enc)

theorem proved : Rows.FnExactSymEndSaid := over
#print axioms proved
end Go.Proofs.Ytclccaigkcilcaa.fnExactSymEnd
