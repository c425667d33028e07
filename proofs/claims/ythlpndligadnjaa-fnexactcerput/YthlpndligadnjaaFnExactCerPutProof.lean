/-
  At every list of pairs and one more the program's CerPut answers as the specification's CerPut does, field by field, writes into no argument, and its answer owns its memory, behind another call too (the law FnExactCerPut returns true); no condition.
  The frame (lifted, over, proved) is written by my own program after the guide's worked texts; the walk and the lemmas ahead of it are mine.
-/
import Derived.Test.YthlpndligadnjaaRows
import Derived.Test.YthlpndligadnjaaShape
import Derived.Test.YthlpndligadnjaaDtCa
import Derived.Test.YthlpndligadnjaaDtCb
import Derived.Test.YthlpndligadnjaaDtCc
import Derived.Test.YthlpndligadnjaaDtCd
import Derived.Test.YthlpndligadnjaaCaN
import Derived.Test.YthlpndligadnjaaCaEr
import Derived.Test.YthlpndligadnjaaCaFr
import Derived.WalkKit
import Derived.ProofKit
import Derived.OpenShut
import Derived.ShutString
import Derived.ChangeOld
import Derived.Below
import Derived.SizedLaws
namespace Go.Proofs.Ythlpndligadnjaa.fnExactCerPut
open Go.ChangeShapes Go.WideShapes Go.ChangeAt Go.RowKit
open Go.ChangeMaps (open_string shut_string)
set_option linter.unusedVariables false

theorem own : ownKnob Try.prog.godebug = none := by kernel_rfl
theorem laidOut : laidOutB Try.prog = true := by kernel_rfl

open Go.ChangeShapes Go.WideShapes Go.ChangeAt Go.RowKit IntS Pol Dt Flat Irk
open Ir (Opn)
set_option linter.unusedSimpArgs false
set_option linter.unusedVariables false
theorem same_int (z : Int) : (z != z) = false := by simp
theorem same_bool (z : Bool) : (z != z) = false := by simp
theorem boxL (w : World) (o : Obj) : Below w.heap.size w (w.alloc o) := (Below.refl _ _).alloc (Nat.le_refl _) _

set_option maxRecDepth 8000 in
set_option maxHeartbeats 16000000 in
theorem walk (a0 : Option Addr) (len0 cap0 : Nat) (a1 : Array Value) (w : World) (w0 : Shape.Holds Try.prog w 11 51 [.slice a0 len0 cap0]) (w1 : Shape.Holds Try.prog w 10 62 a1.toList)  :
    Calls Try.prog 7 #[.slice a0 len0 cap0, .agg a1] w fun e w' => e = .returned (.bool true) ∧ Below w.heap.size w w' := by
  obtain ⟨vv0, l0, ee0, r0⟩ := cerK_hold w0
  obtain rfl : vv0 = .slice a0 len0 cap0 := by cases ee0; rfl
  have hl0 : len0 = l0.length := by obtain ⟨_, _, e, _⟩ := LRd.form (r0); injection e
  subst hl0
  have RM0 : Hid (cerK.rd w (.slice a0 l0.length cap0) l0) := r0
  clear w0 ee0 r0
  obtain ⟨cc1, rfl⟩ : ∃ l : List Value, a1 = l.toArray := ⟨a1.toList, by simp⟩
  obtain ⟨p1a0, p1a1, p1x2, p1a3, p1a4, p1a5, p1a6, p1a7, p1a8, p1x9, p1a10, p1a11, p1a12, p1a13, hP1⟩ := cerR_hold (cs := cc1) w1
  have RM1 : Hid (cerR.rd w cc1 (p1a0, p1a1, p1x2, p1a3, p1a4, p1a5, p1a6, p1a7, p1a8, p1x9, p1a10, p1a11, p1a12, p1a13)) := hP1
  obtain ⟨q1_2, c1_2, q1_9, c1_9, rfl, -⟩ := cerR_rd hP1
  clear hP1 w1
  obtain ⟨OUT, eO⟩ : ∃ z, putP l0 (p1a0, p1a1, p1x2, p1a3, p1a4, p1a5, p1a6, p1a7, p1a8, p1x9, p1a10, p1a11, p1a12, p1a13) = z := ⟨_, rfl⟩
  have NX0 : Hid (cerK.sz l0 ≤ 1048576 → cerK.nx l0 ≤ 20000000) := cerK_nx l0
  have NX1 : Hid (cerR.sz (p1a0, p1a1, p1x2, p1a3, p1a4, p1a5, p1a6, p1a7, p1a8, p1x9, p1a10, p1a11, p1a12, p1a13) ≤ 1048576 → cerR.nx (p1a0, p1a1, p1x2, p1a3, p1a4, p1a5, p1a6, p1a7, p1a8, p1x9, p1a10, p1a11, p1a12, p1a13) ≤ 20000000) := cerR_nx2 p1a0 p1a1 p1x2 p1a3 p1a4 p1a5 p1a6 p1a7 p1a8 p1x9 p1a10 p1a11 p1a12 p1a13
  have NXO : Hid (cerK.sz l0 ≤ 1048576 → cerR.sz (p1a0, p1a1, p1x2, p1a3, p1a4, p1a5, p1a6, p1a7, p1a8, p1x9, p1a10, p1a11, p1a12, p1a13) ≤ 1048576 → cerK.nx OUT ≤ 100000000) := eO ▸ putP_nx l0 (p1a0, p1a1, p1x2, p1a3, p1a4, p1a5, p1a6, p1a7, p1a8, p1x9, p1a10, p1a11, p1a12, p1a13)
  have EO := hide eO
  clear eO
  have tb1 := Rec.new w [.int .i64 p1a0, .int .i64 p1a1, .slice q1_2 p1x2.length c1_2, .int .i64 p1a3, .int .i64 p1a4, .int .i64 p1a5, .int .i64 p1a6, .int .i64 p1a7, .int .i64 p1a8, .slice q1_9 p1x9.length c1_9, .int .i64 p1a10, .int .i64 p1a11, .int .i64 p1a12, .int .i64 p1a13] 62
  have TA1 := hide tb1
  clear tb1
  have bin : Below w.heap.size w (w.alloc (.cells #[.int .i64 p1a0, .int .i64 p1a1, .slice q1_2 p1x2.length c1_2, .int .i64 p1a3, .int .i64 p1a4, .int .i64 p1a5, .int .i64 p1a6, .int .i64 p1a7, .int .i64 p1a8, .slice q1_9 p1x9.length c1_9, .int .i64 p1a10, .int .i64 p1a11, .int .i64 p1a12, .int .i64 p1a13] 62)) := boxL _ _
  have BW := hide bin
  clear bin
  go_enter Try.func7, Try.ntmps7
  go_wp2_with fail
  generalize (w.alloc (.cells #[.int .i64 p1a0, .int .i64 p1a1, .slice q1_2 p1x2.length c1_2, .int .i64 p1a3, .int .i64 p1a4, .int .i64 p1a5, .int .i64 p1a6, .int .i64 p1a7, .int .i64 p1a8, .slice q1_9 p1x9.length c1_9, .int .i64 p1a10, .int .i64 p1a11, .int .i64 p1a12, .int .i64 p1a13] 62)) = W00 at TA1 BW ⊢
  have L0 : Hid (w.heap.size < W00.heap.size) := TA1.out.lt
  refine (szCerPairS l0 _ 1048576 _ (cerK.rb RM0.out BW.out) (by omega) (by omega)).mono ?_
  rintro e u1 ⟨n0, rfl, nn0, hs0, hb⟩
  replace TA1 := hide (TA1.out.below hb)
  replace BW := hide (BW.out.trans (hb.mono BW.out.size))
  have L1 : Hid (W00.heap.size ≤ u1.heap.size) := hb.size
  clear hb
  by_cases hn0 : n0 < 0
  · clear TA1
    go_wp2
    go_ret
    exact ⟨rfl, BW.out⟩
  have hsq := hs0 (by omega)
  have HS0 : Hid (cerK.sz l0 ≤ 1048576) := show _ ≤ _ by omega
  have NL0 : Hid (0 ≤ n0 ∧ n0 ≤ 1048576) := show _ ∧ _ by omega
  clear hsq hs0 nn0
  have z0_0 := TA1.out.cell 0 _ rfl
  have z0_1 := TA1.out.cell 1 _ rfl
  have z0_2 := TA1.out.cell 2 _ rfl
  have z0_3 := TA1.out.cell 3 _ rfl
  have z0_4 := TA1.out.cell 4 _ rfl
  have z0_5 := TA1.out.cell 5 _ rfl
  have z0_6 := TA1.out.cell 6 _ rfl
  have z0_7 := TA1.out.cell 7 _ rfl
  have z0_8 := TA1.out.cell 8 _ rfl
  have z0_9 := TA1.out.cell 9 _ rfl
  have z0_10 := TA1.out.cell 10 _ rfl
  have z0_11 := TA1.out.cell 11 _ rfl
  have z0_12 := TA1.out.cell 12 _ rfl
  have z0_13 := TA1.out.cell 13 _ rfl
  go_wp2_with fail
  refine (szCerPair p1a0 p1a1 p1x2 p1a3 p1a4 p1a5 p1a6 p1a7 p1a8 p1x9 p1a10 p1a11 p1a12 p1a13 _ n0 _ (cerR.rb RM1.out BW.out) NL0.out.1 NL0.out.2).mono ?_
  rintro e u2 ⟨n1, rfl, nn1, hs1, hb⟩
  clear z0_0 z0_1 z0_2 z0_3 z0_4 z0_5 z0_6 z0_7 z0_8 z0_9 z0_10 z0_11 z0_12 z0_13
  replace TA1 := hide (TA1.out.below hb)
  replace BW := hide (BW.out.trans (hb.mono BW.out.size))
  have L2 : Hid (u1.heap.size ≤ u2.heap.size) := hb.size
  clear hb
  by_cases hn1 : n1 < 0
  · clear TA1
    go_wp2
    go_ret
    exact ⟨rfl, BW.out⟩
  have hsq := hs1 (by omega)
  have hsr := NL0.out
  have HS1 : Hid (cerR.sz (p1a0, p1a1, p1x2, p1a3, p1a4, p1a5, p1a6, p1a7, p1a8, p1x9, p1a10, p1a11, p1a12, p1a13) ≤ 1048576) := show _ ≤ _ by omega
  have NL1 : Hid (0 ≤ n1 ∧ n1 ≤ 1048576) := show _ ∧ _ by omega
  clear hsq hs1 hsr nn1
  replace NX0 := hide (NX0.out HS0.out)
  replace NX1 := hide (NX1.out HS1.out)
  replace NXO := hide (NXO.out HS0.out HS1.out)
  have z0_0 := TA1.out.cell 0 _ rfl
  have z0_1 := TA1.out.cell 1 _ rfl
  have z0_2 := TA1.out.cell 2 _ rfl
  have z0_3 := TA1.out.cell 3 _ rfl
  have z0_4 := TA1.out.cell 4 _ rfl
  have z0_5 := TA1.out.cell 5 _ rfl
  have z0_6 := TA1.out.cell 6 _ rfl
  have z0_7 := TA1.out.cell 7 _ rfl
  have z0_8 := TA1.out.cell 8 _ rfl
  have z0_9 := TA1.out.cell 9 _ rfl
  have z0_10 := TA1.out.cell 10 _ rfl
  have z0_11 := TA1.out.cell 11 _ rfl
  have z0_12 := TA1.out.cell 12 _ rfl
  have z0_13 := TA1.out.cell 13 _ rfl
  go_wp2_with fail
  have hb : Below u2.heap.size u2 u2.drew := (Below.refl _ _).drew
  replace TA1 := hide (TA1.out.below hb)
  replace BW := hide (BW.out.trans (hb.mono BW.out.size))
  have L3 : Hid (u2.heap.size ≤ u2.drew.heap.size) := hb.size
  clear hb
  clear z0_0 z0_1 z0_2 z0_3 z0_4 z0_5 z0_6 z0_7 z0_8 z0_9 z0_10 z0_11 z0_12 z0_13
  have SS : Rec w.heap.size [.int .i64 p1a0, .int .i64 p1a1, .slice q1_2 p1x2.length c1_2, .int .i64 p1a3, .int .i64 p1a4, .int .i64 p1a5, .int .i64 p1a6, .int .i64 p1a7, .int .i64 p1a8, .slice q1_9 p1x9.length c1_9, .int .i64 p1a10, .int .i64 p1a11, .int .i64 p1a12, .int .i64 p1a13] u2.drew ∧ True := ⟨TA1.out, trivial⟩
  refine wp_region_held_drew (S := fun v => (Rec w.heap.size [.int .i64 p1a0, .int .i64 p1a1, .slice q1_2 p1x2.length c1_2, .int .i64 p1a3, .int .i64 p1a4, .int .i64 p1a5, .int .i64 p1a6, .int .i64 p1a7, .int .i64 p1a8, .slice q1_9 p1x9.length c1_9, .int .i64 p1a10, .int .i64 p1a11, .int .i64 p1a12, .int .i64 p1a13] v ∧ True)) (by kernel_rfl) SS (fun hHeld => ?_)
  refine wpAnyH_take (i := 0) (v := ?_) rfl (by kernel_rfl) (by kernel_rfl) (by kernel_rfl) (fun _ _ _ h => h) (Or.inl ⟨by kernel_rfl, ?_⟩) hHeld ?_
  rotate_left
  · intro w' hSw
    (try dsimp only at hSw)
    go_simp
    first | done | with_reducible rfl
  try simp only [Act.put, List.getElem_toArray, List.getElem_cons_succ, List.getElem_cons_zero, List.setIfInBounds_toArray, List.set]
  refine wpAnyH_take (i := 2) (v := ?_) rfl (by kernel_rfl) (by kernel_rfl) (by kernel_rfl) (fun _ _ _ h => h) (Or.inl ⟨by kernel_rfl, ?_⟩) hHeld ?_
  rotate_left
  · intro w' hSw
    (try dsimp only at hSw)
    have y0_0 := hSw.1.cell 0 _ rfl
    have y0_1 := hSw.1.cell 1 _ rfl
    have y0_2 := hSw.1.cell 2 _ rfl
    have y0_3 := hSw.1.cell 3 _ rfl
    have y0_4 := hSw.1.cell 4 _ rfl
    have y0_5 := hSw.1.cell 5 _ rfl
    have y0_6 := hSw.1.cell 6 _ rfl
    have y0_7 := hSw.1.cell 7 _ rfl
    have y0_8 := hSw.1.cell 8 _ rfl
    have y0_9 := hSw.1.cell 9 _ rfl
    have y0_10 := hSw.1.cell 10 _ rfl
    have y0_11 := hSw.1.cell 11 _ rfl
    have y0_12 := hSw.1.cell 12 _ rfl
    have y0_13 := hSw.1.cell 13 _ rfl
    go_simp
    first | done | with_reducible rfl
  try simp only [Act.put, List.getElem_toArray, List.getElem_cons_succ, List.getElem_cons_zero, List.setIfInBounds_toArray, List.set]
  clear SS hHeld
  refine wpAnyH_ready (rs := [1]) (by kernel_rfl) (by simp) ?_
  refine AllReadyH.cons rfl (fun K hK => ?_) AllReadyH.nil
  go_simp
  refine (toCerPairS l0 _ _ (cerK.rb RM0.out BW.out) HS0.out).mono ?_
  rintro e u3 ⟨g0_, rfl, M, hb⟩
  have T1 := hide M
  clear M
  replace TA1 := hide (TA1.out.below hb)
  replace BW := hide (BW.out.trans (hb.mono BW.out.size))
  have L4 : Hid (u2.drew.heap.size ≤ u3.heap.size) := hb.size
  clear hb
  have SU : Rec w.heap.size [.int .i64 p1a0, .int .i64 p1a1, .slice q1_2 p1x2.length c1_2, .int .i64 p1a3, .int .i64 p1a4, .int .i64 p1a5, .int .i64 p1a6, .int .i64 p1a7, .int .i64 p1a8, .slice q1_9 p1x9.length c1_9, .int .i64 p1a10, .int .i64 p1a11, .int .i64 p1a12, .int .i64 p1a13] u3 ∧ True := ⟨TA1.out, trivial⟩
  refine hK.out _ _ SU (fun hHeld => ?_)
  clear hK K SU
  try simp only [Act.put, List.getElem_toArray, List.getElem_cons_succ, List.getElem_cons_zero, List.setIfInBounds_toArray, List.set]
  clear hHeld
  refine wpAnyH_ready (rs := [3]) (by kernel_rfl) (by simp) ?_
  refine AllReadyH.cons rfl (fun K hK => ?_) AllReadyH.nil
  go_simp
  refine (toCerPair p1a0 p1a1 p1x2 p1a3 p1a4 p1a5 p1a6 p1a7 p1a8 p1x9 p1a10 p1a11 p1a12 p1a13 _ _ (cerR.rb RM1.out BW.out) HS1.out).mono ?_
  rintro e u4 ⟨g1_2, g1_9, rfl, M, hb⟩
  have T2 := hide M
  clear M
  replace TA1 := hide (TA1.out.below hb)
  replace T1 := hide (cerK.ob T1.out hb)
  replace BW := hide (BW.out.trans (hb.mono BW.out.size))
  have L5 : Hid (u3.heap.size ≤ u4.heap.size) := hb.size
  clear hb
  have SU : Rec w.heap.size [.int .i64 p1a0, .int .i64 p1a1, .slice q1_2 p1x2.length c1_2, .int .i64 p1a3, .int .i64 p1a4, .int .i64 p1a5, .int .i64 p1a6, .int .i64 p1a7, .int .i64 p1a8, .slice q1_9 p1x9.length c1_9, .int .i64 p1a10, .int .i64 p1a11, .int .i64 p1a12, .int .i64 p1a13] u4 ∧ True := ⟨TA1.out, trivial⟩
  refine hK.out _ _ SU (fun hHeld => ?_)
  clear hK K SU
  try simp only [Act.put, List.getElem_toArray, List.getElem_cons_succ, List.getElem_cons_zero, List.setIfInBounds_toArray, List.set]
  clear hHeld
  refine wpAnyH_ready (rs := [4]) (by kernel_rfl) (by simp) ?_
  refine AllReadyH.cons rfl (fun K hK => ?_) AllReadyH.nil
  go_simp
  refine (specCerPut l0 p1a0 p1a1 p1x2 p1a3 p1a4 p1a5 p1a6 p1a7 p1a8 p1x9 p1a10 p1a11 p1a12 p1a13 _ _ _ _ _ _ (cerK.od T1.out) HS0.out (cerR_r2 (cerR.od T2.out)) (Nat.le_trans (cerR_parts HS1.out).1 (by decide)) (cerR_r9 (cerR.od T2.out)) (Nat.le_trans (cerR_parts HS1.out).2 (by decide))).mono ?_
  rintro e u5 ⟨oq4, oc4, rfl, OW, hb⟩
  rw [EO.out] at OW ⊢
  have W0 := hide OW
  clear OW
  clear T1
  clear T2
  replace TA1 := hide (TA1.out.below hb)
  replace BW := hide (BW.out.trans (hb.mono BW.out.size))
  have L6 : Hid (u4.heap.size ≤ u5.heap.size) := hb.size
  clear hb
  have SU : Rec w.heap.size [.int .i64 p1a0, .int .i64 p1a1, .slice q1_2 p1x2.length c1_2, .int .i64 p1a3, .int .i64 p1a4, .int .i64 p1a5, .int .i64 p1a6, .int .i64 p1a7, .int .i64 p1a8, .slice q1_9 p1x9.length c1_9, .int .i64 p1a10, .int .i64 p1a11, .int .i64 p1a12, .int .i64 p1a13] u5 ∧ True := ⟨TA1.out, trivial⟩
  refine hK.out _ _ SU (fun hHeld => ?_)
  clear hK K SU
  try simp only [Act.put, List.getElem_toArray, List.getElem_cons_succ, List.getElem_cons_zero, List.setIfInBounds_toArray, List.set]
  refine wpAnyH_take (i := 5) (v := ?_) rfl (by kernel_rfl) (by kernel_rfl) (by kernel_rfl) (fun _ _ _ h => h) (Or.inl ⟨by kernel_rfl, ?_⟩) hHeld ?_
  rotate_left
  · intro w' hSw
    (try dsimp only at hSw)
    go_simp
    first | done | with_reducible rfl
  try simp only [Act.put, List.getElem_toArray, List.getElem_cons_succ, List.getElem_cons_zero, List.setIfInBounds_toArray, List.set]
  refine wpAnyH_done (by kernel_rfl) ?_ _
  clear hHeld
  go_wp2_with fail
  refine (toCerPairS l0 _ _ (cerK.rb RM0.out BW.out) HS0.out).mono ?_
  rintro e u6 ⟨x0_, rfl, M, hb⟩
  have X0 := hide M
  clear M
  replace TA1 := hide (TA1.out.below hb)
  replace W0 := hide (cerK.ob W0.out hb)
  replace BW := hide (BW.out.trans (hb.mono BW.out.size))
  have L7 : Hid (u5.heap.size ≤ u6.heap.size) := hb.size
  clear hb
  have z0_0 := TA1.out.cell 0 _ rfl
  have z0_1 := TA1.out.cell 1 _ rfl
  have z0_2 := TA1.out.cell 2 _ rfl
  have z0_3 := TA1.out.cell 3 _ rfl
  have z0_4 := TA1.out.cell 4 _ rfl
  have z0_5 := TA1.out.cell 5 _ rfl
  have z0_6 := TA1.out.cell 6 _ rfl
  have z0_7 := TA1.out.cell 7 _ rfl
  have z0_8 := TA1.out.cell 8 _ rfl
  have z0_9 := TA1.out.cell 9 _ rfl
  have z0_10 := TA1.out.cell 10 _ rfl
  have z0_11 := TA1.out.cell 11 _ rfl
  have z0_12 := TA1.out.cell 12 _ rfl
  have z0_13 := TA1.out.cell 13 _ rfl
  go_wp2_with fail
  refine (toCerPair p1a0 p1a1 p1x2 p1a3 p1a4 p1a5 p1a6 p1a7 p1a8 p1x9 p1a10 p1a11 p1a12 p1a13 _ _ (cerR.rb RM1.out BW.out) HS1.out).mono ?_
  rintro e u7 ⟨x1_2, x1_9, rfl, M, hb⟩
  clear z0_0 z0_1 z0_2 z0_3 z0_4 z0_5 z0_6 z0_7 z0_8 z0_9 z0_10 z0_11 z0_12 z0_13
  have X1 := hide M
  clear M
  replace TA1 := hide (TA1.out.below hb)
  replace W0 := hide (cerK.ob W0.out hb)
  replace X0 := hide (cerK.ob X0.out hb)
  replace BW := hide (BW.out.trans (hb.mono BW.out.size))
  have L8 : Hid (u6.heap.size ≤ u7.heap.size) := hb.size
  clear hb
  have hb : Below u7.heap.size u7 (u7.alloc (.cells #[.int .i64 p1a0, .int .i64 p1a1, .slice (some ⟨x1_2, 0, none⟩) p1x2.length p1x2.length, .int .i64 p1a3, .int .i64 p1a4, .int .i64 p1a5, .int .i64 p1a6, .int .i64 p1a7, .int .i64 p1a8, .slice (some ⟨x1_9, 0, none⟩) p1x9.length p1x9.length, .int .i64 p1a10, .int .i64 p1a11, .int .i64 p1a12, .int .i64 p1a13] 66)) := boxL _ _
  have BX1n := hide (Rec.new u7 [.int .i64 p1a0, .int .i64 p1a1, .slice (some ⟨x1_2, 0, none⟩) p1x2.length p1x2.length, .int .i64 p1a3, .int .i64 p1a4, .int .i64 p1a5, .int .i64 p1a6, .int .i64 p1a7, .int .i64 p1a8, .slice (some ⟨x1_9, 0, none⟩) p1x9.length p1x9.length, .int .i64 p1a10, .int .i64 p1a11, .int .i64 p1a12, .int .i64 p1a13] 66)
  have BX1s : Hid (u7.heap.size < (u7.alloc (.cells #[.int .i64 p1a0, .int .i64 p1a1, .slice (some ⟨x1_2, 0, none⟩) p1x2.length p1x2.length, .int .i64 p1a3, .int .i64 p1a4, .int .i64 p1a5, .int .i64 p1a6, .int .i64 p1a7, .int .i64 p1a8, .slice (some ⟨x1_9, 0, none⟩) p1x9.length p1x9.length, .int .i64 p1a10, .int .i64 p1a11, .int .i64 p1a12, .int .i64 p1a13] 66)).heap.size) := BX1n.out.lt
  replace TA1 := hide (TA1.out.below hb)
  replace W0 := hide (cerK.ob W0.out hb)
  replace X0 := hide (cerK.ob X0.out hb)
  replace X1 := hide (cerR.ob X1.out hb)
  replace BW := hide (BW.out.trans (hb.mono BW.out.size))
  have L9 : Hid (u7.heap.size ≤ (u7.alloc (.cells #[.int .i64 p1a0, .int .i64 p1a1, .slice (some ⟨x1_2, 0, none⟩) p1x2.length p1x2.length, .int .i64 p1a3, .int .i64 p1a4, .int .i64 p1a5, .int .i64 p1a6, .int .i64 p1a7, .int .i64 p1a8, .slice (some ⟨x1_9, 0, none⟩) p1x9.length p1x9.length, .int .i64 p1a10, .int .i64 p1a11, .int .i64 p1a12, .int .i64 p1a13] 66)).heap.size) := hb.size
  clear hb
  have BX1 := BX1n
  clear BX1n
  have z0_0 := BX1.out.cell 0 _ rfl
  have z0_1 := BX1.out.cell 1 _ rfl
  have z0_2 := BX1.out.cell 2 _ rfl
  have z0_3 := BX1.out.cell 3 _ rfl
  have z0_4 := BX1.out.cell 4 _ rfl
  have z0_5 := BX1.out.cell 5 _ rfl
  have z0_6 := BX1.out.cell 6 _ rfl
  have z0_7 := BX1.out.cell 7 _ rfl
  have z0_8 := BX1.out.cell 8 _ rfl
  have z0_9 := BX1.out.cell 9 _ rfl
  have z0_10 := BX1.out.cell 10 _ rfl
  have z0_11 := BX1.out.cell 11 _ rfl
  have z0_12 := BX1.out.cell 12 _ rfl
  have z0_13 := BX1.out.cell 13 _ rfl
  go_wp2_with fail
  refine (implCerPut l0 p1a0 p1a1 p1x2 p1a3 p1a4 p1a5 p1a6 p1a7 p1a8 p1x9 p1a10 p1a11 p1a12 p1a13 _ _ _ _ _ _ (cerK.od X0.out) HS0.out (cerR_r2 (cerR.od X1.out)) (cerR_parts HS1.out).1 (cerR_r9 (cerR.od X1.out)) (cerR_parts HS1.out).2).mono ?_
  rintro e u8 ⟨gq, gc, rfl, OW, hb⟩
  clear z0_0 z0_1 z0_2 z0_3 z0_4 z0_5 z0_6 z0_7 z0_8 z0_9 z0_10 z0_11 z0_12 z0_13
  rw [EO.out] at OW ⊢
  have G0 := hide OW
  clear OW
  replace TA1 := hide (TA1.out.below hb)
  replace BX1 := hide (BX1.out.below hb)
  replace W0 := hide (cerK.ob W0.out hb)
  replace X0 := hide (cerK.ob X0.out hb)
  replace X1 := hide (cerR.ob X1.out hb)
  replace BW := hide (BW.out.trans (hb.mono BW.out.size))
  have L11 : Hid ((u7.alloc (.cells #[.int .i64 p1a0, .int .i64 p1a1, .slice (some ⟨x1_2, 0, none⟩) p1x2.length p1x2.length, .int .i64 p1a3, .int .i64 p1a4, .int .i64 p1a5, .int .i64 p1a6, .int .i64 p1a7, .int .i64 p1a8, .slice (some ⟨x1_9, 0, none⟩) p1x9.length p1x9.length, .int .i64 p1a10, .int .i64 p1a11, .int .i64 p1a12, .int .i64 p1a13] 66)).heap.size ≤ u8.heap.size) := hb.size
  clear hb
  go_wp2_with fail
  refine (eqCerPairS OUT _ _ _ (cerK.od G0.out) (cerK.od W0.out)).mono ?_
  rintro e u9 ⟨rfl, hb⟩
  replace TA1 := hide (TA1.out.below hb)
  replace BX1 := hide (BX1.out.below hb)
  replace W0 := hide (cerK.ob W0.out hb)
  replace X0 := hide (cerK.ob X0.out hb)
  replace X1 := hide (cerR.ob X1.out hb)
  replace G0 := hide (cerK.ob G0.out hb)
  replace BW := hide (BW.out.trans (hb.mono BW.out.size))
  have L12 : Hid (u8.heap.size ≤ u9.heap.size) := hb.size
  clear hb
  go_wp2_with fail
  refine (toCerPairS l0 _ _ (cerK.rb RM0.out BW.out) HS0.out).mono ?_
  rintro e u10 ⟨e0_, rfl, M, hb⟩
  have T5 := hide M
  clear M
  replace TA1 := hide (TA1.out.below hb)
  replace BX1 := hide (BX1.out.below hb)
  replace W0 := hide (cerK.ob W0.out hb)
  replace X0 := hide (cerK.ob X0.out hb)
  replace X1 := hide (cerR.ob X1.out hb)
  replace G0 := hide (cerK.ob G0.out hb)
  replace BW := hide (BW.out.trans (hb.mono BW.out.size))
  have L13 : Hid (u9.heap.size ≤ u10.heap.size) := hb.size
  clear hb
  go_wp2_with fail
  refine (eqCerPairS l0 _ _ _ (cerK.od X0.out) (cerK.od T5.out)).mono ?_
  rintro e u11 ⟨rfl, hb⟩
  clear T5
  replace TA1 := hide (TA1.out.below hb)
  replace BX1 := hide (BX1.out.below hb)
  replace W0 := hide (cerK.ob W0.out hb)
  replace X0 := hide (cerK.ob X0.out hb)
  replace X1 := hide (cerR.ob X1.out hb)
  replace G0 := hide (cerK.ob G0.out hb)
  replace BW := hide (BW.out.trans (hb.mono BW.out.size))
  have L14 : Hid (u10.heap.size ≤ u11.heap.size) := hb.size
  clear hb
  have z0_0 := BX1.out.cell 0 _ rfl
  have z0_1 := BX1.out.cell 1 _ rfl
  have z0_2 := BX1.out.cell 2 _ rfl
  have z0_3 := BX1.out.cell 3 _ rfl
  have z0_4 := BX1.out.cell 4 _ rfl
  have z0_5 := BX1.out.cell 5 _ rfl
  have z0_6 := BX1.out.cell 6 _ rfl
  have z0_7 := BX1.out.cell 7 _ rfl
  have z0_8 := BX1.out.cell 8 _ rfl
  have z0_9 := BX1.out.cell 9 _ rfl
  have z0_10 := BX1.out.cell 10 _ rfl
  have z0_11 := BX1.out.cell 11 _ rfl
  have z0_12 := BX1.out.cell 12 _ rfl
  have z0_13 := BX1.out.cell 13 _ rfl
  have z1_0 := TA1.out.cell 0 _ rfl
  have z1_1 := TA1.out.cell 1 _ rfl
  have z1_2 := TA1.out.cell 2 _ rfl
  have z1_3 := TA1.out.cell 3 _ rfl
  have z1_4 := TA1.out.cell 4 _ rfl
  have z1_5 := TA1.out.cell 5 _ rfl
  have z1_6 := TA1.out.cell 6 _ rfl
  have z1_7 := TA1.out.cell 7 _ rfl
  have z1_8 := TA1.out.cell 8 _ rfl
  have z1_9 := TA1.out.cell 9 _ rfl
  have z1_10 := TA1.out.cell 10 _ rfl
  have z1_11 := TA1.out.cell 11 _ rfl
  have z1_12 := TA1.out.cell 12 _ rfl
  have z1_13 := TA1.out.cell 13 _ rfl
  go_wp2_with fail
  have hb : Below u11.heap.size u11 u11.drew := (Below.refl _ _).drew
  replace TA1 := hide (TA1.out.below hb)
  replace BX1 := hide (BX1.out.below hb)
  replace W0 := hide (cerK.ob W0.out hb)
  replace X0 := hide (cerK.ob X0.out hb)
  replace X1 := hide (cerR.ob X1.out hb)
  replace G0 := hide (cerK.ob G0.out hb)
  replace BW := hide (BW.out.trans (hb.mono BW.out.size))
  have L15 : Hid (u11.heap.size ≤ u11.drew.heap.size) := hb.size
  clear hb
  clear z0_0 z0_1 z0_2 z0_3 z0_4 z0_5 z0_6 z0_7 z0_8 z0_9 z0_10 z0_11 z0_12 z0_13
  clear z1_0 z1_1 z1_2 z1_3 z1_4 z1_5 z1_6 z1_7 z1_8 z1_9 z1_10 z1_11 z1_12 z1_13
  have SS : Rec u7.heap.size [.int .i64 p1a0, .int .i64 p1a1, .slice (some ⟨x1_2, 0, none⟩) p1x2.length p1x2.length, .int .i64 p1a3, .int .i64 p1a4, .int .i64 p1a5, .int .i64 p1a6, .int .i64 p1a7, .int .i64 p1a8, .slice (some ⟨x1_9, 0, none⟩) p1x9.length p1x9.length, .int .i64 p1a10, .int .i64 p1a11, .int .i64 p1a12, .int .i64 p1a13] u11.drew ∧ Rec w.heap.size [.int .i64 p1a0, .int .i64 p1a1, .slice q1_2 p1x2.length c1_2, .int .i64 p1a3, .int .i64 p1a4, .int .i64 p1a5, .int .i64 p1a6, .int .i64 p1a7, .int .i64 p1a8, .slice q1_9 p1x9.length c1_9, .int .i64 p1a10, .int .i64 p1a11, .int .i64 p1a12, .int .i64 p1a13] u11.drew ∧ True := ⟨BX1.out, TA1.out, trivial⟩
  refine wp_region_held_drew (S := fun v => (Rec u7.heap.size [.int .i64 p1a0, .int .i64 p1a1, .slice (some ⟨x1_2, 0, none⟩) p1x2.length p1x2.length, .int .i64 p1a3, .int .i64 p1a4, .int .i64 p1a5, .int .i64 p1a6, .int .i64 p1a7, .int .i64 p1a8, .slice (some ⟨x1_9, 0, none⟩) p1x9.length p1x9.length, .int .i64 p1a10, .int .i64 p1a11, .int .i64 p1a12, .int .i64 p1a13] v ∧ Rec w.heap.size [.int .i64 p1a0, .int .i64 p1a1, .slice q1_2 p1x2.length c1_2, .int .i64 p1a3, .int .i64 p1a4, .int .i64 p1a5, .int .i64 p1a6, .int .i64 p1a7, .int .i64 p1a8, .slice q1_9 p1x9.length c1_9, .int .i64 p1a10, .int .i64 p1a11, .int .i64 p1a12, .int .i64 p1a13] v ∧ True)) (by kernel_rfl) SS (fun hHeld => ?_)
  refine wpAnyH_take (i := 0) (v := ?_) rfl (by kernel_rfl) (by kernel_rfl) (by kernel_rfl) (fun _ _ _ h => h) (Or.inl ⟨by kernel_rfl, ?_⟩) hHeld ?_
  rotate_left
  · intro w' hSw
    (try dsimp only at hSw)
    have y0_0 := hSw.1.cell 0 _ rfl
    have y0_1 := hSw.1.cell 1 _ rfl
    have y0_2 := hSw.1.cell 2 _ rfl
    have y0_3 := hSw.1.cell 3 _ rfl
    have y0_4 := hSw.1.cell 4 _ rfl
    have y0_5 := hSw.1.cell 5 _ rfl
    have y0_6 := hSw.1.cell 6 _ rfl
    have y0_7 := hSw.1.cell 7 _ rfl
    have y0_8 := hSw.1.cell 8 _ rfl
    have y0_9 := hSw.1.cell 9 _ rfl
    have y0_10 := hSw.1.cell 10 _ rfl
    have y0_11 := hSw.1.cell 11 _ rfl
    have y0_12 := hSw.1.cell 12 _ rfl
    have y0_13 := hSw.1.cell 13 _ rfl
    have y1_0 := hSw.2.1.cell 0 _ rfl
    have y1_1 := hSw.2.1.cell 1 _ rfl
    have y1_2 := hSw.2.1.cell 2 _ rfl
    have y1_3 := hSw.2.1.cell 3 _ rfl
    have y1_4 := hSw.2.1.cell 4 _ rfl
    have y1_5 := hSw.2.1.cell 5 _ rfl
    have y1_6 := hSw.2.1.cell 6 _ rfl
    have y1_7 := hSw.2.1.cell 7 _ rfl
    have y1_8 := hSw.2.1.cell 8 _ rfl
    have y1_9 := hSw.2.1.cell 9 _ rfl
    have y1_10 := hSw.2.1.cell 10 _ rfl
    have y1_11 := hSw.2.1.cell 11 _ rfl
    have y1_12 := hSw.2.1.cell 12 _ rfl
    have y1_13 := hSw.2.1.cell 13 _ rfl
    go_simp
    first | done | with_reducible rfl
  try simp only [Act.put, List.getElem_toArray, List.getElem_cons_succ, List.getElem_cons_zero, List.setIfInBounds_toArray, List.set]
  refine wpAnyH_take (i := 1) (v := ?_) rfl (by kernel_rfl) (by kernel_rfl) (by kernel_rfl) (fun _ _ _ h => h) (Or.inl ⟨by kernel_rfl, ?_⟩) hHeld ?_
  rotate_left
  · intro w' hSw
    (try dsimp only at hSw)
    have y0_0 := hSw.1.cell 0 _ rfl
    have y0_1 := hSw.1.cell 1 _ rfl
    have y0_2 := hSw.1.cell 2 _ rfl
    have y0_3 := hSw.1.cell 3 _ rfl
    have y0_4 := hSw.1.cell 4 _ rfl
    have y0_5 := hSw.1.cell 5 _ rfl
    have y0_6 := hSw.1.cell 6 _ rfl
    have y0_7 := hSw.1.cell 7 _ rfl
    have y0_8 := hSw.1.cell 8 _ rfl
    have y0_9 := hSw.1.cell 9 _ rfl
    have y0_10 := hSw.1.cell 10 _ rfl
    have y0_11 := hSw.1.cell 11 _ rfl
    have y0_12 := hSw.1.cell 12 _ rfl
    have y0_13 := hSw.1.cell 13 _ rfl
    have y1_0 := hSw.2.1.cell 0 _ rfl
    have y1_1 := hSw.2.1.cell 1 _ rfl
    have y1_2 := hSw.2.1.cell 2 _ rfl
    have y1_3 := hSw.2.1.cell 3 _ rfl
    have y1_4 := hSw.2.1.cell 4 _ rfl
    have y1_5 := hSw.2.1.cell 5 _ rfl
    have y1_6 := hSw.2.1.cell 6 _ rfl
    have y1_7 := hSw.2.1.cell 7 _ rfl
    have y1_8 := hSw.2.1.cell 8 _ rfl
    have y1_9 := hSw.2.1.cell 9 _ rfl
    have y1_10 := hSw.2.1.cell 10 _ rfl
    have y1_11 := hSw.2.1.cell 11 _ rfl
    have y1_12 := hSw.2.1.cell 12 _ rfl
    have y1_13 := hSw.2.1.cell 13 _ rfl
    go_simp
    first | done | with_reducible rfl
  try simp only [Act.put, List.getElem_toArray, List.getElem_cons_succ, List.getElem_cons_zero, List.setIfInBounds_toArray, List.set]
  clear SS hHeld
  refine wpAnyH_ready (rs := [2]) (by kernel_rfl) (by simp) ?_
  refine AllReadyH.cons rfl (fun K hK => ?_) AllReadyH.nil
  go_simp
  refine (toCerPair p1a0 p1a1 p1x2 p1a3 p1a4 p1a5 p1a6 p1a7 p1a8 p1x9 p1a10 p1a11 p1a12 p1a13 _ _ (cerR.rb RM1.out BW.out) HS1.out).mono ?_
  rintro e u12 ⟨e1_2, e1_9, rfl, M, hb⟩
  have T6 := hide M
  clear M
  replace TA1 := hide (TA1.out.below hb)
  replace BX1 := hide (BX1.out.below hb)
  replace W0 := hide (cerK.ob W0.out hb)
  replace X0 := hide (cerK.ob X0.out hb)
  replace X1 := hide (cerR.ob X1.out hb)
  replace G0 := hide (cerK.ob G0.out hb)
  replace BW := hide (BW.out.trans (hb.mono BW.out.size))
  have L16 : Hid (u11.drew.heap.size ≤ u12.heap.size) := hb.size
  clear hb
  have SU : Rec u7.heap.size [.int .i64 p1a0, .int .i64 p1a1, .slice (some ⟨x1_2, 0, none⟩) p1x2.length p1x2.length, .int .i64 p1a3, .int .i64 p1a4, .int .i64 p1a5, .int .i64 p1a6, .int .i64 p1a7, .int .i64 p1a8, .slice (some ⟨x1_9, 0, none⟩) p1x9.length p1x9.length, .int .i64 p1a10, .int .i64 p1a11, .int .i64 p1a12, .int .i64 p1a13] u12 ∧ Rec w.heap.size [.int .i64 p1a0, .int .i64 p1a1, .slice q1_2 p1x2.length c1_2, .int .i64 p1a3, .int .i64 p1a4, .int .i64 p1a5, .int .i64 p1a6, .int .i64 p1a7, .int .i64 p1a8, .slice q1_9 p1x9.length c1_9, .int .i64 p1a10, .int .i64 p1a11, .int .i64 p1a12, .int .i64 p1a13] u12 ∧ True := ⟨BX1.out, TA1.out, trivial⟩
  refine hK.out _ _ SU (fun hHeld => ?_)
  clear hK K SU
  try simp only [Act.put, List.getElem_toArray, List.getElem_cons_succ, List.getElem_cons_zero, List.setIfInBounds_toArray, List.set]
  clear hHeld
  refine wpAnyH_ready (rs := [3]) (by kernel_rfl) (by simp) ?_
  refine AllReadyH.cons rfl (fun K hK => ?_) AllReadyH.nil
  go_simp
  refine (eqCerPair p1a0 p1a1 p1x2 p1a3 p1a4 p1a5 p1a6 p1a7 p1a8 p1x9 p1a10 p1a11 p1a12 p1a13 _ _ _ (cerR.od X1.out) (cerR.od T6.out)).mono ?_
  rintro e u13 ⟨rfl, hb⟩
  clear T6
  replace TA1 := hide (TA1.out.below hb)
  replace BX1 := hide (BX1.out.below hb)
  replace W0 := hide (cerK.ob W0.out hb)
  replace X0 := hide (cerK.ob X0.out hb)
  replace X1 := hide (cerR.ob X1.out hb)
  replace G0 := hide (cerK.ob G0.out hb)
  replace BW := hide (BW.out.trans (hb.mono BW.out.size))
  have L17 : Hid (u12.heap.size ≤ u13.heap.size) := hb.size
  clear hb
  have SU : Rec u7.heap.size [.int .i64 p1a0, .int .i64 p1a1, .slice (some ⟨x1_2, 0, none⟩) p1x2.length p1x2.length, .int .i64 p1a3, .int .i64 p1a4, .int .i64 p1a5, .int .i64 p1a6, .int .i64 p1a7, .int .i64 p1a8, .slice (some ⟨x1_9, 0, none⟩) p1x9.length p1x9.length, .int .i64 p1a10, .int .i64 p1a11, .int .i64 p1a12, .int .i64 p1a13] u13 ∧ Rec w.heap.size [.int .i64 p1a0, .int .i64 p1a1, .slice q1_2 p1x2.length c1_2, .int .i64 p1a3, .int .i64 p1a4, .int .i64 p1a5, .int .i64 p1a6, .int .i64 p1a7, .int .i64 p1a8, .slice q1_9 p1x9.length c1_9, .int .i64 p1a10, .int .i64 p1a11, .int .i64 p1a12, .int .i64 p1a13] u13 ∧ True := ⟨BX1.out, TA1.out, trivial⟩
  refine hK.out _ _ SU (fun hHeld => ?_)
  clear hK K SU
  try simp only [Act.put, List.getElem_toArray, List.getElem_cons_succ, List.getElem_cons_zero, List.setIfInBounds_toArray, List.set]
  refine wpAnyH_take (i := 4) (v := ?_) rfl (by kernel_rfl) (by kernel_rfl) (by kernel_rfl) (fun _ _ _ h => h) (Or.inl ⟨by kernel_rfl, ?_⟩) hHeld ?_
  rotate_left
  · intro w' hSw
    (try dsimp only at hSw)
    go_simp
    first | done | with_reducible rfl
  try simp only [Act.put, List.getElem_toArray, List.getElem_cons_succ, List.getElem_cons_zero, List.setIfInBounds_toArray, List.set]
  refine wpAnyH_done (by kernel_rfl) ?_ _
  clear hHeld
  have NXo := NXO.out
  have NXi0 := NX0.out
  have NXi1 := NX1.out
  go_wp2_with fail
  refine (markCerPairS l0 1 _ _ _ X0.out (by omega) (by omega)).mono ?_
  rintro e u14 ⟨rfl, XM, KP⟩
  obtain ⟨k0, ek0⟩ : ∃ z : Int, 1 + ((cerK.nx l0 : Nat) : Int) = z := ⟨_, rfl⟩
  rw [ek0]
  have k00 : 0 ≤ k0 ∧ k0 ≤ 1 + 40000000 * 1 := by omega
  have Ek0 := hide ek0
  clear ek0
  replace TA1 := hide (TA1.out.keep KP (fun hb => by have := hb.1; have := hb.2; have := L0.out; have := L1.out; have := L2.out; have := L3.out; have := L4.out; have := L5.out; have := L6.out; have := L7.out; have := L8.out; have := L9.out; have := BX1s.out; have := L11.out; have := L12.out; have := L13.out; have := L14.out; have := L15.out; have := L16.out; have := L17.out; omega))
  replace BX1 := hide (BX1.out.keep KP (fun hb => by have := hb.1; have := hb.2; have := L0.out; have := L1.out; have := L2.out; have := L3.out; have := L4.out; have := L5.out; have := L6.out; have := L7.out; have := L8.out; have := L9.out; have := BX1s.out; have := L11.out; have := L12.out; have := L13.out; have := L14.out; have := L15.out; have := L16.out; have := L17.out; omega))
  replace W0 := hide (cerK.ok W0.out KP (fun b hx hb => by have := hb.1; have := hb.2; have := hx.1; have := hx.2; have := L0.out; have := L1.out; have := L2.out; have := L3.out; have := L4.out; have := L5.out; have := L6.out; have := L7.out; have := L8.out; have := L9.out; have := BX1s.out; have := L11.out; have := L12.out; have := L13.out; have := L14.out; have := L15.out; have := L16.out; have := L17.out; omega))
  replace X1 := hide (cerR.ok X1.out KP (fun b hx hb => by have := hb.1; have := hb.2; have := hx.1; have := hx.2; have := L0.out; have := L1.out; have := L2.out; have := L3.out; have := L4.out; have := L5.out; have := L6.out; have := L7.out; have := L8.out; have := L9.out; have := BX1s.out; have := L11.out; have := L12.out; have := L13.out; have := L14.out; have := L15.out; have := L16.out; have := L17.out; omega))
  replace G0 := hide (cerK.ok G0.out KP (fun b hx hb => by have := hb.1; have := hb.2; have := hx.1; have := hx.2; have := L0.out; have := L1.out; have := L2.out; have := L3.out; have := L4.out; have := L5.out; have := L6.out; have := L7.out; have := L8.out; have := L9.out; have := BX1s.out; have := L11.out; have := L12.out; have := L13.out; have := L14.out; have := L15.out; have := L16.out; have := L17.out; omega))
  replace BW := hide (BW.out.trans (KP.below BW.out.size (fun k hk hb => by have := hb.1; have := L0.out; have := L1.out; have := L2.out; have := L3.out; have := L4.out; have := L5.out; have := L6.out; have := L7.out; have := L8.out; have := L9.out; have := BX1s.out; have := L11.out; have := L12.out; have := L13.out; have := L14.out; have := L15.out; have := L16.out; have := L17.out; omega)))
  have L18 : Hid (u13.heap.size ≤ u14.heap.size) := KP.size
  clear KP
  clear X0 XM
  have z0_0 := BX1.out.cell 0 _ rfl
  have z0_1 := BX1.out.cell 1 _ rfl
  have z0_2 := BX1.out.cell 2 _ rfl
  have z0_3 := BX1.out.cell 3 _ rfl
  have z0_4 := BX1.out.cell 4 _ rfl
  have z0_5 := BX1.out.cell 5 _ rfl
  have z0_6 := BX1.out.cell 6 _ rfl
  have z0_7 := BX1.out.cell 7 _ rfl
  have z0_8 := BX1.out.cell 8 _ rfl
  have z0_9 := BX1.out.cell 9 _ rfl
  have z0_10 := BX1.out.cell 10 _ rfl
  have z0_11 := BX1.out.cell 11 _ rfl
  have z0_12 := BX1.out.cell 12 _ rfl
  have z0_13 := BX1.out.cell 13 _ rfl
  go_wp2_with fail
  refine (markCerPair p1a0 p1a1 p1x2 p1a3 p1a4 p1a5 p1a6 p1a7 p1a8 p1x9 p1a10 p1a11 p1a12 p1a13 k0 _ _ _ X1.out (fun b hb => by have := hb.2; have := L0.out; have := L1.out; have := L2.out; have := L3.out; have := L4.out; have := L5.out; have := L6.out; have := L7.out; have := L8.out; have := L9.out; have := BX1s.out; have := L11.out; have := L12.out; have := L13.out; have := L14.out; have := L15.out; have := L16.out; have := L17.out; have := L18.out; omega) (by omega) (by rw [cerR_nx] at *; omega)).mono ?_
  rintro e u15 ⟨rfl, KP⟩
  clear z0_0 z0_1 z0_2 z0_3 z0_4 z0_5 z0_6 z0_7 z0_8 z0_9 z0_10 z0_11 z0_12 z0_13
  obtain ⟨k1, ek1⟩ : ∃ z : Int, k0 + ((opsK.nx p1x2 : Nat) : Int) + ((opsK.nx p1x9 : Nat) : Int) = z := ⟨_, rfl⟩
  rw [ek1]
  have k10 : 0 ≤ k1 ∧ k1 ≤ 1 + 40000000 * 2 := by rw [cerR_nx] at *; omega
  have Ek1 := hide ek1
  clear ek1
  replace TA1 := hide (TA1.out.keep KP (fun hb => by have := hb.1; have := hb.2; have := L0.out; have := L1.out; have := L2.out; have := L3.out; have := L4.out; have := L5.out; have := L6.out; have := L7.out; have := L8.out; have := L9.out; have := BX1s.out; have := L11.out; have := L12.out; have := L13.out; have := L14.out; have := L15.out; have := L16.out; have := L17.out; have := L18.out; omega))
  replace BX1 := hide (BX1.out.keep KP (fun hb => by have := hb.1; have := hb.2; have := L0.out; have := L1.out; have := L2.out; have := L3.out; have := L4.out; have := L5.out; have := L6.out; have := L7.out; have := L8.out; have := L9.out; have := BX1s.out; have := L11.out; have := L12.out; have := L13.out; have := L14.out; have := L15.out; have := L16.out; have := L17.out; have := L18.out; omega))
  replace W0 := hide (cerK.ok W0.out KP (fun b hx hb => by have := hb.1; have := hb.2; have := hx.1; have := hx.2; have := L0.out; have := L1.out; have := L2.out; have := L3.out; have := L4.out; have := L5.out; have := L6.out; have := L7.out; have := L8.out; have := L9.out; have := BX1s.out; have := L11.out; have := L12.out; have := L13.out; have := L14.out; have := L15.out; have := L16.out; have := L17.out; have := L18.out; omega))
  replace G0 := hide (cerK.ok G0.out KP (fun b hx hb => by have := hb.1; have := hb.2; have := hx.1; have := hx.2; have := L0.out; have := L1.out; have := L2.out; have := L3.out; have := L4.out; have := L5.out; have := L6.out; have := L7.out; have := L8.out; have := L9.out; have := BX1s.out; have := L11.out; have := L12.out; have := L13.out; have := L14.out; have := L15.out; have := L16.out; have := L17.out; have := L18.out; omega))
  replace BW := hide (BW.out.trans (KP.below BW.out.size (fun k hk hb => by have := hb.1; have := L0.out; have := L1.out; have := L2.out; have := L3.out; have := L4.out; have := L5.out; have := L6.out; have := L7.out; have := L8.out; have := L9.out; have := BX1s.out; have := L11.out; have := L12.out; have := L13.out; have := L14.out; have := L15.out; have := L16.out; have := L17.out; have := L18.out; omega)))
  have L19 : Hid (u14.heap.size ≤ u15.heap.size) := KP.size
  clear KP
  clear X1
  clear BX1
  have kx0 : ¬ k1 < 0 := by omega
  go_wp2_with fail
  refine (eqCerPairS OUT _ _ _ (cerK.od G0.out) (cerK.od W0.out)).mono ?_
  rintro e u16 ⟨rfl, hb⟩
  replace TA1 := hide (TA1.out.below hb)
  replace W0 := hide (cerK.ob W0.out hb)
  replace G0 := hide (cerK.ob G0.out hb)
  replace BW := hide (BW.out.trans (hb.mono BW.out.size))
  have L20 : Hid (u15.heap.size ≤ u16.heap.size) := hb.size
  clear hb
  go_wp2_with fail
  refine (markCerPairS OUT 1 _ _ _ G0.out (by omega) (by omega)).mono ?_
  rintro e u17 ⟨rfl, GM, KP⟩
  obtain ⟨kg, ekg⟩ : ∃ z : Int, 1 + ((cerK.nx OUT : Nat) : Int) = z := ⟨_, rfl⟩
  rw [ekg]
  have kg0 : ¬ kg < 0 := by omega
  have kg1 := same_int kg
  have EG := hide ekg
  clear ekg
  replace TA1 := hide (TA1.out.keep KP (fun hb => by have := hb.1; have := hb.2; have := L0.out; have := L1.out; have := L2.out; have := L3.out; have := L4.out; have := L5.out; have := L6.out; have := L7.out; have := L8.out; have := L9.out; have := BX1s.out; have := L11.out; have := L12.out; have := L13.out; have := L14.out; have := L15.out; have := L16.out; have := L17.out; have := L18.out; have := L19.out; have := L20.out; omega))
  replace W0 := hide (cerK.ok W0.out KP (fun b hx hb => by have := hb.1; have := hb.2; have := hx.1; have := hx.2; have := L0.out; have := L1.out; have := L2.out; have := L3.out; have := L4.out; have := L5.out; have := L6.out; have := L7.out; have := L8.out; have := L9.out; have := BX1s.out; have := L11.out; have := L12.out; have := L13.out; have := L14.out; have := L15.out; have := L16.out; have := L17.out; have := L18.out; have := L19.out; have := L20.out; omega))
  replace BW := hide (BW.out.trans (KP.below BW.out.size (fun k hk hb => by have := hb.1; have := L0.out; have := L1.out; have := L2.out; have := L3.out; have := L4.out; have := L5.out; have := L6.out; have := L7.out; have := L8.out; have := L9.out; have := BX1s.out; have := L11.out; have := L12.out; have := L13.out; have := L14.out; have := L15.out; have := L16.out; have := L17.out; have := L18.out; have := L19.out; have := L20.out; omega)))
  have L21 : Hid (u16.heap.size ≤ u17.heap.size) := KP.size
  clear KP
  have GM2 := hide GM
  clear GM G0
  go_wp2_with fail
  refine (heldCerPairS OUT 1 _ _ (cerK.od GM2.out) (by omega) (by omega)).mono ?_
  rintro e u18 ⟨rfl, hb⟩
  rw [EG.out]
  replace TA1 := hide (TA1.out.below hb)
  replace W0 := hide (cerK.ob W0.out hb)
  replace GM2 := hide (cerK.ob GM2.out hb)
  replace BW := hide (BW.out.trans (hb.mono BW.out.size))
  have L22 : Hid (u17.heap.size ≤ u18.heap.size) := hb.size
  clear hb
  have z0_0 := TA1.out.cell 0 _ rfl
  have z0_1 := TA1.out.cell 1 _ rfl
  have z0_2 := TA1.out.cell 2 _ rfl
  have z0_3 := TA1.out.cell 3 _ rfl
  have z0_4 := TA1.out.cell 4 _ rfl
  have z0_5 := TA1.out.cell 5 _ rfl
  have z0_6 := TA1.out.cell 6 _ rfl
  have z0_7 := TA1.out.cell 7 _ rfl
  have z0_8 := TA1.out.cell 8 _ rfl
  have z0_9 := TA1.out.cell 9 _ rfl
  have z0_10 := TA1.out.cell 10 _ rfl
  have z0_11 := TA1.out.cell 11 _ rfl
  have z0_12 := TA1.out.cell 12 _ rfl
  have z0_13 := TA1.out.cell 13 _ rfl
  go_wp2_with fail
  have hb : Below u18.heap.size u18 u18.drew := (Below.refl _ _).drew
  replace TA1 := hide (TA1.out.below hb)
  replace W0 := hide (cerK.ob W0.out hb)
  replace GM2 := hide (cerK.ob GM2.out hb)
  replace BW := hide (BW.out.trans (hb.mono BW.out.size))
  have L23 : Hid (u18.heap.size ≤ u18.drew.heap.size) := hb.size
  clear hb
  clear z0_0 z0_1 z0_2 z0_3 z0_4 z0_5 z0_6 z0_7 z0_8 z0_9 z0_10 z0_11 z0_12 z0_13
  have SS : Rec w.heap.size [.int .i64 p1a0, .int .i64 p1a1, .slice q1_2 p1x2.length c1_2, .int .i64 p1a3, .int .i64 p1a4, .int .i64 p1a5, .int .i64 p1a6, .int .i64 p1a7, .int .i64 p1a8, .slice q1_9 p1x9.length c1_9, .int .i64 p1a10, .int .i64 p1a11, .int .i64 p1a12, .int .i64 p1a13] u18.drew ∧ True := ⟨TA1.out, trivial⟩
  refine wp_region_held_drew (S := fun v => (Rec w.heap.size [.int .i64 p1a0, .int .i64 p1a1, .slice q1_2 p1x2.length c1_2, .int .i64 p1a3, .int .i64 p1a4, .int .i64 p1a5, .int .i64 p1a6, .int .i64 p1a7, .int .i64 p1a8, .slice q1_9 p1x9.length c1_9, .int .i64 p1a10, .int .i64 p1a11, .int .i64 p1a12, .int .i64 p1a13] v ∧ True)) (by kernel_rfl) SS (fun hHeld => ?_)
  refine wpAnyH_take (i := 0) (v := ?_) rfl (by kernel_rfl) (by kernel_rfl) (by kernel_rfl) (fun _ _ _ h => h) (Or.inl ⟨by kernel_rfl, ?_⟩) hHeld ?_
  rotate_left
  · intro w' hSw
    (try dsimp only at hSw)
    go_simp
    first | done | with_reducible rfl
  try simp only [Act.put, List.getElem_toArray, List.getElem_cons_succ, List.getElem_cons_zero, List.setIfInBounds_toArray, List.set]
  refine wpAnyH_take (i := 2) (v := ?_) rfl (by kernel_rfl) (by kernel_rfl) (by kernel_rfl) (fun _ _ _ h => h) (Or.inl ⟨by kernel_rfl, ?_⟩) hHeld ?_
  rotate_left
  · intro w' hSw
    (try dsimp only at hSw)
    have y0_0 := hSw.1.cell 0 _ rfl
    have y0_1 := hSw.1.cell 1 _ rfl
    have y0_2 := hSw.1.cell 2 _ rfl
    have y0_3 := hSw.1.cell 3 _ rfl
    have y0_4 := hSw.1.cell 4 _ rfl
    have y0_5 := hSw.1.cell 5 _ rfl
    have y0_6 := hSw.1.cell 6 _ rfl
    have y0_7 := hSw.1.cell 7 _ rfl
    have y0_8 := hSw.1.cell 8 _ rfl
    have y0_9 := hSw.1.cell 9 _ rfl
    have y0_10 := hSw.1.cell 10 _ rfl
    have y0_11 := hSw.1.cell 11 _ rfl
    have y0_12 := hSw.1.cell 12 _ rfl
    have y0_13 := hSw.1.cell 13 _ rfl
    go_simp
    first | done | with_reducible rfl
  try simp only [Act.put, List.getElem_toArray, List.getElem_cons_succ, List.getElem_cons_zero, List.setIfInBounds_toArray, List.set]
  clear SS hHeld
  refine wpAnyH_ready (rs := [1]) (by kernel_rfl) (by simp) ?_
  refine AllReadyH.cons rfl (fun K hK => ?_) AllReadyH.nil
  go_simp
  refine (toCerPairS l0 _ _ (cerK.rb RM0.out BW.out) HS0.out).mono ?_
  rintro e u19 ⟨g6_, rfl, M, hb⟩
  have T7 := hide M
  clear M
  replace TA1 := hide (TA1.out.below hb)
  replace W0 := hide (cerK.ob W0.out hb)
  replace GM2 := hide (cerK.ob GM2.out hb)
  replace BW := hide (BW.out.trans (hb.mono BW.out.size))
  have L24 : Hid (u18.drew.heap.size ≤ u19.heap.size) := hb.size
  clear hb
  have SU : Rec w.heap.size [.int .i64 p1a0, .int .i64 p1a1, .slice q1_2 p1x2.length c1_2, .int .i64 p1a3, .int .i64 p1a4, .int .i64 p1a5, .int .i64 p1a6, .int .i64 p1a7, .int .i64 p1a8, .slice q1_9 p1x9.length c1_9, .int .i64 p1a10, .int .i64 p1a11, .int .i64 p1a12, .int .i64 p1a13] u19 ∧ True := ⟨TA1.out, trivial⟩
  refine hK.out _ _ SU (fun hHeld => ?_)
  clear hK K SU
  try simp only [Act.put, List.getElem_toArray, List.getElem_cons_succ, List.getElem_cons_zero, List.setIfInBounds_toArray, List.set]
  clear hHeld
  refine wpAnyH_ready (rs := [3]) (by kernel_rfl) (by simp) ?_
  refine AllReadyH.cons rfl (fun K hK => ?_) AllReadyH.nil
  go_simp
  refine (toCerPair p1a0 p1a1 p1x2 p1a3 p1a4 p1a5 p1a6 p1a7 p1a8 p1x9 p1a10 p1a11 p1a12 p1a13 _ _ (cerR.rb RM1.out BW.out) HS1.out).mono ?_
  rintro e u20 ⟨g7_2, g7_9, rfl, M, hb⟩
  have T8 := hide M
  clear M
  replace TA1 := hide (TA1.out.below hb)
  replace W0 := hide (cerK.ob W0.out hb)
  replace GM2 := hide (cerK.ob GM2.out hb)
  replace T7 := hide (cerK.ob T7.out hb)
  replace BW := hide (BW.out.trans (hb.mono BW.out.size))
  have L25 : Hid (u19.heap.size ≤ u20.heap.size) := hb.size
  clear hb
  have SU : Rec w.heap.size [.int .i64 p1a0, .int .i64 p1a1, .slice q1_2 p1x2.length c1_2, .int .i64 p1a3, .int .i64 p1a4, .int .i64 p1a5, .int .i64 p1a6, .int .i64 p1a7, .int .i64 p1a8, .slice q1_9 p1x9.length c1_9, .int .i64 p1a10, .int .i64 p1a11, .int .i64 p1a12, .int .i64 p1a13] u20 ∧ True := ⟨TA1.out, trivial⟩
  refine hK.out _ _ SU (fun hHeld => ?_)
  clear hK K SU
  try simp only [Act.put, List.getElem_toArray, List.getElem_cons_succ, List.getElem_cons_zero, List.setIfInBounds_toArray, List.set]
  clear hHeld
  refine wpAnyH_ready (rs := [4]) (by kernel_rfl) (by simp) ?_
  refine AllReadyH.cons rfl (fun K hK => ?_) AllReadyH.nil
  go_simp
  refine (implCerPut l0 p1a0 p1a1 p1x2 p1a3 p1a4 p1a5 p1a6 p1a7 p1a8 p1x9 p1a10 p1a11 p1a12 p1a13 _ _ _ _ _ _ (cerK.od T7.out) HS0.out (cerR_r2 (cerR.od T8.out)) (cerR_parts HS1.out).1 (cerR_r9 (cerR.od T8.out)) (cerR_parts HS1.out).2).mono ?_
  rintro e u21 ⟨oq20, oc20, rfl, OW, hb⟩
  rw [EO.out] at OW ⊢
  have H0 := hide OW
  clear OW
  clear T7
  clear T8
  replace TA1 := hide (TA1.out.below hb)
  replace W0 := hide (cerK.ob W0.out hb)
  replace GM2 := hide (cerK.ob GM2.out hb)
  replace BW := hide (BW.out.trans (hb.mono BW.out.size))
  have L26 : Hid (u20.heap.size ≤ u21.heap.size) := hb.size
  clear hb
  have SU : Rec w.heap.size [.int .i64 p1a0, .int .i64 p1a1, .slice q1_2 p1x2.length c1_2, .int .i64 p1a3, .int .i64 p1a4, .int .i64 p1a5, .int .i64 p1a6, .int .i64 p1a7, .int .i64 p1a8, .slice q1_9 p1x9.length c1_9, .int .i64 p1a10, .int .i64 p1a11, .int .i64 p1a12, .int .i64 p1a13] u21 ∧ True := ⟨TA1.out, trivial⟩
  refine hK.out _ _ SU (fun hHeld => ?_)
  clear hK K SU
  try simp only [Act.put, List.getElem_toArray, List.getElem_cons_succ, List.getElem_cons_zero, List.setIfInBounds_toArray, List.set]
  refine wpAnyH_take (i := 5) (v := ?_) rfl (by kernel_rfl) (by kernel_rfl) (by kernel_rfl) (fun _ _ _ h => h) (Or.inl ⟨by kernel_rfl, ?_⟩) hHeld ?_
  rotate_left
  · intro w' hSw
    (try dsimp only at hSw)
    go_simp
    first | done | with_reducible rfl
  try simp only [Act.put, List.getElem_toArray, List.getElem_cons_succ, List.getElem_cons_zero, List.setIfInBounds_toArray, List.set]
  refine wpAnyH_done (by kernel_rfl) ?_ _
  clear hHeld
  go_wp2_with fail
  refine (eqCerPairS OUT _ _ _ (cerK.od H0.out) (cerK.od W0.out)).mono ?_
  rintro e u22 ⟨rfl, hb⟩
  replace TA1 := hide (TA1.out.below hb)
  replace W0 := hide (cerK.ob W0.out hb)
  replace GM2 := hide (cerK.ob GM2.out hb)
  replace H0 := hide (cerK.ob H0.out hb)
  replace BW := hide (BW.out.trans (hb.mono BW.out.size))
  have L27 : Hid (u21.heap.size ≤ u22.heap.size) := hb.size
  clear hb
  go_wp2_with fail
  refine (heldCerPairS OUT 1 _ _ (cerK.od GM2.out) (by omega) (by omega)).mono ?_
  rintro e u23 ⟨rfl, hb⟩
  rw [EG.out]
  replace TA1 := hide (TA1.out.below hb)
  replace W0 := hide (cerK.ob W0.out hb)
  replace GM2 := hide (cerK.ob GM2.out hb)
  replace H0 := hide (cerK.ob H0.out hb)
  replace BW := hide (BW.out.trans (hb.mono BW.out.size))
  have L28 : Hid (u22.heap.size ≤ u23.heap.size) := hb.size
  clear hb
  clear TA1 W0 GM2 H0
  go_wp2
  go_ret
  exact ⟨rfl, BW.out⟩

set_option maxRecDepth 100000 in
theorem lifted (os : Os) (started : os.Started) (H : Type) (enc : TypeId × Value → H) :
    ReturnsInHanded {} Try.checked os 7 .any (Rows.fnExactCerPutSpec.pre6 enc Try.prog Try.f7 Rows.fnExactCerPutRow.domain false) (Rows.fnExactCerPutSpec.post enc Try.prog Try.f7 false true false false) := by
  refine returnsInHanded_of_change (C := Try.checked) own started (by kernel_rfl) Try.func7
    (ChangeSpec.witness6 (enc := enc) (C := Try.checked) false ⟨#[], #[.slice none 0 0, .agg #[.int .i64 0, .int .i64 0, .slice none 0 0, .int .i64 0, .int .i64 0, .int .i64 0, .int .i64 0, .int .i64 0, .int .i64 0, .slice none 0 0, .int .i64 0, .int .i64 0, .int .i64 0, .int .i64 0]], []⟩ 8 (by kernel_rfl) (by kernel_rfl) (by kernel_rfl) (by kernel_rfl)) ?_
  intro W base args ds gs before hval0 hW hcnd hsz0
  have hval : ∀ (j : Nat) t v, Try.f7.params[j]? = some t → args[j]? = some v → Value.okWide Try.prog W .any base t v := hval0
  have hW' := hW
  obtain ⟨p, q, hA0, hV, rfl, hfz, hnd⟩ := hW
  have hA : DataW.TrodAll enc Try.prog W 0 (fun _ => true) true Try.f7.params.toList args.toList ds p := hA0
  rw [Try.params7] at hA hval
  obtain ⟨v0, vs0, d0, ds0, p0, q0, hargs, rfl, rfl, h0, r0⟩ := trodAll_cons hA
  obtain ⟨v1, vs1, d1, ds1, p1, q1, rfl, rfl, rfl, h1, r1⟩ := trodAll_cons r0
  obtain ⟨rfl, rfl, rfl⟩ := trodAll_nil r1
  obtain rfl : args = #[v0, v1] := by cases args; simp_all
  obtain ⟨rfl, rfl⟩ := trodVars_none hV
  have k0 := h0
  have lt0 : ∀ x ∈ p0, x.block < W.heap.size := by obtain ⟨m, hm⟩ := k0; exact DataW.trod_lt m _ _ _ hm
  obtain ⟨a0, len0, cap0, rfl⟩ := okWide_slice Try.underlying51 (hval 0 51 v0 rfl rfl)
  have w0 : Shape.Holds Try.prog W 11 51 [.slice a0 len0 cap0] := Shape.opened 11 h0
  have k1 := h1
  have lt1 : ∀ x ∈ p1, x.block < W.heap.size := by obtain ⟨m, hm⟩ := k1; exact DataW.trod_lt m _ _ _ hm
  obtain ⟨a1, rfl, _⟩ := okWide_struct Try.underlying62 (hval 1 62 v1 rfl rfl)
  have w1 : Shape.Holds Try.prog W 10 62 a1.toList := Shape.opened 10 h1
  clear hA0 hval0
  refine (walk a0 len0 cap0 a1 W w0 w1).mono fun e W' ⟨he, hnx⟩ => ?_
  subst he
  exact ⟨_, rfl, _, _, _, [], _, [], hW', trodAll_cons_mk (shut_bool Try.underlying4 _) trodAll_mk0, (trodAll_cons_mk (Below.trod laidOut (by kernel_rfl) (of_decide_eq_true (by kernel_rfl)) k0 hnx lt0) (trodAll_cons_mk (Below.trod laidOut (by kernel_rfl) (of_decide_eq_true (by kernel_rfl)) k1 hnx lt1) trodAll_mk0)), rfl, hnx.frame _, fun h => by cases h⟩

theorem over : Rows.fnExactCerPutRow.holds Try.pinned (OpenSpec.ofChange Rows.fnExactCerPutSpec) :=
  OpenClaim.holds_of_wide 7 Try.f7 rfl rfl rfl rfl rfl rfl rfl ⟨rfl, rfl, rfl, rfl, rfl⟩ rfl rfl rfl rfl rfl (by kernel_rfl) Try.func7 (by kernel_rfl)
    (of_decide_eq_true (by kernel_rfl)) (by unfold Func.isWrapper; first | (rw [if_pos (by decide +kernel)]; kernel_rfl) | (rw [if_neg (by decide +kernel)]; exact ⟨rfl, rfl⟩))
    (fun os started H enc _ => lifted os started H enc)

theorem proved : Rows.FnExactCerPutSaid := over
#print axioms proved
end Go.Proofs.Ythlpndligadnjaa.fnExactCerPut
