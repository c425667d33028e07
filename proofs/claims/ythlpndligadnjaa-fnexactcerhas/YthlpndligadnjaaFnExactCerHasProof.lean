/-
  At every list of pairs and every two pieces of code the program's CerHas answers as the specification's CerHas does, and writes into no argument (the law FnExactCerHas returns true); no condition.
  The frame (lifted, over, proved) is written by my own program after the guide's worked texts; the walk and the lemmas ahead of it are mine.
-/
import Derived.Test.YthlpndligadnjaaRows
import Derived.Test.YthlpndligadnjaaShape
import Derived.Test.YthlpndligadnjaaDtCa
import Derived.Test.YthlpndligadnjaaDtCb
import Derived.Test.YthlpndligadnjaaDtCc
import Derived.Test.YthlpndligadnjaaDtCd
import Derived.Test.YthlpndligadnjaaCaN
import Derived.Test.YthlpndligadnjaaCaHs
import Derived.WalkKit
import Derived.ProofKit
import Derived.OpenShut
import Derived.ShutString
import Derived.ChangeOld
import Derived.Below
import Derived.SizedLaws
namespace Go.Proofs.Ythlpndligadnjaa.fnExactCerHas
open Go.ChangeShapes Go.WideShapes Go.ChangeAt Go.RowKit
open Go.ChangeMaps (open_string shut_string)
set_option linter.unusedVariables false

theorem own : ownKnob Try.prog.godebug = none := by kernel_rfl
theorem laidOut : laidOutB Try.prog = true := by kernel_rfl

open Go.ChangeShapes Go.WideShapes Go.ChangeAt Go.RowKit IntS Pol Dt Flat Irk
open Ir (Opn)
set_option linter.unusedSimpArgs false
set_option linter.unusedVariables false
theorem same_int (z : Int) : (z != z) = false := by simp
theorem same_bool (z : Bool) : (z != z) = false := by simp
theorem boxL (w : World) (o : Obj) : Below w.heap.size w (w.alloc o) := (Below.refl _ _).alloc (Nat.le_refl _) _

set_option maxRecDepth 8000 in
set_option maxHeartbeats 16000000 in
theorem walk (a0 : Option Addr) (len0 cap0 : Nat) (a1 : Array Value) (a2 : Array Value) (w : World) (w0 : Shape.Holds Try.prog w 11 51 [.slice a0 len0 cap0]) (w1 : Shape.Holds Try.prog w 9 32 a1.toList) (w2 : Shape.Holds Try.prog w 9 32 a2.toList)  :
    Calls Try.prog 6 #[.slice a0 len0 cap0, .agg a1, .agg a2] w fun e w' => e = .returned (.bool true) ∧ Below w.heap.size w w' := by
  obtain ⟨vv0, l0, ee0, r0⟩ := cerK_hold w0
  obtain rfl : vv0 = .slice a0 len0 cap0 := by cases ee0; rfl
  have hl0 : len0 = l0.length := by obtain ⟨_, _, e, _⟩ := LRd.form (r0); injection e
  subst hl0
  have RM0 : Hid (cerK.rd w (.slice a0 l0.length cap0) l0) := r0
  clear w0 ee0 r0
  obtain ⟨cc1, rfl⟩ : ∃ l : List Value, a1 = l.toArray := ⟨a1.toList, by simp⟩
  obtain ⟨p1a0, p1a1, p1x2, p1a3, p1a4, p1a5, p1a6, hP1⟩ := blkR_hold (n := 0) (cs := cc1) w1
  have RM1 : Hid (blkR.rd w cc1 (p1a0, p1a1, p1x2, p1a3, p1a4, p1a5, p1a6)) := hP1
  obtain ⟨q1_2, c1_2, rfl, -⟩ := blkR_rd hP1
  clear hP1 w1
  obtain ⟨cc2, rfl⟩ : ∃ l : List Value, a2 = l.toArray := ⟨a2.toList, by simp⟩
  obtain ⟨p2a0, p2a1, p2x2, p2a3, p2a4, p2a5, p2a6, hP2⟩ := blkR_hold (n := 0) (cs := cc2) w2
  have RM2 : Hid (blkR.rd w cc2 (p2a0, p2a1, p2x2, p2a3, p2a4, p2a5, p2a6)) := hP2
  obtain ⟨q2_2, c2_2, rfl, -⟩ := blkR_rd hP2
  clear hP2 w2
  obtain ⟨OUT, eO⟩ : ∃ z, l0.any (pairP ⟨p1a0, p1a1, p1x2, p1a3, p1a4, p1a5, p1a6⟩ ⟨p2a0, p2a1, p2x2, p2a3, p2a4, p2a5, p2a6⟩) = z := ⟨_, rfl⟩
  have NX0 : Hid (cerK.sz l0 ≤ 1048576 → cerK.nx l0 ≤ 20000000) := cerK_nx l0
  have NX1 : Hid (blkR.sz (p1a0, p1a1, p1x2, p1a3, p1a4, p1a5, p1a6) ≤ 1048576 → blkR.nx (p1a0, p1a1, p1x2, p1a3, p1a4, p1a5, p1a6) ≤ 20000000) := blkR_nx2 p1a0 p1a1 p1x2 p1a3 p1a4 p1a5 p1a6
  have NX2 : Hid (blkR.sz (p2a0, p2a1, p2x2, p2a3, p2a4, p2a5, p2a6) ≤ 1048576 → blkR.nx (p2a0, p2a1, p2x2, p2a3, p2a4, p2a5, p2a6) ≤ 20000000) := blkR_nx2 p2a0 p2a1 p2x2 p2a3 p2a4 p2a5 p2a6
  have EO := hide eO
  clear eO
  have tb1 := Rec.new w [.int .i64 p1a0, .int .i64 p1a1, .slice q1_2 p1x2.length c1_2, .int .i64 p1a3, .int .i64 p1a4, .int .i64 p1a5, .int .i64 p1a6] 32
  replace tb1 := tb1.alloc (.cells #[.int .i64 p2a0, .int .i64 p2a1, .slice q2_2 p2x2.length c2_2, .int .i64 p2a3, .int .i64 p2a4, .int .i64 p2a5, .int .i64 p2a6] 32)
  have TA1 := hide tb1
  clear tb1
  have tb2 := Rec.new (w.alloc (.cells #[.int .i64 p1a0, .int .i64 p1a1, .slice q1_2 p1x2.length c1_2, .int .i64 p1a3, .int .i64 p1a4, .int .i64 p1a5, .int .i64 p1a6] 32)) [.int .i64 p2a0, .int .i64 p2a1, .slice q2_2 p2x2.length c2_2, .int .i64 p2a3, .int .i64 p2a4, .int .i64 p2a5, .int .i64 p2a6] 32
  rw [show (w.alloc (.cells #[.int .i64 p1a0, .int .i64 p1a1, .slice q1_2 p1x2.length c1_2, .int .i64 p1a3, .int .i64 p1a4, .int .i64 p1a5, .int .i64 p1a6] 32)).heap.size = w.heap.size + 1 by simp] at tb2
  have TA2 := hide tb2
  clear tb2
  have bin : Below w.heap.size w ((w.alloc (.cells #[.int .i64 p1a0, .int .i64 p1a1, .slice q1_2 p1x2.length c1_2, .int .i64 p1a3, .int .i64 p1a4, .int .i64 p1a5, .int .i64 p1a6] 32)).alloc (.cells #[.int .i64 p2a0, .int .i64 p2a1, .slice q2_2 p2x2.length c2_2, .int .i64 p2a3, .int .i64 p2a4, .int .i64 p2a5, .int .i64 p2a6] 32)) := (boxL _ _).alloc (by simp) _
  have BW := hide bin
  clear bin
  go_enter Try.func6, Try.ntmps6
  go_wp2_with fail
  generalize ((w.alloc (.cells #[.int .i64 p1a0, .int .i64 p1a1, .slice q1_2 p1x2.length c1_2, .int .i64 p1a3, .int .i64 p1a4, .int .i64 p1a5, .int .i64 p1a6] 32)).alloc (.cells #[.int .i64 p2a0, .int .i64 p2a1, .slice q2_2 p2x2.length c2_2, .int .i64 p2a3, .int .i64 p2a4, .int .i64 p2a5, .int .i64 p2a6] 32)) = W00 at TA1 TA2 BW ⊢
  have L0 : Hid (w.heap.size < W00.heap.size) := TA1.out.lt
  have L1 : Hid ((w.heap.size + 1) < W00.heap.size) := TA2.out.lt
  refine (szCerPairS l0 _ 1048576 _ (cerK.rb RM0.out BW.out) (by omega) (by omega)).mono ?_
  rintro e u1 ⟨n0, rfl, nn0, hs0, hb⟩
  replace TA1 := hide (TA1.out.below hb)
  replace TA2 := hide (TA2.out.below hb)
  replace BW := hide (BW.out.trans (hb.mono BW.out.size))
  have L2 : Hid (W00.heap.size ≤ u1.heap.size) := hb.size
  clear hb
  by_cases hn0 : n0 < 0
  · clear TA1 TA2
    go_wp2
    go_ret
    exact ⟨rfl, BW.out⟩
  have hsq := hs0 (by omega)
  have HS0 : Hid (cerK.sz l0 ≤ 1048576) := show _ ≤ _ by omega
  have NL0 : Hid (0 ≤ n0 ∧ n0 ≤ 1048576) := show _ ∧ _ by omega
  clear hsq hs0 nn0
  have z0_0 := TA1.out.cell 0 _ rfl
  have z0_1 := TA1.out.cell 1 _ rfl
  have z0_2 := TA1.out.cell 2 _ rfl
  have z0_3 := TA1.out.cell 3 _ rfl
  have z0_4 := TA1.out.cell 4 _ rfl
  have z0_5 := TA1.out.cell 5 _ rfl
  have z0_6 := TA1.out.cell 6 _ rfl
  go_wp2_with fail
  refine (szBlk p1a0 p1a1 p1x2 p1a3 p1a4 p1a5 p1a6 _ n0 _ (blkR.rb RM1.out BW.out) NL0.out.1 NL0.out.2).mono ?_
  rintro e u2 ⟨n1, rfl, nn1, hs1, hb⟩
  clear z0_0 z0_1 z0_2 z0_3 z0_4 z0_5 z0_6
  replace TA1 := hide (TA1.out.below hb)
  replace TA2 := hide (TA2.out.below hb)
  replace BW := hide (BW.out.trans (hb.mono BW.out.size))
  have L3 : Hid (u1.heap.size ≤ u2.heap.size) := hb.size
  clear hb
  by_cases hn1 : n1 < 0
  · clear TA1 TA2
    go_wp2
    go_ret
    exact ⟨rfl, BW.out⟩
  have hsq := hs1 (by omega)
  have hsr := NL0.out
  have HS1 : Hid (blkR.sz (p1a0, p1a1, p1x2, p1a3, p1a4, p1a5, p1a6) ≤ 1048576) := show _ ≤ _ by omega
  have NL1 : Hid (0 ≤ n1 ∧ n1 ≤ 1048576) := show _ ∧ _ by omega
  clear hsq hs1 hsr nn1
  have z0_0 := TA2.out.cell 0 _ rfl
  have z0_1 := TA2.out.cell 1 _ rfl
  have z0_2 := TA2.out.cell 2 _ rfl
  have z0_3 := TA2.out.cell 3 _ rfl
  have z0_4 := TA2.out.cell 4 _ rfl
  have z0_5 := TA2.out.cell 5 _ rfl
  have z0_6 := TA2.out.cell 6 _ rfl
  go_wp2_with fail
  refine (szBlk p2a0 p2a1 p2x2 p2a3 p2a4 p2a5 p2a6 _ n1 _ (blkR.rb RM2.out BW.out) NL1.out.1 NL1.out.2).mono ?_
  rintro e u3 ⟨n2, rfl, nn2, hs2, hb⟩
  clear z0_0 z0_1 z0_2 z0_3 z0_4 z0_5 z0_6
  replace TA1 := hide (TA1.out.below hb)
  replace TA2 := hide (TA2.out.below hb)
  replace BW := hide (BW.out.trans (hb.mono BW.out.size))
  have L4 : Hid (u2.heap.size ≤ u3.heap.size) := hb.size
  clear hb
  by_cases hn2 : n2 < 0
  · clear TA1 TA2
    go_wp2
    go_ret
    exact ⟨rfl, BW.out⟩
  have hsq := hs2 (by omega)
  have hsr := NL1.out
  have HS2 : Hid (blkR.sz (p2a0, p2a1, p2x2, p2a3, p2a4, p2a5, p2a6) ≤ 1048576) := show _ ≤ _ by omega
  have NL2 : Hid (0 ≤ n2 ∧ n2 ≤ 1048576) := show _ ∧ _ by omega
  clear hsq hs2 hsr nn2
  replace NX0 := hide (NX0.out HS0.out)
  replace NX1 := hide (NX1.out HS1.out)
  replace NX2 := hide (NX2.out HS2.out)
  have z0_0 := TA1.out.cell 0 _ rfl
  have z0_1 := TA1.out.cell 1 _ rfl
  have z0_2 := TA1.out.cell 2 _ rfl
  have z0_3 := TA1.out.cell 3 _ rfl
  have z0_4 := TA1.out.cell 4 _ rfl
  have z0_5 := TA1.out.cell 5 _ rfl
  have z0_6 := TA1.out.cell 6 _ rfl
  have z1_0 := TA2.out.cell 0 _ rfl
  have z1_1 := TA2.out.cell 1 _ rfl
  have z1_2 := TA2.out.cell 2 _ rfl
  have z1_3 := TA2.out.cell 3 _ rfl
  have z1_4 := TA2.out.cell 4 _ rfl
  have z1_5 := TA2.out.cell 5 _ rfl
  have z1_6 := TA2.out.cell 6 _ rfl
  go_wp2_with fail
  have hb : Below u3.heap.size u3 u3.drew := (Below.refl _ _).drew
  replace TA1 := hide (TA1.out.below hb)
  replace TA2 := hide (TA2.out.below hb)
  replace BW := hide (BW.out.trans (hb.mono BW.out.size))
  have L5 : Hid (u3.heap.size ≤ u3.drew.heap.size) := hb.size
  clear hb
  clear z0_0 z0_1 z0_2 z0_3 z0_4 z0_5 z0_6
  clear z1_0 z1_1 z1_2 z1_3 z1_4 z1_5 z1_6
  have SS : Rec w.heap.size [.int .i64 p1a0, .int .i64 p1a1, .slice q1_2 p1x2.length c1_2, .int .i64 p1a3, .int .i64 p1a4, .int .i64 p1a5, .int .i64 p1a6] u3.drew ∧ Rec (w.heap.size + 1) [.int .i64 p2a0, .int .i64 p2a1, .slice q2_2 p2x2.length c2_2, .int .i64 p2a3, .int .i64 p2a4, .int .i64 p2a5, .int .i64 p2a6] u3.drew ∧ True := ⟨TA1.out, TA2.out, trivial⟩
  refine wp_region_held_drew (S := fun v => (Rec w.heap.size [.int .i64 p1a0, .int .i64 p1a1, .slice q1_2 p1x2.length c1_2, .int .i64 p1a3, .int .i64 p1a4, .int .i64 p1a5, .int .i64 p1a6] v ∧ Rec (w.heap.size + 1) [.int .i64 p2a0, .int .i64 p2a1, .slice q2_2 p2x2.length c2_2, .int .i64 p2a3, .int .i64 p2a4, .int .i64 p2a5, .int .i64 p2a6] v ∧ True)) (by kernel_rfl) SS (fun hHeld => ?_)
  refine wpAnyH_take (i := 0) (v := ?_) rfl (by kernel_rfl) (by kernel_rfl) (by kernel_rfl) (fun _ _ _ h => h) (Or.inl ⟨by kernel_rfl, ?_⟩) hHeld ?_
  rotate_left
  · intro w' hSw
    (try dsimp only at hSw)
    go_simp
    first | done | with_reducible rfl
  try simp only [Act.put, List.getElem_toArray, List.getElem_cons_succ, List.getElem_cons_zero, List.setIfInBounds_toArray, List.set]
  refine wpAnyH_take (i := 2) (v := ?_) rfl (by kernel_rfl) (by kernel_rfl) (by kernel_rfl) (fun _ _ _ h => h) (Or.inl ⟨by kernel_rfl, ?_⟩) hHeld ?_
  rotate_left
  · intro w' hSw
    (try dsimp only at hSw)
    have y0_0 := hSw.1.cell 0 _ rfl
    have y0_1 := hSw.1.cell 1 _ rfl
    have y0_2 := hSw.1.cell 2 _ rfl
    have y0_3 := hSw.1.cell 3 _ rfl
    have y0_4 := hSw.1.cell 4 _ rfl
    have y0_5 := hSw.1.cell 5 _ rfl
    have y0_6 := hSw.1.cell 6 _ rfl
    have y1_0 := hSw.2.1.cell 0 _ rfl
    have y1_1 := hSw.2.1.cell 1 _ rfl
    have y1_2 := hSw.2.1.cell 2 _ rfl
    have y1_3 := hSw.2.1.cell 3 _ rfl
    have y1_4 := hSw.2.1.cell 4 _ rfl
    have y1_5 := hSw.2.1.cell 5 _ rfl
    have y1_6 := hSw.2.1.cell 6 _ rfl
    go_simp
    first | done | with_reducible rfl
  try simp only [Act.put, List.getElem_toArray, List.getElem_cons_succ, List.getElem_cons_zero, List.setIfInBounds_toArray, List.set]
  refine wpAnyH_take (i := 4) (v := ?_) rfl (by kernel_rfl) (by kernel_rfl) (by kernel_rfl) (fun _ _ _ h => h) (Or.inl ⟨by kernel_rfl, ?_⟩) hHeld ?_
  rotate_left
  · intro w' hSw
    (try dsimp only at hSw)
    have y0_0 := hSw.1.cell 0 _ rfl
    have y0_1 := hSw.1.cell 1 _ rfl
    have y0_2 := hSw.1.cell 2 _ rfl
    have y0_3 := hSw.1.cell 3 _ rfl
    have y0_4 := hSw.1.cell 4 _ rfl
    have y0_5 := hSw.1.cell 5 _ rfl
    have y0_6 := hSw.1.cell 6 _ rfl
    have y1_0 := hSw.2.1.cell 0 _ rfl
    have y1_1 := hSw.2.1.cell 1 _ rfl
    have y1_2 := hSw.2.1.cell 2 _ rfl
    have y1_3 := hSw.2.1.cell 3 _ rfl
    have y1_4 := hSw.2.1.cell 4 _ rfl
    have y1_5 := hSw.2.1.cell 5 _ rfl
    have y1_6 := hSw.2.1.cell 6 _ rfl
    go_simp
    first | done | with_reducible rfl
  try simp only [Act.put, List.getElem_toArray, List.getElem_cons_succ, List.getElem_cons_zero, List.setIfInBounds_toArray, List.set]
  clear SS hHeld
  refine wpAnyH_ready (rs := [1]) (by kernel_rfl) (by simp) ?_
  refine AllReadyH.cons rfl (fun K hK => ?_) AllReadyH.nil
  go_simp
  refine (toCerPairS l0 _ _ (cerK.rb RM0.out BW.out) HS0.out).mono ?_
  rintro e u4 ⟨g0_, rfl, M, hb⟩
  have T1 := hide M
  clear M
  replace TA1 := hide (TA1.out.below hb)
  replace TA2 := hide (TA2.out.below hb)
  replace BW := hide (BW.out.trans (hb.mono BW.out.size))
  have L6 : Hid (u3.drew.heap.size ≤ u4.heap.size) := hb.size
  clear hb
  have SU : Rec w.heap.size [.int .i64 p1a0, .int .i64 p1a1, .slice q1_2 p1x2.length c1_2, .int .i64 p1a3, .int .i64 p1a4, .int .i64 p1a5, .int .i64 p1a6] u4 ∧ Rec (w.heap.size + 1) [.int .i64 p2a0, .int .i64 p2a1, .slice q2_2 p2x2.length c2_2, .int .i64 p2a3, .int .i64 p2a4, .int .i64 p2a5, .int .i64 p2a6] u4 ∧ True := ⟨TA1.out, TA2.out, trivial⟩
  refine hK.out _ _ SU (fun hHeld => ?_)
  clear hK K SU
  try simp only [Act.put, List.getElem_toArray, List.getElem_cons_succ, List.getElem_cons_zero, List.setIfInBounds_toArray, List.set]
  clear hHeld
  refine wpAnyH_ready (rs := [3]) (by kernel_rfl) (by simp) ?_
  refine AllReadyH.cons rfl (fun K hK => ?_) AllReadyH.nil
  go_simp
  refine (toBlk p1a0 p1a1 p1x2 p1a3 p1a4 p1a5 p1a6 _ _ (blkR.rb RM1.out BW.out) HS1.out).mono ?_
  rintro e u5 ⟨g1_2, rfl, M, hb⟩
  have T2 := hide M
  clear M
  replace TA1 := hide (TA1.out.below hb)
  replace TA2 := hide (TA2.out.below hb)
  replace T1 := hide (cerK.ob T1.out hb)
  replace BW := hide (BW.out.trans (hb.mono BW.out.size))
  have L7 : Hid (u4.heap.size ≤ u5.heap.size) := hb.size
  clear hb
  have SU : Rec w.heap.size [.int .i64 p1a0, .int .i64 p1a1, .slice q1_2 p1x2.length c1_2, .int .i64 p1a3, .int .i64 p1a4, .int .i64 p1a5, .int .i64 p1a6] u5 ∧ Rec (w.heap.size + 1) [.int .i64 p2a0, .int .i64 p2a1, .slice q2_2 p2x2.length c2_2, .int .i64 p2a3, .int .i64 p2a4, .int .i64 p2a5, .int .i64 p2a6] u5 ∧ True := ⟨TA1.out, TA2.out, trivial⟩
  refine hK.out _ _ SU (fun hHeld => ?_)
  clear hK K SU
  try simp only [Act.put, List.getElem_toArray, List.getElem_cons_succ, List.getElem_cons_zero, List.setIfInBounds_toArray, List.set]
  clear hHeld
  refine wpAnyH_ready (rs := [5]) (by kernel_rfl) (by simp) ?_
  refine AllReadyH.cons rfl (fun K hK => ?_) AllReadyH.nil
  go_simp
  refine (toBlk p2a0 p2a1 p2x2 p2a3 p2a4 p2a5 p2a6 _ _ (blkR.rb RM2.out BW.out) HS2.out).mono ?_
  rintro e u6 ⟨g2_2, rfl, M, hb⟩
  have T3 := hide M
  clear M
  replace TA1 := hide (TA1.out.below hb)
  replace TA2 := hide (TA2.out.below hb)
  replace T1 := hide (cerK.ob T1.out hb)
  replace T2 := hide (blkR.ob T2.out hb)
  replace BW := hide (BW.out.trans (hb.mono BW.out.size))
  have L8 : Hid (u5.heap.size ≤ u6.heap.size) := hb.size
  clear hb
  have SU : Rec w.heap.size [.int .i64 p1a0, .int .i64 p1a1, .slice q1_2 p1x2.length c1_2, .int .i64 p1a3, .int .i64 p1a4, .int .i64 p1a5, .int .i64 p1a6] u6 ∧ Rec (w.heap.size + 1) [.int .i64 p2a0, .int .i64 p2a1, .slice q2_2 p2x2.length c2_2, .int .i64 p2a3, .int .i64 p2a4, .int .i64 p2a5, .int .i64 p2a6] u6 ∧ True := ⟨TA1.out, TA2.out, trivial⟩
  refine hK.out _ _ SU (fun hHeld => ?_)
  clear hK K SU
  try simp only [Act.put, List.getElem_toArray, List.getElem_cons_succ, List.getElem_cons_zero, List.setIfInBounds_toArray, List.set]
  clear hHeld
  refine wpAnyH_ready (rs := [6]) (by kernel_rfl) (by simp) ?_
  refine AllReadyH.cons rfl (fun K hK => ?_) AllReadyH.nil
  go_simp
  refine (specCerHas l0 p1a0 p1a1 p1x2 p1a3 p1a4 p1a5 p1a6 p2a0 p2a1 p2x2 p2a3 p2a4 p2a5 p2a6 _ _ _ _ _ _ (cerK.od T1.out) HS0.out (blk_opsr (blkR.od T2.out)) (blk_opsr (blkR.od T3.out))).mono ?_
  rintro e u7 ⟨rfl, hb⟩
  rw [EO.out]
  clear T1
  clear T2
  clear T3
  replace TA1 := hide (TA1.out.below hb)
  replace TA2 := hide (TA2.out.below hb)
  replace BW := hide (BW.out.trans (hb.mono BW.out.size))
  have L9 : Hid (u6.heap.size ≤ u7.heap.size) := hb.size
  clear hb
  have SU : Rec w.heap.size [.int .i64 p1a0, .int .i64 p1a1, .slice q1_2 p1x2.length c1_2, .int .i64 p1a3, .int .i64 p1a4, .int .i64 p1a5, .int .i64 p1a6] u7 ∧ Rec (w.heap.size + 1) [.int .i64 p2a0, .int .i64 p2a1, .slice q2_2 p2x2.length c2_2, .int .i64 p2a3, .int .i64 p2a4, .int .i64 p2a5, .int .i64 p2a6] u7 ∧ True := ⟨TA1.out, TA2.out, trivial⟩
  refine hK.out _ _ SU (fun hHeld => ?_)
  clear hK K SU
  try simp only [Act.put, List.getElem_toArray, List.getElem_cons_succ, List.getElem_cons_zero, List.setIfInBounds_toArray, List.set]
  refine wpAnyH_take (i := 7) (v := ?_) rfl (by kernel_rfl) (by kernel_rfl) (by kernel_rfl) (fun _ _ _ h => h) (Or.inl ⟨by kernel_rfl, ?_⟩) hHeld ?_
  rotate_left
  · intro w' hSw
    (try dsimp only at hSw)
    go_simp
    first | done | with_reducible rfl
  try simp only [Act.put, List.getElem_toArray, List.getElem_cons_succ, List.getElem_cons_zero, List.setIfInBounds_toArray, List.set]
  refine wpAnyH_done (by kernel_rfl) ?_ _
  clear hHeld
  go_wp2_with fail
  refine (toCerPairS l0 _ _ (cerK.rb RM0.out BW.out) HS0.out).mono ?_
  rintro e u8 ⟨x0_, rfl, M, hb⟩
  have X0 := hide M
  clear M
  replace TA1 := hide (TA1.out.below hb)
  replace TA2 := hide (TA2.out.below hb)
  replace BW := hide (BW.out.trans (hb.mono BW.out.size))
  have L10 : Hid (u7.heap.size ≤ u8.heap.size) := hb.size
  clear hb
  have z0_0 := TA1.out.cell 0 _ rfl
  have z0_1 := TA1.out.cell 1 _ rfl
  have z0_2 := TA1.out.cell 2 _ rfl
  have z0_3 := TA1.out.cell 3 _ rfl
  have z0_4 := TA1.out.cell 4 _ rfl
  have z0_5 := TA1.out.cell 5 _ rfl
  have z0_6 := TA1.out.cell 6 _ rfl
  go_wp2_with fail
  refine (toBlk p1a0 p1a1 p1x2 p1a3 p1a4 p1a5 p1a6 _ _ (blkR.rb RM1.out BW.out) HS1.out).mono ?_
  rintro e u9 ⟨x1_2, rfl, M, hb⟩
  clear z0_0 z0_1 z0_2 z0_3 z0_4 z0_5 z0_6
  have X1 := hide M
  clear M
  replace TA1 := hide (TA1.out.below hb)
  replace TA2 := hide (TA2.out.below hb)
  replace X0 := hide (cerK.ob X0.out hb)
  replace BW := hide (BW.out.trans (hb.mono BW.out.size))
  have L11 : Hid (u8.heap.size ≤ u9.heap.size) := hb.size
  clear hb
  have hb : Below u9.heap.size u9 (u9.alloc (.cells #[.int .i64 p1a0, .int .i64 p1a1, .slice (some ⟨x1_2, 0, none⟩) p1x2.length p1x2.length, .int .i64 p1a3, .int .i64 p1a4, .int .i64 p1a5, .int .i64 p1a6] 39)) := boxL _ _
  have BX1n := hide (Rec.new u9 [.int .i64 p1a0, .int .i64 p1a1, .slice (some ⟨x1_2, 0, none⟩) p1x2.length p1x2.length, .int .i64 p1a3, .int .i64 p1a4, .int .i64 p1a5, .int .i64 p1a6] 39)
  have BX1s : Hid (u9.heap.size < (u9.alloc (.cells #[.int .i64 p1a0, .int .i64 p1a1, .slice (some ⟨x1_2, 0, none⟩) p1x2.length p1x2.length, .int .i64 p1a3, .int .i64 p1a4, .int .i64 p1a5, .int .i64 p1a6] 39)).heap.size) := BX1n.out.lt
  replace TA1 := hide (TA1.out.below hb)
  replace TA2 := hide (TA2.out.below hb)
  replace X0 := hide (cerK.ob X0.out hb)
  replace X1 := hide (blkR.ob X1.out hb)
  replace BW := hide (BW.out.trans (hb.mono BW.out.size))
  have L12 : Hid (u9.heap.size ≤ (u9.alloc (.cells #[.int .i64 p1a0, .int .i64 p1a1, .slice (some ⟨x1_2, 0, none⟩) p1x2.length p1x2.length, .int .i64 p1a3, .int .i64 p1a4, .int .i64 p1a5, .int .i64 p1a6] 39)).heap.size) := hb.size
  clear hb
  have BX1 := BX1n
  clear BX1n
  have z0_0 := TA2.out.cell 0 _ rfl
  have z0_1 := TA2.out.cell 1 _ rfl
  have z0_2 := TA2.out.cell 2 _ rfl
  have z0_3 := TA2.out.cell 3 _ rfl
  have z0_4 := TA2.out.cell 4 _ rfl
  have z0_5 := TA2.out.cell 5 _ rfl
  have z0_6 := TA2.out.cell 6 _ rfl
  go_wp2_with fail
  refine (toBlk p2a0 p2a1 p2x2 p2a3 p2a4 p2a5 p2a6 _ _ (blkR.rb RM2.out BW.out) HS2.out).mono ?_
  rintro e u10 ⟨x2_2, rfl, M, hb⟩
  clear z0_0 z0_1 z0_2 z0_3 z0_4 z0_5 z0_6
  have X2 := hide M
  clear M
  replace TA1 := hide (TA1.out.below hb)
  replace TA2 := hide (TA2.out.below hb)
  replace BX1 := hide (BX1.out.below hb)
  replace X0 := hide (cerK.ob X0.out hb)
  replace X1 := hide (blkR.ob X1.out hb)
  replace BW := hide (BW.out.trans (hb.mono BW.out.size))
  have L14 : Hid ((u9.alloc (.cells #[.int .i64 p1a0, .int .i64 p1a1, .slice (some ⟨x1_2, 0, none⟩) p1x2.length p1x2.length, .int .i64 p1a3, .int .i64 p1a4, .int .i64 p1a5, .int .i64 p1a6] 39)).heap.size ≤ u10.heap.size) := hb.size
  clear hb
  have hb : Below u10.heap.size u10 (u10.alloc (.cells #[.int .i64 p2a0, .int .i64 p2a1, .slice (some ⟨x2_2, 0, none⟩) p2x2.length p2x2.length, .int .i64 p2a3, .int .i64 p2a4, .int .i64 p2a5, .int .i64 p2a6] 39)) := boxL _ _
  have BX2n := hide (Rec.new u10 [.int .i64 p2a0, .int .i64 p2a1, .slice (some ⟨x2_2, 0, none⟩) p2x2.length p2x2.length, .int .i64 p2a3, .int .i64 p2a4, .int .i64 p2a5, .int .i64 p2a6] 39)
  have BX2s : Hid (u10.heap.size < (u10.alloc (.cells #[.int .i64 p2a0, .int .i64 p2a1, .slice (some ⟨x2_2, 0, none⟩) p2x2.length p2x2.length, .int .i64 p2a3, .int .i64 p2a4, .int .i64 p2a5, .int .i64 p2a6] 39)).heap.size) := BX2n.out.lt
  replace TA1 := hide (TA1.out.below hb)
  replace TA2 := hide (TA2.out.below hb)
  replace BX1 := hide (BX1.out.below hb)
  replace X0 := hide (cerK.ob X0.out hb)
  replace X1 := hide (blkR.ob X1.out hb)
  replace X2 := hide (blkR.ob X2.out hb)
  replace BW := hide (BW.out.trans (hb.mono BW.out.size))
  have L15 : Hid (u10.heap.size ≤ (u10.alloc (.cells #[.int .i64 p2a0, .int .i64 p2a1, .slice (some ⟨x2_2, 0, none⟩) p2x2.length p2x2.length, .int .i64 p2a3, .int .i64 p2a4, .int .i64 p2a5, .int .i64 p2a6] 39)).heap.size) := hb.size
  clear hb
  have BX2 := BX2n
  clear BX2n
  have z0_0 := BX1.out.cell 0 _ rfl
  have z0_1 := BX1.out.cell 1 _ rfl
  have z0_2 := BX1.out.cell 2 _ rfl
  have z0_3 := BX1.out.cell 3 _ rfl
  have z0_4 := BX1.out.cell 4 _ rfl
  have z0_5 := BX1.out.cell 5 _ rfl
  have z0_6 := BX1.out.cell 6 _ rfl
  have z1_0 := BX2.out.cell 0 _ rfl
  have z1_1 := BX2.out.cell 1 _ rfl
  have z1_2 := BX2.out.cell 2 _ rfl
  have z1_3 := BX2.out.cell 3 _ rfl
  have z1_4 := BX2.out.cell 4 _ rfl
  have z1_5 := BX2.out.cell 5 _ rfl
  have z1_6 := BX2.out.cell 6 _ rfl
  go_wp2_with fail
  refine (implCerHas l0 p1a0 p1a1 p1x2 p1a3 p1a4 p1a5 p1a6 p2a0 p2a1 p2x2 p2a3 p2a4 p2a5 p2a6 _ _ _ _ _ _ (cerK.od X0.out) (cerK_small HS0.out) (blk_opsr (blkR.od X1.out)) (blk_opsr (blkR.od X2.out))).mono ?_
  rintro e u11 ⟨rfl, hb⟩
  clear z0_0 z0_1 z0_2 z0_3 z0_4 z0_5 z0_6
  clear z1_0 z1_1 z1_2 z1_3 z1_4 z1_5 z1_6
  rw [EO.out]
  replace TA1 := hide (TA1.out.below hb)
  replace TA2 := hide (TA2.out.below hb)
  replace BX1 := hide (BX1.out.below hb)
  replace BX2 := hide (BX2.out.below hb)
  replace X0 := hide (cerK.ob X0.out hb)
  replace X1 := hide (blkR.ob X1.out hb)
  replace X2 := hide (blkR.ob X2.out hb)
  replace BW := hide (BW.out.trans (hb.mono BW.out.size))
  have L17 : Hid ((u10.alloc (.cells #[.int .i64 p2a0, .int .i64 p2a1, .slice (some ⟨x2_2, 0, none⟩) p2x2.length p2x2.length, .int .i64 p2a3, .int .i64 p2a4, .int .i64 p2a5, .int .i64 p2a6] 39)).heap.size ≤ u11.heap.size) := hb.size
  clear hb
  have nb := same_bool OUT
  go_wp2_with fail
  refine (toCerPairS l0 _ _ (cerK.rb RM0.out BW.out) HS0.out).mono ?_
  rintro e u12 ⟨e0_, rfl, M, hb⟩
  have T7 := hide M
  clear M
  replace TA1 := hide (TA1.out.below hb)
  replace TA2 := hide (TA2.out.below hb)
  replace BX1 := hide (BX1.out.below hb)
  replace BX2 := hide (BX2.out.below hb)
  replace X0 := hide (cerK.ob X0.out hb)
  replace X1 := hide (blkR.ob X1.out hb)
  replace X2 := hide (blkR.ob X2.out hb)
  replace BW := hide (BW.out.trans (hb.mono BW.out.size))
  have L18 : Hid (u11.heap.size ≤ u12.heap.size) := hb.size
  clear hb
  go_wp2_with fail
  refine (eqCerPairS l0 _ _ _ (cerK.od X0.out) (cerK.od T7.out)).mono ?_
  rintro e u13 ⟨rfl, hb⟩
  clear T7
  replace TA1 := hide (TA1.out.below hb)
  replace TA2 := hide (TA2.out.below hb)
  replace BX1 := hide (BX1.out.below hb)
  replace BX2 := hide (BX2.out.below hb)
  replace X0 := hide (cerK.ob X0.out hb)
  replace X1 := hide (blkR.ob X1.out hb)
  replace X2 := hide (blkR.ob X2.out hb)
  replace BW := hide (BW.out.trans (hb.mono BW.out.size))
  have L19 : Hid (u12.heap.size ≤ u13.heap.size) := hb.size
  clear hb
  have z0_0 := BX1.out.cell 0 _ rfl
  have z0_1 := BX1.out.cell 1 _ rfl
  have z0_2 := BX1.out.cell 2 _ rfl
  have z0_3 := BX1.out.cell 3 _ rfl
  have z0_4 := BX1.out.cell 4 _ rfl
  have z0_5 := BX1.out.cell 5 _ rfl
  have z0_6 := BX1.out.cell 6 _ rfl
  have z1_0 := TA1.out.cell 0 _ rfl
  have z1_1 := TA1.out.cell 1 _ rfl
  have z1_2 := TA1.out.cell 2 _ rfl
  have z1_3 := TA1.out.cell 3 _ rfl
  have z1_4 := TA1.out.cell 4 _ rfl
  have z1_5 := TA1.out.cell 5 _ rfl
  have z1_6 := TA1.out.cell 6 _ rfl
  go_wp2_with fail
  have hb : Below u13.heap.size u13 u13.drew := (Below.refl _ _).drew
  replace TA1 := hide (TA1.out.below hb)
  replace TA2 := hide (TA2.out.below hb)
  replace BX1 := hide (BX1.out.below hb)
  replace BX2 := hide (BX2.out.below hb)
  replace X0 := hide (cerK.ob X0.out hb)
  replace X1 := hide (blkR.ob X1.out hb)
  replace X2 := hide (blkR.ob X2.out hb)
  replace BW := hide (BW.out.trans (hb.mono BW.out.size))
  have L20 : Hid (u13.heap.size ≤ u13.drew.heap.size) := hb.size
  clear hb
  clear z0_0 z0_1 z0_2 z0_3 z0_4 z0_5 z0_6
  clear z1_0 z1_1 z1_2 z1_3 z1_4 z1_5 z1_6
  have SS : Rec u9.heap.size [.int .i64 p1a0, .int .i64 p1a1, .slice (some ⟨x1_2, 0, none⟩) p1x2.length p1x2.length, .int .i64 p1a3, .int .i64 p1a4, .int .i64 p1a5, .int .i64 p1a6] u13.drew ∧ Rec w.heap.size [.int .i64 p1a0, .int .i64 p1a1, .slice q1_2 p1x2.length c1_2, .int .i64 p1a3, .int .i64 p1a4, .int .i64 p1a5, .int .i64 p1a6] u13.drew ∧ True := ⟨BX1.out, TA1.out, trivial⟩
  refine wp_region_held_drew (S := fun v => (Rec u9.heap.size [.int .i64 p1a0, .int .i64 p1a1, .slice (some ⟨x1_2, 0, none⟩) p1x2.length p1x2.length, .int .i64 p1a3, .int .i64 p1a4, .int .i64 p1a5, .int .i64 p1a6] v ∧ Rec w.heap.size [.int .i64 p1a0, .int .i64 p1a1, .slice q1_2 p1x2.length c1_2, .int .i64 p1a3, .int .i64 p1a4, .int .i64 p1a5, .int .i64 p1a6] v ∧ True)) (by kernel_rfl) SS (fun hHeld => ?_)
  refine wpAnyH_take (i := 0) (v := ?_) rfl (by kernel_rfl) (by kernel_rfl) (by kernel_rfl) (fun _ _ _ h => h) (Or.inl ⟨by kernel_rfl, ?_⟩) hHeld ?_
  rotate_left
  · intro w' hSw
    (try dsimp only at hSw)
    have y0_0 := hSw.1.cell 0 _ rfl
    have y0_1 := hSw.1.cell 1 _ rfl
    have y0_2 := hSw.1.cell 2 _ rfl
    have y0_3 := hSw.1.cell 3 _ rfl
    have y0_4 := hSw.1.cell 4 _ rfl
    have y0_5 := hSw.1.cell 5 _ rfl
    have y0_6 := hSw.1.cell 6 _ rfl
    have y1_0 := hSw.2.1.cell 0 _ rfl
    have y1_1 := hSw.2.1.cell 1 _ rfl
    have y1_2 := hSw.2.1.cell 2 _ rfl
    have y1_3 := hSw.2.1.cell 3 _ rfl
    have y1_4 := hSw.2.1.cell 4 _ rfl
    have y1_5 := hSw.2.1.cell 5 _ rfl
    have y1_6 := hSw.2.1.cell 6 _ rfl
    go_simp
    first | done | with_reducible rfl
  try simp only [Act.put, List.getElem_toArray, List.getElem_cons_succ, List.getElem_cons_zero, List.setIfInBounds_toArray, List.set]
  refine wpAnyH_take (i := 1) (v := ?_) rfl (by kernel_rfl) (by kernel_rfl) (by kernel_rfl) (fun _ _ _ h => h) (Or.inl ⟨by kernel_rfl, ?_⟩) hHeld ?_
  rotate_left
  · intro w' hSw
    (try dsimp only at hSw)
    have y0_0 := hSw.1.cell 0 _ rfl
    have y0_1 := hSw.1.cell 1 _ rfl
    have y0_2 := hSw.1.cell 2 _ rfl
    have y0_3 := hSw.1.cell 3 _ rfl
    have y0_4 := hSw.1.cell 4 _ rfl
    have y0_5 := hSw.1.cell 5 _ rfl
    have y0_6 := hSw.1.cell 6 _ rfl
    have y1_0 := hSw.2.1.cell 0 _ rfl
    have y1_1 := hSw.2.1.cell 1 _ rfl
    have y1_2 := hSw.2.1.cell 2 _ rfl
    have y1_3 := hSw.2.1.cell 3 _ rfl
    have y1_4 := hSw.2.1.cell 4 _ rfl
    have y1_5 := hSw.2.1.cell 5 _ rfl
    have y1_6 := hSw.2.1.cell 6 _ rfl
    go_simp
    first | done | with_reducible rfl
  try simp only [Act.put, List.getElem_toArray, List.getElem_cons_succ, List.getElem_cons_zero, List.setIfInBounds_toArray, List.set]
  clear SS hHeld
  refine wpAnyH_ready (rs := [2]) (by kernel_rfl) (by simp) ?_
  refine AllReadyH.cons rfl (fun K hK => ?_) AllReadyH.nil
  go_simp
  refine (toBlk p1a0 p1a1 p1x2 p1a3 p1a4 p1a5 p1a6 _ _ (blkR.rb RM1.out BW.out) HS1.out).mono ?_
  rintro e u14 ⟨e1_2, rfl, M, hb⟩
  have T8 := hide M
  clear M
  replace TA1 := hide (TA1.out.below hb)
  replace TA2 := hide (TA2.out.below hb)
  replace BX1 := hide (BX1.out.below hb)
  replace BX2 := hide (BX2.out.below hb)
  replace X0 := hide (cerK.ob X0.out hb)
  replace X1 := hide (blkR.ob X1.out hb)
  replace X2 := hide (blkR.ob X2.out hb)
  replace BW := hide (BW.out.trans (hb.mono BW.out.size))
  have L21 : Hid (u13.drew.heap.size ≤ u14.heap.size) := hb.size
  clear hb
  have SU : Rec u9.heap.size [.int .i64 p1a0, .int .i64 p1a1, .slice (some ⟨x1_2, 0, none⟩) p1x2.length p1x2.length, .int .i64 p1a3, .int .i64 p1a4, .int .i64 p1a5, .int .i64 p1a6] u14 ∧ Rec w.heap.size [.int .i64 p1a0, .int .i64 p1a1, .slice q1_2 p1x2.length c1_2, .int .i64 p1a3, .int .i64 p1a4, .int .i64 p1a5, .int .i64 p1a6] u14 ∧ True := ⟨BX1.out, TA1.out, trivial⟩
  refine hK.out _ _ SU (fun hHeld => ?_)
  clear hK K SU
  try simp only [Act.put, List.getElem_toArray, List.getElem_cons_succ, List.getElem_cons_zero, List.setIfInBounds_toArray, List.set]
  clear hHeld
  refine wpAnyH_ready (rs := [3]) (by kernel_rfl) (by simp) ?_
  refine AllReadyH.cons rfl (fun K hK => ?_) AllReadyH.nil
  go_simp
  refine (eqBlk p1a0 p1a1 p1x2 p1a3 p1a4 p1a5 p1a6 _ _ _ (blkR.od X1.out) (blkR.od T8.out)).mono ?_
  rintro e u15 ⟨rfl, hb⟩
  clear T8
  replace TA1 := hide (TA1.out.below hb)
  replace TA2 := hide (TA2.out.below hb)
  replace BX1 := hide (BX1.out.below hb)
  replace BX2 := hide (BX2.out.below hb)
  replace X0 := hide (cerK.ob X0.out hb)
  replace X1 := hide (blkR.ob X1.out hb)
  replace X2 := hide (blkR.ob X2.out hb)
  replace BW := hide (BW.out.trans (hb.mono BW.out.size))
  have L22 : Hid (u14.heap.size ≤ u15.heap.size) := hb.size
  clear hb
  have SU : Rec u9.heap.size [.int .i64 p1a0, .int .i64 p1a1, .slice (some ⟨x1_2, 0, none⟩) p1x2.length p1x2.length, .int .i64 p1a3, .int .i64 p1a4, .int .i64 p1a5, .int .i64 p1a6] u15 ∧ Rec w.heap.size [.int .i64 p1a0, .int .i64 p1a1, .slice q1_2 p1x2.length c1_2, .int .i64 p1a3, .int .i64 p1a4, .int .i64 p1a5, .int .i64 p1a6] u15 ∧ True := ⟨BX1.out, TA1.out, trivial⟩
  refine hK.out _ _ SU (fun hHeld => ?_)
  clear hK K SU
  try simp only [Act.put, List.getElem_toArray, List.getElem_cons_succ, List.getElem_cons_zero, List.setIfInBounds_toArray, List.set]
  refine wpAnyH_take (i := 4) (v := ?_) rfl (by kernel_rfl) (by kernel_rfl) (by kernel_rfl) (fun _ _ _ h => h) (Or.inl ⟨by kernel_rfl, ?_⟩) hHeld ?_
  rotate_left
  · intro w' hSw
    (try dsimp only at hSw)
    go_simp
    first | done | with_reducible rfl
  try simp only [Act.put, List.getElem_toArray, List.getElem_cons_succ, List.getElem_cons_zero, List.setIfInBounds_toArray, List.set]
  refine wpAnyH_done (by kernel_rfl) ?_ _
  clear hHeld
  have z0_0 := BX2.out.cell 0 _ rfl
  have z0_1 := BX2.out.cell 1 _ rfl
  have z0_2 := BX2.out.cell 2 _ rfl
  have z0_3 := BX2.out.cell 3 _ rfl
  have z0_4 := BX2.out.cell 4 _ rfl
  have z0_5 := BX2.out.cell 5 _ rfl
  have z0_6 := BX2.out.cell 6 _ rfl
  have z1_0 := TA2.out.cell 0 _ rfl
  have z1_1 := TA2.out.cell 1 _ rfl
  have z1_2 := TA2.out.cell 2 _ rfl
  have z1_3 := TA2.out.cell 3 _ rfl
  have z1_4 := TA2.out.cell 4 _ rfl
  have z1_5 := TA2.out.cell 5 _ rfl
  have z1_6 := TA2.out.cell 6 _ rfl
  go_wp2_with fail
  have hb : Below u15.heap.size u15 u15.drew := (Below.refl _ _).drew
  replace TA1 := hide (TA1.out.below hb)
  replace TA2 := hide (TA2.out.below hb)
  replace BX1 := hide (BX1.out.below hb)
  replace BX2 := hide (BX2.out.below hb)
  replace X0 := hide (cerK.ob X0.out hb)
  replace X1 := hide (blkR.ob X1.out hb)
  replace X2 := hide (blkR.ob X2.out hb)
  replace BW := hide (BW.out.trans (hb.mono BW.out.size))
  have L23 : Hid (u15.heap.size ≤ u15.drew.heap.size) := hb.size
  clear hb
  clear z0_0 z0_1 z0_2 z0_3 z0_4 z0_5 z0_6
  clear z1_0 z1_1 z1_2 z1_3 z1_4 z1_5 z1_6
  have SS : Rec u10.heap.size [.int .i64 p2a0, .int .i64 p2a1, .slice (some ⟨x2_2, 0, none⟩) p2x2.length p2x2.length, .int .i64 p2a3, .int .i64 p2a4, .int .i64 p2a5, .int .i64 p2a6] u15.drew ∧ Rec (w.heap.size + 1) [.int .i64 p2a0, .int .i64 p2a1, .slice q2_2 p2x2.length c2_2, .int .i64 p2a3, .int .i64 p2a4, .int .i64 p2a5, .int .i64 p2a6] u15.drew ∧ True := ⟨BX2.out, TA2.out, trivial⟩
  refine wp_region_held_drew (S := fun v => (Rec u10.heap.size [.int .i64 p2a0, .int .i64 p2a1, .slice (some ⟨x2_2, 0, none⟩) p2x2.length p2x2.length, .int .i64 p2a3, .int .i64 p2a4, .int .i64 p2a5, .int .i64 p2a6] v ∧ Rec (w.heap.size + 1) [.int .i64 p2a0, .int .i64 p2a1, .slice q2_2 p2x2.length c2_2, .int .i64 p2a3, .int .i64 p2a4, .int .i64 p2a5, .int .i64 p2a6] v ∧ True)) (by kernel_rfl) SS (fun hHeld => ?_)
  refine wpAnyH_take (i := 0) (v := ?_) rfl (by kernel_rfl) (by kernel_rfl) (by kernel_rfl) (fun _ _ _ h => h) (Or.inl ⟨by kernel_rfl, ?_⟩) hHeld ?_
  rotate_left
  · intro w' hSw
    (try dsimp only at hSw)
    have y0_0 := hSw.1.cell 0 _ rfl
    have y0_1 := hSw.1.cell 1 _ rfl
    have y0_2 := hSw.1.cell 2 _ rfl
    have y0_3 := hSw.1.cell 3 _ rfl
    have y0_4 := hSw.1.cell 4 _ rfl
    have y0_5 := hSw.1.cell 5 _ rfl
    have y0_6 := hSw.1.cell 6 _ rfl
    have y1_0 := hSw.2.1.cell 0 _ rfl
    have y1_1 := hSw.2.1.cell 1 _ rfl
    have y1_2 := hSw.2.1.cell 2 _ rfl
    have y1_3 := hSw.2.1.cell 3 _ rfl
    have y1_4 := hSw.2.1.cell 4 _ rfl
    have y1_5 := hSw.2.1.cell 5 _ rfl
    have y1_6 := hSw.2.1.cell 6 _ rfl
    go_simp
    first | done | with_reducible rfl
  try simp only [Act.put, List.getElem_toArray, List.getElem_cons_succ, List.getElem_cons_zero, List.setIfInBounds_toArray, List.set]
  refine wpAnyH_take (i := 1) (v := ?_) rfl (by kernel_rfl) (by kernel_rfl) (by kernel_rfl) (fun _ _ _ h => h) (Or.inl ⟨by kernel_rfl, ?_⟩) hHeld ?_
  rotate_left
  · intro w' hSw
    (try dsimp only at hSw)
    have y0_0 := hSw.1.cell 0 _ rfl
    have y0_1 := hSw.1.cell 1 _ rfl
    have y0_2 := hSw.1.cell 2 _ rfl
    have y0_3 := hSw.1.cell 3 _ rfl
    have y0_4 := hSw.1.cell 4 _ rfl
    have y0_5 := hSw.1.cell 5 _ rfl
    have y0_6 := hSw.1.cell 6 _ rfl
    have y1_0 := hSw.2.1.cell 0 _ rfl
    have y1_1 := hSw.2.1.cell 1 _ rfl
    have y1_2 := hSw.2.1.cell 2 _ rfl
    have y1_3 := hSw.2.1.cell 3 _ rfl
    have y1_4 := hSw.2.1.cell 4 _ rfl
    have y1_5 := hSw.2.1.cell 5 _ rfl
    have y1_6 := hSw.2.1.cell 6 _ rfl
    go_simp
    first | done | with_reducible rfl
  try simp only [Act.put, List.getElem_toArray, List.getElem_cons_succ, List.getElem_cons_zero, List.setIfInBounds_toArray, List.set]
  clear SS hHeld
  refine wpAnyH_ready (rs := [2]) (by kernel_rfl) (by simp) ?_
  refine AllReadyH.cons rfl (fun K hK => ?_) AllReadyH.nil
  go_simp
  refine (toBlk p2a0 p2a1 p2x2 p2a3 p2a4 p2a5 p2a6 _ _ (blkR.rb RM2.out BW.out) HS2.out).mono ?_
  rintro e u16 ⟨e2_2, rfl, M, hb⟩
  have T9 := hide M
  clear M
  replace TA1 := hide (TA1.out.below hb)
  replace TA2 := hide (TA2.out.below hb)
  replace BX1 := hide (BX1.out.below hb)
  replace BX2 := hide (BX2.out.below hb)
  replace X0 := hide (cerK.ob X0.out hb)
  replace X1 := hide (blkR.ob X1.out hb)
  replace X2 := hide (blkR.ob X2.out hb)
  replace BW := hide (BW.out.trans (hb.mono BW.out.size))
  have L24 : Hid (u15.drew.heap.size ≤ u16.heap.size) := hb.size
  clear hb
  have SU : Rec u10.heap.size [.int .i64 p2a0, .int .i64 p2a1, .slice (some ⟨x2_2, 0, none⟩) p2x2.length p2x2.length, .int .i64 p2a3, .int .i64 p2a4, .int .i64 p2a5, .int .i64 p2a6] u16 ∧ Rec (w.heap.size + 1) [.int .i64 p2a0, .int .i64 p2a1, .slice q2_2 p2x2.length c2_2, .int .i64 p2a3, .int .i64 p2a4, .int .i64 p2a5, .int .i64 p2a6] u16 ∧ True := ⟨BX2.out, TA2.out, trivial⟩
  refine hK.out _ _ SU (fun hHeld => ?_)
  clear hK K SU
  try simp only [Act.put, List.getElem_toArray, List.getElem_cons_succ, List.getElem_cons_zero, List.setIfInBounds_toArray, List.set]
  clear hHeld
  refine wpAnyH_ready (rs := [3]) (by kernel_rfl) (by simp) ?_
  refine AllReadyH.cons rfl (fun K hK => ?_) AllReadyH.nil
  go_simp
  refine (eqBlk p2a0 p2a1 p2x2 p2a3 p2a4 p2a5 p2a6 _ _ _ (blkR.od X2.out) (blkR.od T9.out)).mono ?_
  rintro e u17 ⟨rfl, hb⟩
  clear T9
  replace TA1 := hide (TA1.out.below hb)
  replace TA2 := hide (TA2.out.below hb)
  replace BX1 := hide (BX1.out.below hb)
  replace BX2 := hide (BX2.out.below hb)
  replace X0 := hide (cerK.ob X0.out hb)
  replace X1 := hide (blkR.ob X1.out hb)
  replace X2 := hide (blkR.ob X2.out hb)
  replace BW := hide (BW.out.trans (hb.mono BW.out.size))
  have L25 : Hid (u16.heap.size ≤ u17.heap.size) := hb.size
  clear hb
  have SU : Rec u10.heap.size [.int .i64 p2a0, .int .i64 p2a1, .slice (some ⟨x2_2, 0, none⟩) p2x2.length p2x2.length, .int .i64 p2a3, .int .i64 p2a4, .int .i64 p2a5, .int .i64 p2a6] u17 ∧ Rec (w.heap.size + 1) [.int .i64 p2a0, .int .i64 p2a1, .slice q2_2 p2x2.length c2_2, .int .i64 p2a3, .int .i64 p2a4, .int .i64 p2a5, .int .i64 p2a6] u17 ∧ True := ⟨BX2.out, TA2.out, trivial⟩
  refine hK.out _ _ SU (fun hHeld => ?_)
  clear hK K SU
  try simp only [Act.put, List.getElem_toArray, List.getElem_cons_succ, List.getElem_cons_zero, List.setIfInBounds_toArray, List.set]
  refine wpAnyH_take (i := 4) (v := ?_) rfl (by kernel_rfl) (by kernel_rfl) (by kernel_rfl) (fun _ _ _ h => h) (Or.inl ⟨by kernel_rfl, ?_⟩) hHeld ?_
  rotate_left
  · intro w' hSw
    (try dsimp only at hSw)
    go_simp
    first | done | with_reducible rfl
  try simp only [Act.put, List.getElem_toArray, List.getElem_cons_succ, List.getElem_cons_zero, List.setIfInBounds_toArray, List.set]
  refine wpAnyH_done (by kernel_rfl) ?_ _
  clear hHeld
  clear TA1 TA2 BX1 BX2 X0 X1 X2
  go_wp2
  go_ret
  exact ⟨rfl, BW.out⟩

set_option maxRecDepth 100000 in
theorem lifted (os : Os) (started : os.Started) (H : Type) (enc : TypeId × Value → H) :
    ReturnsInHanded {} Try.checked os 6 .any (Rows.fnExactCerHasSpec.pre6 enc Try.prog Try.f6 Rows.fnExactCerHasRow.domain false) (Rows.fnExactCerHasSpec.post enc Try.prog Try.f6 false true false false) := by
  refine returnsInHanded_of_change (C := Try.checked) own started (by kernel_rfl) Try.func6
    (ChangeSpec.witness6 (enc := enc) (C := Try.checked) false ⟨#[], #[.slice none 0 0, .agg #[.int .i64 0, .int .i64 0, .slice none 0 0, .int .i64 0, .int .i64 0, .int .i64 0, .int .i64 0], .agg #[.int .i64 0, .int .i64 0, .slice none 0 0, .int .i64 0, .int .i64 0, .int .i64 0, .int .i64 0]], []⟩ 8 (by kernel_rfl) (by kernel_rfl) (by kernel_rfl) (by kernel_rfl)) ?_
  intro W base args ds gs before hval0 hW hcnd hsz0
  have hval : ∀ (j : Nat) t v, Try.f6.params[j]? = some t → args[j]? = some v → Value.okWide Try.prog W .any base t v := hval0
  have hW' := hW
  obtain ⟨p, q, hA0, hV, rfl, hfz, hnd⟩ := hW
  have hA : DataW.TrodAll enc Try.prog W 0 (fun _ => true) true Try.f6.params.toList args.toList ds p := hA0
  rw [Try.params6] at hA hval
  obtain ⟨v0, vs0, d0, ds0, p0, q0, hargs, rfl, rfl, h0, r0⟩ := trodAll_cons hA
  obtain ⟨v1, vs1, d1, ds1, p1, q1, rfl, rfl, rfl, h1, r1⟩ := trodAll_cons r0
  obtain ⟨v2, vs2, d2, ds2, p2, q2, rfl, rfl, rfl, h2, r2⟩ := trodAll_cons r1
  obtain ⟨rfl, rfl, rfl⟩ := trodAll_nil r2
  obtain rfl : args = #[v0, v1, v2] := by cases args; simp_all
  obtain ⟨rfl, rfl⟩ := trodVars_none hV
  have k0 := h0
  have lt0 : ∀ x ∈ p0, x.block < W.heap.size := by obtain ⟨m, hm⟩ := k0; exact DataW.trod_lt m _ _ _ hm
  obtain ⟨a0, len0, cap0, rfl⟩ := okWide_slice Try.underlying51 (hval 0 51 v0 rfl rfl)
  have w0 : Shape.Holds Try.prog W 11 51 [.slice a0 len0 cap0] := Shape.opened 11 h0
  have k1 := h1
  have lt1 : ∀ x ∈ p1, x.block < W.heap.size := by obtain ⟨m, hm⟩ := k1; exact DataW.trod_lt m _ _ _ hm
  obtain ⟨a1, rfl, _⟩ := okWide_struct Try.underlying32 (hval 1 32 v1 rfl rfl)
  have w1 : Shape.Holds Try.prog W 9 32 a1.toList := Shape.opened 9 h1
  have k2 := h2
  have lt2 : ∀ x ∈ p2, x.block < W.heap.size := by obtain ⟨m, hm⟩ := k2; exact DataW.trod_lt m _ _ _ hm
  obtain ⟨a2, rfl, _⟩ := okWide_struct Try.underlying32 (hval 2 32 v2 rfl rfl)
  have w2 : Shape.Holds Try.prog W 9 32 a2.toList := Shape.opened 9 h2
  clear hA0 hval0
  refine (walk a0 len0 cap0 a1 a2 W w0 w1 w2).mono fun e W' ⟨he, hnx⟩ => ?_
  subst he
  exact ⟨_, rfl, _, _, _, [], _, [], hW', trodAll_cons_mk (shut_bool Try.underlying4 _) trodAll_mk0, (trodAll_cons_mk (Below.trod laidOut (by kernel_rfl) (of_decide_eq_true (by kernel_rfl)) k0 hnx lt0) (trodAll_cons_mk (Below.trod laidOut (by kernel_rfl) (of_decide_eq_true (by kernel_rfl)) k1 hnx lt1) (trodAll_cons_mk (Below.trod laidOut (by kernel_rfl) (of_decide_eq_true (by kernel_rfl)) k2 hnx lt2) trodAll_mk0))), rfl, hnx.frame _, fun h => by cases h⟩

theorem over : Rows.fnExactCerHasRow.holds Try.pinned (OpenSpec.ofChange Rows.fnExactCerHasSpec) :=
  OpenClaim.holds_of_wide 6 Try.f6 rfl rfl rfl rfl rfl rfl rfl ⟨rfl, rfl, rfl, rfl, rfl⟩ rfl rfl rfl rfl rfl (by kernel_rfl) Try.func6 (by kernel_rfl)
    (of_decide_eq_true (by kernel_rfl)) (by unfold Func.isWrapper; first | (rw [if_pos (by decide +kernel)]; kernel_rfl) | (rw [if_neg (by decide +kernel)]; exact ⟨rfl, rfl⟩))
    (fun os started H enc _ => lifted os started H enc)

theorem proved : Rows.FnExactCerHasSaid := over
#print axioms proved
end Go.Proofs.Ythlpndligadnjaa.fnExactCerHas
