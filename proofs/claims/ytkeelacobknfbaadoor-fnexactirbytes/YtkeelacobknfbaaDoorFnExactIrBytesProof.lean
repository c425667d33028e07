/-
  At every piece of code the program's IrBytes answers as the specification's IrBytes does, byte by byte, writes into no argument, and its answer owns its memory, behind another call too (the law FnExactIrBytes returns true); the program's tables opShapes and endShapes are as the program's own text lays them.
  The frame (lifted, over, proved) is written by my own program after the guide's worked texts; the walk and the lemmas ahead of it are mine.
-/
import Derived.Test.YtkeelacobknfbaaDoorRows
import Derived.Test.YtkeelacobknfbaaDoorShape
import Derived.Test.YtkeelacobknfbaaDoorTie
import Derived.Test.YtkeelacobknfbaaDoorCards
import Derived.Test.YtkeelacobknfbaaDoorWrD
import Derived.Test.YtkeelacobknfbaaDoorRecR
import Derived.WalkKit
import Derived.ProofKit
import Derived.OpenShut
import Derived.ShutString
import Derived.ChangeOld
import Derived.Below
import Derived.SizedLaws
import Derived.OpenVars
import Derived.LaidMore
import Derived.Stop.Joined
import Derived.Stop.LaidErr
import Derived.Lib.LaidTab
import Derived.SevenTiedAt
import Derived.Lay
namespace Go.Proofs.YtkeelacobknfbaaDoor.fnExactIrBytes
open Go.ChangeShapes Go.WideShapes Go.ChangeAt Go.RowKit
open Go.ChangeMaps (open_string shut_string)
set_option linter.unusedVariables false

theorem own : ownKnob Tryd.prog.godebug = none := by kernel_rfl
theorem laidOut : laidOutB Tryd.prog = true := by kernel_rfl
theorem trodVars_len {H : Type} {enc : TypeId × Value → H} {P : Program} {W : World} {m : Nat → Bool} : ∀ {ns : List String} {gs : List (DataW H)} {ps : List MemPlace}, DataW.TrodVars enc P W m ns gs ps → gs.length = ns.length
  | [], [], _, _ => rfl
  | [], _ :: _, _, h => h.elim
  | _ :: _, [], _, h => h.elim
  | _ :: _, _ :: _, _, h => by
    obtain ⟨_, _, _, _, _, _, _, _, _, _, h, _⟩ := h
    simp [trodVars_len h]
theorem door_met (os : Os) (args : Array Value) : laidMetH Tryd.prog Rows.fnExactIrBytesRow.laid ((World.laidAll Tryd.prog os Rows.fnExactIrBytesRow.laid).forCall (fun _ _ => 0) ⟨#[], args, []⟩).memory := by
  rw [MakeChecks.laidMetH_plain _ _ _ (by kernel_rfl)]; exact laidMet_laidAll _ (by kernel_rfl) (by kernel_rfl)

open IntS Pol Dt
open _root_.Go.Proofs.YtkeelacobknfbaaDoor.Wr
set_option linter.unusedSimpArgs false
set_option linter.unusedVariables false
theorem same_int (z : Int) : (z != z) = false := by simp

set_option maxRecDepth 8000 in
set_option maxHeartbeats 16000000 in
theorem walk (a0 : Array Value) (w : World) (w0 : Shape.Holds Tryd.prog w 9 40 a0.toList) (hL : laidMet Tryd.prog Rows.fnExactIrBytesRow.laid w) :
    Calls Tryd.prog 5 #[.agg a0] w fun e w' => e = .returned (.bool true) ∧ Below w.heap.size w w' := by
  obtain ⟨l, rfl⟩ : ∃ l : List Value, a0 = l.toArray := ⟨a0.toList, by simp⟩
  obtain ⟨a0, a1, x2, a3, a4, a5, a6, hP⟩ := blkR_hold (n := 0) (cs := l) w0
  have RM : Hid (blkR.rd w l (a0, a1, x2, a3, a4, a5, a6)) := hP
  obtain ⟨q2, c2, rfl, -⟩ := blkR_rd hP
  clear hP w0
  obtain ⟨OUT, eO⟩ : ∃ z, bytesB (bkOf (a0, a1, x2, a3, a4, a5, a6)) = z := ⟨_, rfl⟩
  have NXI : Hid (blkR.sz (a0, a1, x2, a3, a4, a5, a6) ≤ 1048576 → blkR.nx (a0, a1, x2, a3, a4, a5, a6) ≤ 10000000) := fun h => by
    have h1 : x2.length ≤ 1048576 := h
    show x2.length * 5 ≤ 10000000
    omega
  have NXO : Hid (blkR.sz (a0, a1, x2, a3, a4, a5, a6) ≤ 1048576 → OUT.length ≤ 10000000) := eO ▸ (fun h => by
    have h1 : x2.length ≤ 1048576 := h
    have h2 : (bytesB (bkOf (a0, a1, x2, a3, a4, a5, a6))).length ≤ 7 + 6 * x2.length := lenBytes (bkOf (a0, a1, x2, a3, a4, a5, a6))
    omega)
  obtain ⟨on, eon⟩ : ∃ z, OUT.length = z := ⟨_, rfl⟩
  have EON := hide eon
  have EO := hide eO
  clear eO eon
  have TA := hide (Rec.new w [.int .i64 a0, .int .i64 a1, .slice q2 x2.length c2, .int .i64 a3, .int .i64 a4, .int .i64 a5, .int .i64 a6] 40)
  have BW := hide ((Below.refl w.heap.size w).alloc (Nat.le_refl _) (.cells #[.int .i64 a0, .int .i64 a1, .slice q2 x2.length c2, .int .i64 a3, .int .i64 a4, .int .i64 a5, .int .i64 a6] 40))
  have TBS : Hid (Tbs w) := show _ ∧ _ from ⟨Ir.tb_op hL (List.mem_of_getElem? (i := 0) rfl), Ir.tb_en hL (List.mem_of_getElem? (i := 1) rfl)⟩
  go_enter Tryd.func5, Tryd.ntmps5
  go_wp2_with fail
  refine (szBlk a0 a1 x2 a3 a4 a5 a6 _ 1048576 _ (blkR.rb RM.out BW.out) (by omega) (by omega)).mono ?_
  rintro e u0 ⟨n, rfl, n0, hs, hb⟩
  replace TA := hide (TA.out.below hb)
  replace BW := hide (BW.out.trans (hb.mono BW.out.size))
  clear hb
  by_cases hn : n < 0
  · clear TA
    go_wp2
    go_ret
    exact ⟨rfl, BW.out⟩
  have hs1 := hs (by omega)
  have HS : Hid (blkR.sz (a0, a1, x2, a3, a4, a5, a6) ≤ 1048576) := show _ ≤ _ by omega
  replace NXI := hide (NXI.out HS.out)
  replace NXO := hide (NXO.out HS.out)
  have LT0 : Hid (w.heap.size < u0.heap.size) := TA.out.lt
  clear hs hs1
  have ta0 := TA.out.cell 0 _ rfl
  have ta1 := TA.out.cell 1 _ rfl
  have ta2 := TA.out.cell 2 _ rfl
  have ta3 := TA.out.cell 3 _ rfl
  have ta4 := TA.out.cell 4 _ rfl
  have ta5 := TA.out.cell 5 _ rfl
  have ta6 := TA.out.cell 6 _ rfl
  go_wp2_with fail
  refine (toBlk a0 a1 x2 a3 a4 a5 a6 _ _ (blkR.rb RM.out BW.out) HS.out).mono ?_
  rintro e u1 ⟨g2, rfl, M1, hb⟩
  have R1 := hide (blkR.od M1)
  have L1 : Hid (u0.heap.size ≤ u1.heap.size) := hb.size
  clear M1
  clear ta0 ta1 ta2 ta3 ta4 ta5 ta6
  replace TA := hide (TA.out.below hb)
  replace BW := hide (BW.out.trans (hb.mono BW.out.size))
  clear hb
  go_wp2_with fail
  refine (specBytes (bkOf (a0, a1, x2, a3, a4, a5, a6)) _ _ R1.out).mono ?_
  rintro e u2 ⟨wq, wc, rfl, OW, hb⟩
  have L2 : Hid (u1.heap.size ≤ u2.heap.size) := hb.size
  clear R1
  replace TA := hide (TA.out.below hb)
  replace BW := hide (BW.out.trans (hb.mono BW.out.size))
  clear hb
  rw [EO.out] at OW
  have W0 : ∃ Bw, BytS.WRow u2 Bw (.slice wq OUT.length wc) OUT ∧ w.heap.size ≤ Bw ∧ Bw < u2.heap.size := by
    obtain ⟨z, z1, z2⟩ := OW
    by_cases e0 : OUT = []
    · exact ⟨w.heap.size, z1.move _ e0, Nat.le_refl _, by have := LT0.out; have := L1.out; have := L2.out; omega⟩
    · have z3 := z2.resolve_left e0
      have z4 : z < u2.heap.size := by obtain ⟨_, _, _, _, _, _, _, h8⟩ := z1; exact (h8.resolve_left e0).2.1
      exact ⟨z, z1, by have := LT0.out; have := L1.out; omega, z4⟩
  obtain ⟨Bw, W0a, W0b, W0c⟩ := W0
  have W0 := hide W0a
  have LBw : Hid (w.heap.size ≤ Bw ∧ Bw < u2.heap.size) := ⟨W0b, W0c⟩
  rw [EO.out, EON.out]
  clear OW W0a W0b W0c
  rw [EON.out] at W0
  have ta0 := TA.out.cell 0 _ rfl
  have ta1 := TA.out.cell 1 _ rfl
  have ta2 := TA.out.cell 2 _ rfl
  have ta3 := TA.out.cell 3 _ rfl
  have ta4 := TA.out.cell 4 _ rfl
  have ta5 := TA.out.cell 5 _ rfl
  have ta6 := TA.out.cell 6 _ rfl
  go_wp2_with fail
  refine (toBlk a0 a1 x2 a3 a4 a5 a6 _ _ (blkR.rb RM.out BW.out) HS.out).mono ?_
  rintro e u3 ⟨h2, rfl, MX, hb⟩
  clear ta0 ta1 ta2 ta3 ta4 ta5 ta6
  have L3 : Hid (u2.heap.size ≤ u3.heap.size) := hb.size
  replace TA := hide (TA.out.below hb)
  replace W0 := hide (W0.out.below hb)
  replace BW := hide (BW.out.trans (hb.mono BW.out.size))
  clear hb
  have X0 := hide MX
  clear MX
  have bX : Below u3.heap.size u3 (u3.alloc (.cells #[.int .i64 a0, .int .i64 a1, .slice (some ⟨h2, 0, none⟩) x2.length x2.length, .int .i64 a3, .int .i64 a4, .int .i64 a5, .int .i64 a6] 25)) := (Below.refl _ _).alloc (Nat.le_refl _) _
  have B7n := hide (Rec.new u3 [.int .i64 a0, .int .i64 a1, .slice (some ⟨h2, 0, none⟩) x2.length x2.length, .int .i64 a3, .int .i64 a4, .int .i64 a5, .int .i64 a6] 25)
  have B7s : Hid (u3.heap.size < (u3.alloc (.cells #[.int .i64 a0, .int .i64 a1, .slice (some ⟨h2, 0, none⟩) x2.length x2.length, .int .i64 a3, .int .i64 a4, .int .i64 a5, .int .i64 a6] 25)).heap.size) := B7n.out.lt
  replace TA := hide (TA.out.below bX)
  replace X0 := hide (blkR.ob X0.out bX)
  replace W0 := hide (W0.out.below bX)
  replace BW := hide (BW.out.trans (bX.mono BW.out.size))
  clear bX
  have B7 := B7n
  clear B7n
  have cx0 := B7.out.cell 0 _ rfl
  have cx1 := B7.out.cell 1 _ rfl
  have cx2 := B7.out.cell 2 _ rfl
  have cx3 := B7.out.cell 3 _ rfl
  have cx4 := B7.out.cell 4 _ rfl
  have cx5 := B7.out.cell 5 _ rfl
  have cx6 := B7.out.cell 6 _ rfl
  go_wp2_with fail
  refine (implBytes (bkOf (a0, a1, x2, a3, a4, a5, a6)) _ _ (blkR.od X0.out) (TBS.out.below BW.out)).mono ?_
  rintro e u4 ⟨gq, gc, rfl, OW, hb⟩
  have L4 : Hid ((u3.alloc (.cells #[.int .i64 a0, .int .i64 a1, .slice (some ⟨h2, 0, none⟩) x2.length x2.length, .int .i64 a3, .int .i64 a4, .int .i64 a5, .int .i64 a6] 25)).heap.size ≤ u4.heap.size) := hb.size
  clear cx0 cx1 cx2 cx3 cx4 cx5 cx6
  replace TA := hide (TA.out.below hb)
  replace B7 := hide (B7.out.below hb)
  replace X0 := hide (blkR.ob X0.out hb)
  replace W0 := hide (W0.out.below hb)
  replace BW := hide (BW.out.trans (hb.mono BW.out.size))
  clear hb
  rw [EO.out] at OW
  have G0 : ∃ Bg, BytS.WRow u4 Bg (.slice gq OUT.length gc) OUT ∧ (u3.alloc (.cells #[.int .i64 a0, .int .i64 a1, .slice (some ⟨h2, 0, none⟩) x2.length x2.length, .int .i64 a3, .int .i64 a4, .int .i64 a5, .int .i64 a6] 25)).heap.size ≤ Bg := by
    obtain ⟨z, z1, z2⟩ := OW
    by_cases e0 : OUT = []
    · exact ⟨u4.heap.size, z1.move _ e0, L4.out⟩
    · exact ⟨z, z1, z2.resolve_left e0⟩
  obtain ⟨Bg, G0a, G0b⟩ := G0
  have G0 := hide G0a
  have LBg : Hid ((u3.alloc (.cells #[.int .i64 a0, .int .i64 a1, .slice (some ⟨h2, 0, none⟩) x2.length x2.length, .int .i64 a3, .int .i64 a4, .int .i64 a5, .int .i64 a6] 25)).heap.size ≤ Bg) := G0b
  rw [EO.out, EON.out]
  clear OW G0a G0b
  rw [EON.out] at G0
  go_wp2_with fail
  refine (BytS.eqSame OUT _ _ _ _ _ G0.out.row W0.out.row).mono ?_
  rintro e u5 ⟨rfl, hb⟩
  have L5 : Hid (u4.heap.size ≤ u5.heap.size) := hb.size
  replace TA := hide (TA.out.below hb)
  replace B7 := hide (B7.out.below hb)
  replace X0 := hide (blkR.ob X0.out hb)
  replace W0 := hide (W0.out.below hb)
  replace G0 := hide (G0.out.below hb)
  replace BW := hide (BW.out.trans (hb.mono BW.out.size))
  clear hb
  have cx0 := B7.out.cell 0 _ rfl
  have cx1 := B7.out.cell 1 _ rfl
  have cx2 := B7.out.cell 2 _ rfl
  have cx3 := B7.out.cell 3 _ rfl
  have cx4 := B7.out.cell 4 _ rfl
  have cx5 := B7.out.cell 5 _ rfl
  have cx6 := B7.out.cell 6 _ rfl
  have ta0 := TA.out.cell 0 _ rfl
  have ta1 := TA.out.cell 1 _ rfl
  have ta2 := TA.out.cell 2 _ rfl
  have ta3 := TA.out.cell 3 _ rfl
  have ta4 := TA.out.cell 4 _ rfl
  have ta5 := TA.out.cell 5 _ rfl
  have ta6 := TA.out.cell 6 _ rfl
  go_wp2_with fail
  have DU : Below u5.heap.size u5 u5.drew := (Below.refl _ _).drew
  replace TA := hide (TA.out.below DU)
  replace B7 := hide (B7.out.below DU)
  replace X0 := hide (blkR.ob X0.out DU)
  replace W0 := hide (W0.out.below DU)
  replace G0 := hide (G0.out.below DU)
  replace BW := hide (BW.out.trans (DU.mono BW.out.size))
  clear DU
  clear cx0 cx1 cx2 cx3 cx4 cx5 cx6
  clear ta0 ta1 ta2 ta3 ta4 ta5 ta6
  have SS : Rec u3.heap.size [.int .i64 a0, .int .i64 a1, .slice (some ⟨h2, 0, none⟩) x2.length x2.length, .int .i64 a3, .int .i64 a4, .int .i64 a5, .int .i64 a6] u5.drew ∧ Rec w.heap.size [.int .i64 a0, .int .i64 a1, .slice q2 x2.length c2, .int .i64 a3, .int .i64 a4, .int .i64 a5, .int .i64 a6] u5.drew := ⟨B7.out, TA.out⟩
  refine wp_region_held_drew (S := fun v => (Rec u3.heap.size [.int .i64 a0, .int .i64 a1, .slice (some ⟨h2, 0, none⟩) x2.length x2.length, .int .i64 a3, .int .i64 a4, .int .i64 a5, .int .i64 a6] v ∧ Rec w.heap.size [.int .i64 a0, .int .i64 a1, .slice q2 x2.length c2, .int .i64 a3, .int .i64 a4, .int .i64 a5, .int .i64 a6] v)) (by kernel_rfl) SS (fun hHeld => ?_)
  refine wpAnyH_take (i := 0) (v := ?_) rfl (by kernel_rfl) (by kernel_rfl) (by kernel_rfl) (fun _ _ _ h => h) (Or.inl ⟨by kernel_rfl, ?_⟩) hHeld ?_
  rotate_left
  · intro w' hSw
    (try dsimp only at hSw)
    have z0 := hSw.1.cell 0 _ rfl
    have z1 := hSw.1.cell 1 _ rfl
    have z2 := hSw.1.cell 2 _ rfl
    have z3 := hSw.1.cell 3 _ rfl
    have z4 := hSw.1.cell 4 _ rfl
    have z5 := hSw.1.cell 5 _ rfl
    have z6 := hSw.1.cell 6 _ rfl
    go_simp
    first | done | with_reducible rfl
  try simp only [Act.put, List.getElem_toArray, List.getElem_cons_succ, List.getElem_cons_zero, List.setIfInBounds_toArray, List.set]
  refine wpAnyH_take (i := 1) (v := ?_) rfl (by kernel_rfl) (by kernel_rfl) (by kernel_rfl) (fun _ _ _ h => h) (Or.inl ⟨by kernel_rfl, ?_⟩) hHeld ?_
  rotate_left
  · intro w' hSw
    (try dsimp only at hSw)
    have z0 := hSw.2.cell 0 _ rfl
    have z1 := hSw.2.cell 1 _ rfl
    have z2 := hSw.2.cell 2 _ rfl
    have z3 := hSw.2.cell 3 _ rfl
    have z4 := hSw.2.cell 4 _ rfl
    have z5 := hSw.2.cell 5 _ rfl
    have z6 := hSw.2.cell 6 _ rfl
    go_simp
    first | done | with_reducible rfl
  try simp only [Act.put, List.getElem_toArray, List.getElem_cons_succ, List.getElem_cons_zero, List.setIfInBounds_toArray, List.set]
  clear SS hHeld
  refine wpAnyH_ready (rs := [2]) (by kernel_rfl) (by simp) ?_
  refine AllReadyH.cons rfl (fun K hK => ?_) AllReadyH.nil
  go_simp
  refine (toBlk a0 a1 x2 a3 a4 a5 a6 _ _ (blkR.rb RM.out BW.out) HS.out).mono ?_
  rintro e v7 ⟨k2, rfl, M7, hb⟩
  have R7 := hide (blkR.od M7)
  have L6 : Hid (u5.heap.size ≤ v7.heap.size) := hb.size
  clear M7
  replace TA := hide (TA.out.below hb)
  replace B7 := hide (B7.out.below hb)
  replace X0 := hide (blkR.ob X0.out hb)
  replace W0 := hide (W0.out.below hb)
  replace G0 := hide (G0.out.below hb)
  replace BW := hide (BW.out.trans (hb.mono BW.out.size))
  clear hb
  have SU : Rec u3.heap.size [.int .i64 a0, .int .i64 a1, .slice (some ⟨h2, 0, none⟩) x2.length x2.length, .int .i64 a3, .int .i64 a4, .int .i64 a5, .int .i64 a6] v7 ∧ Rec w.heap.size [.int .i64 a0, .int .i64 a1, .slice q2 x2.length c2, .int .i64 a3, .int .i64 a4, .int .i64 a5, .int .i64 a6] v7 := ⟨B7.out, TA.out⟩
  refine hK.out _ _ SU (fun hHeld => ?_)
  clear hK K SU
  try simp only [Act.put, List.getElem_toArray, List.getElem_cons_succ, List.getElem_cons_zero, List.setIfInBounds_toArray, List.set]
  refine wpAnyH_ready (rs := [3]) (by kernel_rfl) (by simp) ?_
  refine AllReadyH.cons rfl (fun K hK => ?_) AllReadyH.nil
  go_simp
  refine (eqBlk a0 a1 x2 a3 a4 a5 a6 _ _ _ (blkR.od X0.out) R7.out).mono ?_
  rintro e x7 ⟨rfl, hb⟩
  clear R7
  have L7 : Hid (v7.heap.size ≤ x7.heap.size) := hb.size
  replace TA := hide (TA.out.below hb)
  replace B7 := hide (B7.out.below hb)
  replace X0 := hide (blkR.ob X0.out hb)
  replace W0 := hide (W0.out.below hb)
  replace G0 := hide (G0.out.below hb)
  replace BW := hide (BW.out.trans (hb.mono BW.out.size))
  clear hb
  have SU : Rec u3.heap.size [.int .i64 a0, .int .i64 a1, .slice (some ⟨h2, 0, none⟩) x2.length x2.length, .int .i64 a3, .int .i64 a4, .int .i64 a5, .int .i64 a6] x7 ∧ Rec w.heap.size [.int .i64 a0, .int .i64 a1, .slice q2 x2.length c2, .int .i64 a3, .int .i64 a4, .int .i64 a5, .int .i64 a6] x7 := ⟨B7.out, TA.out⟩
  refine hK.out _ _ SU (fun hHeld => ?_)
  clear hK K SU
  try simp only [Act.put, List.getElem_toArray, List.getElem_cons_succ, List.getElem_cons_zero, List.setIfInBounds_toArray, List.set]
  refine wpAnyH_take (i := 4) (v := ?_) rfl (by kernel_rfl) (by kernel_rfl) (by kernel_rfl) (fun _ _ _ h => h) (Or.inl ⟨by kernel_rfl, ?_⟩) hHeld ?_
  rotate_left
  · intro w' hSw
    (try dsimp only at hSw)
    go_simp
    first | done | with_reducible rfl
  try simp only [Act.put, List.getElem_toArray, List.getElem_cons_succ, List.getElem_cons_zero, List.setIfInBounds_toArray, List.set]
  refine wpAnyH_done (by kernel_rfl) ?_ _
  clear hHeld
  obtain ⟨kx, ekx⟩ : ∃ z : Int, 1 + ((blkR.nx (a0, a1, x2, a3, a4, a5, a6) : Nat) : Int) = z := ⟨_, rfl⟩
  have kx0 : ¬ kx < 0 := by omega
  have EK := hide ekx
  have NI := NXI.out
  clear ekx
  have cx0 := B7.out.cell 0 _ rfl
  have cx1 := B7.out.cell 1 _ rfl
  have cx2 := B7.out.cell 2 _ rfl
  have cx3 := B7.out.cell 3 _ rfl
  have cx4 := B7.out.cell 4 _ rfl
  have cx5 := B7.out.cell 5 _ rfl
  have cx6 := B7.out.cell 6 _ rfl
  go_wp2_with fail
  refine (markBlk a0 a1 x2 a3 a4 a5 a6 1 _ _ _ X0.out (fun b hb => by have := hb.2; have := LT0.out; have := L1.out; have := L2.out; have := L3.out; have := L4.out; have := L5.out; have := B7s.out; have := L6.out; have := L7.out; have := LBg.out; have := LBw.out.1; have := LBw.out.2; omega) (by omega) (by omega)).mono ?_
  rintro e u8 ⟨rfl, XM, KP⟩
  rw [EK.out]
  have L8 : Hid (x7.heap.size ≤ u8.heap.size) := KP.size
  clear cx0 cx1 cx2 cx3 cx4 cx5 cx6
  replace TA := hide (TA.out.keep KP (fun hb => by have := hb.1; have := hb.2; have := LT0.out; have := L1.out; have := L2.out; have := L3.out; have := L4.out; have := L5.out; have := B7s.out; have := L6.out; have := L7.out; have := LBg.out; have := LBw.out.1; have := LBw.out.2; omega))
  replace B7 := hide (B7.out.keep KP (fun hb => by have := hb.1; have := hb.2; have := LT0.out; have := L1.out; have := L2.out; have := L3.out; have := L4.out; have := L5.out; have := B7s.out; have := L6.out; have := L7.out; have := LBg.out; have := LBw.out.1; have := LBw.out.2; omega))
  replace W0 := hide (W0.out.keep KP (fun hb => by have := hb.1; have := hb.2; have := LT0.out; have := L1.out; have := L2.out; have := L3.out; have := L4.out; have := L5.out; have := B7s.out; have := L6.out; have := L7.out; have := LBg.out; have := LBw.out.1; have := LBw.out.2; omega))
  replace G0 := hide (G0.out.keep KP (fun hb => by have := hb.1; have := hb.2; have := LT0.out; have := L1.out; have := L2.out; have := L3.out; have := L4.out; have := L5.out; have := B7s.out; have := L6.out; have := L7.out; have := LBg.out; have := LBw.out.1; have := LBw.out.2; omega))
  replace BW := hide (BW.out.trans (KP.below BW.out.size (fun k hk hb => by have := hb.1; have := LT0.out; have := L1.out; have := L2.out; have := L3.out; have := L4.out; have := L5.out; have := B7s.out; have := L6.out; have := L7.out; have := LBg.out; have := LBw.out.1; have := LBw.out.2; omega)))
  clear KP
  clear XM X0
  go_wp2_with fail
  refine (BytS.eqSame OUT _ _ _ _ _ G0.out.row W0.out.row).mono ?_
  rintro e u9 ⟨rfl, hb⟩
  have L9 : Hid (u8.heap.size ≤ u9.heap.size) := hb.size
  clear EK
  clear B7
  replace TA := hide (TA.out.below hb)
  replace W0 := hide (W0.out.below hb)
  replace G0 := hide (G0.out.below hb)
  replace BW := hide (BW.out.trans (hb.mono BW.out.size))
  clear hb
  obtain ⟨kg, ekg⟩ : ∃ z : Int, 1 + ((on : Nat) : Int) = z := ⟨_, rfl⟩
  have kg0 : ¬ kg < 0 := by omega
  have kg1 := same_int kg
  have EG := hide ekg
  have NG := NXO.out
  rw [EON.out] at NG
  clear ekg
  go_wp2_with fail
  refine (BytS.markS 1 OUT Bg _ _ G0.out (by omega) (by omega) (by rw [EON.out]; omega)).mono ?_
  rintro e u10 ⟨rfl, GM, TP⟩
  rw [EON.out] at GM ⊢
  rw [EG.out]
  have L10 : Hid (u9.heap.size ≤ u10.heap.size) := TP.size
  replace TA := hide (TA.out.turn TP (by have := LT0.out; have := L1.out; have := L2.out; have := L3.out; have := L4.out; have := L5.out; have := B7s.out; have := L6.out; have := L7.out; have := LBg.out; have := LBw.out.1; have := LBw.out.2; have := L8.out; have := L9.out; omega))
  replace W0 := hide (W0.out.turn TP (by have := LT0.out; have := L1.out; have := L2.out; have := L3.out; have := L4.out; have := L5.out; have := B7s.out; have := L6.out; have := L7.out; have := LBg.out; have := LBw.out.1; have := LBw.out.2; have := L8.out; have := L9.out; omega))
  replace BW := hide (BW.out.trans (TP.below (by have := LT0.out; have := L1.out; have := L2.out; have := L3.out; have := L4.out; have := L5.out; have := B7s.out; have := L6.out; have := L7.out; have := LBg.out; have := LBw.out.1; have := LBw.out.2; have := L8.out; have := L9.out; omega) BW.out.size))
  clear TP G0
  have GM2 := hide GM
  clear GM
  go_wp2_with fail
  refine (BytS.heldS 1 on Bg _ _ GM2.out.row (by omega) (by omega) (by omega)).mono ?_
  rintro e u11 ⟨rfl, hb⟩
  rw [EG.out]
  replace TA := hide (TA.out.below hb)
  replace W0 := hide (W0.out.below hb)
  replace GM2 := hide (GM2.out.below hb)
  replace BW := hide (BW.out.trans (hb.mono BW.out.size))
  clear hb
  have ta0 := TA.out.cell 0 _ rfl
  have ta1 := TA.out.cell 1 _ rfl
  have ta2 := TA.out.cell 2 _ rfl
  have ta3 := TA.out.cell 3 _ rfl
  have ta4 := TA.out.cell 4 _ rfl
  have ta5 := TA.out.cell 5 _ rfl
  have ta6 := TA.out.cell 6 _ rfl
  go_wp2_with fail
  refine (toBlk a0 a1 x2 a3 a4 a5 a6 _ _ (blkR.rb RM.out BW.out) HS.out).mono ?_
  rintro e u12 ⟨r2, rfl, MH, hb⟩
  clear ta0 ta1 ta2 ta3 ta4 ta5 ta6
  have RH := hide (blkR.od MH)
  clear MH
  replace TA := hide (TA.out.below hb)
  replace W0 := hide (W0.out.below hb)
  replace GM2 := hide (GM2.out.below hb)
  replace BW := hide (BW.out.trans (hb.mono BW.out.size))
  clear hb
  go_wp2_with fail
  refine (implBytes (bkOf (a0, a1, x2, a3, a4, a5, a6)) _ _ RH.out (TBS.out.below BW.out)).mono ?_
  rintro e u13 ⟨hq, hc, rfl, OW, hb⟩
  clear RH
  replace TA := hide (TA.out.below hb)
  replace W0 := hide (W0.out.below hb)
  replace GM2 := hide (GM2.out.below hb)
  replace BW := hide (BW.out.trans (hb.mono BW.out.size))
  clear hb
  rw [EO.out] at OW
  rw [EO.out, EON.out]
  obtain ⟨Bh, H0a, -⟩ := OW
  rw [EON.out] at H0a
  have H0 := hide H0a
  clear H0a
  go_wp2_with fail
  refine (BytS.eqSame OUT _ _ _ _ _ H0.out.row W0.out.row).mono ?_
  rintro e u14 ⟨rfl, hb⟩
  replace TA := hide (TA.out.below hb)
  replace W0 := hide (W0.out.below hb)
  replace GM2 := hide (GM2.out.below hb)
  replace H0 := hide (H0.out.below hb)
  replace BW := hide (BW.out.trans (hb.mono BW.out.size))
  clear hb
  go_wp2_with fail
  refine (BytS.heldS 1 on Bg _ _ GM2.out.row (by omega) (by omega) (by omega)).mono ?_
  rintro e u15 ⟨rfl, hb⟩
  rw [EG.out]
  replace TA := hide (TA.out.below hb)
  replace W0 := hide (W0.out.below hb)
  replace GM2 := hide (GM2.out.below hb)
  replace H0 := hide (H0.out.below hb)
  replace BW := hide (BW.out.trans (hb.mono BW.out.size))
  clear hb
  clear TA W0 H0 GM2
  go_wp2
  go_ret
  exact ⟨rfl, BW.out⟩

set_option maxRecDepth 100000 in
theorem lifted (os : Os) (started : os.Started) (H : Type) (enc : TypeId × Value → H) :
    ReturnsInHanded {} Tryd.checked os 5 .any (fun w args => (Rows.fnExactIrBytesSpec.pre enc Tryd.prog Tryd.f5 Rows.fnExactIrBytesRow.domain false w args ∧ laidMetH Tryd.prog Rows.fnExactIrBytesRow.laid w) ∧ sizedMet enc Tryd.prog Tryd.f5 (OpenSpec.ofChange Rows.fnExactIrBytesSpec) false w args)
      (Rows.fnExactIrBytesSpec.post enc Tryd.prog Tryd.f5 false true false false) := by
  refine returnsInHanded_of_change_and (C := Tryd.checked) (X := fun w _ => laidMetH Tryd.prog Rows.fnExactIrBytesRow.laid w) (fun _ _ _ hh h => h.of_heap hh) own started (by kernel_rfl) Tryd.func5
    (ChangeSpec.witness_shaped (enc := enc) (C := Tryd.checked) (os := os) (X := fun w _ => laidMetH Tryd.prog Rows.fnExactIrBytesRow.laid w) false (World.laidAll Tryd.prog os Rows.fnExactIrBytesRow.laid) #[.agg #[.int .i64 0, .int .i64 0, .slice none 0 0, .int .i64 0, .int .i64 0, .int .i64 0, .int .i64 0]] 8 (World.laidAll_os _ _ _) (World.shaped_of_ZipB (by kernel_rfl) (by kernel_rfl)) (by kernel_rfl) (by kernel_rfl) (by kernel_rfl) (door_met os _)) ?_
  intro W base args ds gs before hval0 hW _ hsz0 hL _
  have hval : ∀ (j : Nat) t v, Tryd.f5.params[j]? = some t → args[j]? = some v → Value.okWide Tryd.prog W .any base t v := hval0
  have hW' := hW
  obtain ⟨p, q, hA0, hV, rfl, hfz, hnd⟩ := hW
  have hA : DataW.TrodAll enc Tryd.prog W 0 (fun _ => true) true Tryd.f5.params.toList args.toList ds p := hA0
  rw [Tryd.params5] at hA hval
  obtain ⟨v0, vs0, d0, ds0, p0, q0, hargs, rfl, rfl, h0, r0⟩ := trodAll_cons hA
  obtain ⟨rfl, rfl, rfl⟩ := trodAll_nil r0
  obtain rfl : args = #[v0] := by cases args; simp_all
  have hgl : gs.length = 2 := (trodVars_len hV).trans rfl
  obtain ⟨g0, g1, rfl⟩ : ∃ g0 g1, gs = [g0, g1] := by
    match gs, hgl with
    | [g0, g1], _ => exact ⟨g0, g1, rfl⟩
  have k0 := h0
  have lt0 : ∀ x ∈ p0, x.block < W.heap.size := by obtain ⟨m, hm⟩ := k0; exact DataW.trod_lt m _ _ _ hm
  obtain ⟨a0, rfl, _⟩ := okWide_struct Tryd.underlying40 (hval 0 40 v0 rfl rfl)
  have w0 : Shape.Holds Tryd.prog W 9 40 a0.toList := Shape.opened 9 h0
  clear hA0 hval0
  rw [MakeChecks.laidMetH_plain _ _ _ (by kernel_rfl)] at hL
  refine (walk a0 W w0 hL).mono fun e W' ⟨he, hnx⟩ => ?_
  subst he
  exact ⟨_, rfl, _, _, _, [], _, q, hW', trodAll_cons_mk (shut_bool Tryd.underlying4 _) trodAll_mk0, (trodAll_cons_mk (Below.trod laidOut (by kernel_rfl) (of_decide_eq_true (by kernel_rfl)) k0 hnx lt0) trodAll_mk0), hnx.trodVars laidOut (by kernel_rfl) hV, hnx.frame _, fun h => by cases h⟩

theorem over : Rows.fnExactIrBytesRow.holds Tryd.pinned (OpenSpec.ofChange Rows.fnExactIrBytesSpec) :=
  OpenClaim.holds_of_wide 5 Tryd.f5 rfl rfl rfl rfl rfl rfl rfl ⟨rfl, rfl, rfl, rfl, rfl⟩ rfl rfl rfl rfl rfl (by kernel_rfl) Tryd.func5 (by kernel_rfl)
    (of_decide_eq_true (by kernel_rfl)) (by unfold Func.isWrapper; first | (rw [if_pos (by decide +kernel)]; kernel_rfl) | (rw [if_neg (by decide +kernel)]; exact ⟨rfl, rfl⟩))
    (fun os started H enc _ => lifted os started H enc)

theorem proved : Rows.FnExactIrBytesCardSaid :=
  Claim7.holds_tied_plain_at .later [] [.wider, .wider] true (true, "7edb4a81e00b71114e2b05156062a8d6a0e458d3490f5484cb37f66b1b269180") false
    over (fun _ h => by cases h) (by kernel_rfl) (fun _ h => by cases h) fnExactIrBytes_row_tie rfl ⟨rfl, rfl⟩ (by kernel_rfl) rfl
    (fun f fn hf hfn => by
      obtain rfl : f = 5 := Option.some.inj ((show Tryd.prog.funcNamed "loop.example/latimer/laws.FnExactIrBytes" = some 5 by kernel_rfl).symm.trans hf) |>.symm
      obtain rfl : fn = Tryd.f5 := (Option.some.inj (Tryd.func5.symm.trans hfn)).symm
      exact ⟨by kernel_rfl, fun j t ht => by
        rw [Tryd.params5] at ht
        have hm : t ∈ [40] := by simpa using Array.mem_of_getElem? ht
        have hall : ([40].all fun u => !Tryd.prog.wantsStandIn u) = true := by kernel_rfl
        exact (show Tryd.prog.wantsStandIn t = false by simpa using List.all_eq_true.1 hall t hm)⟩)
    (by kernel_rfl)
#print axioms proved
end Go.Proofs.YtkeelacobknfbaaDoor.fnExactIrBytes
