/-
  At every piece of code the program's OptAll answers as the specification's OptAll does, field by field, writes into no argument, and its answer owns its memory, behind another call too (the law FnExactOptAll returns true); the program's tables opShapes and endShapes are as the program's own text lays them.
  The frame (lifted, over, proved) is written by my own program after the guide's worked texts; the walk and the lemmas ahead of it are mine.
-/
import Derived.Test.YtflhehofgplcoaaDoorRows
import Derived.Test.YtflhehofgplcoaaDoorShape
import Derived.Test.YtflhehofgplcoaaDoorTie
import Derived.Test.YtflhehofgplcoaaDoorCards
import Derived.Test.YtflhehofgplcoaaDoorOsV
import Derived.Test.YtflhehofgplcoaaDoorOiL
import Derived.Test.YtflhehofgplcoaaDoorRecR
import Derived.WalkKit
import Derived.ProofKit
import Derived.OpenShut
import Derived.ShutString
import Derived.ChangeOld
import Derived.Below
import Derived.SizedLaws
import Derived.OpenVars
import Derived.LaidMore
import Derived.Stop.Joined
import Derived.Stop.LaidErr
import Derived.Lib.LaidTab
import Derived.SevenTiedAt
import Derived.Lay
namespace Go.Proofs.YtflhehofgplcoaaDoor.fnExactOptAll
open Go.ChangeShapes Go.WideShapes Go.ChangeAt Go.RowKit
open Go.ChangeMaps (open_string shut_string)
set_option linter.unusedVariables false

theorem own : ownKnob Tryd.prog.godebug = none := by kernel_rfl
theorem laidOut : laidOutB Tryd.prog = true := by kernel_rfl
theorem trodVars_len {H : Type} {enc : TypeId × Value → H} {P : Program} {W : World} {m : Nat → Bool} : ∀ {ns : List String} {gs : List (DataW H)} {ps : List MemPlace}, DataW.TrodVars enc P W m ns gs ps → gs.length = ns.length
  | [], [], _, _ => rfl
  | [], _ :: _, _, h => h.elim
  | _ :: _, [], _, h => h.elim
  | _ :: _, _ :: _, _, h => by
    obtain ⟨_, _, _, _, _, _, _, _, _, _, h, _⟩ := h
    simp [trodVars_len h]
theorem door_met (os : Os) (args : Array Value) : laidMetH Tryd.prog Rows.fnExactOptAllRow.laid ((World.laidAll Tryd.prog os Rows.fnExactOptAllRow.laid).forCall (fun _ _ => 0) ⟨#[], args, []⟩).memory := by
  rw [MakeChecks.laidMetH_plain _ _ _ (by kernel_rfl)]; exact laidMet_laidAll _ (by kernel_rfl) (by kernel_rfl)

open IntS Pol Dt
open _root_.Go.Proofs.YtflhehofgplcoaaDoor.Op
set_option linter.unusedSimpArgs false
set_option linter.unusedVariables false
theorem same_int (z : Int) : (z != z) = false := by simp

set_option maxRecDepth 8000 in
set_option maxHeartbeats 16000000 in
theorem walk (a0 : Array Value) (w : World) (w0 : Shape.Holds Tryd.prog w 9 24 a0.toList) (hL : laidMet Tryd.prog Rows.fnExactOptAllRow.laid w) :
    Calls Tryd.prog 6 #[.agg a0] w fun e w' => e = .returned (.bool true) ∧ Below w.heap.size w w' := by
  obtain ⟨l, rfl⟩ : ∃ l : List Value, a0 = l.toArray := ⟨a0.toList, by simp⟩
  obtain ⟨a0, a1, x2, a3, a4, a5, a6, hP⟩ := blkR_hold (n := 0) (cs := l) w0
  have RM : Hid (blkR.rd w l (a0, a1, x2, a3, a4, a5, a6)) := hP
  obtain ⟨q2, c2, rfl, -⟩ := blkR_rd hP
  clear hP w0
  obtain ⟨OUT, eO⟩ : ∃ z, toT (Ir.allB (bkOf (a0, a1, x2, a3, a4, a5, a6))) = z := ⟨_, rfl⟩
  have NXI : Hid (blkR.sz (a0, a1, x2, a3, a4, a5, a6) ≤ 1048576 → blkR.nx (a0, a1, x2, a3, a4, a5, a6) ≤ 10000000) := fun h => by
    have h1 : x2.length ≤ 1048576 := h
    show x2.length * 5 ≤ 10000000
    omega
  have NXO : Hid (blkR.sz (a0, a1, x2, a3, a4, a5, a6) ≤ 1048576 → blkR.nx OUT ≤ 10000000) := eO ▸ (fun h => by
    have h1 : x2.length ≤ 1048576 := h
    have h2 : (Ir.allB (bkOf (a0, a1, x2, a3, a4, a5, a6))).ops.length ≤ x2.length := lenAll (bkOf (a0, a1, x2, a3, a4, a5, a6))
    show (Ir.allB (bkOf (a0, a1, x2, a3, a4, a5, a6))).ops.length * 5 ≤ 10000000
    omega)
  obtain ⟨oa0, oa1, ox2, oa3, oa4, oa5, oa6⟩ := OUT
  have EO := hide eO
  clear eO
  have TA := hide (Rec.new w [.int .i64 a0, .int .i64 a1, .slice q2 x2.length c2, .int .i64 a3, .int .i64 a4, .int .i64 a5, .int .i64 a6] 24)
  have BW := hide ((Below.refl w.heap.size w).alloc (Nat.le_refl _) (.cells #[.int .i64 a0, .int .i64 a1, .slice q2 x2.length c2, .int .i64 a3, .int .i64 a4, .int .i64 a5, .int .i64 a6] 24))
  have TBS : Hid (Tbs w) := show _ ∧ _ from ⟨Ir.tb_op hL (List.mem_of_getElem? (i := 0) rfl), Ir.tb_en hL (List.mem_of_getElem? (i := 1) rfl)⟩
  go_enter Tryd.func6, Tryd.ntmps6
  go_wp2_with fail
  refine (szBlk a0 a1 x2 a3 a4 a5 a6 _ 1048576 _ (blkR.rb RM.out BW.out) (by omega) (by omega)).mono ?_
  rintro e u0 ⟨n, rfl, n0, hs, hb⟩
  replace TA := hide (TA.out.below hb)
  replace BW := hide (BW.out.trans (hb.mono BW.out.size))
  clear hb
  by_cases hn : n < 0
  · clear TA
    go_wp2
    go_ret
    exact ⟨rfl, BW.out⟩
  have hs1 := hs (by omega)
  have HS : Hid (blkR.sz (a0, a1, x2, a3, a4, a5, a6) ≤ 1048576) := show _ ≤ _ by omega
  replace NXI := hide (NXI.out HS.out)
  replace NXO := hide (NXO.out HS.out)
  have LT0 : Hid (w.heap.size < u0.heap.size) := TA.out.lt
  clear hs hs1
  have ta0 := TA.out.cell 0 _ rfl
  have ta1 := TA.out.cell 1 _ rfl
  have ta2 := TA.out.cell 2 _ rfl
  have ta3 := TA.out.cell 3 _ rfl
  have ta4 := TA.out.cell 4 _ rfl
  have ta5 := TA.out.cell 5 _ rfl
  have ta6 := TA.out.cell 6 _ rfl
  go_wp2_with fail
  refine (toBlk a0 a1 x2 a3 a4 a5 a6 _ _ (blkR.rb RM.out BW.out) HS.out).mono ?_
  rintro e u1 ⟨g2, rfl, M1, hb⟩
  have R1 := hide (blkR.od M1)
  have L1 : Hid (u0.heap.size ≤ u1.heap.size) := hb.size
  clear M1
  clear ta0 ta1 ta2 ta3 ta4 ta5 ta6
  replace TA := hide (TA.out.below hb)
  replace BW := hide (BW.out.trans (hb.mono BW.out.size))
  clear hb
  go_wp2_with fail
  refine (specAll (bkOf (a0, a1, x2, a3, a4, a5, a6)) _ _ R1.out).mono ?_
  rintro e u2 ⟨cw, rfl, OW, hb⟩
  have L2 : Hid (u1.heap.size ≤ u2.heap.size) := hb.size
  clear R1
  replace TA := hide (TA.out.below hb)
  replace BW := hide (BW.out.trans (hb.mono BW.out.size))
  clear hb
  rw [EO.out] at OW
  have W0 := hide OW
  obtain ⟨wq2, wc2, _, rfl, -⟩ := blkR_own OW
  clear OW
  have bX : Below u2.heap.size u2 (u2.alloc (.cells #[.int .i64 oa0, .int .i64 oa1, .slice wq2 ox2.length wc2, .int .i64 oa3, .int .i64 oa4, .int .i64 oa5, .int .i64 oa6] 28)) := (Below.refl _ _).alloc (Nat.le_refl _) _
  have B6n := hide (Rec.new u2 [.int .i64 oa0, .int .i64 oa1, .slice wq2 ox2.length wc2, .int .i64 oa3, .int .i64 oa4, .int .i64 oa5, .int .i64 oa6] 28)
  have B6s : Hid (u2.heap.size < (u2.alloc (.cells #[.int .i64 oa0, .int .i64 oa1, .slice wq2 ox2.length wc2, .int .i64 oa3, .int .i64 oa4, .int .i64 oa5, .int .i64 oa6] 28)).heap.size) := B6n.out.lt
  replace TA := hide (TA.out.below bX)
  replace W0 := hide (blkR.ob W0.out bX)
  replace BW := hide (BW.out.trans (bX.mono BW.out.size))
  clear bX
  have B6 := B6n
  clear B6n
  have ta0 := TA.out.cell 0 _ rfl
  have ta1 := TA.out.cell 1 _ rfl
  have ta2 := TA.out.cell 2 _ rfl
  have ta3 := TA.out.cell 3 _ rfl
  have ta4 := TA.out.cell 4 _ rfl
  have ta5 := TA.out.cell 5 _ rfl
  have ta6 := TA.out.cell 6 _ rfl
  go_wp2_with fail
  refine (toBlk a0 a1 x2 a3 a4 a5 a6 _ _ (blkR.rb RM.out BW.out) HS.out).mono ?_
  rintro e u3 ⟨h2, rfl, MX, hb⟩
  clear ta0 ta1 ta2 ta3 ta4 ta5 ta6
  have L3 : Hid ((u2.alloc (.cells #[.int .i64 oa0, .int .i64 oa1, .slice wq2 ox2.length wc2, .int .i64 oa3, .int .i64 oa4, .int .i64 oa5, .int .i64 oa6] 28)).heap.size ≤ u3.heap.size) := hb.size
  replace TA := hide (TA.out.below hb)
  replace B6 := hide (B6.out.below hb)
  replace W0 := hide (blkR.ob W0.out hb)
  replace BW := hide (BW.out.trans (hb.mono BW.out.size))
  clear hb
  have X0 := hide MX
  clear MX
  have bX : Below u3.heap.size u3 (u3.alloc (.cells #[.int .i64 a0, .int .i64 a1, .slice (some ⟨h2, 0, none⟩) x2.length x2.length, .int .i64 a3, .int .i64 a4, .int .i64 a5, .int .i64 a6] 28)) := (Below.refl _ _).alloc (Nat.le_refl _) _
  have B7n := hide (Rec.new u3 [.int .i64 a0, .int .i64 a1, .slice (some ⟨h2, 0, none⟩) x2.length x2.length, .int .i64 a3, .int .i64 a4, .int .i64 a5, .int .i64 a6] 28)
  have B7s : Hid (u3.heap.size < (u3.alloc (.cells #[.int .i64 a0, .int .i64 a1, .slice (some ⟨h2, 0, none⟩) x2.length x2.length, .int .i64 a3, .int .i64 a4, .int .i64 a5, .int .i64 a6] 28)).heap.size) := B7n.out.lt
  replace TA := hide (TA.out.below bX)
  replace B6 := hide (B6.out.below bX)
  replace W0 := hide (blkR.ob W0.out bX)
  replace X0 := hide (blkR.ob X0.out bX)
  replace BW := hide (BW.out.trans (bX.mono BW.out.size))
  clear bX
  have B7 := B7n
  clear B7n
  have cx0 := B7.out.cell 0 _ rfl
  have cx1 := B7.out.cell 1 _ rfl
  have cx2 := B7.out.cell 2 _ rfl
  have cx3 := B7.out.cell 3 _ rfl
  have cx4 := B7.out.cell 4 _ rfl
  have cx5 := B7.out.cell 5 _ rfl
  have cx6 := B7.out.cell 6 _ rfl
  go_wp2_with fail
  refine (implAllB (bkOf (a0, a1, x2, a3, a4, a5, a6)) _ _ (blkR.od X0.out) HS.out (TBS.out.below BW.out)).mono ?_
  rintro e u4 ⟨cg, rfl, OW, hb⟩
  have L4 : Hid ((u3.alloc (.cells #[.int .i64 a0, .int .i64 a1, .slice (some ⟨h2, 0, none⟩) x2.length x2.length, .int .i64 a3, .int .i64 a4, .int .i64 a5, .int .i64 a6] 28)).heap.size ≤ u4.heap.size) := hb.size
  clear cx0 cx1 cx2 cx3 cx4 cx5 cx6
  replace TA := hide (TA.out.below hb)
  replace B6 := hide (B6.out.below hb)
  replace B7 := hide (B7.out.below hb)
  replace W0 := hide (blkR.ob W0.out hb)
  replace X0 := hide (blkR.ob X0.out hb)
  replace BW := hide (BW.out.trans (hb.mono BW.out.size))
  clear hb
  rw [EO.out] at OW
  have G0 := hide OW
  obtain ⟨gq2, gc2, _, rfl, -⟩ := blkR_own OW
  clear OW
  have bX : Below u4.heap.size u4 (u4.alloc (.cells #[.int .i64 oa0, .int .i64 oa1, .slice gq2 ox2.length gc2, .int .i64 oa3, .int .i64 oa4, .int .i64 oa5, .int .i64 oa6] 28)) := (Below.refl _ _).alloc (Nat.le_refl _) _
  have B8n := hide (Rec.new u4 [.int .i64 oa0, .int .i64 oa1, .slice gq2 ox2.length gc2, .int .i64 oa3, .int .i64 oa4, .int .i64 oa5, .int .i64 oa6] 28)
  have B8s : Hid (u4.heap.size < (u4.alloc (.cells #[.int .i64 oa0, .int .i64 oa1, .slice gq2 ox2.length gc2, .int .i64 oa3, .int .i64 oa4, .int .i64 oa5, .int .i64 oa6] 28)).heap.size) := B8n.out.lt
  replace TA := hide (TA.out.below bX)
  replace B6 := hide (B6.out.below bX)
  replace B7 := hide (B7.out.below bX)
  replace W0 := hide (blkR.ob W0.out bX)
  replace X0 := hide (blkR.ob X0.out bX)
  replace G0 := hide (blkR.ob G0.out bX)
  replace BW := hide (BW.out.trans (bX.mono BW.out.size))
  clear bX
  have B8 := B8n
  clear B8n
  have cx0 := B8.out.cell 0 _ rfl
  have cx1 := B8.out.cell 1 _ rfl
  have cx2 := B8.out.cell 2 _ rfl
  have cx3 := B8.out.cell 3 _ rfl
  have cx4 := B8.out.cell 4 _ rfl
  have cx5 := B8.out.cell 5 _ rfl
  have cx6 := B8.out.cell 6 _ rfl
  have cy0 := B6.out.cell 0 _ rfl
  have cy1 := B6.out.cell 1 _ rfl
  have cy2 := B6.out.cell 2 _ rfl
  have cy3 := B6.out.cell 3 _ rfl
  have cy4 := B6.out.cell 4 _ rfl
  have cy5 := B6.out.cell 5 _ rfl
  have cy6 := B6.out.cell 6 _ rfl
  go_wp2_with fail
  refine (eqBlk oa0 oa1 ox2 oa3 oa4 oa5 oa6 _ _ _ (blkR.od G0.out) (blkR.od W0.out)).mono ?_
  rintro e u5 ⟨rfl, hb⟩
  clear cx0 cx1 cx2 cx3 cx4 cx5 cx6
  clear cy0 cy1 cy2 cy3 cy4 cy5 cy6
  have L5 : Hid ((u4.alloc (.cells #[.int .i64 oa0, .int .i64 oa1, .slice gq2 ox2.length gc2, .int .i64 oa3, .int .i64 oa4, .int .i64 oa5, .int .i64 oa6] 28)).heap.size ≤ u5.heap.size) := hb.size
  replace TA := hide (TA.out.below hb)
  replace B6 := hide (B6.out.below hb)
  replace B7 := hide (B7.out.below hb)
  replace B8 := hide (B8.out.below hb)
  replace W0 := hide (blkR.ob W0.out hb)
  replace X0 := hide (blkR.ob X0.out hb)
  replace G0 := hide (blkR.ob G0.out hb)
  replace BW := hide (BW.out.trans (hb.mono BW.out.size))
  clear hb
  have cx0 := B7.out.cell 0 _ rfl
  have cx1 := B7.out.cell 1 _ rfl
  have cx2 := B7.out.cell 2 _ rfl
  have cx3 := B7.out.cell 3 _ rfl
  have cx4 := B7.out.cell 4 _ rfl
  have cx5 := B7.out.cell 5 _ rfl
  have cx6 := B7.out.cell 6 _ rfl
  have ta0 := TA.out.cell 0 _ rfl
  have ta1 := TA.out.cell 1 _ rfl
  have ta2 := TA.out.cell 2 _ rfl
  have ta3 := TA.out.cell 3 _ rfl
  have ta4 := TA.out.cell 4 _ rfl
  have ta5 := TA.out.cell 5 _ rfl
  have ta6 := TA.out.cell 6 _ rfl
  go_wp2_with fail
  have DU : Below u5.heap.size u5 u5.drew := (Below.refl _ _).drew
  replace TA := hide (TA.out.below DU)
  replace B6 := hide (B6.out.below DU)
  replace B7 := hide (B7.out.below DU)
  replace B8 := hide (B8.out.below DU)
  replace W0 := hide (blkR.ob W0.out DU)
  replace X0 := hide (blkR.ob X0.out DU)
  replace G0 := hide (blkR.ob G0.out DU)
  replace BW := hide (BW.out.trans (DU.mono BW.out.size))
  clear DU
  clear cx0 cx1 cx2 cx3 cx4 cx5 cx6
  clear ta0 ta1 ta2 ta3 ta4 ta5 ta6
  have SS : Rec u3.heap.size [.int .i64 a0, .int .i64 a1, .slice (some ⟨h2, 0, none⟩) x2.length x2.length, .int .i64 a3, .int .i64 a4, .int .i64 a5, .int .i64 a6] u5.drew ∧ Rec w.heap.size [.int .i64 a0, .int .i64 a1, .slice q2 x2.length c2, .int .i64 a3, .int .i64 a4, .int .i64 a5, .int .i64 a6] u5.drew := ⟨B7.out, TA.out⟩
  refine wp_region_held_drew (S := fun v => (Rec u3.heap.size [.int .i64 a0, .int .i64 a1, .slice (some ⟨h2, 0, none⟩) x2.length x2.length, .int .i64 a3, .int .i64 a4, .int .i64 a5, .int .i64 a6] v ∧ Rec w.heap.size [.int .i64 a0, .int .i64 a1, .slice q2 x2.length c2, .int .i64 a3, .int .i64 a4, .int .i64 a5, .int .i64 a6] v)) (by kernel_rfl) SS (fun hHeld => ?_)
  refine wpAnyH_take (i := 0) (v := ?_) rfl (by kernel_rfl) (by kernel_rfl) (by kernel_rfl) (fun _ _ _ h => h) (Or.inl ⟨by kernel_rfl, ?_⟩) hHeld ?_
  rotate_left
  · intro w' hSw
    (try dsimp only at hSw)
    have z0 := hSw.1.cell 0 _ rfl
    have z1 := hSw.1.cell 1 _ rfl
    have z2 := hSw.1.cell 2 _ rfl
    have z3 := hSw.1.cell 3 _ rfl
    have z4 := hSw.1.cell 4 _ rfl
    have z5 := hSw.1.cell 5 _ rfl
    have z6 := hSw.1.cell 6 _ rfl
    go_simp
    first | done | with_reducible rfl
  try simp only [Act.put, List.getElem_toArray, List.getElem_cons_succ, List.getElem_cons_zero, List.setIfInBounds_toArray, List.set]
  refine wpAnyH_take (i := 1) (v := ?_) rfl (by kernel_rfl) (by kernel_rfl) (by kernel_rfl) (fun _ _ _ h => h) (Or.inl ⟨by kernel_rfl, ?_⟩) hHeld ?_
  rotate_left
  · intro w' hSw
    (try dsimp only at hSw)
    have z0 := hSw.2.cell 0 _ rfl
    have z1 := hSw.2.cell 1 _ rfl
    have z2 := hSw.2.cell 2 _ rfl
    have z3 := hSw.2.cell 3 _ rfl
    have z4 := hSw.2.cell 4 _ rfl
    have z5 := hSw.2.cell 5 _ rfl
    have z6 := hSw.2.cell 6 _ rfl
    go_simp
    first | done | with_reducible rfl
  try simp only [Act.put, List.getElem_toArray, List.getElem_cons_succ, List.getElem_cons_zero, List.setIfInBounds_toArray, List.set]
  clear SS hHeld
  refine wpAnyH_ready (rs := [2]) (by kernel_rfl) (by simp) ?_
  refine AllReadyH.cons rfl (fun K hK => ?_) AllReadyH.nil
  go_simp
  refine (toBlk a0 a1 x2 a3 a4 a5 a6 _ _ (blkR.rb RM.out BW.out) HS.out).mono ?_
  rintro e v7 ⟨k2, rfl, M7, hb⟩
  have R7 := hide (blkR.od M7)
  have L6 : Hid (u5.heap.size ≤ v7.heap.size) := hb.size
  clear M7
  replace TA := hide (TA.out.below hb)
  replace B6 := hide (B6.out.below hb)
  replace B7 := hide (B7.out.below hb)
  replace B8 := hide (B8.out.below hb)
  replace W0 := hide (blkR.ob W0.out hb)
  replace X0 := hide (blkR.ob X0.out hb)
  replace G0 := hide (blkR.ob G0.out hb)
  replace BW := hide (BW.out.trans (hb.mono BW.out.size))
  clear hb
  have SU : Rec u3.heap.size [.int .i64 a0, .int .i64 a1, .slice (some ⟨h2, 0, none⟩) x2.length x2.length, .int .i64 a3, .int .i64 a4, .int .i64 a5, .int .i64 a6] v7 ∧ Rec w.heap.size [.int .i64 a0, .int .i64 a1, .slice q2 x2.length c2, .int .i64 a3, .int .i64 a4, .int .i64 a5, .int .i64 a6] v7 := ⟨B7.out, TA.out⟩
  refine hK.out _ _ SU (fun hHeld => ?_)
  clear hK K SU
  try simp only [Act.put, List.getElem_toArray, List.getElem_cons_succ, List.getElem_cons_zero, List.setIfInBounds_toArray, List.set]
  refine wpAnyH_ready (rs := [3]) (by kernel_rfl) (by simp) ?_
  refine AllReadyH.cons rfl (fun K hK => ?_) AllReadyH.nil
  go_simp
  refine (eqBlk a0 a1 x2 a3 a4 a5 a6 _ _ _ (blkR.od X0.out) R7.out).mono ?_
  rintro e x7 ⟨rfl, hb⟩
  clear R7
  have L7 : Hid (v7.heap.size ≤ x7.heap.size) := hb.size
  replace TA := hide (TA.out.below hb)
  replace B6 := hide (B6.out.below hb)
  replace B7 := hide (B7.out.below hb)
  replace B8 := hide (B8.out.below hb)
  replace W0 := hide (blkR.ob W0.out hb)
  replace X0 := hide (blkR.ob X0.out hb)
  replace G0 := hide (blkR.ob G0.out hb)
  replace BW := hide (BW.out.trans (hb.mono BW.out.size))
  clear hb
  have SU : Rec u3.heap.size [.int .i64 a0, .int .i64 a1, .slice (some ⟨h2, 0, none⟩) x2.length x2.length, .int .i64 a3, .int .i64 a4, .int .i64 a5, .int .i64 a6] x7 ∧ Rec w.heap.size [.int .i64 a0, .int .i64 a1, .slice q2 x2.length c2, .int .i64 a3, .int .i64 a4, .int .i64 a5, .int .i64 a6] x7 := ⟨B7.out, TA.out⟩
  refine hK.out _ _ SU (fun hHeld => ?_)
  clear hK K SU
  try simp only [Act.put, List.getElem_toArray, List.getElem_cons_succ, List.getElem_cons_zero, List.setIfInBounds_toArray, List.set]
  refine wpAnyH_take (i := 4) (v := ?_) rfl (by kernel_rfl) (by kernel_rfl) (by kernel_rfl) (fun _ _ _ h => h) (Or.inl ⟨by kernel_rfl, ?_⟩) hHeld ?_
  rotate_left
  · intro w' hSw
    (try dsimp only at hSw)
    go_simp
    first | done | with_reducible rfl
  try simp only [Act.put, List.getElem_toArray, List.getElem_cons_succ, List.getElem_cons_zero, List.setIfInBounds_toArray, List.set]
  refine wpAnyH_done (by kernel_rfl) ?_ _
  clear hHeld
  obtain ⟨kx, ekx⟩ : ∃ z : Int, 1 + ((blkR.nx (a0, a1, x2, a3, a4, a5, a6) : Nat) : Int) = z := ⟨_, rfl⟩
  have kx0 : ¬ kx < 0 := by omega
  have EK := hide ekx
  have NI := NXI.out
  clear ekx
  have cx0 := B7.out.cell 0 _ rfl
  have cx1 := B7.out.cell 1 _ rfl
  have cx2 := B7.out.cell 2 _ rfl
  have cx3 := B7.out.cell 3 _ rfl
  have cx4 := B7.out.cell 4 _ rfl
  have cx5 := B7.out.cell 5 _ rfl
  have cx6 := B7.out.cell 6 _ rfl
  go_wp2_with fail
  refine (markBlk a0 a1 x2 a3 a4 a5 a6 1 _ _ _ X0.out (fun b hb => by have := hb.2; have := LT0.out; have := L1.out; have := L2.out; have := L3.out; have := L4.out; have := L5.out; have := B6s.out; have := B7s.out; have := B8s.out; have := L6.out; have := L7.out; omega) (by omega) (by omega)).mono ?_
  rintro e u8 ⟨rfl, XM, KP⟩
  rw [EK.out]
  have L8 : Hid (x7.heap.size ≤ u8.heap.size) := KP.size
  clear cx0 cx1 cx2 cx3 cx4 cx5 cx6
  replace TA := hide (TA.out.keep KP (fun hb => by have := hb.1; have := hb.2; have := LT0.out; have := L1.out; have := L2.out; have := L3.out; have := L4.out; have := L5.out; have := B6s.out; have := B7s.out; have := B8s.out; have := L6.out; have := L7.out; omega))
  replace B6 := hide (B6.out.keep KP (fun hb => by have := hb.1; have := hb.2; have := LT0.out; have := L1.out; have := L2.out; have := L3.out; have := L4.out; have := L5.out; have := B6s.out; have := B7s.out; have := B8s.out; have := L6.out; have := L7.out; omega))
  replace B7 := hide (B7.out.keep KP (fun hb => by have := hb.1; have := hb.2; have := LT0.out; have := L1.out; have := L2.out; have := L3.out; have := L4.out; have := L5.out; have := B6s.out; have := B7s.out; have := B8s.out; have := L6.out; have := L7.out; omega))
  replace B8 := hide (B8.out.keep KP (fun hb => by have := hb.1; have := hb.2; have := LT0.out; have := L1.out; have := L2.out; have := L3.out; have := L4.out; have := L5.out; have := B6s.out; have := B7s.out; have := B8s.out; have := L6.out; have := L7.out; omega))
  replace W0 := hide (blkR.ok W0.out KP (fun b hx hb => by have := hb.1; have := hb.2; have := hx.1; have := hx.2; have := LT0.out; have := L1.out; have := L2.out; have := L3.out; have := L4.out; have := L5.out; have := B6s.out; have := B7s.out; have := B8s.out; have := L6.out; have := L7.out; omega))
  replace G0 := hide (blkR.ok G0.out KP (fun b hx hb => by have := hb.1; have := hb.2; have := hx.1; have := hx.2; have := LT0.out; have := L1.out; have := L2.out; have := L3.out; have := L4.out; have := L5.out; have := B6s.out; have := B7s.out; have := B8s.out; have := L6.out; have := L7.out; omega))
  replace BW := hide (BW.out.trans (KP.below BW.out.size (fun k hk hb => by have := hb.1; have := LT0.out; have := L1.out; have := L2.out; have := L3.out; have := L4.out; have := L5.out; have := B6s.out; have := B7s.out; have := B8s.out; have := L6.out; have := L7.out; omega)))
  clear KP
  have XM2 := hide XM
  clear XM X0
  have cx0 := B8.out.cell 0 _ rfl
  have cx1 := B8.out.cell 1 _ rfl
  have cx2 := B8.out.cell 2 _ rfl
  have cx3 := B8.out.cell 3 _ rfl
  have cx4 := B8.out.cell 4 _ rfl
  have cx5 := B8.out.cell 5 _ rfl
  have cx6 := B8.out.cell 6 _ rfl
  have cy0 := B6.out.cell 0 _ rfl
  have cy1 := B6.out.cell 1 _ rfl
  have cy2 := B6.out.cell 2 _ rfl
  have cy3 := B6.out.cell 3 _ rfl
  have cy4 := B6.out.cell 4 _ rfl
  have cy5 := B6.out.cell 5 _ rfl
  have cy6 := B6.out.cell 6 _ rfl
  go_wp2_with fail
  refine (eqBlk oa0 oa1 ox2 oa3 oa4 oa5 oa6 _ _ _ (blkR.od G0.out) (blkR.od W0.out)).mono ?_
  rintro e u9 ⟨rfl, hb⟩
  clear cx0 cx1 cx2 cx3 cx4 cx5 cx6
  clear cy0 cy1 cy2 cy3 cy4 cy5 cy6
  have L9 : Hid (u8.heap.size ≤ u9.heap.size) := hb.size
  clear XM2 EK
  clear B7
  replace TA := hide (TA.out.below hb)
  replace B6 := hide (B6.out.below hb)
  replace B8 := hide (B8.out.below hb)
  replace W0 := hide (blkR.ob W0.out hb)
  replace G0 := hide (blkR.ob G0.out hb)
  replace BW := hide (BW.out.trans (hb.mono BW.out.size))
  clear hb
  obtain ⟨kg, ekg⟩ : ∃ z : Int, 1 + ((blkR.nx (oa0, oa1, ox2, oa3, oa4, oa5, oa6) : Nat) : Int) = z := ⟨_, rfl⟩
  have kg0 : ¬ kg < 0 := by omega
  have kg1 := same_int kg
  have EG := hide ekg
  have NG := NXO.out
  clear ekg
  have cx0 := B8.out.cell 0 _ rfl
  have cx1 := B8.out.cell 1 _ rfl
  have cx2 := B8.out.cell 2 _ rfl
  have cx3 := B8.out.cell 3 _ rfl
  have cx4 := B8.out.cell 4 _ rfl
  have cx5 := B8.out.cell 5 _ rfl
  have cx6 := B8.out.cell 6 _ rfl
  go_wp2_with fail
  refine (markBlk oa0 oa1 ox2 oa3 oa4 oa5 oa6 1 _ _ _ G0.out (fun b hb => by have := hb.2; have := LT0.out; have := L1.out; have := L2.out; have := L3.out; have := L4.out; have := L5.out; have := B6s.out; have := B7s.out; have := B8s.out; have := L6.out; have := L7.out; have := L8.out; have := L9.out; omega) (by omega) (by omega)).mono ?_
  rintro e u10 ⟨rfl, GM, KP⟩
  rw [EG.out]
  have L10 : Hid (u9.heap.size ≤ u10.heap.size) := KP.size
  clear cx0 cx1 cx2 cx3 cx4 cx5 cx6
  replace TA := hide (TA.out.keep KP (fun hb => by have := hb.1; have := hb.2; have := LT0.out; have := L1.out; have := L2.out; have := L3.out; have := L4.out; have := L5.out; have := B6s.out; have := B7s.out; have := B8s.out; have := L6.out; have := L7.out; have := L8.out; have := L9.out; omega))
  replace B6 := hide (B6.out.keep KP (fun hb => by have := hb.1; have := hb.2; have := LT0.out; have := L1.out; have := L2.out; have := L3.out; have := L4.out; have := L5.out; have := B6s.out; have := B7s.out; have := B8s.out; have := L6.out; have := L7.out; have := L8.out; have := L9.out; omega))
  replace B8 := hide (B8.out.keep KP (fun hb => by have := hb.1; have := hb.2; have := LT0.out; have := L1.out; have := L2.out; have := L3.out; have := L4.out; have := L5.out; have := B6s.out; have := B7s.out; have := B8s.out; have := L6.out; have := L7.out; have := L8.out; have := L9.out; omega))
  replace W0 := hide (blkR.ok W0.out KP (fun b hx hb => by have := hb.1; have := hb.2; have := hx.1; have := hx.2; have := LT0.out; have := L1.out; have := L2.out; have := L3.out; have := L4.out; have := L5.out; have := B6s.out; have := B7s.out; have := B8s.out; have := L6.out; have := L7.out; have := L8.out; have := L9.out; omega))
  replace BW := hide (BW.out.trans (KP.below BW.out.size (fun k hk hb => by have := hb.1; have := LT0.out; have := L1.out; have := L2.out; have := L3.out; have := L4.out; have := L5.out; have := B6s.out; have := B7s.out; have := B8s.out; have := L6.out; have := L7.out; have := L8.out; have := L9.out; omega)))
  clear KP
  have GM2 := hide GM
  clear GM G0
  have cx0 := B8.out.cell 0 _ rfl
  have cx1 := B8.out.cell 1 _ rfl
  have cx2 := B8.out.cell 2 _ rfl
  have cx3 := B8.out.cell 3 _ rfl
  have cx4 := B8.out.cell 4 _ rfl
  have cx5 := B8.out.cell 5 _ rfl
  have cx6 := B8.out.cell 6 _ rfl
  go_wp2_with fail
  refine (heldBlk oa0 oa1 ox2 oa3 oa4 oa5 oa6 1 _ _ (blkR.od GM2.out) (by omega) (by omega)).mono ?_
  rintro e u11 ⟨rfl, hb⟩
  rw [EG.out]
  clear cx0 cx1 cx2 cx3 cx4 cx5 cx6
  replace TA := hide (TA.out.below hb)
  replace B6 := hide (B6.out.below hb)
  replace B8 := hide (B8.out.below hb)
  replace W0 := hide (blkR.ob W0.out hb)
  replace GM2 := hide (blkR.ob GM2.out hb)
  replace BW := hide (BW.out.trans (hb.mono BW.out.size))
  clear hb
  have ta0 := TA.out.cell 0 _ rfl
  have ta1 := TA.out.cell 1 _ rfl
  have ta2 := TA.out.cell 2 _ rfl
  have ta3 := TA.out.cell 3 _ rfl
  have ta4 := TA.out.cell 4 _ rfl
  have ta5 := TA.out.cell 5 _ rfl
  have ta6 := TA.out.cell 6 _ rfl
  go_wp2_with fail
  refine (toBlk a0 a1 x2 a3 a4 a5 a6 _ _ (blkR.rb RM.out BW.out) HS.out).mono ?_
  rintro e u12 ⟨r2, rfl, MH, hb⟩
  clear ta0 ta1 ta2 ta3 ta4 ta5 ta6
  have RH := hide (blkR.od MH)
  clear MH
  replace TA := hide (TA.out.below hb)
  replace B6 := hide (B6.out.below hb)
  replace B8 := hide (B8.out.below hb)
  replace W0 := hide (blkR.ob W0.out hb)
  replace GM2 := hide (blkR.ob GM2.out hb)
  replace BW := hide (BW.out.trans (hb.mono BW.out.size))
  clear hb
  go_wp2_with fail
  refine (implAllB (bkOf (a0, a1, x2, a3, a4, a5, a6)) _ _ RH.out HS.out (TBS.out.below BW.out)).mono ?_
  rintro e u13 ⟨ch, rfl, OW, hb⟩
  clear RH
  replace TA := hide (TA.out.below hb)
  replace B6 := hide (B6.out.below hb)
  replace B8 := hide (B8.out.below hb)
  replace W0 := hide (blkR.ob W0.out hb)
  replace GM2 := hide (blkR.ob GM2.out hb)
  replace BW := hide (BW.out.trans (hb.mono BW.out.size))
  clear hb
  rw [EO.out] at OW
  have H0 := hide OW
  obtain ⟨hq2, hc2, _, rfl, -⟩ := blkR_own OW
  clear OW
  have bX : Below u13.heap.size u13 (u13.alloc (.cells #[.int .i64 oa0, .int .i64 oa1, .slice hq2 ox2.length hc2, .int .i64 oa3, .int .i64 oa4, .int .i64 oa5, .int .i64 oa6] 28)) := (Below.refl _ _).alloc (Nat.le_refl _) _
  have B9n := hide (Rec.new u13 [.int .i64 oa0, .int .i64 oa1, .slice hq2 ox2.length hc2, .int .i64 oa3, .int .i64 oa4, .int .i64 oa5, .int .i64 oa6] 28)
  have B9s : Hid (u13.heap.size < (u13.alloc (.cells #[.int .i64 oa0, .int .i64 oa1, .slice hq2 ox2.length hc2, .int .i64 oa3, .int .i64 oa4, .int .i64 oa5, .int .i64 oa6] 28)).heap.size) := B9n.out.lt
  replace TA := hide (TA.out.below bX)
  replace B6 := hide (B6.out.below bX)
  replace B8 := hide (B8.out.below bX)
  replace W0 := hide (blkR.ob W0.out bX)
  replace GM2 := hide (blkR.ob GM2.out bX)
  replace H0 := hide (blkR.ob H0.out bX)
  replace BW := hide (BW.out.trans (bX.mono BW.out.size))
  clear bX
  have B9 := B9n
  clear B9n
  have cx0 := B9.out.cell 0 _ rfl
  have cx1 := B9.out.cell 1 _ rfl
  have cx2 := B9.out.cell 2 _ rfl
  have cx3 := B9.out.cell 3 _ rfl
  have cx4 := B9.out.cell 4 _ rfl
  have cx5 := B9.out.cell 5 _ rfl
  have cx6 := B9.out.cell 6 _ rfl
  have cy0 := B6.out.cell 0 _ rfl
  have cy1 := B6.out.cell 1 _ rfl
  have cy2 := B6.out.cell 2 _ rfl
  have cy3 := B6.out.cell 3 _ rfl
  have cy4 := B6.out.cell 4 _ rfl
  have cy5 := B6.out.cell 5 _ rfl
  have cy6 := B6.out.cell 6 _ rfl
  go_wp2_with fail
  refine (eqBlk oa0 oa1 ox2 oa3 oa4 oa5 oa6 _ _ _ (blkR.od H0.out) (blkR.od W0.out)).mono ?_
  rintro e u14 ⟨rfl, hb⟩
  clear cx0 cx1 cx2 cx3 cx4 cx5 cx6
  clear cy0 cy1 cy2 cy3 cy4 cy5 cy6
  replace TA := hide (TA.out.below hb)
  replace B6 := hide (B6.out.below hb)
  replace B8 := hide (B8.out.below hb)
  replace B9 := hide (B9.out.below hb)
  replace W0 := hide (blkR.ob W0.out hb)
  replace GM2 := hide (blkR.ob GM2.out hb)
  replace H0 := hide (blkR.ob H0.out hb)
  replace BW := hide (BW.out.trans (hb.mono BW.out.size))
  clear hb
  have cx0 := B8.out.cell 0 _ rfl
  have cx1 := B8.out.cell 1 _ rfl
  have cx2 := B8.out.cell 2 _ rfl
  have cx3 := B8.out.cell 3 _ rfl
  have cx4 := B8.out.cell 4 _ rfl
  have cx5 := B8.out.cell 5 _ rfl
  have cx6 := B8.out.cell 6 _ rfl
  go_wp2_with fail
  refine (heldBlk oa0 oa1 ox2 oa3 oa4 oa5 oa6 1 _ _ (blkR.od GM2.out) (by omega) (by omega)).mono ?_
  rintro e u15 ⟨rfl, hb⟩
  rw [EG.out]
  clear cx0 cx1 cx2 cx3 cx4 cx5 cx6
  replace TA := hide (TA.out.below hb)
  replace B6 := hide (B6.out.below hb)
  replace B8 := hide (B8.out.below hb)
  replace B9 := hide (B9.out.below hb)
  replace W0 := hide (blkR.ob W0.out hb)
  replace GM2 := hide (blkR.ob GM2.out hb)
  replace H0 := hide (blkR.ob H0.out hb)
  replace BW := hide (BW.out.trans (hb.mono BW.out.size))
  clear hb
  clear TA B6 B8 B9 W0 H0 GM2
  go_wp2
  go_ret
  exact ⟨rfl, BW.out⟩

set_option maxRecDepth 100000 in
theorem lifted (os : Os) (started : os.Started) (H : Type) (enc : TypeId × Value → H) :
    ReturnsInHanded {} Tryd.checked os 6 .any (fun w args => (Rows.fnExactOptAllSpec.pre enc Tryd.prog Tryd.f6 Rows.fnExactOptAllRow.domain false w args ∧ laidMetH Tryd.prog Rows.fnExactOptAllRow.laid w) ∧ sizedMet enc Tryd.prog Tryd.f6 (OpenSpec.ofChange Rows.fnExactOptAllSpec) false w args)
      (Rows.fnExactOptAllSpec.post enc Tryd.prog Tryd.f6 false true false false) := by
  refine returnsInHanded_of_change_and (C := Tryd.checked) (X := fun w _ => laidMetH Tryd.prog Rows.fnExactOptAllRow.laid w) (fun _ _ _ hh h => h.of_heap hh) own started (by kernel_rfl) Tryd.func6
    (ChangeSpec.witness_shaped (enc := enc) (C := Tryd.checked) (os := os) (X := fun w _ => laidMetH Tryd.prog Rows.fnExactOptAllRow.laid w) false (World.laidAll Tryd.prog os Rows.fnExactOptAllRow.laid) #[.agg #[.int .i64 0, .int .i64 0, .slice none 0 0, .int .i64 0, .int .i64 0, .int .i64 0, .int .i64 0]] 8 (World.laidAll_os _ _ _) (World.shaped_of_ZipB (by kernel_rfl) (by kernel_rfl)) (by kernel_rfl) (by kernel_rfl) (by kernel_rfl) (door_met os _)) ?_
  intro W base args ds gs before hval0 hW _ hsz0 hL _
  have hval : ∀ (j : Nat) t v, Tryd.f6.params[j]? = some t → args[j]? = some v → Value.okWide Tryd.prog W .any base t v := hval0
  have hW' := hW
  obtain ⟨p, q, hA0, hV, rfl, hfz, hnd⟩ := hW
  have hA : DataW.TrodAll enc Tryd.prog W 0 (fun _ => true) true Tryd.f6.params.toList args.toList ds p := hA0
  rw [Tryd.params6] at hA hval
  obtain ⟨v0, vs0, d0, ds0, p0, q0, hargs, rfl, rfl, h0, r0⟩ := trodAll_cons hA
  obtain ⟨rfl, rfl, rfl⟩ := trodAll_nil r0
  obtain rfl : args = #[v0] := by cases args; simp_all
  have hgl : gs.length = 2 := (trodVars_len hV).trans rfl
  obtain ⟨g0, g1, rfl⟩ : ∃ g0 g1, gs = [g0, g1] := by
    match gs, hgl with
    | [g0, g1], _ => exact ⟨g0, g1, rfl⟩
  have k0 := h0
  have lt0 : ∀ x ∈ p0, x.block < W.heap.size := by obtain ⟨m, hm⟩ := k0; exact DataW.trod_lt m _ _ _ hm
  obtain ⟨a0, rfl, _⟩ := okWide_struct Tryd.underlying24 (hval 0 24 v0 rfl rfl)
  have w0 : Shape.Holds Tryd.prog W 9 24 a0.toList := Shape.opened 9 h0
  clear hA0 hval0
  rw [MakeChecks.laidMetH_plain _ _ _ (by kernel_rfl)] at hL
  refine (walk a0 W w0 hL).mono fun e W' ⟨he, hnx⟩ => ?_
  subst he
  exact ⟨_, rfl, _, _, _, [], _, q, hW', trodAll_cons_mk (shut_bool Tryd.underlying4 _) trodAll_mk0, (trodAll_cons_mk (Below.trod laidOut (by kernel_rfl) (of_decide_eq_true (by kernel_rfl)) k0 hnx lt0) trodAll_mk0), hnx.trodVars laidOut (by kernel_rfl) hV, hnx.frame _, fun h => by cases h⟩

theorem over : Rows.fnExactOptAllRow.holds Tryd.pinned (OpenSpec.ofChange Rows.fnExactOptAllSpec) :=
  OpenClaim.holds_of_wide 6 Tryd.f6 rfl rfl rfl rfl rfl rfl rfl ⟨rfl, rfl, rfl, rfl, rfl⟩ rfl rfl rfl rfl rfl (by kernel_rfl) Tryd.func6 (by kernel_rfl)
    (of_decide_eq_true (by kernel_rfl)) (by unfold Func.isWrapper; first | (rw [if_pos (by decide +kernel)]; kernel_rfl) | (rw [if_neg (by decide +kernel)]; exact ⟨rfl, rfl⟩))
    (fun os started H enc _ => lifted os started H enc)

theorem proved : Rows.FnExactOptAllCardSaid :=
  Claim7.holds_tied_plain_at .later [] [.wider, .wider] true (true, "54d714f4598a57e46a7e73a67a6f32884a25d8bb5527eac329a44020e5f4a364") false
    over (fun _ h => by cases h) (by kernel_rfl) (fun _ h => by cases h) fnExactOptAll_row_tie rfl ⟨rfl, rfl⟩ (by kernel_rfl) rfl
    (fun f fn hf hfn => by
      obtain rfl : f = 6 := Option.some.inj ((show Tryd.prog.funcNamed "loop.example/latimer/laws.FnExactOptAll" = some 6 by kernel_rfl).symm.trans hf) |>.symm
      obtain rfl : fn = Tryd.f6 := (Option.some.inj (Tryd.func6.symm.trans hfn)).symm
      exact ⟨by kernel_rfl, fun j t ht => by
        rw [Tryd.params6] at ht
        have hm : t ∈ [24] := by simpa using Array.mem_of_getElem? ht
        have hall : ([24].all fun u => !Tryd.prog.wantsStandIn u) = true := by kernel_rfl
        exact (show Tryd.prog.wantsStandIn t = false by simpa using List.all_eq_true.1 hall t hm)⟩)
    (by kernel_rfl)
#print axioms proved
end Go.Proofs.YtflhehofgplcoaaDoor.fnExactOptAll
