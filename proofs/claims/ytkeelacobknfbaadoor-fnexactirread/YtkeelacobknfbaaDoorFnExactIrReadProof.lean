/-
  At every list of bytes the program's IrRead answers as the specification's IrRead does, the piece of code field by field and whether it is one, writes into no argument, and its answer owns its memory, behind another call too (the law FnExactIrRead returns true); the program's tables opShapes and endShapes and its errors errTooFew, errTooMany and errNotOk are as the program's own text lays them.
  The frame (lifted, over, proved) is written by my own program after the guide's worked texts; the walk and the lemmas ahead of it are mine.
-/
import Derived.Test.YtkeelacobknfbaaDoorRows
import Derived.Test.YtkeelacobknfbaaDoorShape
import Derived.Test.YtkeelacobknfbaaDoorTie
import Derived.Test.YtkeelacobknfbaaDoorCards
import Derived.Test.YtkeelacobknfbaaDoorWrK
import Derived.Test.YtkeelacobknfbaaDoorWrM
import Derived.Test.YtkeelacobknfbaaDoorRecR
import Derived.WalkKit
import Derived.ProofKit
import Derived.OpenShut
import Derived.ShutString
import Derived.ChangeOld
import Derived.Below
import Derived.SizedLaws
import Derived.OpenVars
import Derived.LaidMore
import Derived.Stop.Joined
import Derived.Stop.LaidErr
import Derived.Lib.LaidTab
import Derived.SevenTiedAt
import Derived.Lay
namespace Go.Proofs.YtkeelacobknfbaaDoor.fnExactIrRead
open Go.ChangeShapes Go.WideShapes Go.ChangeAt Go.RowKit
open Go.ChangeMaps (open_string shut_string)
set_option linter.unusedVariables false

theorem own : ownKnob Tryd.prog.godebug = none := by kernel_rfl
theorem laidOut : laidOutB Tryd.prog = true := by kernel_rfl
theorem trodVars_len {H : Type} {enc : TypeId × Value → H} {P : Program} {W : World} {m : Nat → Bool} : ∀ {ns : List String} {gs : List (DataW H)} {ps : List MemPlace}, DataW.TrodVars enc P W m ns gs ps → gs.length = ns.length
  | [], [], _, _ => rfl
  | [], _ :: _, _, h => h.elim
  | _ :: _, [], _, h => h.elim
  | _ :: _, _ :: _, _, h => by
    obtain ⟨_, _, _, _, _, _, _, _, _, _, h, _⟩ := h
    simp [trodVars_len h]
theorem door_met (os : Os) (args : Array Value) : laidMetH Tryd.prog Rows.fnExactIrReadRow.laid ((World.laidAll Tryd.prog os Rows.fnExactIrReadRow.laid).forCall (fun _ _ => 0) ⟨#[], args, []⟩).memory := by
  rw [MakeChecks.laidMetH_plain _ _ _ (by kernel_rfl)]; exact laidMet_laidAll _ (by kernel_rfl) (by kernel_rfl)

open IntS Pol Dt
open _root_.Go.Proofs.YtkeelacobknfbaaDoor.Wr
set_option linter.unusedSimpArgs false
set_option linter.unusedVariables false
theorem same_int (z : Int) : (z != z) = false := by simp

set_option maxRecDepth 8000 in
set_option maxHeartbeats 16000000 in
theorem walk (a0 : Option Addr) (len0 cap0 : Nat) (w : World) (w0 : Shape.Holds Tryd.prog w 9 22 [.slice a0 len0 cap0]) (hL : laidMet Tryd.prog Rows.fnExactIrReadRow.laid w) :
    Calls Tryd.prog 6 #[.slice a0 len0 cap0] w fun e w' => e = .returned (.bool true) ∧ Below w.heap.size w w' := by
  obtain ⟨vv, ys, BI, hv, HR0, hy0⟩ := row_holdsY (n := 7) w0
  obtain rfl : Value.slice a0 len0 cap0 = vv := by simpa using hv
  have hl0 : ys.length = len0 := by
    obtain ⟨_, _, _, e, _⟩ := HR0.ex
    injection e with _ e2 _
    exact e2.symm
  have hc0 : len0 ≤ cap0 ∧ cap0 ≤ 9223372036854775807 := by
    obtain ⟨_, c', _, e, h2, h3, _⟩ := HR0.ex
    injection e with _ e2 e3
    unfold maxLen at h3
    rw [hl0] at h2
    exact ⟨by omega, by omega⟩
  have HR := hide HR0
  have HL := hide hl0
  have HY := hide hy0
  obtain ⟨af, am, an, he0⟩ := ers_of hL
  have GZW : Hid (∀ v : World, Below w.heap.size w v → GZ v.heap.size) := fun v hb => ⟨World.block_lt_of_cell? v _ (he0.below hb).few, World.block_lt_of_cell? v _ (he0.below hb).many, World.block_lt_of_cell? v _ (he0.below hb).notOk⟩
  have ER := hide he0
  have TBS : Hid (Tbs w) := show _ ∧ _ from ⟨Ir.tb_op hL (List.mem_of_getElem? (i := 3) rfl), Ir.tb_en hL (List.mem_of_getElem? (i := 4) rfl)⟩
  clear HR0 hy0 he0 hv w0 hl0
  obtain ⟨OUT, eO⟩ : ∃ z, toT (readB ys) = z := ⟨_, rfl⟩
  have NXO : Hid (blkR.nx OUT ≤ 10000000) := by
    rw [← eO]
    show (readB ys).ops.length * 5 ≤ 10000000
    have : (readB ys).ops.length ≤ 48 := by
      unfold readB
      split
      · show (opsR ys _).length ≤ 48
        rw [opsR_len]
        rename_i h
        unfold readOk lenY at h
        simp only [Bool.and_eq_true, decide_eq_true_eq] at h
        omega
      · exact Nat.zero_le _
    omega
  obtain ⟨oa0, oa1, ox2, oa3, oa4, oa5, oa6⟩ := OUT
  have EO := hide eO
  clear eO
  obtain ⟨ro, ero⟩ : ∃ z, readOk ys = z := ⟨_, rfl⟩
  have ERO := hide ero
  have sb1 : (ro != ro) = false := by simp
  have sb2 : (!(ro == ro)) = false := by simp
  clear ero
  have BW : Hid (Below w.heap.size w w) := Below.refl _ _
  by_cases hbig : len0 > 1048576
  · have lk : (1048576 : Int) < (len0 : Nat) := by omega
    clear HR
    go_enter Tryd.func6, Tryd.ntmps6
    go_wp2
    go_ret
    exact ⟨rfl, BW.out⟩
  have lk : ¬ (1048576 : Int) < (len0 : Nat) := by omega
  have hn : len0 ≤ 1048576 := by omega
  go_enter Tryd.func6, Tryd.ntmps6
  go_wp2_with fail
  refine (BytS.toS ys BI _ _ (HR.out.below BW.out) (by rw [HL.out]; exact hn)).mono ?_
  rintro e u1 ⟨g, rfl, M1, gl, gh, hb⟩
  rw [HL.out] at M1 ⊢
  have LT0 : Hid (w.heap.size ≤ g ∧ g < u1.heap.size) := ⟨gl, gh⟩
  have R1 := hide M1
  clear M1 gl gh
  replace BW := hide (BW.out.trans (hb.mono BW.out.size))
  clear hb
  go_wp2_with fail
  refine (specRead ys g _ len0 len0 u1 R1.out.row HL.out hn HY.out (Or.inr LT0.out.2)).mono ?_
  rintro e u2 ⟨cw, rfl, OW, hb⟩
  have L2 : Hid (u1.heap.size ≤ u2.heap.size) := hb.size
  clear R1
  replace BW := hide (BW.out.trans (hb.mono BW.out.size))
  clear hb
  rw [EO.out] at OW
  rw [ERO.out]
  have W0 := hide OW
  obtain ⟨wq2, wc2, _, rfl, -⟩ := blkR_own OW
  clear OW
  have bX : Below u2.heap.size u2 (u2.alloc (.cells #[.int .i64 oa0, .int .i64 oa1, .slice wq2 ox2.length wc2, .int .i64 oa3, .int .i64 oa4, .int .i64 oa5, .int .i64 oa6] 25)) := (Below.refl _ _).alloc (Nat.le_refl _) _
  have B6n := hide (Rec.new u2 [.int .i64 oa0, .int .i64 oa1, .slice wq2 ox2.length wc2, .int .i64 oa3, .int .i64 oa4, .int .i64 oa5, .int .i64 oa6] 25)
  have B6s : Hid (u2.heap.size < (u2.alloc (.cells #[.int .i64 oa0, .int .i64 oa1, .slice wq2 ox2.length wc2, .int .i64 oa3, .int .i64 oa4, .int .i64 oa5, .int .i64 oa6] 25)).heap.size) := B6n.out.lt
  replace W0 := hide (blkR.ob W0.out bX)
  replace BW := hide (BW.out.trans (bX.mono BW.out.size))
  clear bX
  have B6 := B6n
  clear B6n
  go_wp2_with fail
  refine (BytS.toS ys BI _ _ (HR.out.below BW.out) (by rw [HL.out]; exact hn)).mono ?_
  rintro e u3 ⟨h, rfl, MX, hl, hh, hb⟩
  rw [HL.out] at MX ⊢
  have L3 : Hid ((u2.alloc (.cells #[.int .i64 oa0, .int .i64 oa1, .slice wq2 ox2.length wc2, .int .i64 oa3, .int .i64 oa4, .int .i64 oa5, .int .i64 oa6] 25)).heap.size ≤ h ∧ h < u3.heap.size) := ⟨hl, hh⟩
  clear hl hh
  replace B6 := hide (B6.out.below hb)
  replace W0 := hide (blkR.ob W0.out hb)
  replace BW := hide (BW.out.trans (hb.mono BW.out.size))
  clear hb
  have X0 := hide MX
  clear MX
  go_wp2_with fail
  refine (implRead ys h _ len0 len0 af am an u3 X0.out.row HL.out hn HY.out (ER.out.below BW.out) (TBS.out.below BW.out) (GZW.out u3 BW.out) (Or.inr L3.out.2)).mono ?_
  rintro e u4 ⟨cg, rfl, OW, hb⟩
  have L4 : Hid (u3.heap.size ≤ u4.heap.size) := hb.size
  replace B6 := hide (B6.out.below hb)
  replace W0 := hide (blkR.ob W0.out hb)
  replace X0 := hide (X0.out.below hb)
  replace BW := hide (BW.out.trans (hb.mono BW.out.size))
  clear hb
  rw [EO.out] at OW
  rw [ERO.out]
  have G0 := hide OW
  obtain ⟨gq2, gc2, _, rfl, -⟩ := blkR_own OW
  clear OW
  have bX : Below u4.heap.size u4 (u4.alloc (.cells #[.int .i64 oa0, .int .i64 oa1, .slice gq2 ox2.length gc2, .int .i64 oa3, .int .i64 oa4, .int .i64 oa5, .int .i64 oa6] 25)) := (Below.refl _ _).alloc (Nat.le_refl _) _
  have B8n := hide (Rec.new u4 [.int .i64 oa0, .int .i64 oa1, .slice gq2 ox2.length gc2, .int .i64 oa3, .int .i64 oa4, .int .i64 oa5, .int .i64 oa6] 25)
  have B8s : Hid (u4.heap.size < (u4.alloc (.cells #[.int .i64 oa0, .int .i64 oa1, .slice gq2 ox2.length gc2, .int .i64 oa3, .int .i64 oa4, .int .i64 oa5, .int .i64 oa6] 25)).heap.size) := B8n.out.lt
  replace B6 := hide (B6.out.below bX)
  replace W0 := hide (blkR.ob W0.out bX)
  replace G0 := hide (blkR.ob G0.out bX)
  replace X0 := hide (X0.out.below bX)
  replace BW := hide (BW.out.trans (bX.mono BW.out.size))
  clear bX
  have B8 := B8n
  clear B8n
  have cx0 := B8.out.cell 0 _ rfl
  have cx1 := B8.out.cell 1 _ rfl
  have cx2 := B8.out.cell 2 _ rfl
  have cx3 := B8.out.cell 3 _ rfl
  have cx4 := B8.out.cell 4 _ rfl
  have cx5 := B8.out.cell 5 _ rfl
  have cx6 := B8.out.cell 6 _ rfl
  have cy0 := B6.out.cell 0 _ rfl
  have cy1 := B6.out.cell 1 _ rfl
  have cy2 := B6.out.cell 2 _ rfl
  have cy3 := B6.out.cell 3 _ rfl
  have cy4 := B6.out.cell 4 _ rfl
  have cy5 := B6.out.cell 5 _ rfl
  have cy6 := B6.out.cell 6 _ rfl
  go_wp2_with fail
  refine (eqBlk oa0 oa1 ox2 oa3 oa4 oa5 oa6 _ _ _ (blkR.od G0.out) (blkR.od W0.out)).mono ?_
  rintro e u5 ⟨rfl, hb⟩
  clear cx0 cx1 cx2 cx3 cx4 cx5 cx6
  clear cy0 cy1 cy2 cy3 cy4 cy5 cy6
  have L5 : Hid ((u4.alloc (.cells #[.int .i64 oa0, .int .i64 oa1, .slice gq2 ox2.length gc2, .int .i64 oa3, .int .i64 oa4, .int .i64 oa5, .int .i64 oa6] 25)).heap.size ≤ u5.heap.size) := hb.size
  replace B6 := hide (B6.out.below hb)
  replace B8 := hide (B8.out.below hb)
  replace W0 := hide (blkR.ob W0.out hb)
  replace G0 := hide (blkR.ob G0.out hb)
  replace X0 := hide (X0.out.below hb)
  replace BW := hide (BW.out.trans (hb.mono BW.out.size))
  clear hb
  go_wp2_with fail
  refine (BytS.toS ys BI _ _ (HR.out.below BW.out) (by rw [HL.out]; exact hn)).mono ?_
  rintro e u6 ⟨k, rfl, M6, kl, kh, hb⟩
  rw [HL.out] at M6 ⊢
  have R6 := hide M6
  clear M6 kl kh
  have L6 : Hid (u5.heap.size ≤ u6.heap.size) := hb.size
  replace B6 := hide (B6.out.below hb)
  replace B8 := hide (B8.out.below hb)
  replace W0 := hide (blkR.ob W0.out hb)
  replace G0 := hide (blkR.ob G0.out hb)
  replace X0 := hide (X0.out.below hb)
  replace BW := hide (BW.out.trans (hb.mono BW.out.size))
  clear hb
  go_wp2_with fail
  refine (BytS.eqSame ys _ _ _ _ _ X0.out.row R6.out.row).mono ?_
  rintro e u7 ⟨rfl, hb⟩
  clear R6
  have L7 : Hid (u6.heap.size ≤ u7.heap.size) := hb.size
  replace B6 := hide (B6.out.below hb)
  replace B8 := hide (B8.out.below hb)
  replace W0 := hide (blkR.ob W0.out hb)
  replace G0 := hide (blkR.ob G0.out hb)
  replace X0 := hide (X0.out.below hb)
  replace BW := hide (BW.out.trans (hb.mono BW.out.size))
  clear hb
  obtain ⟨kx, ekx⟩ : ∃ z : Int, 1 + ((len0 : Nat) : Int) = z := ⟨_, rfl⟩
  have kx0 : ¬ kx < 0 := by omega
  have EK := hide ekx
  clear ekx
  go_wp2_with fail
  refine (BytS.markS 1 ys h _ _ X0.out (by omega) (by omega) (by rw [HL.out]; omega)).mono ?_
  rintro e u8 ⟨rfl, XM, TP⟩
  rw [HL.out, EK.out]
  have L8 : Hid (u7.heap.size ≤ u8.heap.size) := TP.size
  replace B6 := hide (B6.out.turn TP (by have := L2.out; have := L4.out; have := L5.out; have := B6s.out; have := B8s.out; have := L6.out; have := L7.out; have := LT0.out.1; have := LT0.out.2; have := L3.out.1; have := L3.out.2; omega))
  replace B8 := hide (B8.out.turn TP (by have := L2.out; have := L4.out; have := L5.out; have := B6s.out; have := B8s.out; have := L6.out; have := L7.out; have := LT0.out.1; have := LT0.out.2; have := L3.out.1; have := L3.out.2; omega))
  have KP := Pol.Keep.of_turn TP
  replace W0 := hide (blkR.ok W0.out KP (fun b hx hb => by have := hx.1; have := hx.2; have := L2.out; have := L4.out; have := L5.out; have := B6s.out; have := B8s.out; have := L6.out; have := L7.out; have := LT0.out.1; have := LT0.out.2; have := L3.out.1; have := L3.out.2; omega))
  replace G0 := hide (blkR.ok G0.out KP (fun b hx hb => by have := hx.1; have := hx.2; have := L2.out; have := L4.out; have := L5.out; have := B6s.out; have := B8s.out; have := L6.out; have := L7.out; have := LT0.out.1; have := LT0.out.2; have := L3.out.1; have := L3.out.2; omega))
  replace BW := hide (BW.out.trans (TP.below (by have := L2.out; have := L4.out; have := L5.out; have := B6s.out; have := B8s.out; have := L6.out; have := L7.out; have := LT0.out.1; have := LT0.out.2; have := L3.out.1; have := L3.out.2; omega) BW.out.size))
  clear TP KP XM X0
  have cx0 := B8.out.cell 0 _ rfl
  have cx1 := B8.out.cell 1 _ rfl
  have cx2 := B8.out.cell 2 _ rfl
  have cx3 := B8.out.cell 3 _ rfl
  have cx4 := B8.out.cell 4 _ rfl
  have cx5 := B8.out.cell 5 _ rfl
  have cx6 := B8.out.cell 6 _ rfl
  have cy0 := B6.out.cell 0 _ rfl
  have cy1 := B6.out.cell 1 _ rfl
  have cy2 := B6.out.cell 2 _ rfl
  have cy3 := B6.out.cell 3 _ rfl
  have cy4 := B6.out.cell 4 _ rfl
  have cy5 := B6.out.cell 5 _ rfl
  have cy6 := B6.out.cell 6 _ rfl
  go_wp2_with fail
  refine (eqBlk oa0 oa1 ox2 oa3 oa4 oa5 oa6 _ _ _ (blkR.od G0.out) (blkR.od W0.out)).mono ?_
  rintro e u9 ⟨rfl, hb⟩
  clear cx0 cx1 cx2 cx3 cx4 cx5 cx6
  clear cy0 cy1 cy2 cy3 cy4 cy5 cy6
  have L9 : Hid (u8.heap.size ≤ u9.heap.size) := hb.size
  clear EK
  replace B6 := hide (B6.out.below hb)
  replace B8 := hide (B8.out.below hb)
  replace W0 := hide (blkR.ob W0.out hb)
  replace G0 := hide (blkR.ob G0.out hb)
  replace BW := hide (BW.out.trans (hb.mono BW.out.size))
  clear hb
  obtain ⟨kg, ekg⟩ : ∃ z : Int, 1 + ((blkR.nx (oa0, oa1, ox2, oa3, oa4, oa5, oa6) : Nat) : Int) = z := ⟨_, rfl⟩
  have kg0 : ¬ kg < 0 := by omega
  have kg1 := same_int kg
  have EG := hide ekg
  have NG := NXO.out
  clear ekg
  have cx0 := B8.out.cell 0 _ rfl
  have cx1 := B8.out.cell 1 _ rfl
  have cx2 := B8.out.cell 2 _ rfl
  have cx3 := B8.out.cell 3 _ rfl
  have cx4 := B8.out.cell 4 _ rfl
  have cx5 := B8.out.cell 5 _ rfl
  have cx6 := B8.out.cell 6 _ rfl
  go_wp2_with fail
  refine (markBlk oa0 oa1 ox2 oa3 oa4 oa5 oa6 1 _ _ _ G0.out (fun b hb => by have := hb.2; have := L2.out; have := L4.out; have := L5.out; have := B6s.out; have := B8s.out; have := L6.out; have := L7.out; have := LT0.out.1; have := LT0.out.2; have := L3.out.1; have := L3.out.2; have := L8.out; have := L9.out; omega) (by omega) (by omega)).mono ?_
  rintro e u10 ⟨rfl, GM, KP⟩
  rw [EG.out]
  have L10 : Hid (u9.heap.size ≤ u10.heap.size) := KP.size
  clear cx0 cx1 cx2 cx3 cx4 cx5 cx6
  replace B6 := hide (B6.out.keep KP (fun hb => by have := hb.1; have := hb.2; have := L2.out; have := L4.out; have := L5.out; have := B6s.out; have := B8s.out; have := L6.out; have := L7.out; have := LT0.out.1; have := LT0.out.2; have := L3.out.1; have := L3.out.2; have := L8.out; have := L9.out; omega))
  replace B8 := hide (B8.out.keep KP (fun hb => by have := hb.1; have := hb.2; have := L2.out; have := L4.out; have := L5.out; have := B6s.out; have := B8s.out; have := L6.out; have := L7.out; have := LT0.out.1; have := LT0.out.2; have := L3.out.1; have := L3.out.2; have := L8.out; have := L9.out; omega))
  replace W0 := hide (blkR.ok W0.out KP (fun b hx hb => by have := hb.1; have := hb.2; have := hx.1; have := hx.2; have := L2.out; have := L4.out; have := L5.out; have := B6s.out; have := B8s.out; have := L6.out; have := L7.out; have := LT0.out.1; have := LT0.out.2; have := L3.out.1; have := L3.out.2; have := L8.out; have := L9.out; omega))
  replace BW := hide (BW.out.trans (KP.below BW.out.size (fun k hk hb => by have := hb.1; have := L2.out; have := L4.out; have := L5.out; have := B6s.out; have := B8s.out; have := L6.out; have := L7.out; have := LT0.out.1; have := LT0.out.2; have := L3.out.1; have := L3.out.2; have := L8.out; have := L9.out; omega)))
  clear KP
  have GM2 := hide GM
  clear GM G0
  have cx0 := B8.out.cell 0 _ rfl
  have cx1 := B8.out.cell 1 _ rfl
  have cx2 := B8.out.cell 2 _ rfl
  have cx3 := B8.out.cell 3 _ rfl
  have cx4 := B8.out.cell 4 _ rfl
  have cx5 := B8.out.cell 5 _ rfl
  have cx6 := B8.out.cell 6 _ rfl
  go_wp2_with fail
  refine (heldBlk oa0 oa1 ox2 oa3 oa4 oa5 oa6 1 _ _ (blkR.od GM2.out) (by omega) (by omega)).mono ?_
  rintro e u11 ⟨rfl, hb⟩
  rw [EG.out]
  clear cx0 cx1 cx2 cx3 cx4 cx5 cx6
  replace B6 := hide (B6.out.below hb)
  replace B8 := hide (B8.out.below hb)
  replace W0 := hide (blkR.ob W0.out hb)
  replace GM2 := hide (blkR.ob GM2.out hb)
  replace BW := hide (BW.out.trans (hb.mono BW.out.size))
  clear hb
  go_wp2_with fail
  refine (BytS.toS ys BI _ _ (HR.out.below BW.out) (by rw [HL.out]; exact hn)).mono ?_
  rintro e u12 ⟨r, rfl, MH, rl, rh, hb⟩
  rw [HL.out] at MH ⊢
  have RH := hide MH
  have RL : Hid (r < u12.heap.size) := rh
  clear MH rl rh
  replace B6 := hide (B6.out.below hb)
  replace B8 := hide (B8.out.below hb)
  replace W0 := hide (blkR.ob W0.out hb)
  replace GM2 := hide (blkR.ob GM2.out hb)
  replace BW := hide (BW.out.trans (hb.mono BW.out.size))
  clear hb
  go_wp2_with fail
  refine (implRead ys r _ len0 len0 af am an u12 RH.out.row HL.out hn HY.out (ER.out.below BW.out) (TBS.out.below BW.out) (GZW.out u12 BW.out) (Or.inr RL.out)).mono ?_
  rintro e u13 ⟨ch, rfl, OW, hb⟩
  clear RH
  replace B6 := hide (B6.out.below hb)
  replace B8 := hide (B8.out.below hb)
  replace W0 := hide (blkR.ob W0.out hb)
  replace GM2 := hide (blkR.ob GM2.out hb)
  replace BW := hide (BW.out.trans (hb.mono BW.out.size))
  clear hb
  rw [EO.out] at OW
  rw [ERO.out]
  have H0 := hide OW
  obtain ⟨hq2, hc2, _, rfl, -⟩ := blkR_own OW
  clear OW
  have bX : Below u13.heap.size u13 (u13.alloc (.cells #[.int .i64 oa0, .int .i64 oa1, .slice hq2 ox2.length hc2, .int .i64 oa3, .int .i64 oa4, .int .i64 oa5, .int .i64 oa6] 25)) := (Below.refl _ _).alloc (Nat.le_refl _) _
  have B9n := hide (Rec.new u13 [.int .i64 oa0, .int .i64 oa1, .slice hq2 ox2.length hc2, .int .i64 oa3, .int .i64 oa4, .int .i64 oa5, .int .i64 oa6] 25)
  have B9s : Hid (u13.heap.size < (u13.alloc (.cells #[.int .i64 oa0, .int .i64 oa1, .slice hq2 ox2.length hc2, .int .i64 oa3, .int .i64 oa4, .int .i64 oa5, .int .i64 oa6] 25)).heap.size) := B9n.out.lt
  replace B6 := hide (B6.out.below bX)
  replace B8 := hide (B8.out.below bX)
  replace W0 := hide (blkR.ob W0.out bX)
  replace GM2 := hide (blkR.ob GM2.out bX)
  replace H0 := hide (blkR.ob H0.out bX)
  replace BW := hide (BW.out.trans (bX.mono BW.out.size))
  clear bX
  have B9 := B9n
  clear B9n
  have cx0 := B9.out.cell 0 _ rfl
  have cx1 := B9.out.cell 1 _ rfl
  have cx2 := B9.out.cell 2 _ rfl
  have cx3 := B9.out.cell 3 _ rfl
  have cx4 := B9.out.cell 4 _ rfl
  have cx5 := B9.out.cell 5 _ rfl
  have cx6 := B9.out.cell 6 _ rfl
  have cy0 := B6.out.cell 0 _ rfl
  have cy1 := B6.out.cell 1 _ rfl
  have cy2 := B6.out.cell 2 _ rfl
  have cy3 := B6.out.cell 3 _ rfl
  have cy4 := B6.out.cell 4 _ rfl
  have cy5 := B6.out.cell 5 _ rfl
  have cy6 := B6.out.cell 6 _ rfl
  go_wp2_with fail
  refine (eqBlk oa0 oa1 ox2 oa3 oa4 oa5 oa6 _ _ _ (blkR.od H0.out) (blkR.od W0.out)).mono ?_
  rintro e u14 ⟨rfl, hb⟩
  clear cx0 cx1 cx2 cx3 cx4 cx5 cx6
  clear cy0 cy1 cy2 cy3 cy4 cy5 cy6
  replace B6 := hide (B6.out.below hb)
  replace B8 := hide (B8.out.below hb)
  replace B9 := hide (B9.out.below hb)
  replace W0 := hide (blkR.ob W0.out hb)
  replace GM2 := hide (blkR.ob GM2.out hb)
  replace H0 := hide (blkR.ob H0.out hb)
  replace BW := hide (BW.out.trans (hb.mono BW.out.size))
  clear hb
  have cx0 := B8.out.cell 0 _ rfl
  have cx1 := B8.out.cell 1 _ rfl
  have cx2 := B8.out.cell 2 _ rfl
  have cx3 := B8.out.cell 3 _ rfl
  have cx4 := B8.out.cell 4 _ rfl
  have cx5 := B8.out.cell 5 _ rfl
  have cx6 := B8.out.cell 6 _ rfl
  go_wp2_with fail
  refine (heldBlk oa0 oa1 ox2 oa3 oa4 oa5 oa6 1 _ _ (blkR.od GM2.out) (by omega) (by omega)).mono ?_
  rintro e u15 ⟨rfl, hb⟩
  rw [EG.out]
  clear cx0 cx1 cx2 cx3 cx4 cx5 cx6
  replace B6 := hide (B6.out.below hb)
  replace B8 := hide (B8.out.below hb)
  replace B9 := hide (B9.out.below hb)
  replace W0 := hide (blkR.ob W0.out hb)
  replace GM2 := hide (blkR.ob GM2.out hb)
  replace H0 := hide (blkR.ob H0.out hb)
  replace BW := hide (BW.out.trans (hb.mono BW.out.size))
  clear hb
  clear B6 B8 B9 W0 H0 GM2
  go_wp2
  go_ret
  exact ⟨rfl, BW.out⟩

set_option maxRecDepth 100000 in
theorem lifted (os : Os) (started : os.Started) (H : Type) (enc : TypeId × Value → H) :
    ReturnsInHanded {} Tryd.checked os 6 .any (fun w args => (Rows.fnExactIrReadSpec.pre enc Tryd.prog Tryd.f6 Rows.fnExactIrReadRow.domain false w args ∧ laidMetH Tryd.prog Rows.fnExactIrReadRow.laid w) ∧ sizedMet enc Tryd.prog Tryd.f6 (OpenSpec.ofChange Rows.fnExactIrReadSpec) false w args)
      (Rows.fnExactIrReadSpec.post enc Tryd.prog Tryd.f6 false true false false) := by
  refine returnsInHanded_of_change_and (C := Tryd.checked) (X := fun w _ => laidMetH Tryd.prog Rows.fnExactIrReadRow.laid w) (fun _ _ _ hh h => h.of_heap hh) own started (by kernel_rfl) Tryd.func6
    (ChangeSpec.witness_shaped (enc := enc) (C := Tryd.checked) (os := os) (X := fun w _ => laidMetH Tryd.prog Rows.fnExactIrReadRow.laid w) false (World.laidAll Tryd.prog os Rows.fnExactIrReadRow.laid) #[.slice none 0 0] 8 (World.laidAll_os _ _ _) (World.shaped_of_ZipB (by kernel_rfl) (by kernel_rfl)) (by kernel_rfl) (by kernel_rfl) (by kernel_rfl) (door_met os _)) ?_
  intro W base args ds gs before hval0 hW _ hsz0 hL _
  have hval : ∀ (j : Nat) t v, Tryd.f6.params[j]? = some t → args[j]? = some v → Value.okWide Tryd.prog W .any base t v := hval0
  have hW' := hW
  obtain ⟨p, q, hA0, hV, rfl, hfz, hnd⟩ := hW
  have hA : DataW.TrodAll enc Tryd.prog W 0 (fun _ => true) true Tryd.f6.params.toList args.toList ds p := hA0
  rw [Tryd.params6] at hA hval
  obtain ⟨v0, vs0, d0, ds0, p0, q0, hargs, rfl, rfl, h0, r0⟩ := trodAll_cons hA
  obtain ⟨rfl, rfl, rfl⟩ := trodAll_nil r0
  obtain rfl : args = #[v0] := by cases args; simp_all
  have hgl : gs.length = 5 := (trodVars_len hV).trans rfl
  obtain ⟨g0, g1, g2, g3, g4, rfl⟩ : ∃ g0 g1 g2 g3 g4, gs = [g0, g1, g2, g3, g4] := by
    match gs, hgl with
    | [g0, g1, g2, g3, g4], _ => exact ⟨g0, g1, g2, g3, g4, rfl⟩
  have k0 := h0
  have lt0 : ∀ x ∈ p0, x.block < W.heap.size := by obtain ⟨m, hm⟩ := k0; exact DataW.trod_lt m _ _ _ hm
  obtain ⟨a0, len0, cap0, rfl⟩ := okWide_slice Tryd.underlying22 (hval 0 22 v0 rfl rfl)
  have w0 : Shape.Holds Tryd.prog W 9 22 [.slice a0 len0 cap0] := Shape.opened 9 h0
  clear hA0 hval0
  rw [MakeChecks.laidMetH_plain _ _ _ (by kernel_rfl)] at hL
  refine (walk a0 len0 cap0 W w0 hL).mono fun e W' ⟨he, hnx⟩ => ?_
  subst he
  exact ⟨_, rfl, _, _, _, [], _, q, hW', trodAll_cons_mk (shut_bool Tryd.underlying4 _) trodAll_mk0, (trodAll_cons_mk (Below.trod laidOut (by kernel_rfl) (of_decide_eq_true (by kernel_rfl)) k0 hnx lt0) trodAll_mk0), hnx.trodVars laidOut (by kernel_rfl) hV, hnx.frame _, fun h => by cases h⟩

theorem over : Rows.fnExactIrReadRow.holds Tryd.pinned (OpenSpec.ofChange Rows.fnExactIrReadSpec) :=
  OpenClaim.holds_of_wide 6 Tryd.f6 rfl rfl rfl rfl rfl rfl rfl ⟨rfl, rfl, rfl, rfl, rfl⟩ rfl rfl rfl rfl rfl (by kernel_rfl) Tryd.func6 (by kernel_rfl)
    (of_decide_eq_true (by kernel_rfl)) (by unfold Func.isWrapper; first | (rw [if_pos (by decide +kernel)]; kernel_rfl) | (rw [if_neg (by decide +kernel)]; exact ⟨rfl, rfl⟩))
    (fun os started H enc _ => lifted os started H enc)

theorem proved : Rows.FnExactIrReadCardSaid :=
  Claim7.holds_tied_plain_at .later [] [.sentinel, .sentinel, .sentinel, .wider, .wider] true (true, "7edb4a81e00b71114e2b05156062a8d6a0e458d3490f5484cb37f66b1b269180") false
    over (fun _ h => by cases h) (by kernel_rfl) (fun _ h => by cases h) fnExactIrRead_row_tie rfl ⟨rfl, rfl⟩ (by kernel_rfl) rfl
    (fun f fn hf hfn => by
      obtain rfl : f = 6 := Option.some.inj ((show Tryd.prog.funcNamed "loop.example/latimer/laws.FnExactIrRead" = some 6 by kernel_rfl).symm.trans hf) |>.symm
      obtain rfl : fn = Tryd.f6 := (Option.some.inj (Tryd.func6.symm.trans hfn)).symm
      exact ⟨by kernel_rfl, fun j t ht => by
        rw [Tryd.params6] at ht
        have hm : t ∈ [22] := by simpa using Array.mem_of_getElem? ht
        have hall : ([22].all fun u => !Tryd.prog.wantsStandIn u) = true := by kernel_rfl
        exact (show Tryd.prog.wantsStandIn t = false by simpa using List.all_eq_true.1 hall t hm)⟩)
    (by kernel_rfl)
#print axioms proved
end Go.Proofs.YtkeelacobknfbaaDoor.fnExactIrRead
