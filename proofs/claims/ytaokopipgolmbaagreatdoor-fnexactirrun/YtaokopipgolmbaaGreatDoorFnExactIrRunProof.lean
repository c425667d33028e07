/-
  At every piece of code and every machine the program's IrRun answers as the specification's IrRun does, every field; it writes into no list of its arguments, and its answer owns its memory (the law FnExactIrRun returns true); the listed tables of the program hold what the program's text lays into them, and errors.errorType the handle of the type error.
  The frame (lifted, over, proved) is written by my own program after the guide's worked texts; the walk and the lemmas ahead of it are mine.
-/
import Derived.Test.YtaokopipgolmbaaGreatDoorRows
import Derived.Test.YtaokopipgolmbaaGreatDoorShape
import Derived.Test.YtaokopipgolmbaaGreatDoorTie
import Derived.Test.YtaokopipgolmbaaGreatDoorCards
import Derived.Test.YtaokopipgolmbaaGreatDoorIrLw
import Derived.Test.YtaokopipgolmbaaGreatDoorPhaseDg
import Derived.WalkKit
import Derived.ProofKit
import Derived.OpenShut
import Derived.ShutString
import Derived.ChangeOld
import Derived.Below
import Derived.SizedLaws
import Derived.OpenVars
import Derived.LaidHandle
import Derived.LaidMore
import Derived.Stop.Joined
import Derived.Stop.LaidErr
import Derived.Lib.LaidTab
import Derived.SevenTiedAt
namespace Go.Proofs.YtaokopipgolmbaaGreatDoor.fnExactIrRun
open Go.ChangeShapes Go.WideShapes Go.ChangeAt Go.RowKit
open Go.ChangeMaps (open_string shut_string)
set_option linter.unusedVariables false

theorem own : ownKnob Tryz.prog.godebug = none := by kernel_rfl
theorem laidOut : laidOutB Tryz.prog = true := by kernel_rfl
theorem trodVars_len {H : Type} {enc : TypeId × Value → H} {P : Program} {W : World} {m : Nat → Bool} : ∀ {ns : List String} {gs : List (DataW H)} {ps : List MemPlace}, DataW.TrodVars enc P W m ns gs ps → gs.length = ns.length
  | [], [], _, _ => rfl
  | [], _ :: _, _, h => h.elim
  | _ :: _, [], _, h => h.elim
  | _ :: _, _ :: _, _, h => by
    obtain ⟨_, _, _, _, _, _, _, _, _, _, h, _⟩ := h
    simp [trodVars_len h]
theorem door_met (os : Os) (args : Array Value) : laidMetH Tryz.prog Rows.fnExactIrRunRow.laid ((World.doorLaid Tryz.prog 400 os).forCall (fun _ _ => 0) ⟨#[], args, []⟩).memory := 
  laidMetH_of_parts3 (fuel := 8) (laidMet_of_run' 8 (by kernel_rfl) (by kernel_rfl)) (by kernel_rfl) (by kernel_rfl)

open IntS Mch Ir
set_option linter.unusedSimpArgs false
theorem total_pos (m : M) : 0 ≤ total m := by unfold total; omega
theorem drew_belowI (u : World) : Below u.heap.size u u.drew := (Below.refl _ _).drew
theorem ten_forms {w : World} {lo hi : Nat} {c : List Value} {m : M} (h : BMach w lo hi c m) : ∃ q1 q2 q3 q4 n1 n2 n3 n4 k1 k2 k3 k4, c = mv m (.slice q1 n1 k1) (.slice q2 n2 k2) (.slice q3 n3 k3) (.slice q4 n4 k4) := by
  obtain ⟨r, e, i, o, b1, b2, b3, b4, hc, h1, h2, h3, h4, _⟩ := h
  obtain ⟨q1, k1, _, rfl, _⟩ := h1
  obtain ⟨q2, k2, _, rfl, _⟩ := h2
  obtain ⟨q3, k3, _, rfl, _⟩ := h3
  obtain ⟨q4, k4, _, rfl, _⟩ := h4
  exact ⟨q1, q2, q3, q4, _, _, _, _, k1, k2, k3, k4, hc⟩
theorem turn_keep {B : Nat} {w w' : World} (h : Turn B w w') : Keep (fun k => k = B) w w' := ⟨h.os, h.tape, h.output, h.size, fun k hk hn => h.block k hk hn⟩
theorem same_neb (b : Bool) : (b != b) = false := by cases b <;> rfl

set_option maxRecDepth 8000 in
set_option maxHeartbeats 32000000 in
theorem walk (a0 : Array Value) (a1 : Array Value) (w : World) (w0 : Shape.Holds Tryz.prog w 9 24 a0.toList) (w1 : Shape.Holds Tryz.prog w 9 27 a1.toList) (hL : laidMetH Tryz.prog Rows.fnExactIrRunRow.laid w) :
    Calls Tryz.prog 3 #[.agg a0, .agg a1] w fun e w' => e = .returned (.bool true) ∧ Below w.heap.size w w' := by
  have hH : laidMet Tryz.prog [("loop.example/latimer/impl.opShapes", Rows.laid_loop_example_latimer_impl_opShapes), ("loop.example/latimer/impl.endShapes", Rows.laid_loop_example_latimer_impl_endShapes)] w ∧ handlesMet Tryz.prog [("errors.errorType", Rows.laid_errors_errorType)] w := hL
  have HT := hide (tb_op hH.1 (List.mem_of_getElem? (i := 0) rfl))
  have HZ := hide (tb_en hH.1 (List.mem_of_getElem? (i := 1) rfl))
  have HG := hide (handle_at hH.2 rfl (List.mem_of_getElem? (i := 0) rfl))
  clear hL hH
  obtain ⟨l0, b, rfl, hP⟩ := Ir.of_holds w0
  obtain ⟨q0, cap0, B0, rfl, hq⟩ := hP
  obtain ⟨bp, ln, ops, en, bx, by_, bk⟩ := b
  have RB : Hid (RBk w [.int .i64 bp, .int .i64 ln, .slice q0 ops.length cap0, .int .i64 en, .int .i64 bx, .int .i64 by_, .int .i64 bk] ⟨bp, ln, ops, en, bx, by_, bk⟩) := ⟨q0, cap0, B0, rfl, hq⟩
  simp only [bv] at *
  clear w0 hq
  obtain ⟨l1, m0, rfl, hm⟩ := Mch.of_holds w1
  obtain ⟨r, e, i, o, b1, b2, b3, b4, rfl, h1, h2, h3, h4⟩ := hm
  obtain ⟨regs, pc, mem, save, lets, waits, halt, ins, outs, count⟩ := m0
  have RM : Hid (RMach w [r, .int .i64 pc, e, .int .i64 save, .bool lets, .bool waits, .int .i64 halt, i, o, .int .i64 count] ⟨regs, pc, mem, save, lets, waits, halt, ins, outs, count⟩) := ⟨r, e, i, o, b1, b2, b3, b4, rfl, h1, h2, h3, h4⟩
  obtain ⟨t1, j1, _, rfl, _⟩ := h1
  obtain ⟨t2, j2, _, rfl, _⟩ := h2
  obtain ⟨t3, j3, _, rfl, _⟩ := h3
  obtain ⟨t4, j4, _, rfl, _⟩ := h4
  simp only [Mch.mv] at *
  clear w1
  obtain ⟨kk, ek⟩ : ∃ kk, (okB ⟨bp, ln, ops, en, bx, by_, bk⟩ && okM ⟨regs, pc, mem, save, lets, waits, halt, ins, outs, count⟩ && standB ⟨bp, ln, ops, en, bx, by_, bk⟩ ⟨regs, pc, mem, save, lets, waits, halt, ins, outs, count⟩) = kk := ⟨_, rfl⟩
  have EK := hide ek
  clear ek
  have kne := same_neb kk
  obtain ⟨m, em⟩ : ∃ m, irF ⟨bp, ln, ops, en, bx, by_, bk⟩ ⟨regs, pc, mem, save, lets, waits, halt, ins, outs, count⟩ = m := ⟨_, rfl⟩
  have EM := hide em
  have SM0 : Hid (Small ⟨regs, pc, mem, save, lets, waits, halt, ins, outs, count⟩ → Wide m) := fun h => by rw [← em]; exact ir_wide h
  clear em
  have TB := hide ((Rec.new w [.int .i64 bp, .int .i64 ln, .slice q0 ops.length cap0, .int .i64 en, .int .i64 bx, .int .i64 by_, .int .i64 bk] 24).alloc (.cells #[.slice t1 regs.length j1, .int .i64 pc, .slice t2 mem.length j2, .int .i64 save, .bool lets, .bool waits, .int .i64 halt, .slice t3 ins.length j3, .slice t4 outs.length j4, .int .i64 count] 27))
  have TA0 := Rec.new (w.alloc (.cells #[.int .i64 bp, .int .i64 ln, .slice q0 ops.length cap0, .int .i64 en, .int .i64 bx, .int .i64 by_, .int .i64 bk] 24)) [.slice t1 regs.length j1, .int .i64 pc, .slice t2 mem.length j2, .int .i64 save, .bool lets, .bool waits, .int .i64 halt, .slice t3 ins.length j3, .slice t4 outs.length j4, .int .i64 count] 27
  rw [show (w.alloc (.cells #[.int .i64 bp, .int .i64 ln, .slice q0 ops.length cap0, .int .i64 en, .int .i64 bx, .int .i64 by_, .int .i64 bk] 24)).heap.size = w.heap.size + 1 by simp] at TA0
  have TA := hide TA0
  have BW : Hid (Below w.heap.size w ((w.alloc (.cells #[.int .i64 bp, .int .i64 ln, .slice q0 ops.length cap0, .int .i64 en, .int .i64 bx, .int .i64 by_, .int .i64 bk] 24)).alloc (.cells #[.slice t1 regs.length j1, .int .i64 pc, .slice t2 mem.length j2, .int .i64 save, .bool lets, .bool waits, .int .i64 halt, .slice t3 ins.length j3, .slice t4 outs.length j4, .int .i64 count] 27))) := ((Below.refl w.heap.size w).alloc (Nat.le_refl _) _).alloc (by simp) _
  clear TA0
  go_enter Tryz.func3, Tryz.ntmps3
  have tb0 := TB.out.cell 0 _ rfl
  have tb1 := TB.out.cell 1 _ rfl
  have tb2 := TB.out.cell 2 _ rfl
  have tb3 := TB.out.cell 3 _ rfl
  have tb4 := TB.out.cell 4 _ rfl
  have tb5 := TB.out.cell 5 _ rfl
  have tb6 := TB.out.cell 6 _ rfl
  go_wp2_with fail
  refine (szIrBlock ⟨bp, ln, ops, en, bx, by_, bk⟩ _ 1048576 _ (RB.out.below BW.out) (by omega) (by omega)).mono ?_
  rintro e u0 ⟨n1, rfl, n10, hs, hb⟩
  clear tb0 tb1 tb2 tb3 tb4 tb5 tb6
  replace TA := hide (TA.out.below hb)
  replace TB := hide (TB.out.below hb)
  replace BW := hide (BW.out.trans (hb.mono BW.out.size))
  clear hb
  by_cases hn : n1 < 0
  · clear TA TB
    go_wp2
    go_ret
    exact ⟨rfl, BW.out⟩
  have LO : Hid (ops.length ≤ 1048576) := show _ ≤ _ by have := hs (by omega); simp only [] at this; omega
  have N1 : n1 ≤ 1048576 := by have := hs (by omega); omega
  clear hs
  have ta0 := TA.out.cell 0 _ rfl
  have ta1 := TA.out.cell 1 _ rfl
  have ta2 := TA.out.cell 2 _ rfl
  have ta3 := TA.out.cell 3 _ rfl
  have ta4 := TA.out.cell 4 _ rfl
  have ta5 := TA.out.cell 5 _ rfl
  have ta6 := TA.out.cell 6 _ rfl
  have ta7 := TA.out.cell 7 _ rfl
  have ta8 := TA.out.cell 8 _ rfl
  have ta9 := TA.out.cell 9 _ rfl
  go_wp2_with fail
  refine (Irk.szMchL n1 (by omega) N1 ⟨regs, pc, mem, save, lets, waits, halt, ins, outs, count⟩ _ _ (RM.out.below BW.out)).mono ?_
  rintro e u1 ⟨n2, rfl, n20, hs, hb⟩
  clear ta0 ta1 ta2 ta3 ta4 ta5 ta6 ta7 ta8 ta9
  replace TA := hide (TA.out.below hb)
  replace TB := hide (TB.out.below hb)
  replace BW := hide (BW.out.trans (hb.mono BW.out.size))
  clear hb
  by_cases hn2 : n2 < 0
  · clear TA TB
    go_wp2
    go_ret
    exact ⟨rfl, BW.out⟩
  have HS := hide (hs (by omega))
  have HM : Hid (Mid ⟨regs, pc, mem, save, lets, waits, halt, ins, outs, count⟩) := HS.out.mid
  have SM : Hid (Wide m) := SM0.out HS.out
  clear hs SM0 n10 n20 N1
  go_wp2_with fail
  refine PhaseIn.cut (fun a' w' => ∃ (Y lo hi : Nat) (cw : List Value) (x17 x18 x19 x20 x21 x22 x23 x24 x25 x26 x27 x28 x29 x30 x31 x32 x33 x34 : Value), a' = ⟨#[.agg #[.int .i64 bp, .int .i64 ln, .slice q0 ops.length cap0, .int .i64 en, .int .i64 bx, .int .i64 by_, .int .i64 bk], .agg #[.slice t1 regs.length j1, .int .i64 pc, .slice t2 mem.length j2, .int .i64 save, .bool lets, .bool waits, .int .i64 halt, .slice t3 ins.length j3, .slice t4 outs.length j4, .int .i64 count], .pointer (some ⟨w.heap.size, 0, none⟩), .pointer (some ⟨w.heap.size + 1, 0, none⟩), .bool false, .int .i64 n2, .pointer (some ⟨Y, 0, none⟩), .bool kk, undef, undef, undef, undef, undef, undef, undef, undef, undef, x17, x18, x19, x20, x21, x22, x23, x24, x25, x26, x27, x28, x29, x30, x31, x32, x33, x34, undef, undef, undef, undef, undef, undef, undef, undef, undef, undef, undef, undef, undef, undef, undef, undef, undef, undef, undef, undef, undef, undef, undef, undef, undef, undef, undef, undef, undef, undef, undef, undef, undef, undef, undef, undef, undef, undef, undef, undef, undef, undef, undef, undef, undef, undef, undef, undef, undef, undef, undef, undef, undef, undef, undef, undef, undef, undef, undef, undef, undef, undef, undef, undef, undef, undef, undef, undef, undef, undef, undef, undef, undef, undef, undef, undef, undef, undef, undef, undef, undef, undef, undef, undef], []⟩ ∧ Rec Y cw w' ∧ BMach w' lo hi cw m ∧ hi ≤ w'.heap.size ∧ Rec w.heap.size [.int .i64 bp, .int .i64 ln, .slice q0 ops.length cap0, .int .i64 en, .int .i64 bx, .int .i64 by_, .int .i64 bk] w' ∧ Rec (w.heap.size + 1) [.slice t1 regs.length j1, .int .i64 pc, .slice t2 mem.length j2, .int .i64 save, .bool lets, .bool waits, .int .i64 halt, .slice t3 ins.length j3, .slice t4 outs.length j4, .int .i64 count] w' ∧ Below w.heap.size w w') ?_ ?_
  · have D := drew_belowI u1
    replace TB := hide (TB.out.below D)
    replace TA := hide (TA.out.below D)
    replace BW := hide (BW.out.trans (D.mono BW.out.size))
    clear D
    refine PhaseIn.region (S := fun D => Rec w.heap.size [.int .i64 bp, .int .i64 ln, .slice q0 ops.length cap0, .int .i64 en, .int .i64 bx, .int .i64 by_, .int .i64 bk] D ∧ Rec (w.heap.size + 1) [.slice t1 regs.length j1, .int .i64 pc, .slice t2 mem.length j2, .int .i64 save, .bool lets, .bool waits, .int .i64 halt, .slice t3 ins.length j3, .slice t4 outs.length j4, .int .i64 count] D ∧ True) 10 (by kernel_rfl) ?_
    generalize u1.drew = v0 at TB TA BW ⊢
    have hHeld : Rec w.heap.size [.int .i64 bp, .int .i64 ln, .slice q0 ops.length cap0, .int .i64 en, .int .i64 bx, .int .i64 by_, .int .i64 bk] v0 ∧ Rec (w.heap.size + 1) [.slice t1 regs.length j1, .int .i64 pc, .slice t2 mem.length j2, .int .i64 save, .bool lets, .bool waits, .int .i64 halt, .slice t3 ins.length j3, .slice t4 outs.length j4, .int .i64 count] v0 ∧ True := ⟨TB.out, TA.out, trivial⟩
    refine PhaseIn.takeD (i := 0) (v := ?_) [0, 1, 3, 4, 5, 6, 7, 9, 10] 28 rfl (by rfl) (by kernel_rfl) (by kernel_rfl) (by kernel_rfl) (by kernel_rfl) (by kernel_rfl) (fun _ _ _ h => h) (Or.inl ⟨by kernel_rfl, ?_⟩) hHeld ?_
    rotate_left
    · intro w' hSw
      (try dsimp only at hSw)
      have z0 := hSw.1.cell 0 _ rfl; have z1 := hSw.1.cell 1 _ rfl; have z2 := hSw.1.cell 2 _ rfl; have z3 := hSw.1.cell 3 _ rfl; have z4 := hSw.1.cell 4 _ rfl; have z5 := hSw.1.cell 5 _ rfl; have z6 := hSw.1.cell 6 _ rfl
      go_simp
      first | done | with_reducible rfl
    try simp only [Act.put, List.setIfInBounds_toArray, List.set]
    refine PhaseIn.takeD (i := 2) (v := ?_) [2, 3, 4, 5, 6, 7, 9, 10] 30 rfl (by rfl) (by kernel_rfl) (by kernel_rfl) (by kernel_rfl) (by kernel_rfl) (by kernel_rfl) (fun _ _ _ h => h) (Or.inl ⟨by kernel_rfl, ?_⟩) hHeld ?_
    rotate_left
    · intro w' hSw
      (try dsimp only at hSw)
      have z0 := hSw.2.1.cell 0 _ rfl; have z1 := hSw.2.1.cell 1 _ rfl; have z2 := hSw.2.1.cell 2 _ rfl; have z3 := hSw.2.1.cell 3 _ rfl; have z4 := hSw.2.1.cell 4 _ rfl; have z5 := hSw.2.1.cell 5 _ rfl; have z6 := hSw.2.1.cell 6 _ rfl; have z7 := hSw.2.1.cell 7 _ rfl; have z8 := hSw.2.1.cell 8 _ rfl; have z9 := hSw.2.1.cell 9 _ rfl
      go_simp
      first | done | with_reducible rfl
    try simp only [Act.put, List.setIfInBounds_toArray, List.set]
    refine PhaseIn.two (i := 1) (j := 8) (by kernel_rfl) rfl rfl (by kernel_rfl) (by kernel_rfl) (fun K hK => ?_) (fun K hK => ?_)
    · unfold Oper.wpIn
      refine ⟨fun _ _ => trivial, ?_⟩
      go_simp
      refine ⟨rfl, (callsIn_wide.2 (toIrBlock ⟨bp, ln, ops, en, bx, by_, bk⟩ _ v0 (RB.out.below BW.out) LO.out)).mono ?_⟩
      rintro e v1 ⟨g1, c1, rfl, rfl, M1, -, -, hb⟩
      simp only [bv] at M1 ⊢
      have R1 := hide M1.read
      clear M1
      replace TB := hide (TB.out.below hb)
      replace TA := hide (TA.out.below hb)
      replace BW := hide (BW.out.trans (hb.mono BW.out.size))
      clear hb
      have hHeld2 : Rec w.heap.size [.int .i64 bp, .int .i64 ln, .slice q0 ops.length cap0, .int .i64 en, .int .i64 bx, .int .i64 by_, .int .i64 bk] v1 ∧ Rec (w.heap.size + 1) [.slice t1 regs.length j1, .int .i64 pc, .slice t2 mem.length j2, .int .i64 save, .bool lets, .bool waits, .int .i64 halt, .slice t3 ins.length j3, .slice t4 outs.length j4, .int .i64 count] v1 ∧ True := ⟨TB.out, TA.out, trivial⟩
      refine hK _ _ (fun _ => hHeld2) ?_
      clear hK K hHeld
      have hHeld := hHeld2
      clear hHeld2
      try simp only [Act.put, List.setIfInBounds_toArray, List.set]
      refine PhaseIn.two (i := 3) (j := 8) (by kernel_rfl) rfl rfl (by kernel_rfl) (by kernel_rfl) (fun K hK => ?_) (fun K hK => ?_)
      · unfold Oper.wpIn
        refine ⟨fun _ _ => trivial, ?_⟩
        go_simp
        refine ⟨rfl, (callsIn_wide.2 (toMch ⟨regs, pc, mem, save, lets, waits, halt, ins, outs, count⟩ _ v1 (RM.out.below BW.out) HS.out)).mono ?_⟩
        rintro e v2 ⟨c3, rfl, M3, hb⟩
        replace M3 := hide M3.read
        replace TB := hide (TB.out.below hb)
        replace TA := hide (TA.out.below hb)
        replace R1 := hide (R1.out.below hb)
        replace BW := hide (BW.out.trans (hb.mono BW.out.size))
        clear hb
        have hHeld2 : Rec w.heap.size [.int .i64 bp, .int .i64 ln, .slice q0 ops.length cap0, .int .i64 en, .int .i64 bx, .int .i64 by_, .int .i64 bk] v2 ∧ Rec (w.heap.size + 1) [.slice t1 regs.length j1, .int .i64 pc, .slice t2 mem.length j2, .int .i64 save, .bool lets, .bool waits, .int .i64 halt, .slice t3 ins.length j3, .slice t4 outs.length j4, .int .i64 count] v2 ∧ True := ⟨TB.out, TA.out, trivial⟩
        refine hK _ _ (fun _ => hHeld2) ?_
        clear hK K hHeld
        have hHeld := hHeld2
        clear hHeld2
        try simp only [Act.put, List.setIfInBounds_toArray, List.set]
        refine PhaseIn.two (i := 4) (j := 8) (by kernel_rfl) rfl rfl (by kernel_rfl) (by kernel_rfl) (fun K hK => ?_) (fun K hK => ?_)
        · unfold Oper.wpIn
          refine ⟨fun _ _ => trivial, ?_⟩
          go_simp
          have LV : Hid True := trivial
          refine ⟨rfl, (callsIn_wide.2 (specIrRun ⟨bp, ln, ops, en, bx, by_, bk⟩ ⟨regs, pc, mem, save, lets, waits, halt, ins, outs, count⟩ _ _ v2 R1.out M3.out HM.out)).mono ?_⟩
          rintro e v3 ⟨hir, hb⟩
          obtain ⟨cw, rfl, MW⟩ := ir_bound hir
          rw [EK.out]
          rw [EM.out] at MW
          clear hir
          obtain ⟨pq1, pq2, pq3, pq4, pn1, pn2, pn3, pn4, pk1, pk2, pk3, pk4, rfl⟩ := ten_forms MW
          simp only [mv] at MW ⊢
          replace MW := hide MW
          obtain ⟨lo, elo⟩ : ∃ lo, v2.heap.size = lo := ⟨_, rfl⟩
          rw [elo] at MW
          clear elo
          obtain ⟨hi, ehi⟩ : ∃ hi, v3.heap.size = hi := ⟨_, rfl⟩
          rw [ehi] at MW
          have HI : Hid (hi ≤ v3.heap.size) := show _ ≤ _ by omega
          clear ehi R1 M3
          replace TB := hide (TB.out.below hb)
          replace TA := hide (TA.out.below hb)
          replace BW := hide (BW.out.trans (hb.mono BW.out.size))
          clear hb
          have hHeld2 : Rec w.heap.size [.int .i64 bp, .int .i64 ln, .slice q0 ops.length cap0, .int .i64 en, .int .i64 bx, .int .i64 by_, .int .i64 bk] v3 ∧ Rec (w.heap.size + 1) [.slice t1 regs.length j1, .int .i64 pc, .slice t2 mem.length j2, .int .i64 save, .bool lets, .bool waits, .int .i64 halt, .slice t3 ins.length j3, .slice t4 outs.length j4, .int .i64 count] v3 ∧ True := ⟨TB.out, TA.out, trivial⟩
          refine hK _ _ (fun _ => hHeld2) ?_
          clear hK K hHeld
          have hHeld := hHeld2
          clear hHeld2
          try simp only [Act.put, List.setIfInBounds_toArray, List.set]
          refine PhaseIn.takeD (i := 5) (v := ?_) [5, 6, 7, 9, 10] 27 rfl (by rfl) (by kernel_rfl) (by kernel_rfl) (by kernel_rfl) (by kernel_rfl) (by kernel_rfl) (fun _ _ _ h => h) (Or.inl ⟨by kernel_rfl, ?_⟩) hHeld ?_
          rotate_left
          · intro w' hSw
            (try dsimp only at hSw)
            go_simp
            first | done | with_reducible rfl
          try simp only [Act.put, List.setIfInBounds_toArray, List.set]
          refine PhaseIn.takeD (i := 6) (v := ?_) [6, 9, 10] 33 rfl (by rfl) (by kernel_rfl) (by kernel_rfl) (by kernel_rfl) (by kernel_rfl) (by kernel_rfl) (fun _ _ _ h => h) (Or.inl ⟨by kernel_rfl, ?_⟩) hHeld ?_
          rotate_left
          · intro w' hSw
            (try dsimp only at hSw)
            go_simp
            first | done | with_reducible rfl
          try simp only [Act.put, List.setIfInBounds_toArray, List.set]
          refine PhaseIn.takeD (i := 7) (v := ?_) [7, 10] 34 rfl (by rfl) (by kernel_rfl) (by kernel_rfl) (by kernel_rfl) (by kernel_rfl) (by kernel_rfl) (fun _ _ _ h => h) (Or.inl ⟨by kernel_rfl, ?_⟩) hHeld ?_
          rotate_left
          · intro w' hSw
            (try dsimp only at hSw)
            go_simp
            first | done | with_reducible rfl
          try simp only [Act.put, List.setIfInBounds_toArray, List.set]
          refine PhaseIn.one (i := 8) (by kernel_rfl) rfl (by kernel_rfl) (fun K hK => ?_)
          unfold Oper.wpIn
          refine ⟨fun _ _ => trivial, ?_⟩
          go_simp
          have hb := alloc_below v3 (.cells #[.slice none 0 0, .int .i64 0, .slice none 0 0, .int .i64 0, .bool false, .bool false, .int .i64 0, .slice none 0 0, .slice none 0 0, .int .i64 0] 30)
          have YB := hide (Rec.new v3 [.slice none 0 0, .int .i64 0, .slice none 0 0, .int .i64 0, .bool false, .bool false, .int .i64 0, .slice none 0 0, .slice none 0 0, .int .i64 0] 30)
          have LV : Hid (hi ≤ v3.heap.size) := HI.out
          replace HI := hide (Nat.le_trans HI.out hb.size)
          have LN : Hid (w.heap.size + 1 < v3.heap.size) := TA.out.lt
          replace TB := hide (TB.out.below hb)
          replace TA := hide (TA.out.below hb)
          replace MW := hide (MW.out.below hb)
          replace BW := hide (BW.out.trans (hb.mono BW.out.size))
          clear hb
          have hHeld2 : Rec w.heap.size [.int .i64 bp, .int .i64 ln, .slice q0 ops.length cap0, .int .i64 en, .int .i64 bx, .int .i64 by_, .int .i64 bk] (v3.alloc (.cells #[.slice none 0 0, .int .i64 0, .slice none 0 0, .int .i64 0, .bool false, .bool false, .int .i64 0, .slice none 0 0, .slice none 0 0, .int .i64 0] 30)) ∧ Rec (w.heap.size + 1) [.slice t1 regs.length j1, .int .i64 pc, .slice t2 mem.length j2, .int .i64 save, .bool lets, .bool waits, .int .i64 halt, .slice t3 ins.length j3, .slice t4 outs.length j4, .int .i64 count] (v3.alloc (.cells #[.slice none 0 0, .int .i64 0, .slice none 0 0, .int .i64 0, .bool false, .bool false, .int .i64 0, .slice none 0 0, .slice none 0 0, .int .i64 0] 30)) ∧ True := ⟨TB.out, TA.out, trivial⟩
          refine hK _ _ (fun _ => hHeld2) ?_
          clear hK K hHeld
          have hHeld := hHeld2
          clear hHeld2
          try simp only [Act.put, List.setIfInBounds_toArray, List.set]
          generalize v3.alloc (.cells #[.slice none 0 0, .int .i64 0, .slice none 0 0, .int .i64 0, .bool false, .bool false, .int .i64 0, .slice none 0 0, .slice none 0 0, .int .i64 0] 30) = v4 at TB TA MW YB BW hHeld HI ⊢
          generalize v3.heap.size = Y at YB LN LV  ⊢
          have z0 := YB.out.cell 0 _ rfl
          have s0 := YB.out.soft 0
          have z1 := YB.out.cell 1 _ rfl
          have s1 := YB.out.soft 1
          have z2 := YB.out.cell 2 _ rfl
          have s2 := YB.out.soft 2
          have z3 := YB.out.cell 3 _ rfl
          have s3 := YB.out.soft 3
          have z4 := YB.out.cell 4 _ rfl
          have s4 := YB.out.soft 4
          have z5 := YB.out.cell 5 _ rfl
          have s5 := YB.out.soft 5
          have z6 := YB.out.cell 6 _ rfl
          have s6 := YB.out.soft 6
          have z7 := YB.out.cell 7 _ rfl
          have s7 := YB.out.soft 7
          have z8 := YB.out.cell 8 _ rfl
          have s8 := YB.out.soft 8
          have z9 := YB.out.cell 9 _ rfl
          have s9 := YB.out.soft 9
          refine PhaseIn.one (i := 9) (by kernel_rfl) rfl (by kernel_rfl) (fun K hK => ?_)
          unfold Oper.wpIn
          refine ⟨fun _ _ => trivial, ?_⟩
          go_simp
          have tY := turn_ten Y v4 (.slice pq1 pn1 pk1) (.int .i64 m.pc) (.slice pq2 pn2 pk2) (.int .i64 m.save) (.bool m.lets) (.bool m.waits) (.int .i64 m.halt) (.slice pq3 pn3 pk3) (.slice pq4 pn4 pk4) (.int .i64 m.count)
          have YR := hide (rec_ten YB.out (.slice pq1 pn1 pk1) (.int .i64 m.pc) (.slice pq2 pn2 pk2) (.int .i64 m.save) (.bool m.lets) (.bool m.waits) (.int .i64 m.halt) (.slice pq3 pn3 pk3) (.slice pq4 pn4 pk4) (.int .i64 m.count))
          have BD : Hid (hi ≤ Y ∨ Y < lo) := Or.inl LV.out
          replace MW := hide (MW.out.keep (turn_keep tY) (fun b h1 h2 h3 => by have := BD.out; omega))
          replace TB := hide (TB.out.turn tY (by have := LN.out; omega))
          replace TA := hide (TA.out.turn tY (by have := LN.out; omega))
          replace HI := hide (Nat.le_trans HI.out tY.size)
          replace BW := hide (BW.out.trans (tY.below (by have := LN.out; omega) BW.out.size))
          clear tY YB
          have hHeld2 : Rec w.heap.size [.int .i64 bp, .int .i64 ln, .slice q0 ops.length cap0, .int .i64 en, .int .i64 bx, .int .i64 by_, .int .i64 bk] ((((((((((v4.setCell ⟨Y, 0, none⟩ (.slice pq1 pn1 pk1)).setCell ⟨Y, 1, none⟩ (.int .i64 m.pc)).setCell ⟨Y, 2, none⟩ (.slice pq2 pn2 pk2)).setCell ⟨Y, 3, none⟩ (.int .i64 m.save)).setCell ⟨Y, 4, none⟩ (.bool m.lets)).setCell ⟨Y, 5, none⟩ (.bool m.waits)).setCell ⟨Y, 6, none⟩ (.int .i64 m.halt)).setCell ⟨Y, 7, none⟩ (.slice pq3 pn3 pk3)).setCell ⟨Y, 8, none⟩ (.slice pq4 pn4 pk4)).setCell ⟨Y, 9, none⟩ (.int .i64 m.count)) ∧ Rec (w.heap.size + 1) [.slice t1 regs.length j1, .int .i64 pc, .slice t2 mem.length j2, .int .i64 save, .bool lets, .bool waits, .int .i64 halt, .slice t3 ins.length j3, .slice t4 outs.length j4, .int .i64 count] ((((((((((v4.setCell ⟨Y, 0, none⟩ (.slice pq1 pn1 pk1)).setCell ⟨Y, 1, none⟩ (.int .i64 m.pc)).setCell ⟨Y, 2, none⟩ (.slice pq2 pn2 pk2)).setCell ⟨Y, 3, none⟩ (.int .i64 m.save)).setCell ⟨Y, 4, none⟩ (.bool m.lets)).setCell ⟨Y, 5, none⟩ (.bool m.waits)).setCell ⟨Y, 6, none⟩ (.int .i64 m.halt)).setCell ⟨Y, 7, none⟩ (.slice pq3 pn3 pk3)).setCell ⟨Y, 8, none⟩ (.slice pq4 pn4 pk4)).setCell ⟨Y, 9, none⟩ (.int .i64 m.count)) ∧ True := ⟨TB.out, TA.out, trivial⟩
          refine hK _ _ (fun _ => hHeld2) ?_
          clear hK K hHeld z0 s0 z1 s1 z2 s2 z3 s3 z4 s4 z5 s5 z6 s6 z7 s7 z8 s8 z9 s9
          try simp only [Act.put, List.setIfInBounds_toArray, List.set]
          generalize ((((((((((v4.setCell ⟨Y, 0, none⟩ (.slice pq1 pn1 pk1)).setCell ⟨Y, 1, none⟩ (.int .i64 m.pc)).setCell ⟨Y, 2, none⟩ (.slice pq2 pn2 pk2)).setCell ⟨Y, 3, none⟩ (.int .i64 m.save)).setCell ⟨Y, 4, none⟩ (.bool m.lets)).setCell ⟨Y, 5, none⟩ (.bool m.waits)).setCell ⟨Y, 6, none⟩ (.int .i64 m.halt)).setCell ⟨Y, 7, none⟩ (.slice pq3 pn3 pk3)).setCell ⟨Y, 8, none⟩ (.slice pq4 pn4 pk4)).setCell ⟨Y, 9, none⟩ (.int .i64 m.count)) = v5 at MW TB TA HI BW YR hHeld2  ⊢
          refine PhaseIn.late (i := 10) (v := ?_) (by kernel_rfl) rfl 7 (by rfl) (by omega) (Or.inl ⟨by kernel_rfl, ?_⟩) ?_
          rotate_left
          · intro w' hSw
            go_simp
            first | done | with_reducible rfl
          try simp only [Act.put, List.setIfInBounds_toArray, List.set]
          refine PhaseIn.done (by kernel_rfl) ?_ _
          clear hHeld2
          exact ⟨Y, lo, hi, [.slice pq1 pn1 pk1, .int .i64 m.pc, .slice pq2 pn2 pk2, .int .i64 m.save, .bool m.lets, .bool m.waits, .int .i64 m.halt, .slice pq3 pn3 pk3, .slice pq4 pn4 pk4, .int .i64 m.count], _, _, _, _, _, _, _, _, _, _, _, _, _, _, _, _, _, _, rfl, YR.out, MW.out, HI.out, TB.out, TA.out, BW.out⟩
        · unfold Oper.wpIn
          refine ⟨fun _ _ => trivial, ?_⟩
          go_simp
          have hb := alloc_below v2 (.cells #[.slice none 0 0, .int .i64 0, .slice none 0 0, .int .i64 0, .bool false, .bool false, .int .i64 0, .slice none 0 0, .slice none 0 0, .int .i64 0] 30)
          have YB := hide (Rec.new v2 [.slice none 0 0, .int .i64 0, .slice none 0 0, .int .i64 0, .bool false, .bool false, .int .i64 0, .slice none 0 0, .slice none 0 0, .int .i64 0] 30)
          have LN : Hid (w.heap.size + 1 < v2.heap.size) := TA.out.lt
          replace TB := hide (TB.out.below hb)
          replace TA := hide (TA.out.below hb)
          replace R1 := hide (R1.out.below hb)
          replace M3 := hide (M3.out.below hb)
          replace BW := hide (BW.out.trans (hb.mono BW.out.size))
          clear hb
          have hHeld2 : Rec w.heap.size [.int .i64 bp, .int .i64 ln, .slice q0 ops.length cap0, .int .i64 en, .int .i64 bx, .int .i64 by_, .int .i64 bk] (v2.alloc (.cells #[.slice none 0 0, .int .i64 0, .slice none 0 0, .int .i64 0, .bool false, .bool false, .int .i64 0, .slice none 0 0, .slice none 0 0, .int .i64 0] 30)) ∧ Rec (w.heap.size + 1) [.slice t1 regs.length j1, .int .i64 pc, .slice t2 mem.length j2, .int .i64 save, .bool lets, .bool waits, .int .i64 halt, .slice t3 ins.length j3, .slice t4 outs.length j4, .int .i64 count] (v2.alloc (.cells #[.slice none 0 0, .int .i64 0, .slice none 0 0, .int .i64 0, .bool false, .bool false, .int .i64 0, .slice none 0 0, .slice none 0 0, .int .i64 0] 30)) ∧ True := ⟨TB.out, TA.out, trivial⟩
          refine hK _ _ (fun _ => hHeld2) ?_
          clear hK K hHeld
          have hHeld := hHeld2
          clear hHeld2
          try simp only [Act.put, List.setIfInBounds_toArray, List.set]
          generalize v2.alloc (.cells #[.slice none 0 0, .int .i64 0, .slice none 0 0, .int .i64 0, .bool false, .bool false, .int .i64 0, .slice none 0 0, .slice none 0 0, .int .i64 0] 30) = v6 at TB TA R1 M3 YB BW hHeld ⊢
          generalize v2.heap.size = Y at YB LN   ⊢
          refine PhaseIn.one (i := 4) (by kernel_rfl) rfl (by kernel_rfl) (fun K hK => ?_)
          unfold Oper.wpIn
          refine ⟨fun _ _ => trivial, ?_⟩
          go_simp
          have LV : Hid (Y < v6.heap.size) := YB.out.lt
          refine ⟨rfl, (callsIn_wide.2 (specIrRun ⟨bp, ln, ops, en, bx, by_, bk⟩ ⟨regs, pc, mem, save, lets, waits, halt, ins, outs, count⟩ _ _ v6 R1.out M3.out HM.out)).mono ?_⟩
          rintro e v7 ⟨hir, hb⟩
          obtain ⟨cw, rfl, MW⟩ := ir_bound hir
          rw [EK.out]
          rw [EM.out] at MW
          clear hir
          obtain ⟨pq1, pq2, pq3, pq4, pn1, pn2, pn3, pn4, pk1, pk2, pk3, pk4, rfl⟩ := ten_forms MW
          simp only [mv] at MW ⊢
          replace MW := hide MW
          obtain ⟨lo, elo⟩ : ∃ lo, v6.heap.size = lo := ⟨_, rfl⟩
          rw [elo] at MW LV
          clear elo
          obtain ⟨hi, ehi⟩ : ∃ hi, v7.heap.size = hi := ⟨_, rfl⟩
          rw [ehi] at MW
          have HI : Hid (hi ≤ v7.heap.size) := show _ ≤ _ by omega
          clear ehi R1 M3
          replace TB := hide (TB.out.below hb)
          replace TA := hide (TA.out.below hb)
          replace YB := hide (YB.out.below hb)
          replace BW := hide (BW.out.trans (hb.mono BW.out.size))
          clear hb
          have hHeld2 : Rec w.heap.size [.int .i64 bp, .int .i64 ln, .slice q0 ops.length cap0, .int .i64 en, .int .i64 bx, .int .i64 by_, .int .i64 bk] v7 ∧ Rec (w.heap.size + 1) [.slice t1 regs.length j1, .int .i64 pc, .slice t2 mem.length j2, .int .i64 save, .bool lets, .bool waits, .int .i64 halt, .slice t3 ins.length j3, .slice t4 outs.length j4, .int .i64 count] v7 ∧ True := ⟨TB.out, TA.out, trivial⟩
          refine hK _ _ (fun _ => hHeld2) ?_
          clear hK K hHeld
          have hHeld := hHeld2
          clear hHeld2
          try simp only [Act.put, List.setIfInBounds_toArray, List.set]
          refine PhaseIn.takeD (i := 5) (v := ?_) [5, 6, 7, 9, 10] 27 rfl (by rfl) (by kernel_rfl) (by kernel_rfl) (by kernel_rfl) (by kernel_rfl) (by kernel_rfl) (fun _ _ _ h => h) (Or.inl ⟨by kernel_rfl, ?_⟩) hHeld ?_
          rotate_left
          · intro w' hSw
            (try dsimp only at hSw)
            go_simp
            first | done | with_reducible rfl
          try simp only [Act.put, List.setIfInBounds_toArray, List.set]
          refine PhaseIn.takeD (i := 6) (v := ?_) [6, 9, 10] 33 rfl (by rfl) (by kernel_rfl) (by kernel_rfl) (by kernel_rfl) (by kernel_rfl) (by kernel_rfl) (fun _ _ _ h => h) (Or.inl ⟨by kernel_rfl, ?_⟩) hHeld ?_
          rotate_left
          · intro w' hSw
            (try dsimp only at hSw)
            go_simp
            first | done | with_reducible rfl
          try simp only [Act.put, List.setIfInBounds_toArray, List.set]
          refine PhaseIn.takeD (i := 7) (v := ?_) [7, 10] 34 rfl (by rfl) (by kernel_rfl) (by kernel_rfl) (by kernel_rfl) (by kernel_rfl) (by kernel_rfl) (fun _ _ _ h => h) (Or.inl ⟨by kernel_rfl, ?_⟩) hHeld ?_
          rotate_left
          · intro w' hSw
            (try dsimp only at hSw)
            go_simp
            first | done | with_reducible rfl
          try simp only [Act.put, List.setIfInBounds_toArray, List.set]
          have z0 := YB.out.cell 0 _ rfl
          have s0 := YB.out.soft 0
          have z1 := YB.out.cell 1 _ rfl
          have s1 := YB.out.soft 1
          have z2 := YB.out.cell 2 _ rfl
          have s2 := YB.out.soft 2
          have z3 := YB.out.cell 3 _ rfl
          have s3 := YB.out.soft 3
          have z4 := YB.out.cell 4 _ rfl
          have s4 := YB.out.soft 4
          have z5 := YB.out.cell 5 _ rfl
          have s5 := YB.out.soft 5
          have z6 := YB.out.cell 6 _ rfl
          have s6 := YB.out.soft 6
          have z7 := YB.out.cell 7 _ rfl
          have s7 := YB.out.soft 7
          have z8 := YB.out.cell 8 _ rfl
          have s8 := YB.out.soft 8
          have z9 := YB.out.cell 9 _ rfl
          have s9 := YB.out.soft 9
          refine PhaseIn.one (i := 9) (by kernel_rfl) rfl (by kernel_rfl) (fun K hK => ?_)
          unfold Oper.wpIn
          refine ⟨fun _ _ => trivial, ?_⟩
          go_simp
          have tY := turn_ten Y v7 (.slice pq1 pn1 pk1) (.int .i64 m.pc) (.slice pq2 pn2 pk2) (.int .i64 m.save) (.bool m.lets) (.bool m.waits) (.int .i64 m.halt) (.slice pq3 pn3 pk3) (.slice pq4 pn4 pk4) (.int .i64 m.count)
          have YR := hide (rec_ten YB.out (.slice pq1 pn1 pk1) (.int .i64 m.pc) (.slice pq2 pn2 pk2) (.int .i64 m.save) (.bool m.lets) (.bool m.waits) (.int .i64 m.halt) (.slice pq3 pn3 pk3) (.slice pq4 pn4 pk4) (.int .i64 m.count))
          have BD : Hid (hi ≤ Y ∨ Y < lo) := Or.inr LV.out
          replace MW := hide (MW.out.keep (turn_keep tY) (fun b h1 h2 h3 => by have := BD.out; omega))
          replace TB := hide (TB.out.turn tY (by have := LN.out; omega))
          replace TA := hide (TA.out.turn tY (by have := LN.out; omega))
          replace HI := hide (Nat.le_trans HI.out tY.size)
          replace BW := hide (BW.out.trans (tY.below (by have := LN.out; omega) BW.out.size))
          clear tY YB
          have hHeld2 : Rec w.heap.size [.int .i64 bp, .int .i64 ln, .slice q0 ops.length cap0, .int .i64 en, .int .i64 bx, .int .i64 by_, .int .i64 bk] ((((((((((v7.setCell ⟨Y, 0, none⟩ (.slice pq1 pn1 pk1)).setCell ⟨Y, 1, none⟩ (.int .i64 m.pc)).setCell ⟨Y, 2, none⟩ (.slice pq2 pn2 pk2)).setCell ⟨Y, 3, none⟩ (.int .i64 m.save)).setCell ⟨Y, 4, none⟩ (.bool m.lets)).setCell ⟨Y, 5, none⟩ (.bool m.waits)).setCell ⟨Y, 6, none⟩ (.int .i64 m.halt)).setCell ⟨Y, 7, none⟩ (.slice pq3 pn3 pk3)).setCell ⟨Y, 8, none⟩ (.slice pq4 pn4 pk4)).setCell ⟨Y, 9, none⟩ (.int .i64 m.count)) ∧ Rec (w.heap.size + 1) [.slice t1 regs.length j1, .int .i64 pc, .slice t2 mem.length j2, .int .i64 save, .bool lets, .bool waits, .int .i64 halt, .slice t3 ins.length j3, .slice t4 outs.length j4, .int .i64 count] ((((((((((v7.setCell ⟨Y, 0, none⟩ (.slice pq1 pn1 pk1)).setCell ⟨Y, 1, none⟩ (.int .i64 m.pc)).setCell ⟨Y, 2, none⟩ (.slice pq2 pn2 pk2)).setCell ⟨Y, 3, none⟩ (.int .i64 m.save)).setCell ⟨Y, 4, none⟩ (.bool m.lets)).setCell ⟨Y, 5, none⟩ (.bool m.waits)).setCell ⟨Y, 6, none⟩ (.int .i64 m.halt)).setCell ⟨Y, 7, none⟩ (.slice pq3 pn3 pk3)).setCell ⟨Y, 8, none⟩ (.slice pq4 pn4 pk4)).setCell ⟨Y, 9, none⟩ (.int .i64 m.count)) ∧ True := ⟨TB.out, TA.out, trivial⟩
          refine hK _ _ (fun _ => hHeld2) ?_
          clear hK K hHeld z0 s0 z1 s1 z2 s2 z3 s3 z4 s4 z5 s5 z6 s6 z7 s7 z8 s8 z9 s9
          try simp only [Act.put, List.setIfInBounds_toArray, List.set]
          generalize ((((((((((v7.setCell ⟨Y, 0, none⟩ (.slice pq1 pn1 pk1)).setCell ⟨Y, 1, none⟩ (.int .i64 m.pc)).setCell ⟨Y, 2, none⟩ (.slice pq2 pn2 pk2)).setCell ⟨Y, 3, none⟩ (.int .i64 m.save)).setCell ⟨Y, 4, none⟩ (.bool m.lets)).setCell ⟨Y, 5, none⟩ (.bool m.waits)).setCell ⟨Y, 6, none⟩ (.int .i64 m.halt)).setCell ⟨Y, 7, none⟩ (.slice pq3 pn3 pk3)).setCell ⟨Y, 8, none⟩ (.slice pq4 pn4 pk4)).setCell ⟨Y, 9, none⟩ (.int .i64 m.count)) = v8 at MW TB TA HI BW YR hHeld2  ⊢
          refine PhaseIn.late (i := 10) (v := ?_) (by kernel_rfl) rfl 7 (by rfl) (by omega) (Or.inl ⟨by kernel_rfl, ?_⟩) ?_
          rotate_left
          · intro w' hSw
            go_simp
            first | done | with_reducible rfl
          try simp only [Act.put, List.setIfInBounds_toArray, List.set]
          refine PhaseIn.done (by kernel_rfl) ?_ _
          clear hHeld2
          exact ⟨Y, lo, hi, [.slice pq1 pn1 pk1, .int .i64 m.pc, .slice pq2 pn2 pk2, .int .i64 m.save, .bool m.lets, .bool m.waits, .int .i64 m.halt, .slice pq3 pn3 pk3, .slice pq4 pn4 pk4, .int .i64 m.count], _, _, _, _, _, _, _, _, _, _, _, _, _, _, _, _, _, _, rfl, YR.out, MW.out, HI.out, TB.out, TA.out, BW.out⟩
      · unfold Oper.wpIn
        refine ⟨fun _ _ => trivial, ?_⟩
        go_simp
        have hb := alloc_below v1 (.cells #[.slice none 0 0, .int .i64 0, .slice none 0 0, .int .i64 0, .bool false, .bool false, .int .i64 0, .slice none 0 0, .slice none 0 0, .int .i64 0] 30)
        have YB := hide (Rec.new v1 [.slice none 0 0, .int .i64 0, .slice none 0 0, .int .i64 0, .bool false, .bool false, .int .i64 0, .slice none 0 0, .slice none 0 0, .int .i64 0] 30)
        have LN : Hid (w.heap.size + 1 < v1.heap.size) := TA.out.lt
        replace TB := hide (TB.out.below hb)
        replace TA := hide (TA.out.below hb)
        replace R1 := hide (R1.out.below hb)
        replace BW := hide (BW.out.trans (hb.mono BW.out.size))
        clear hb
        have hHeld2 : Rec w.heap.size [.int .i64 bp, .int .i64 ln, .slice q0 ops.length cap0, .int .i64 en, .int .i64 bx, .int .i64 by_, .int .i64 bk] (v1.alloc (.cells #[.slice none 0 0, .int .i64 0, .slice none 0 0, .int .i64 0, .bool false, .bool false, .int .i64 0, .slice none 0 0, .slice none 0 0, .int .i64 0] 30)) ∧ Rec (w.heap.size + 1) [.slice t1 regs.length j1, .int .i64 pc, .slice t2 mem.length j2, .int .i64 save, .bool lets, .bool waits, .int .i64 halt, .slice t3 ins.length j3, .slice t4 outs.length j4, .int .i64 count] (v1.alloc (.cells #[.slice none 0 0, .int .i64 0, .slice none 0 0, .int .i64 0, .bool false, .bool false, .int .i64 0, .slice none 0 0, .slice none 0 0, .int .i64 0] 30)) ∧ True := ⟨TB.out, TA.out, trivial⟩
        refine hK _ _ (fun _ => hHeld2) ?_
        clear hK K hHeld
        have hHeld := hHeld2
        clear hHeld2
        try simp only [Act.put, List.setIfInBounds_toArray, List.set]
        generalize v1.alloc (.cells #[.slice none 0 0, .int .i64 0, .slice none 0 0, .int .i64 0, .bool false, .bool false, .int .i64 0, .slice none 0 0, .slice none 0 0, .int .i64 0] 30) = v9 at TB TA R1 YB BW hHeld ⊢
        generalize v1.heap.size = Y at YB LN   ⊢
        refine PhaseIn.one (i := 3) (by kernel_rfl) rfl (by kernel_rfl) (fun K hK => ?_)
        unfold Oper.wpIn
        refine ⟨fun _ _ => trivial, ?_⟩
        go_simp
        refine ⟨rfl, (callsIn_wide.2 (toMch ⟨regs, pc, mem, save, lets, waits, halt, ins, outs, count⟩ _ v9 (RM.out.below BW.out) HS.out)).mono ?_⟩
        rintro e v10 ⟨c3, rfl, M3, hb⟩
        replace M3 := hide M3.read
        replace TB := hide (TB.out.below hb)
        replace TA := hide (TA.out.below hb)
        replace R1 := hide (R1.out.below hb)
        replace YB := hide (YB.out.below hb)
        replace BW := hide (BW.out.trans (hb.mono BW.out.size))
        clear hb
        have hHeld2 : Rec w.heap.size [.int .i64 bp, .int .i64 ln, .slice q0 ops.length cap0, .int .i64 en, .int .i64 bx, .int .i64 by_, .int .i64 bk] v10 ∧ Rec (w.heap.size + 1) [.slice t1 regs.length j1, .int .i64 pc, .slice t2 mem.length j2, .int .i64 save, .bool lets, .bool waits, .int .i64 halt, .slice t3 ins.length j3, .slice t4 outs.length j4, .int .i64 count] v10 ∧ True := ⟨TB.out, TA.out, trivial⟩
        refine hK _ _ (fun _ => hHeld2) ?_
        clear hK K hHeld
        have hHeld := hHeld2
        clear hHeld2
        try simp only [Act.put, List.setIfInBounds_toArray, List.set]
        refine PhaseIn.one (i := 4) (by kernel_rfl) rfl (by kernel_rfl) (fun K hK => ?_)
        unfold Oper.wpIn
        refine ⟨fun _ _ => trivial, ?_⟩
        go_simp
        have LV : Hid (Y < v10.heap.size) := YB.out.lt
        refine ⟨rfl, (callsIn_wide.2 (specIrRun ⟨bp, ln, ops, en, bx, by_, bk⟩ ⟨regs, pc, mem, save, lets, waits, halt, ins, outs, count⟩ _ _ v10 R1.out M3.out HM.out)).mono ?_⟩
        rintro e v11 ⟨hir, hb⟩
        obtain ⟨cw, rfl, MW⟩ := ir_bound hir
        rw [EK.out]
        rw [EM.out] at MW
        clear hir
        obtain ⟨pq1, pq2, pq3, pq4, pn1, pn2, pn3, pn4, pk1, pk2, pk3, pk4, rfl⟩ := ten_forms MW
        simp only [mv] at MW ⊢
        replace MW := hide MW
        obtain ⟨lo, elo⟩ : ∃ lo, v10.heap.size = lo := ⟨_, rfl⟩
        rw [elo] at MW LV
        clear elo
        obtain ⟨hi, ehi⟩ : ∃ hi, v11.heap.size = hi := ⟨_, rfl⟩
        rw [ehi] at MW
        have HI : Hid (hi ≤ v11.heap.size) := show _ ≤ _ by omega
        clear ehi R1 M3
        replace TB := hide (TB.out.below hb)
        replace TA := hide (TA.out.below hb)
        replace YB := hide (YB.out.below hb)
        replace BW := hide (BW.out.trans (hb.mono BW.out.size))
        clear hb
        have hHeld2 : Rec w.heap.size [.int .i64 bp, .int .i64 ln, .slice q0 ops.length cap0, .int .i64 en, .int .i64 bx, .int .i64 by_, .int .i64 bk] v11 ∧ Rec (w.heap.size + 1) [.slice t1 regs.length j1, .int .i64 pc, .slice t2 mem.length j2, .int .i64 save, .bool lets, .bool waits, .int .i64 halt, .slice t3 ins.length j3, .slice t4 outs.length j4, .int .i64 count] v11 ∧ True := ⟨TB.out, TA.out, trivial⟩
        refine hK _ _ (fun _ => hHeld2) ?_
        clear hK K hHeld
        have hHeld := hHeld2
        clear hHeld2
        try simp only [Act.put, List.setIfInBounds_toArray, List.set]
        refine PhaseIn.takeD (i := 5) (v := ?_) [5, 6, 7, 9, 10] 27 rfl (by rfl) (by kernel_rfl) (by kernel_rfl) (by kernel_rfl) (by kernel_rfl) (by kernel_rfl) (fun _ _ _ h => h) (Or.inl ⟨by kernel_rfl, ?_⟩) hHeld ?_
        rotate_left
        · intro w' hSw
          (try dsimp only at hSw)
          go_simp
          first | done | with_reducible rfl
        try simp only [Act.put, List.setIfInBounds_toArray, List.set]
        refine PhaseIn.takeD (i := 6) (v := ?_) [6, 9, 10] 33 rfl (by rfl) (by kernel_rfl) (by kernel_rfl) (by kernel_rfl) (by kernel_rfl) (by kernel_rfl) (fun _ _ _ h => h) (Or.inl ⟨by kernel_rfl, ?_⟩) hHeld ?_
        rotate_left
        · intro w' hSw
          (try dsimp only at hSw)
          go_simp
          first | done | with_reducible rfl
        try simp only [Act.put, List.setIfInBounds_toArray, List.set]
        refine PhaseIn.takeD (i := 7) (v := ?_) [7, 10] 34 rfl (by rfl) (by kernel_rfl) (by kernel_rfl) (by kernel_rfl) (by kernel_rfl) (by kernel_rfl) (fun _ _ _ h => h) (Or.inl ⟨by kernel_rfl, ?_⟩) hHeld ?_
        rotate_left
        · intro w' hSw
          (try dsimp only at hSw)
          go_simp
          first | done | with_reducible rfl
        try simp only [Act.put, List.setIfInBounds_toArray, List.set]
        have z0 := YB.out.cell 0 _ rfl
        have s0 := YB.out.soft 0
        have z1 := YB.out.cell 1 _ rfl
        have s1 := YB.out.soft 1
        have z2 := YB.out.cell 2 _ rfl
        have s2 := YB.out.soft 2
        have z3 := YB.out.cell 3 _ rfl
        have s3 := YB.out.soft 3
        have z4 := YB.out.cell 4 _ rfl
        have s4 := YB.out.soft 4
        have z5 := YB.out.cell 5 _ rfl
        have s5 := YB.out.soft 5
        have z6 := YB.out.cell 6 _ rfl
        have s6 := YB.out.soft 6
        have z7 := YB.out.cell 7 _ rfl
        have s7 := YB.out.soft 7
        have z8 := YB.out.cell 8 _ rfl
        have s8 := YB.out.soft 8
        have z9 := YB.out.cell 9 _ rfl
        have s9 := YB.out.soft 9
        refine PhaseIn.one (i := 9) (by kernel_rfl) rfl (by kernel_rfl) (fun K hK => ?_)
        unfold Oper.wpIn
        refine ⟨fun _ _ => trivial, ?_⟩
        go_simp
        have tY := turn_ten Y v11 (.slice pq1 pn1 pk1) (.int .i64 m.pc) (.slice pq2 pn2 pk2) (.int .i64 m.save) (.bool m.lets) (.bool m.waits) (.int .i64 m.halt) (.slice pq3 pn3 pk3) (.slice pq4 pn4 pk4) (.int .i64 m.count)
        have YR := hide (rec_ten YB.out (.slice pq1 pn1 pk1) (.int .i64 m.pc) (.slice pq2 pn2 pk2) (.int .i64 m.save) (.bool m.lets) (.bool m.waits) (.int .i64 m.halt) (.slice pq3 pn3 pk3) (.slice pq4 pn4 pk4) (.int .i64 m.count))
        have BD : Hid (hi ≤ Y ∨ Y < lo) := Or.inr LV.out
        replace MW := hide (MW.out.keep (turn_keep tY) (fun b h1 h2 h3 => by have := BD.out; omega))
        replace TB := hide (TB.out.turn tY (by have := LN.out; omega))
        replace TA := hide (TA.out.turn tY (by have := LN.out; omega))
        replace HI := hide (Nat.le_trans HI.out tY.size)
        replace BW := hide (BW.out.trans (tY.below (by have := LN.out; omega) BW.out.size))
        clear tY YB
        have hHeld2 : Rec w.heap.size [.int .i64 bp, .int .i64 ln, .slice q0 ops.length cap0, .int .i64 en, .int .i64 bx, .int .i64 by_, .int .i64 bk] ((((((((((v11.setCell ⟨Y, 0, none⟩ (.slice pq1 pn1 pk1)).setCell ⟨Y, 1, none⟩ (.int .i64 m.pc)).setCell ⟨Y, 2, none⟩ (.slice pq2 pn2 pk2)).setCell ⟨Y, 3, none⟩ (.int .i64 m.save)).setCell ⟨Y, 4, none⟩ (.bool m.lets)).setCell ⟨Y, 5, none⟩ (.bool m.waits)).setCell ⟨Y, 6, none⟩ (.int .i64 m.halt)).setCell ⟨Y, 7, none⟩ (.slice pq3 pn3 pk3)).setCell ⟨Y, 8, none⟩ (.slice pq4 pn4 pk4)).setCell ⟨Y, 9, none⟩ (.int .i64 m.count)) ∧ Rec (w.heap.size + 1) [.slice t1 regs.length j1, .int .i64 pc, .slice t2 mem.length j2, .int .i64 save, .bool lets, .bool waits, .int .i64 halt, .slice t3 ins.length j3, .slice t4 outs.length j4, .int .i64 count] ((((((((((v11.setCell ⟨Y, 0, none⟩ (.slice pq1 pn1 pk1)).setCell ⟨Y, 1, none⟩ (.int .i64 m.pc)).setCell ⟨Y, 2, none⟩ (.slice pq2 pn2 pk2)).setCell ⟨Y, 3, none⟩ (.int .i64 m.save)).setCell ⟨Y, 4, none⟩ (.bool m.lets)).setCell ⟨Y, 5, none⟩ (.bool m.waits)).setCell ⟨Y, 6, none⟩ (.int .i64 m.halt)).setCell ⟨Y, 7, none⟩ (.slice pq3 pn3 pk3)).setCell ⟨Y, 8, none⟩ (.slice pq4 pn4 pk4)).setCell ⟨Y, 9, none⟩ (.int .i64 m.count)) ∧ True := ⟨TB.out, TA.out, trivial⟩
        refine hK _ _ (fun _ => hHeld2) ?_
        clear hK K hHeld z0 s0 z1 s1 z2 s2 z3 s3 z4 s4 z5 s5 z6 s6 z7 s7 z8 s8 z9 s9
        try simp only [Act.put, List.setIfInBounds_toArray, List.set]
        generalize ((((((((((v11.setCell ⟨Y, 0, none⟩ (.slice pq1 pn1 pk1)).setCell ⟨Y, 1, none⟩ (.int .i64 m.pc)).setCell ⟨Y, 2, none⟩ (.slice pq2 pn2 pk2)).setCell ⟨Y, 3, none⟩ (.int .i64 m.save)).setCell ⟨Y, 4, none⟩ (.bool m.lets)).setCell ⟨Y, 5, none⟩ (.bool m.waits)).setCell ⟨Y, 6, none⟩ (.int .i64 m.halt)).setCell ⟨Y, 7, none⟩ (.slice pq3 pn3 pk3)).setCell ⟨Y, 8, none⟩ (.slice pq4 pn4 pk4)).setCell ⟨Y, 9, none⟩ (.int .i64 m.count)) = v12 at MW TB TA HI BW YR hHeld2  ⊢
        refine PhaseIn.late (i := 10) (v := ?_) (by kernel_rfl) rfl 7 (by rfl) (by omega) (Or.inl ⟨by kernel_rfl, ?_⟩) ?_
        rotate_left
        · intro w' hSw
          go_simp
          first | done | with_reducible rfl
        try simp only [Act.put, List.setIfInBounds_toArray, List.set]
        refine PhaseIn.done (by kernel_rfl) ?_ _
        clear hHeld2
        exact ⟨Y, lo, hi, [.slice pq1 pn1 pk1, .int .i64 m.pc, .slice pq2 pn2 pk2, .int .i64 m.save, .bool m.lets, .bool m.waits, .int .i64 m.halt, .slice pq3 pn3 pk3, .slice pq4 pn4 pk4, .int .i64 m.count], _, _, _, _, _, _, _, _, _, _, _, _, _, _, _, _, _, _, rfl, YR.out, MW.out, HI.out, TB.out, TA.out, BW.out⟩
    · unfold Oper.wpIn
      refine ⟨fun _ _ => trivial, ?_⟩
      go_simp
      have hb := alloc_below v0 (.cells #[.slice none 0 0, .int .i64 0, .slice none 0 0, .int .i64 0, .bool false, .bool false, .int .i64 0, .slice none 0 0, .slice none 0 0, .int .i64 0] 30)
      have YB := hide (Rec.new v0 [.slice none 0 0, .int .i64 0, .slice none 0 0, .int .i64 0, .bool false, .bool false, .int .i64 0, .slice none 0 0, .slice none 0 0, .int .i64 0] 30)
      have LN : Hid (w.heap.size + 1 < v0.heap.size) := TA.out.lt
      replace TB := hide (TB.out.below hb)
      replace TA := hide (TA.out.below hb)
      replace BW := hide (BW.out.trans (hb.mono BW.out.size))
      clear hb
      have hHeld2 : Rec w.heap.size [.int .i64 bp, .int .i64 ln, .slice q0 ops.length cap0, .int .i64 en, .int .i64 bx, .int .i64 by_, .int .i64 bk] (v0.alloc (.cells #[.slice none 0 0, .int .i64 0, .slice none 0 0, .int .i64 0, .bool false, .bool false, .int .i64 0, .slice none 0 0, .slice none 0 0, .int .i64 0] 30)) ∧ Rec (w.heap.size + 1) [.slice t1 regs.length j1, .int .i64 pc, .slice t2 mem.length j2, .int .i64 save, .bool lets, .bool waits, .int .i64 halt, .slice t3 ins.length j3, .slice t4 outs.length j4, .int .i64 count] (v0.alloc (.cells #[.slice none 0 0, .int .i64 0, .slice none 0 0, .int .i64 0, .bool false, .bool false, .int .i64 0, .slice none 0 0, .slice none 0 0, .int .i64 0] 30)) ∧ True := ⟨TB.out, TA.out, trivial⟩
      refine hK _ _ (fun _ => hHeld2) ?_
      clear hK K hHeld
      have hHeld := hHeld2
      clear hHeld2
      try simp only [Act.put, List.setIfInBounds_toArray, List.set]
      generalize v0.alloc (.cells #[.slice none 0 0, .int .i64 0, .slice none 0 0, .int .i64 0, .bool false, .bool false, .int .i64 0, .slice none 0 0, .slice none 0 0, .int .i64 0] 30) = v13 at TB TA YB BW hHeld ⊢
      generalize v0.heap.size = Y at YB LN   ⊢
      refine PhaseIn.one (i := 1) (by kernel_rfl) rfl (by kernel_rfl) (fun K hK => ?_)
      unfold Oper.wpIn
      refine ⟨fun _ _ => trivial, ?_⟩
      go_simp
      refine ⟨rfl, (callsIn_wide.2 (toIrBlock ⟨bp, ln, ops, en, bx, by_, bk⟩ _ v13 (RB.out.below BW.out) LO.out)).mono ?_⟩
      rintro e v14 ⟨g1, c1, rfl, rfl, M1, -, -, hb⟩
      simp only [bv] at M1 ⊢
      have R1 := hide M1.read
      clear M1
      replace TB := hide (TB.out.below hb)
      replace TA := hide (TA.out.below hb)
      replace YB := hide (YB.out.below hb)
      replace BW := hide (BW.out.trans (hb.mono BW.out.size))
      clear hb
      have hHeld2 : Rec w.heap.size [.int .i64 bp, .int .i64 ln, .slice q0 ops.length cap0, .int .i64 en, .int .i64 bx, .int .i64 by_, .int .i64 bk] v14 ∧ Rec (w.heap.size + 1) [.slice t1 regs.length j1, .int .i64 pc, .slice t2 mem.length j2, .int .i64 save, .bool lets, .bool waits, .int .i64 halt, .slice t3 ins.length j3, .slice t4 outs.length j4, .int .i64 count] v14 ∧ True := ⟨TB.out, TA.out, trivial⟩
      refine hK _ _ (fun _ => hHeld2) ?_
      clear hK K hHeld
      have hHeld := hHeld2
      clear hHeld2
      try simp only [Act.put, List.setIfInBounds_toArray, List.set]
      refine PhaseIn.one (i := 3) (by kernel_rfl) rfl (by kernel_rfl) (fun K hK => ?_)
      unfold Oper.wpIn
      refine ⟨fun _ _ => trivial, ?_⟩
      go_simp
      refine ⟨rfl, (callsIn_wide.2 (toMch ⟨regs, pc, mem, save, lets, waits, halt, ins, outs, count⟩ _ v14 (RM.out.below BW.out) HS.out)).mono ?_⟩
      rintro e v15 ⟨c3, rfl, M3, hb⟩
      replace M3 := hide M3.read
      replace TB := hide (TB.out.below hb)
      replace TA := hide (TA.out.below hb)
      replace R1 := hide (R1.out.below hb)
      replace YB := hide (YB.out.below hb)
      replace BW := hide (BW.out.trans (hb.mono BW.out.size))
      clear hb
      have hHeld2 : Rec w.heap.size [.int .i64 bp, .int .i64 ln, .slice q0 ops.length cap0, .int .i64 en, .int .i64 bx, .int .i64 by_, .int .i64 bk] v15 ∧ Rec (w.heap.size + 1) [.slice t1 regs.length j1, .int .i64 pc, .slice t2 mem.length j2, .int .i64 save, .bool lets, .bool waits, .int .i64 halt, .slice t3 ins.length j3, .slice t4 outs.length j4, .int .i64 count] v15 ∧ True := ⟨TB.out, TA.out, trivial⟩
      refine hK _ _ (fun _ => hHeld2) ?_
      clear hK K hHeld
      have hHeld := hHeld2
      clear hHeld2
      try simp only [Act.put, List.setIfInBounds_toArray, List.set]
      refine PhaseIn.one (i := 4) (by kernel_rfl) rfl (by kernel_rfl) (fun K hK => ?_)
      unfold Oper.wpIn
      refine ⟨fun _ _ => trivial, ?_⟩
      go_simp
      have LV : Hid (Y < v15.heap.size) := YB.out.lt
      refine ⟨rfl, (callsIn_wide.2 (specIrRun ⟨bp, ln, ops, en, bx, by_, bk⟩ ⟨regs, pc, mem, save, lets, waits, halt, ins, outs, count⟩ _ _ v15 R1.out M3.out HM.out)).mono ?_⟩
      rintro e v16 ⟨hir, hb⟩
      obtain ⟨cw, rfl, MW⟩ := ir_bound hir
      rw [EK.out]
      rw [EM.out] at MW
      clear hir
      obtain ⟨pq1, pq2, pq3, pq4, pn1, pn2, pn3, pn4, pk1, pk2, pk3, pk4, rfl⟩ := ten_forms MW
      simp only [mv] at MW ⊢
      replace MW := hide MW
      obtain ⟨lo, elo⟩ : ∃ lo, v15.heap.size = lo := ⟨_, rfl⟩
      rw [elo] at MW LV
      clear elo
      obtain ⟨hi, ehi⟩ : ∃ hi, v16.heap.size = hi := ⟨_, rfl⟩
      rw [ehi] at MW
      have HI : Hid (hi ≤ v16.heap.size) := show _ ≤ _ by omega
      clear ehi R1 M3
      replace TB := hide (TB.out.below hb)
      replace TA := hide (TA.out.below hb)
      replace YB := hide (YB.out.below hb)
      replace BW := hide (BW.out.trans (hb.mono BW.out.size))
      clear hb
      have hHeld2 : Rec w.heap.size [.int .i64 bp, .int .i64 ln, .slice q0 ops.length cap0, .int .i64 en, .int .i64 bx, .int .i64 by_, .int .i64 bk] v16 ∧ Rec (w.heap.size + 1) [.slice t1 regs.length j1, .int .i64 pc, .slice t2 mem.length j2, .int .i64 save, .bool lets, .bool waits, .int .i64 halt, .slice t3 ins.length j3, .slice t4 outs.length j4, .int .i64 count] v16 ∧ True := ⟨TB.out, TA.out, trivial⟩
      refine hK _ _ (fun _ => hHeld2) ?_
      clear hK K hHeld
      have hHeld := hHeld2
      clear hHeld2
      try simp only [Act.put, List.setIfInBounds_toArray, List.set]
      refine PhaseIn.takeD (i := 5) (v := ?_) [5, 6, 7, 9, 10] 27 rfl (by rfl) (by kernel_rfl) (by kernel_rfl) (by kernel_rfl) (by kernel_rfl) (by kernel_rfl) (fun _ _ _ h => h) (Or.inl ⟨by kernel_rfl, ?_⟩) hHeld ?_
      rotate_left
      · intro w' hSw
        (try dsimp only at hSw)
        go_simp
        first | done | with_reducible rfl
      try simp only [Act.put, List.setIfInBounds_toArray, List.set]
      refine PhaseIn.takeD (i := 6) (v := ?_) [6, 9, 10] 33 rfl (by rfl) (by kernel_rfl) (by kernel_rfl) (by kernel_rfl) (by kernel_rfl) (by kernel_rfl) (fun _ _ _ h => h) (Or.inl ⟨by kernel_rfl, ?_⟩) hHeld ?_
      rotate_left
      · intro w' hSw
        (try dsimp only at hSw)
        go_simp
        first | done | with_reducible rfl
      try simp only [Act.put, List.setIfInBounds_toArray, List.set]
      refine PhaseIn.takeD (i := 7) (v := ?_) [7, 10] 34 rfl (by rfl) (by kernel_rfl) (by kernel_rfl) (by kernel_rfl) (by kernel_rfl) (by kernel_rfl) (fun _ _ _ h => h) (Or.inl ⟨by kernel_rfl, ?_⟩) hHeld ?_
      rotate_left
      · intro w' hSw
        (try dsimp only at hSw)
        go_simp
        first | done | with_reducible rfl
      try simp only [Act.put, List.setIfInBounds_toArray, List.set]
      have z0 := YB.out.cell 0 _ rfl
      have s0 := YB.out.soft 0
      have z1 := YB.out.cell 1 _ rfl
      have s1 := YB.out.soft 1
      have z2 := YB.out.cell 2 _ rfl
      have s2 := YB.out.soft 2
      have z3 := YB.out.cell 3 _ rfl
      have s3 := YB.out.soft 3
      have z4 := YB.out.cell 4 _ rfl
      have s4 := YB.out.soft 4
      have z5 := YB.out.cell 5 _ rfl
      have s5 := YB.out.soft 5
      have z6 := YB.out.cell 6 _ rfl
      have s6 := YB.out.soft 6
      have z7 := YB.out.cell 7 _ rfl
      have s7 := YB.out.soft 7
      have z8 := YB.out.cell 8 _ rfl
      have s8 := YB.out.soft 8
      have z9 := YB.out.cell 9 _ rfl
      have s9 := YB.out.soft 9
      refine PhaseIn.one (i := 9) (by kernel_rfl) rfl (by kernel_rfl) (fun K hK => ?_)
      unfold Oper.wpIn
      refine ⟨fun _ _ => trivial, ?_⟩
      go_simp
      have tY := turn_ten Y v16 (.slice pq1 pn1 pk1) (.int .i64 m.pc) (.slice pq2 pn2 pk2) (.int .i64 m.save) (.bool m.lets) (.bool m.waits) (.int .i64 m.halt) (.slice pq3 pn3 pk3) (.slice pq4 pn4 pk4) (.int .i64 m.count)
      have YR := hide (rec_ten YB.out (.slice pq1 pn1 pk1) (.int .i64 m.pc) (.slice pq2 pn2 pk2) (.int .i64 m.save) (.bool m.lets) (.bool m.waits) (.int .i64 m.halt) (.slice pq3 pn3 pk3) (.slice pq4 pn4 pk4) (.int .i64 m.count))
      have BD : Hid (hi ≤ Y ∨ Y < lo) := Or.inr LV.out
      replace MW := hide (MW.out.keep (turn_keep tY) (fun b h1 h2 h3 => by have := BD.out; omega))
      replace TB := hide (TB.out.turn tY (by have := LN.out; omega))
      replace TA := hide (TA.out.turn tY (by have := LN.out; omega))
      replace HI := hide (Nat.le_trans HI.out tY.size)
      replace BW := hide (BW.out.trans (tY.below (by have := LN.out; omega) BW.out.size))
      clear tY YB
      have hHeld2 : Rec w.heap.size [.int .i64 bp, .int .i64 ln, .slice q0 ops.length cap0, .int .i64 en, .int .i64 bx, .int .i64 by_, .int .i64 bk] ((((((((((v16.setCell ⟨Y, 0, none⟩ (.slice pq1 pn1 pk1)).setCell ⟨Y, 1, none⟩ (.int .i64 m.pc)).setCell ⟨Y, 2, none⟩ (.slice pq2 pn2 pk2)).setCell ⟨Y, 3, none⟩ (.int .i64 m.save)).setCell ⟨Y, 4, none⟩ (.bool m.lets)).setCell ⟨Y, 5, none⟩ (.bool m.waits)).setCell ⟨Y, 6, none⟩ (.int .i64 m.halt)).setCell ⟨Y, 7, none⟩ (.slice pq3 pn3 pk3)).setCell ⟨Y, 8, none⟩ (.slice pq4 pn4 pk4)).setCell ⟨Y, 9, none⟩ (.int .i64 m.count)) ∧ Rec (w.heap.size + 1) [.slice t1 regs.length j1, .int .i64 pc, .slice t2 mem.length j2, .int .i64 save, .bool lets, .bool waits, .int .i64 halt, .slice t3 ins.length j3, .slice t4 outs.length j4, .int .i64 count] ((((((((((v16.setCell ⟨Y, 0, none⟩ (.slice pq1 pn1 pk1)).setCell ⟨Y, 1, none⟩ (.int .i64 m.pc)).setCell ⟨Y, 2, none⟩ (.slice pq2 pn2 pk2)).setCell ⟨Y, 3, none⟩ (.int .i64 m.save)).setCell ⟨Y, 4, none⟩ (.bool m.lets)).setCell ⟨Y, 5, none⟩ (.bool m.waits)).setCell ⟨Y, 6, none⟩ (.int .i64 m.halt)).setCell ⟨Y, 7, none⟩ (.slice pq3 pn3 pk3)).setCell ⟨Y, 8, none⟩ (.slice pq4 pn4 pk4)).setCell ⟨Y, 9, none⟩ (.int .i64 m.count)) ∧ True := ⟨TB.out, TA.out, trivial⟩
      refine hK _ _ (fun _ => hHeld2) ?_
      clear hK K hHeld z0 s0 z1 s1 z2 s2 z3 s3 z4 s4 z5 s5 z6 s6 z7 s7 z8 s8 z9 s9
      try simp only [Act.put, List.setIfInBounds_toArray, List.set]
      generalize ((((((((((v16.setCell ⟨Y, 0, none⟩ (.slice pq1 pn1 pk1)).setCell ⟨Y, 1, none⟩ (.int .i64 m.pc)).setCell ⟨Y, 2, none⟩ (.slice pq2 pn2 pk2)).setCell ⟨Y, 3, none⟩ (.int .i64 m.save)).setCell ⟨Y, 4, none⟩ (.bool m.lets)).setCell ⟨Y, 5, none⟩ (.bool m.waits)).setCell ⟨Y, 6, none⟩ (.int .i64 m.halt)).setCell ⟨Y, 7, none⟩ (.slice pq3 pn3 pk3)).setCell ⟨Y, 8, none⟩ (.slice pq4 pn4 pk4)).setCell ⟨Y, 9, none⟩ (.int .i64 m.count)) = v17 at MW TB TA HI BW YR hHeld2  ⊢
      refine PhaseIn.late (i := 10) (v := ?_) (by kernel_rfl) rfl 7 (by rfl) (by omega) (Or.inl ⟨by kernel_rfl, ?_⟩) ?_
      rotate_left
      · intro w' hSw
        go_simp
        first | done | with_reducible rfl
      try simp only [Act.put, List.setIfInBounds_toArray, List.set]
      refine PhaseIn.done (by kernel_rfl) ?_ _
      clear hHeld2
      exact ⟨Y, lo, hi, [.slice pq1 pn1 pk1, .int .i64 m.pc, .slice pq2 pn2 pk2, .int .i64 m.save, .bool m.lets, .bool m.waits, .int .i64 m.halt, .slice pq3 pn3 pk3, .slice pq4 pn4 pk4, .int .i64 m.count], _, _, _, _, _, _, _, _, _, _, _, _, _, _, _, _, _, _, rfl, YR.out, MW.out, HI.out, TB.out, TA.out, BW.out⟩
  clear TB TA BW
  rintro a' u2 ⟨Y0, lo0, hi0, cw, x17, x18, x19, x20, x21, x22, x23, x24, x25, x26, x27, x28, x29, x30, x31, x32, x33, x34, rfl, YS, SW, H0, TB, TA, BW⟩
  obtain ⟨sq1, sq2, sq3, sq4, sn1, sn2, sn3, sn4, sk1, sk2, sk3, sk4, rfl⟩ := ten_forms SW
  simp only [mv] at SW YS
  replace YS := hide YS
  replace SW := hide SW
  replace H0 := hide H0
  replace TB := hide TB
  replace TA := hide TA
  replace BW := hide BW
  have SY : Hid (Y0 < u2.heap.size ∧ w.heap.size + 1 < u2.heap.size) := ⟨YS.out.lt, TA.out.lt⟩
  have tb0 := TB.out.cell 0 _ rfl
  have tb1 := TB.out.cell 1 _ rfl
  have tb2 := TB.out.cell 2 _ rfl
  have tb3 := TB.out.cell 3 _ rfl
  have tb4 := TB.out.cell 4 _ rfl
  have tb5 := TB.out.cell 5 _ rfl
  have tb6 := TB.out.cell 6 _ rfl
  go_wp2_with fail
  refine (toIrBlock ⟨bp, ln, ops, en, bx, by_, bk⟩ _ _ (RB.out.below BW.out) LO.out).mono ?_
  rintro e u3 ⟨gx, c', rfl, rfl, MX0, x1, x2, hb⟩
  clear tb0 tb1 tb2 tb3 tb4 tb5 tb6
  simp only [bv] at MX0 ⊢
  obtain ⟨ax, kx, ex, hx⟩ := MX0
  simp only [bv, List.cons.injEq, Value.slice.injEq, and_true, true_and] at ex
  obtain ⟨rfl, rfl⟩ := ex
  have FX := hide (Irk.wf_of hx)
  have XX : Hid (u2.heap.size ≤ gx ∧ gx < u3.heap.size) := ⟨x1, x2⟩
  clear hx x1 x2
  replace YS := hide (YS.out.below hb)
  replace SW := hide (SW.out.below hb)
  replace TB := hide (TB.out.below hb)
  replace TA := hide (TA.out.below hb)
  replace BW := hide (BW.out.trans (hb.mono BW.out.size))
  clear hb
  have hb : Below u3.heap.size u3 (u3.alloc (.cells #[.int .i64 bp, .int .i64 ln, .slice (some ⟨gx, 0, none⟩) ops.length ops.length, .int .i64 en, .int .i64 bx, .int .i64 by_, .int .i64 bk] 35)) := (Below.refl _ _).alloc (Nat.le_refl _) _
  have X0 := hide (Rec.new u3 [.int .i64 bp, .int .i64 ln, .slice (some ⟨gx, 0, none⟩) ops.length ops.length, .int .i64 en, .int .i64 bx, .int .i64 by_, .int .i64 bk] 35)
  have szX0 : Hid ((u3.alloc (.cells #[.int .i64 bp, .int .i64 ln, .slice (some ⟨gx, 0, none⟩) ops.length ops.length, .int .i64 en, .int .i64 bx, .int .i64 by_, .int .i64 bk] 35)).heap.size = u3.heap.size + 1) := show _ = _ by simp
  replace YS := hide (YS.out.below hb)
  replace SW := hide (SW.out.below hb)
  replace TB := hide (TB.out.below hb)
  replace TA := hide (TA.out.below hb)
  replace FX := hide (FX.out.below hb)
  replace BW := hide (BW.out.trans (hb.mono BW.out.size))
  clear hb
  have ta0 := TA.out.cell 0 _ rfl
  have ta1 := TA.out.cell 1 _ rfl
  have ta2 := TA.out.cell 2 _ rfl
  have ta3 := TA.out.cell 3 _ rfl
  have ta4 := TA.out.cell 4 _ rfl
  have ta5 := TA.out.cell 5 _ rfl
  have ta6 := TA.out.cell 6 _ rfl
  have ta7 := TA.out.cell 7 _ rfl
  have ta8 := TA.out.cell 8 _ rfl
  have ta9 := TA.out.cell 9 _ rfl
  go_wp2_with fail
  refine (toMch ⟨regs, pc, mem, save, lets, waits, halt, ins, outs, count⟩ _ _ (RM.out.below BW.out) HS.out).mono ?_
  rintro e u4 ⟨cx, rfl, MX, hb⟩
  clear ta0 ta1 ta2 ta3 ta4 ta5 ta6 ta7 ta8 ta9
  rw [szX0.out] at MX
  have S4 : Hid (u3.heap.size + 1 ≤ u4.heap.size) := by have := hb.size; rw [szX0.out] at this; exact this
  replace MX := MX.bound
  obtain ⟨xq1, xq2, xq3, xq4, xn1, xn2, xn3, xn4, xk1, xk2, xk3, xk4, rfl⟩ := ten_forms MX
  simp only [mv] at MX ⊢
  replace MX := hide MX
  replace YS := hide (YS.out.below hb)
  replace SW := hide (SW.out.below hb)
  replace TB := hide (TB.out.below hb)
  replace TA := hide (TA.out.below hb)
  replace FX := hide (FX.out.below hb)
  replace X0 := hide (X0.out.below hb)
  replace BW := hide (BW.out.trans (hb.mono BW.out.size))
  clear hb
  have hb : Below u4.heap.size u4 (u4.alloc (.cells #[.slice xq1 xn1 xk1, .int .i64 pc, .slice xq2 xn2 xk2, .int .i64 save, .bool lets, .bool waits, .int .i64 halt, .slice xq3 xn3 xk3, .slice xq4 xn4 xk4, .int .i64 count] 30)) := (Below.refl _ _).alloc (Nat.le_refl _) _
  have X1 := hide (Rec.new u4 [.slice xq1 xn1 xk1, .int .i64 pc, .slice xq2 xn2 xk2, .int .i64 save, .bool lets, .bool waits, .int .i64 halt, .slice xq3 xn3 xk3, .slice xq4 xn4 xk4, .int .i64 count] 30)
  have szX1 : Hid ((u4.alloc (.cells #[.slice xq1 xn1 xk1, .int .i64 pc, .slice xq2 xn2 xk2, .int .i64 save, .bool lets, .bool waits, .int .i64 halt, .slice xq3 xn3 xk3, .slice xq4 xn4 xk4, .int .i64 count] 30)).heap.size = u4.heap.size + 1) := show _ = _ by simp
  replace YS := hide (YS.out.below hb)
  replace SW := hide (SW.out.below hb)
  replace TB := hide (TB.out.below hb)
  replace TA := hide (TA.out.below hb)
  replace FX := hide (FX.out.below hb)
  replace X0 := hide (X0.out.below hb)
  replace MX := hide (MX.out.below hb)
  replace BW := hide (BW.out.trans (hb.mono BW.out.size))
  clear hb
  have xa0 := X0.out.cell 0 _ rfl
  have xa1 := X0.out.cell 1 _ rfl
  have xa2 := X0.out.cell 2 _ rfl
  have xa3 := X0.out.cell 3 _ rfl
  have xa4 := X0.out.cell 4 _ rfl
  have xa5 := X0.out.cell 5 _ rfl
  have xa6 := X0.out.cell 6 _ rfl
  have xb0 := X1.out.cell 0 _ rfl
  have xb1 := X1.out.cell 1 _ rfl
  have xb2 := X1.out.cell 2 _ rfl
  have xb3 := X1.out.cell 3 _ rfl
  have xb4 := X1.out.cell 4 _ rfl
  have xb5 := X1.out.cell 5 _ rfl
  have xb6 := X1.out.cell 6 _ rfl
  have xb7 := X1.out.cell 7 _ rfl
  have xb8 := X1.out.cell 8 _ rfl
  have xb9 := X1.out.cell 9 _ rfl
  have E0 : Hid (RBk (u4.alloc (.cells #[.slice xq1 xn1 xk1, .int .i64 pc, .slice xq2 xn2 xk2, .int .i64 save, .bool lets, .bool waits, .int .i64 halt, .slice xq3 xn3 xk3, .slice xq4 xn4 xk4, .int .i64 count] 30)) [.int .i64 bp, .int .i64 ln, .slice (some ⟨gx, 0, none⟩) ops.length ops.length, .int .i64 en, .int .i64 bx, .int .i64 by_, .int .i64 bk] ⟨bp, ln, ops, en, bx, by_, bk⟩) := ⟨_, _, gx, rfl, Irk.orow_of FX.out.row⟩
  have G0 : Hid ((u4.alloc (.cells #[.slice xq1 xn1 xk1, .int .i64 pc, .slice xq2 xn2 xk2, .int .i64 save, .bool lets, .bool waits, .int .i64 halt, .slice xq3 xn3 xk3, .slice xq4 xn4 xk4, .int .i64 count] 30)).cell? ⟨2, 0, none⟩ = _) := (World.cell?_of_block (w := w) (BW.out.block _ (cell_lt HG.out))).trans HG.out
  go_wp2_with fail
  refine (implIrRun ⟨bp, ln, ops, en, bx, by_, bk⟩ ⟨regs, pc, mem, save, lets, waits, halt, ins, outs, count⟩ _ _ _ E0.out MX.out.write.read HM.out (tb_below HT.out BW.out) (tb_below HZ.out BW.out) G0.out).mono ?_
  rintro e u5 ⟨hir, hb⟩
  obtain ⟨cg, rfl, MG⟩ := ir_bound hir
  rw [EK.out]
  rw [EM.out, szX1.out] at MG
  have S5 : Hid (u4.heap.size + 1 ≤ u5.heap.size) := by have := hb.size; rw [szX1.out] at this; exact this
  clear hir E0 G0
  clear xa0 xa1 xa2 xa3 xa4 xa5 xa6
  clear xb0 xb1 xb2 xb3 xb4 xb5 xb6 xb7 xb8 xb9
  obtain ⟨gq1, gq2, gq3, gq4, gn1, gn2, gn3, gn4, gk1, gk2, gk3, gk4, rfl⟩ := ten_forms MG
  simp only [mv] at MG ⊢
  replace MG := hide MG
  replace YS := hide (YS.out.below hb)
  replace SW := hide (SW.out.below hb)
  replace TB := hide (TB.out.below hb)
  replace TA := hide (TA.out.below hb)
  replace FX := hide (FX.out.below hb)
  replace X0 := hide (X0.out.below hb)
  replace MX := hide (MX.out.below hb)
  replace X1 := hide (X1.out.below hb)
  replace BW := hide (BW.out.trans (hb.mono BW.out.size))
  clear hb
  have hb : Below u5.heap.size u5 (u5.alloc (.cells #[.slice gq1 gn1 gk1, .int .i64 m.pc, .slice gq2 gn2 gk2, .int .i64 m.save, .bool m.lets, .bool m.waits, .int .i64 m.halt, .slice gq3 gn3 gk3, .slice gq4 gn4 gk4, .int .i64 m.count] 30)) := (Below.refl _ _).alloc (Nat.le_refl _) _
  have G := hide (Rec.new u5 [.slice gq1 gn1 gk1, .int .i64 m.pc, .slice gq2 gn2 gk2, .int .i64 m.save, .bool m.lets, .bool m.waits, .int .i64 m.halt, .slice gq3 gn3 gk3, .slice gq4 gn4 gk4, .int .i64 m.count] 30)
  have szG : Hid ((u5.alloc (.cells #[.slice gq1 gn1 gk1, .int .i64 m.pc, .slice gq2 gn2 gk2, .int .i64 m.save, .bool m.lets, .bool m.waits, .int .i64 m.halt, .slice gq3 gn3 gk3, .slice gq4 gn4 gk4, .int .i64 m.count] 30)).heap.size = u5.heap.size + 1) := show _ = _ by simp
  replace YS := hide (YS.out.below hb)
  replace SW := hide (SW.out.below hb)
  replace TB := hide (TB.out.below hb)
  replace TA := hide (TA.out.below hb)
  replace FX := hide (FX.out.below hb)
  replace X0 := hide (X0.out.below hb)
  replace MX := hide (MX.out.below hb)
  replace X1 := hide (X1.out.below hb)
  replace MG := hide (MG.out.below hb)
  replace BW := hide (BW.out.trans (hb.mono BW.out.size))
  clear hb
  have y0 := YS.out.cell 0 _ rfl
  have y1 := YS.out.cell 1 _ rfl
  have y2 := YS.out.cell 2 _ rfl
  have y3 := YS.out.cell 3 _ rfl
  have y4 := YS.out.cell 4 _ rfl
  have y5 := YS.out.cell 5 _ rfl
  have y6 := YS.out.cell 6 _ rfl
  have y7 := YS.out.cell 7 _ rfl
  have y8 := YS.out.cell 8 _ rfl
  have y9 := YS.out.cell 9 _ rfl
  have z0 := G.out.cell 0 _ rfl
  have z1 := G.out.cell 1 _ rfl
  have z2 := G.out.cell 2 _ rfl
  have z3 := G.out.cell 3 _ rfl
  have z4 := G.out.cell 4 _ rfl
  have z5 := G.out.cell 5 _ rfl
  have z6 := G.out.cell 6 _ rfl
  have z7 := G.out.cell 7 _ rfl
  have z8 := G.out.cell 8 _ rfl
  have z9 := G.out.cell 9 _ rfl
  go_wp2_with fail
  refine (eqMch m _ _ _ MG.out.write.read SW.out.write.read).mono ?_
  rintro e u6 ⟨rfl, hb⟩
  clear y0 y1 y2 y3 y4 y5 y6 y7 y8 y9
  clear z0 z1 z2 z3 z4 z5 z6 z7 z8 z9
  replace YS := hide (YS.out.below hb)
  replace SW := hide (SW.out.below hb)
  replace TB := hide (TB.out.below hb)
  replace TA := hide (TA.out.below hb)
  replace FX := hide (FX.out.below hb)
  replace X0 := hide (X0.out.below hb)
  replace MX := hide (MX.out.below hb)
  replace X1 := hide (X1.out.below hb)
  replace MG := hide (MG.out.below hb)
  replace G := hide (G.out.below hb)
  replace BW := hide (BW.out.trans (hb.mono BW.out.size))
  clear hb
  go_wp2_with fail
  refine (wpIn_wide (n := 0)).1 ?_
  have hb := drew_belowI u6
  replace YS := hide (YS.out.below hb)
  replace SW := hide (SW.out.below hb)
  replace TB := hide (TB.out.below hb)
  replace TA := hide (TA.out.below hb)
  replace FX := hide (FX.out.below hb)
  replace X0 := hide (X0.out.below hb)
  replace MX := hide (MX.out.below hb)
  replace X1 := hide (X1.out.below hb)
  replace MG := hide (MG.out.below hb)
  replace G := hide (G.out.below hb)
  replace BW := hide (BW.out.trans (hb.mono BW.out.size))
  clear hb
  refine PhaseIn.region (S := fun D => Rec u3.heap.size [.int .i64 bp, .int .i64 ln, .slice (some ⟨gx, 0, none⟩) ops.length ops.length, .int .i64 en, .int .i64 bx, .int .i64 by_, .int .i64 bk] D ∧ Rec w.heap.size [.int .i64 bp, .int .i64 ln, .slice q0 ops.length cap0, .int .i64 en, .int .i64 bx, .int .i64 by_, .int .i64 bk] D ∧ True) 3 (by kernel_rfl) ?_
  generalize u6.drew = r0 at YS SW TB TA FX X0 MX X1 MG G BW ⊢
  have hHeld : Rec u3.heap.size [.int .i64 bp, .int .i64 ln, .slice (some ⟨gx, 0, none⟩) ops.length ops.length, .int .i64 en, .int .i64 bx, .int .i64 by_, .int .i64 bk] r0 ∧ Rec w.heap.size [.int .i64 bp, .int .i64 ln, .slice q0 ops.length cap0, .int .i64 en, .int .i64 bx, .int .i64 by_, .int .i64 bk] r0 ∧ True := ⟨X0.out, TB.out, trivial⟩
  refine PhaseIn.takeD (i := 0) (v := ?_) [0, 3, 4] 54 rfl (by rfl) (by kernel_rfl) (by kernel_rfl) (by kernel_rfl) (by kernel_rfl) (by kernel_rfl) (fun _ _ _ h => h) (Or.inl ⟨by kernel_rfl, ?_⟩) hHeld ?_
  rotate_left
  · intro w' hSw
    (try dsimp only at hSw)
    have z0 := hSw.1.cell 0 _ rfl; have z1 := hSw.1.cell 1 _ rfl; have z2 := hSw.1.cell 2 _ rfl; have z3 := hSw.1.cell 3 _ rfl; have z4 := hSw.1.cell 4 _ rfl; have z5 := hSw.1.cell 5 _ rfl; have z6 := hSw.1.cell 6 _ rfl
    go_simp
    first | done | with_reducible rfl
  try simp only [Act.put, List.setIfInBounds_toArray, List.set]
  refine PhaseIn.takeD (i := 1) (v := ?_) [1, 2, 3, 4] 55 rfl (by rfl) (by kernel_rfl) (by kernel_rfl) (by kernel_rfl) (by kernel_rfl) (by kernel_rfl) (fun _ _ _ h => h) (Or.inl ⟨by kernel_rfl, ?_⟩) hHeld ?_
  rotate_left
  · intro w' hSw
    (try dsimp only at hSw)
    have z0 := hSw.2.1.cell 0 _ rfl; have z1 := hSw.2.1.cell 1 _ rfl; have z2 := hSw.2.1.cell 2 _ rfl; have z3 := hSw.2.1.cell 3 _ rfl; have z4 := hSw.2.1.cell 4 _ rfl; have z5 := hSw.2.1.cell 5 _ rfl; have z6 := hSw.2.1.cell 6 _ rfl
    go_simp
    first | done | with_reducible rfl
  try simp only [Act.put, List.setIfInBounds_toArray, List.set]
  refine PhaseIn.one (i := 2) (by kernel_rfl) rfl (by kernel_rfl) (fun K hK => ?_)
  unfold Oper.wpIn
  refine ⟨fun _ _ => trivial, ?_⟩
  go_simp
  refine ⟨rfl, (callsIn_wide.2 (toIrBlock ⟨bp, ln, ops, en, bx, by_, bk⟩ _ _ (RB.out.below BW.out) LO.out)).mono ?_⟩
  rintro e r1 ⟨g6, c6, rfl, rfl, M6, -, -, hb⟩
  simp only [bv] at M6 ⊢
  replace M6 := hide M6.read
  replace YS := hide (YS.out.below hb)
  replace SW := hide (SW.out.below hb)
  replace TB := hide (TB.out.below hb)
  replace TA := hide (TA.out.below hb)
  replace FX := hide (FX.out.below hb)
  replace X0 := hide (X0.out.below hb)
  replace MX := hide (MX.out.below hb)
  replace X1 := hide (X1.out.below hb)
  replace MG := hide (MG.out.below hb)
  replace G := hide (G.out.below hb)
  replace BW := hide (BW.out.trans (hb.mono BW.out.size))
  clear hb
  have hHeld2 : Rec u3.heap.size [.int .i64 bp, .int .i64 ln, .slice (some ⟨gx, 0, none⟩) ops.length ops.length, .int .i64 en, .int .i64 bx, .int .i64 by_, .int .i64 bk] r1 ∧ Rec w.heap.size [.int .i64 bp, .int .i64 ln, .slice q0 ops.length cap0, .int .i64 en, .int .i64 bx, .int .i64 by_, .int .i64 bk] r1 ∧ True := ⟨X0.out, TB.out, trivial⟩
  refine hK _ _ (fun _ => hHeld2) ?_
  clear hK K hHeld
  try simp only [Act.put, List.setIfInBounds_toArray, List.set]
  refine PhaseIn.one (i := 3) (by kernel_rfl) rfl (by kernel_rfl) (fun K hK => ?_)
  unfold Oper.wpIn
  refine ⟨fun _ _ => trivial, ?_⟩
  go_simp
  refine ⟨rfl, (callsIn_wide.2 (eqIrBlock ⟨bp, ln, ops, en, bx, by_, bk⟩ _ _ _ (show RBk _ [.int .i64 bp, .int .i64 ln, .slice (some ⟨gx, 0, none⟩) ops.length ops.length, .int .i64 en, .int .i64 bx, .int .i64 by_, .int .i64 bk] ⟨bp, ln, ops, en, bx, by_, bk⟩ from ⟨_, _, gx, rfl, Irk.orow_of FX.out.row⟩) M6.out)).mono ?_⟩
  rintro e r2 ⟨rfl, hb⟩
  clear M6
  replace YS := hide (YS.out.below hb)
  replace SW := hide (SW.out.below hb)
  replace TB := hide (TB.out.below hb)
  replace TA := hide (TA.out.below hb)
  replace FX := hide (FX.out.below hb)
  replace X0 := hide (X0.out.below hb)
  replace MX := hide (MX.out.below hb)
  replace X1 := hide (X1.out.below hb)
  replace MG := hide (MG.out.below hb)
  replace G := hide (G.out.below hb)
  replace BW := hide (BW.out.trans (hb.mono BW.out.size))
  clear hb
  refine hK _ _ (fun h => absurd h (by omega)) ?_
  clear hK K hHeld2
  try simp only [Act.put, List.setIfInBounds_toArray, List.set]
  refine PhaseIn.late (i := 4) (v := ?_) (by kernel_rfl) rfl 58 (by rfl) (by omega) (Or.inl ⟨by kernel_rfl, ?_⟩) ?_
  rotate_left
  · intro w' hSw
    go_simp
    first | done | with_reducible rfl
  try simp only [Act.put, List.setIfInBounds_toArray, List.set]
  refine PhaseIn.done (by kernel_rfl) ?_ _
  go_wp2_with fail
  refine (wpIn_wide (n := 0)).1 ?_
  have hb := drew_belowI r2
  replace YS := hide (YS.out.below hb)
  replace SW := hide (SW.out.below hb)
  replace TB := hide (TB.out.below hb)
  replace TA := hide (TA.out.below hb)
  replace FX := hide (FX.out.below hb)
  replace X0 := hide (X0.out.below hb)
  replace MX := hide (MX.out.below hb)
  replace X1 := hide (X1.out.below hb)
  replace MG := hide (MG.out.below hb)
  replace G := hide (G.out.below hb)
  replace BW := hide (BW.out.trans (hb.mono BW.out.size))
  clear hb
  refine PhaseIn.region (S := fun D => Rec u4.heap.size [.slice xq1 xn1 xk1, .int .i64 pc, .slice xq2 xn2 xk2, .int .i64 save, .bool lets, .bool waits, .int .i64 halt, .slice xq3 xn3 xk3, .slice xq4 xn4 xk4, .int .i64 count] D ∧ Rec (w.heap.size + 1) [.slice t1 regs.length j1, .int .i64 pc, .slice t2 mem.length j2, .int .i64 save, .bool lets, .bool waits, .int .i64 halt, .slice t3 ins.length j3, .slice t4 outs.length j4, .int .i64 count] D ∧ True) 3 (by kernel_rfl) ?_
  generalize r2.drew = s0 at YS SW TB TA FX X0 MX X1 MG G BW ⊢
  have hHeld : Rec u4.heap.size [.slice xq1 xn1 xk1, .int .i64 pc, .slice xq2 xn2 xk2, .int .i64 save, .bool lets, .bool waits, .int .i64 halt, .slice xq3 xn3 xk3, .slice xq4 xn4 xk4, .int .i64 count] s0 ∧ Rec (w.heap.size + 1) [.slice t1 regs.length j1, .int .i64 pc, .slice t2 mem.length j2, .int .i64 save, .bool lets, .bool waits, .int .i64 halt, .slice t3 ins.length j3, .slice t4 outs.length j4, .int .i64 count] s0 ∧ True := ⟨X1.out, TA.out, trivial⟩
  refine PhaseIn.takeD (i := 0) (v := ?_) [0, 3, 4] 59 rfl (by rfl) (by kernel_rfl) (by kernel_rfl) (by kernel_rfl) (by kernel_rfl) (by kernel_rfl) (fun _ _ _ h => h) (Or.inl ⟨by kernel_rfl, ?_⟩) hHeld ?_
  rotate_left
  · intro w' hSw
    (try dsimp only at hSw)
    have z0 := hSw.1.cell 0 _ rfl; have z1 := hSw.1.cell 1 _ rfl; have z2 := hSw.1.cell 2 _ rfl; have z3 := hSw.1.cell 3 _ rfl; have z4 := hSw.1.cell 4 _ rfl; have z5 := hSw.1.cell 5 _ rfl; have z6 := hSw.1.cell 6 _ rfl; have z7 := hSw.1.cell 7 _ rfl; have z8 := hSw.1.cell 8 _ rfl; have z9 := hSw.1.cell 9 _ rfl
    go_simp
    first | done | with_reducible rfl
  try simp only [Act.put, List.setIfInBounds_toArray, List.set]
  refine PhaseIn.takeD (i := 1) (v := ?_) [1, 2, 3, 4] 60 rfl (by rfl) (by kernel_rfl) (by kernel_rfl) (by kernel_rfl) (by kernel_rfl) (by kernel_rfl) (fun _ _ _ h => h) (Or.inl ⟨by kernel_rfl, ?_⟩) hHeld ?_
  rotate_left
  · intro w' hSw
    (try dsimp only at hSw)
    have z0 := hSw.2.1.cell 0 _ rfl; have z1 := hSw.2.1.cell 1 _ rfl; have z2 := hSw.2.1.cell 2 _ rfl; have z3 := hSw.2.1.cell 3 _ rfl; have z4 := hSw.2.1.cell 4 _ rfl; have z5 := hSw.2.1.cell 5 _ rfl; have z6 := hSw.2.1.cell 6 _ rfl; have z7 := hSw.2.1.cell 7 _ rfl; have z8 := hSw.2.1.cell 8 _ rfl; have z9 := hSw.2.1.cell 9 _ rfl
    go_simp
    first | done | with_reducible rfl
  try simp only [Act.put, List.setIfInBounds_toArray, List.set]
  refine PhaseIn.one (i := 2) (by kernel_rfl) rfl (by kernel_rfl) (fun K hK => ?_)
  unfold Oper.wpIn
  refine ⟨fun _ _ => trivial, ?_⟩
  go_simp
  refine ⟨rfl, (callsIn_wide.2 (toMch ⟨regs, pc, mem, save, lets, waits, halt, ins, outs, count⟩ _ _ (RM.out.below BW.out) HS.out)).mono ?_⟩
  rintro e s1 ⟨c6, rfl, M6, hb⟩
  replace M6 := hide M6.read
  replace YS := hide (YS.out.below hb)
  replace SW := hide (SW.out.below hb)
  replace TB := hide (TB.out.below hb)
  replace TA := hide (TA.out.below hb)
  replace FX := hide (FX.out.below hb)
  replace X0 := hide (X0.out.below hb)
  replace MX := hide (MX.out.below hb)
  replace X1 := hide (X1.out.below hb)
  replace MG := hide (MG.out.below hb)
  replace G := hide (G.out.below hb)
  replace BW := hide (BW.out.trans (hb.mono BW.out.size))
  clear hb
  have hHeld2 : Rec u4.heap.size [.slice xq1 xn1 xk1, .int .i64 pc, .slice xq2 xn2 xk2, .int .i64 save, .bool lets, .bool waits, .int .i64 halt, .slice xq3 xn3 xk3, .slice xq4 xn4 xk4, .int .i64 count] s1 ∧ Rec (w.heap.size + 1) [.slice t1 regs.length j1, .int .i64 pc, .slice t2 mem.length j2, .int .i64 save, .bool lets, .bool waits, .int .i64 halt, .slice t3 ins.length j3, .slice t4 outs.length j4, .int .i64 count] s1 ∧ True := ⟨X1.out, TA.out, trivial⟩
  refine hK _ _ (fun _ => hHeld2) ?_
  clear hK K hHeld
  try simp only [Act.put, List.setIfInBounds_toArray, List.set]
  refine PhaseIn.one (i := 3) (by kernel_rfl) rfl (by kernel_rfl) (fun K hK => ?_)
  unfold Oper.wpIn
  refine ⟨fun _ _ => trivial, ?_⟩
  go_simp
  refine ⟨rfl, (callsIn_wide.2 (eqMch ⟨regs, pc, mem, save, lets, waits, halt, ins, outs, count⟩ _ _ _ MX.out.write.read M6.out)).mono ?_⟩
  rintro e s2 ⟨rfl, hb⟩
  clear M6
  replace YS := hide (YS.out.below hb)
  replace SW := hide (SW.out.below hb)
  replace TB := hide (TB.out.below hb)
  replace TA := hide (TA.out.below hb)
  replace FX := hide (FX.out.below hb)
  replace X0 := hide (X0.out.below hb)
  replace MX := hide (MX.out.below hb)
  replace X1 := hide (X1.out.below hb)
  replace MG := hide (MG.out.below hb)
  replace G := hide (G.out.below hb)
  replace BW := hide (BW.out.trans (hb.mono BW.out.size))
  clear hb
  refine hK _ _ (fun h => absurd h (by omega)) ?_
  clear hK K hHeld2
  try simp only [Act.put, List.setIfInBounds_toArray, List.set]
  refine PhaseIn.late (i := 4) (v := ?_) (by kernel_rfl) rfl 63 (by rfl) (by omega) (Or.inl ⟨by kernel_rfl, ?_⟩) ?_
  rotate_left
  · intro w' hSw
    go_simp
    first | done | with_reducible rfl
  try simp only [Act.put, List.setIfInBounds_toArray, List.set]
  refine PhaseIn.done (by kernel_rfl) ?_ _
  have xa0 := X0.out.cell 0 _ rfl
  have xa1 := X0.out.cell 1 _ rfl
  have xa2 := X0.out.cell 2 _ rfl
  have xa3 := X0.out.cell 3 _ rfl
  have xa4 := X0.out.cell 4 _ rfl
  have xa5 := X0.out.cell 5 _ rfl
  have xa6 := X0.out.cell 6 _ rfl
  go_wp2_with fail
  refine (Irk.markIrBlock 1 ⟨bp, ln, ops, en, bx, by_, bk⟩ _ gx _ _ _ _ FX.out (by omega) (by omega) (by have := LO.out; omega)).mono ?_
  rintro e u8 ⟨rfl, -, ht⟩
  clear xa0 xa1 xa2 xa3 xa4 xa5 xa6
  clear FX X0
  replace SW := hide (SW.out.keep (turn_keep ht) (fun b h1 h2 h3 => by have := H0.out; have := XX.out; omega))
  replace YS := hide (YS.out.turn ht (by have := SY.out; have := XX.out; omega))
  replace TB := hide (TB.out.turn ht (by have := SY.out; have := XX.out; omega))
  replace TA := hide (TA.out.turn ht (by have := SY.out; have := XX.out; omega))
  replace MX := hide (MX.out.keep (turn_keep ht) (fun b h1 h2 h3 => by have := XX.out; omega))
  replace X1 := hide (X1.out.turn ht (by have := XX.out; have := S4.out; omega))
  replace MG := hide (MG.out.keep (turn_keep ht) (fun b h1 h2 h3 => by have := XX.out; have := S4.out; omega))
  replace G := hide (G.out.turn ht (by have := XX.out; have := S4.out; have := S5.out; omega))
  replace BW := hide (BW.out.trans (ht.below (by have := SY.out; have := XX.out; omega) BW.out.size))
  clear ht
  have LOI : (ops.length : Int) ≤ 1048576 := by have := LO.out; omega
  obtain ⟨tx, etx⟩ : ∃ tx, total ⟨regs, pc, mem, save, lets, waits, halt, ins, outs, count⟩ = tx := ⟨_, rfl⟩
  have txp : 0 ≤ tx := by rw [← etx]; exact total_pos _
  have ETX := hide etx
  clear etx
  have xb0 := X1.out.cell 0 _ rfl
  have xb1 := X1.out.cell 1 _ rfl
  have xb2 := X1.out.cell 2 _ rfl
  have xb3 := X1.out.cell 3 _ rfl
  have xb4 := X1.out.cell 4 _ rfl
  have xb5 := X1.out.cell 5 _ rfl
  have xb6 := X1.out.cell 6 _ rfl
  have xb7 := X1.out.cell 7 _ rfl
  have xb8 := X1.out.cell 8 _ rfl
  have xb9 := X1.out.cell 9 _ rfl
  go_wp2_with fail
  refine (markMchK ⟨regs, pc, mem, save, lets, waits, halt, ins, outs, count⟩ (1 + (ops.length : Int) * 5) _ _ _ _ MX.out (by have := S4.out; have := X1.out.lt; omega) (small_wideI HS.out) (by omega) (by omega)).mono ?_
  rintro e u9 ⟨rfl, MXM, hk⟩
  rw [ETX.out]
  clear xb0 xb1 xb2 xb3 xb4 xb5 xb6 xb7 xb8 xb9
  clear MXM MX
  replace SW := hide (SW.out.keep hk (fun b h1 h2 h3 => by have := H0.out; have := XX.out; omega))
  replace YS := hide (YS.out.keep hk (by have := SY.out; have := XX.out; omega))
  replace TB := hide (TB.out.keep hk (by have := SY.out; have := XX.out; omega))
  replace TA := hide (TA.out.keep hk (by have := SY.out; have := XX.out; omega))
  replace MG := hide (MG.out.keep hk (fun b h1 h2 h3 => by omega))
  replace G := hide (G.out.keep hk (by have := S5.out; omega))
  replace BW := hide (BW.out.trans (hk.below BW.out.size (fun k h1 h2 => by have := SY.out; have := XX.out; omega)))
  clear hk X1 ETX
  have pk : ¬ (1 + (ops.length : Int) * 5 + tx) < 0 := by omega
  have y0 := YS.out.cell 0 _ rfl
  have y1 := YS.out.cell 1 _ rfl
  have y2 := YS.out.cell 2 _ rfl
  have y3 := YS.out.cell 3 _ rfl
  have y4 := YS.out.cell 4 _ rfl
  have y5 := YS.out.cell 5 _ rfl
  have y6 := YS.out.cell 6 _ rfl
  have y7 := YS.out.cell 7 _ rfl
  have y8 := YS.out.cell 8 _ rfl
  have y9 := YS.out.cell 9 _ rfl
  have z0 := G.out.cell 0 _ rfl
  have z1 := G.out.cell 1 _ rfl
  have z2 := G.out.cell 2 _ rfl
  have z3 := G.out.cell 3 _ rfl
  have z4 := G.out.cell 4 _ rfl
  have z5 := G.out.cell 5 _ rfl
  have z6 := G.out.cell 6 _ rfl
  have z7 := G.out.cell 7 _ rfl
  have z8 := G.out.cell 8 _ rfl
  have z9 := G.out.cell 9 _ rfl
  go_wp2_with fail
  refine (eqMch m _ _ _ MG.out.write.read SW.out.write.read).mono ?_
  rintro e u10 ⟨rfl, hb⟩
  clear y0 y1 y2 y3 y4 y5 y6 y7 y8 y9
  clear z0 z1 z2 z3 z4 z5 z6 z7 z8 z9
  replace SW := hide (SW.out.below hb)
  replace YS := hide (YS.out.below hb)
  replace TB := hide (TB.out.below hb)
  replace TA := hide (TA.out.below hb)
  replace MG := hide (MG.out.below hb)
  replace G := hide (G.out.below hb)
  replace BW := hide (BW.out.trans (hb.mono BW.out.size))
  clear hb
  have z0 := G.out.cell 0 _ rfl
  have z1 := G.out.cell 1 _ rfl
  have z2 := G.out.cell 2 _ rfl
  have z3 := G.out.cell 3 _ rfl
  have z4 := G.out.cell 4 _ rfl
  have z5 := G.out.cell 5 _ rfl
  have z6 := G.out.cell 6 _ rfl
  have z7 := G.out.cell 7 _ rfl
  have z8 := G.out.cell 8 _ rfl
  have z9 := G.out.cell 9 _ rfl
  go_wp2_with fail
  refine (markMchK m 1 _ _ _ _ MG.out (by have := S5.out; have := G.out.lt; omega) SM.out (by omega) (by omega)).mono ?_
  rintro e u15 ⟨rfl, MQ, hk⟩
  clear z0 z1 z2 z3 z4 z5 z6 z7 z8 z9
  clear MG
  replace SW := hide (SW.out.keep hk (fun b h1 h2 h3 => by have := H0.out; have := XX.out; have := S4.out; omega))
  replace YS := hide (YS.out.keep hk (by have := SY.out; have := XX.out; have := S4.out; omega))
  replace TB := hide (TB.out.keep hk (by have := SY.out; have := XX.out; have := S4.out; omega))
  replace TA := hide (TA.out.keep hk (by have := SY.out; have := XX.out; have := S4.out; omega))
  replace G := hide (G.out.keep hk (by omega))
  replace BW := hide (BW.out.trans (hk.below BW.out.size (fun k h1 h2 => by have := SY.out; have := XX.out; have := S4.out; omega)))
  have BQ := hide MQ.bound
  obtain ⟨hq, ehq⟩ : ∃ hq, u15.heap.size = hq := ⟨_, rfl⟩
  rw [ehq] at BQ
  have HQ : Hid (hq ≤ u15.heap.size) := show _ ≤ _ by omega
  clear hk MQ ehq
  obtain ⟨tt, et⟩ : ∃ tt, total m = tt := ⟨_, rfl⟩
  have tp : 0 ≤ tt := by rw [← et]; exact total_pos m
  have ET := hide et
  rw [et]
  clear et pk
  have pt : ¬ (1 + tt) < 0 := by omega
  have pn : ((1 + tt) != (1 + tt)) = false := by simp
  have z0 := G.out.cell 0 _ rfl
  have z1 := G.out.cell 1 _ rfl
  have z2 := G.out.cell 2 _ rfl
  have z3 := G.out.cell 3 _ rfl
  have z4 := G.out.cell 4 _ rfl
  have z5 := G.out.cell 5 _ rfl
  have z6 := G.out.cell 6 _ rfl
  have z7 := G.out.cell 7 _ rfl
  have z8 := G.out.cell 8 _ rfl
  have z9 := G.out.cell 9 _ rfl
  go_wp2_with fail
  refine (heldMch m 1 _ _ BQ.out.write.read SM.out (by omega) (by omega)).mono ?_
  rintro e u16 ⟨rfl, hb⟩
  rw [ET.out]
  clear z0 z1 z2 z3 z4 z5 z6 z7 z8 z9
  replace HQ := hide (Nat.le_trans HQ.out hb.size)
  replace SW := hide (SW.out.below hb)
  replace YS := hide (YS.out.below hb)
  replace TB := hide (TB.out.below hb)
  replace TA := hide (TA.out.below hb)
  replace BQ := hide (BQ.out.below hb)
  replace G := hide (G.out.below hb)
  replace BW := hide (BW.out.trans (hb.mono BW.out.size))
  clear hb
  go_wp2_with fail
  refine (wpIn_wide (n := 0)).1 ?_
  have hb := drew_belowI u16
  replace HQ := hide (Nat.le_trans HQ.out hb.size)
  replace SW := hide (SW.out.below hb)
  replace YS := hide (YS.out.below hb)
  replace TB := hide (TB.out.below hb)
  replace TA := hide (TA.out.below hb)
  replace BQ := hide (BQ.out.below hb)
  replace G := hide (G.out.below hb)
  replace BW := hide (BW.out.trans (hb.mono BW.out.size))
  clear hb
  refine PhaseIn.region (S := fun D => Rec w.heap.size [.int .i64 bp, .int .i64 ln, .slice q0 ops.length cap0, .int .i64 en, .int .i64 bx, .int .i64 by_, .int .i64 bk] D ∧ Rec (w.heap.size + 1) [.slice t1 regs.length j1, .int .i64 pc, .slice t2 mem.length j2, .int .i64 save, .bool lets, .bool waits, .int .i64 halt, .slice t3 ins.length j3, .slice t4 outs.length j4, .int .i64 count] D ∧ True) 10 (by kernel_rfl) ?_
  generalize u16.drew = v0 at SW YS TB TA BQ G BW HQ ⊢
  obtain ⟨z0, ez⟩ : ∃ z0, v0.heap.size = z0 := ⟨_, rfl⟩
  have SZ : Hid (z0 ≤ v0.heap.size) := show _ ≤ _ by omega
  have SB : Hid (hi0 ≤ z0 ∧ Y0 < z0 ∧ u5.heap.size < z0 ∧ hq ≤ z0) := show _ ∧ _ ∧ _ ∧ _ by
    have a1 := G.out.lt
    have a2 := YS.out.lt
    have a3 := HQ.out
    have a4 := H0.out
    have a5 := XX.out
    have a6 := S4.out
    have a7 := S5.out
    omega
  clear ez HQ
  have hHeld : Rec w.heap.size [.int .i64 bp, .int .i64 ln, .slice q0 ops.length cap0, .int .i64 en, .int .i64 bx, .int .i64 by_, .int .i64 bk] v0 ∧ Rec (w.heap.size + 1) [.slice t1 regs.length j1, .int .i64 pc, .slice t2 mem.length j2, .int .i64 save, .bool lets, .bool waits, .int .i64 halt, .slice t3 ins.length j3, .slice t4 outs.length j4, .int .i64 count] v0 ∧ True := ⟨TB.out, TA.out, trivial⟩
  refine PhaseIn.takeD (i := 0) (v := ?_) [0, 1, 3, 4, 5, 6, 7, 9, 10] 95 rfl (by rfl) (by kernel_rfl) (by kernel_rfl) (by kernel_rfl) (by kernel_rfl) (by kernel_rfl) (fun _ _ _ h => h) (Or.inl ⟨by kernel_rfl, ?_⟩) hHeld ?_
  rotate_left
  · intro w' hSw
    (try dsimp only at hSw)
    have z0 := hSw.1.cell 0 _ rfl; have z1 := hSw.1.cell 1 _ rfl; have z2 := hSw.1.cell 2 _ rfl; have z3 := hSw.1.cell 3 _ rfl; have z4 := hSw.1.cell 4 _ rfl; have z5 := hSw.1.cell 5 _ rfl; have z6 := hSw.1.cell 6 _ rfl
    go_simp
    first | done | with_reducible rfl
  try simp only [Act.put, List.setIfInBounds_toArray, List.set]
  refine PhaseIn.takeD (i := 2) (v := ?_) [2, 3, 4, 5, 6, 7, 9, 10] 97 rfl (by rfl) (by kernel_rfl) (by kernel_rfl) (by kernel_rfl) (by kernel_rfl) (by kernel_rfl) (fun _ _ _ h => h) (Or.inl ⟨by kernel_rfl, ?_⟩) hHeld ?_
  rotate_left
  · intro w' hSw
    (try dsimp only at hSw)
    have z0 := hSw.2.1.cell 0 _ rfl; have z1 := hSw.2.1.cell 1 _ rfl; have z2 := hSw.2.1.cell 2 _ rfl; have z3 := hSw.2.1.cell 3 _ rfl; have z4 := hSw.2.1.cell 4 _ rfl; have z5 := hSw.2.1.cell 5 _ rfl; have z6 := hSw.2.1.cell 6 _ rfl; have z7 := hSw.2.1.cell 7 _ rfl; have z8 := hSw.2.1.cell 8 _ rfl; have z9 := hSw.2.1.cell 9 _ rfl
    go_simp
    first | done | with_reducible rfl
  try simp only [Act.put, List.setIfInBounds_toArray, List.set]
  refine PhaseIn.two (i := 1) (j := 8) (by kernel_rfl) rfl rfl (by kernel_rfl) (by kernel_rfl) (fun K hK => ?_) (fun K hK => ?_)
  · unfold Oper.wpIn
    refine ⟨fun _ _ => trivial, ?_⟩
    go_simp
    refine ⟨rfl, (callsIn_wide.2 (toIrBlock ⟨bp, ln, ops, en, bx, by_, bk⟩ _ v0 (RB.out.below BW.out) LO.out)).mono ?_⟩
    rintro e h1 ⟨g1, c1, rfl, rfl, M1, -, -, hb⟩
    simp only [bv] at M1 ⊢
    have R1 := hide M1.read
    clear M1
    replace SZ := hide (Nat.le_trans SZ.out hb.size)
    replace TB := hide (TB.out.below hb)
    replace TA := hide (TA.out.below hb)
    replace SW := hide (SW.out.below hb)
    replace YS := hide (YS.out.below hb)
    replace BQ := hide (BQ.out.below hb)
    replace G := hide (G.out.below hb)
    replace BW := hide (BW.out.trans (hb.mono BW.out.size))
    clear hb
    have hHeld2 : Rec w.heap.size [.int .i64 bp, .int .i64 ln, .slice q0 ops.length cap0, .int .i64 en, .int .i64 bx, .int .i64 by_, .int .i64 bk] h1 ∧ Rec (w.heap.size + 1) [.slice t1 regs.length j1, .int .i64 pc, .slice t2 mem.length j2, .int .i64 save, .bool lets, .bool waits, .int .i64 halt, .slice t3 ins.length j3, .slice t4 outs.length j4, .int .i64 count] h1 ∧ True := ⟨TB.out, TA.out, trivial⟩
    refine hK _ _ (fun _ => hHeld2) ?_
    clear hK K hHeld
    have hHeld := hHeld2
    clear hHeld2
    try simp only [Act.put, List.setIfInBounds_toArray, List.set]
    refine PhaseIn.two (i := 3) (j := 8) (by kernel_rfl) rfl rfl (by kernel_rfl) (by kernel_rfl) (fun K hK => ?_) (fun K hK => ?_)
    · unfold Oper.wpIn
      refine ⟨fun _ _ => trivial, ?_⟩
      go_simp
      refine ⟨rfl, (callsIn_wide.2 (toMch ⟨regs, pc, mem, save, lets, waits, halt, ins, outs, count⟩ _ h1 (RM.out.below BW.out) HS.out)).mono ?_⟩
      rintro e h2 ⟨c3, rfl, M3, hb⟩
      replace M3 := hide M3.read
      replace SZ := hide (Nat.le_trans SZ.out hb.size)
      replace TB := hide (TB.out.below hb)
      replace TA := hide (TA.out.below hb)
      replace SW := hide (SW.out.below hb)
      replace YS := hide (YS.out.below hb)
      replace BQ := hide (BQ.out.below hb)
      replace G := hide (G.out.below hb)
      replace R1 := hide (R1.out.below hb)
      replace BW := hide (BW.out.trans (hb.mono BW.out.size))
      clear hb
      have hHeld2 : Rec w.heap.size [.int .i64 bp, .int .i64 ln, .slice q0 ops.length cap0, .int .i64 en, .int .i64 bx, .int .i64 by_, .int .i64 bk] h2 ∧ Rec (w.heap.size + 1) [.slice t1 regs.length j1, .int .i64 pc, .slice t2 mem.length j2, .int .i64 save, .bool lets, .bool waits, .int .i64 halt, .slice t3 ins.length j3, .slice t4 outs.length j4, .int .i64 count] h2 ∧ True := ⟨TB.out, TA.out, trivial⟩
      refine hK _ _ (fun _ => hHeld2) ?_
      clear hK K hHeld
      have hHeld := hHeld2
      clear hHeld2
      try simp only [Act.put, List.setIfInBounds_toArray, List.set]
      refine PhaseIn.two (i := 4) (j := 8) (by kernel_rfl) rfl rfl (by kernel_rfl) (by kernel_rfl) (fun K hK => ?_) (fun K hK => ?_)
      · unfold Oper.wpIn
        refine ⟨fun _ _ => trivial, ?_⟩
        go_simp
        have LV : Hid True := trivial
        refine ⟨rfl, (callsIn_wide.2 (implIrRun ⟨bp, ln, ops, en, bx, by_, bk⟩ ⟨regs, pc, mem, save, lets, waits, halt, ins, outs, count⟩ _ _ h2 R1.out M3.out HM.out (tb_below HT.out BW.out) (tb_below HZ.out BW.out) ((World.cell?_of_block (w := w) (BW.out.block _ (cell_lt HG.out))).trans HG.out))).mono ?_⟩
        rintro e h3 ⟨hir, hb⟩
        obtain ⟨cw, rfl, MW⟩ := ir_bound hir
        rw [EK.out]
        rw [EM.out] at MW
        clear hir
        obtain ⟨pq1, pq2, pq3, pq4, pn1, pn2, pn3, pn4, pk1, pk2, pk3, pk4, rfl⟩ := ten_forms MW
        simp only [mv] at MW ⊢
        replace MW := hide MW
        obtain ⟨lo, elo⟩ : ∃ lo, h2.heap.size = lo := ⟨_, rfl⟩
        rw [elo] at MW
        clear elo
        obtain ⟨hi, ehi⟩ : ∃ hi, h3.heap.size = hi := ⟨_, rfl⟩
        rw [ehi] at MW
        have HI : Hid (hi ≤ h3.heap.size) := show _ ≤ _ by omega
        clear ehi R1 M3
        replace SZ := hide (Nat.le_trans SZ.out hb.size)
        replace TB := hide (TB.out.below hb)
        replace TA := hide (TA.out.below hb)
        replace SW := hide (SW.out.below hb)
        replace YS := hide (YS.out.below hb)
        replace BQ := hide (BQ.out.below hb)
        replace G := hide (G.out.below hb)
        replace BW := hide (BW.out.trans (hb.mono BW.out.size))
        clear hb
        have hHeld2 : Rec w.heap.size [.int .i64 bp, .int .i64 ln, .slice q0 ops.length cap0, .int .i64 en, .int .i64 bx, .int .i64 by_, .int .i64 bk] h3 ∧ Rec (w.heap.size + 1) [.slice t1 regs.length j1, .int .i64 pc, .slice t2 mem.length j2, .int .i64 save, .bool lets, .bool waits, .int .i64 halt, .slice t3 ins.length j3, .slice t4 outs.length j4, .int .i64 count] h3 ∧ True := ⟨TB.out, TA.out, trivial⟩
        refine hK _ _ (fun _ => hHeld2) ?_
        clear hK K hHeld
        have hHeld := hHeld2
        clear hHeld2
        try simp only [Act.put, List.setIfInBounds_toArray, List.set]
        refine PhaseIn.takeD (i := 5) (v := ?_) [5, 6, 7, 9, 10] 94 rfl (by rfl) (by kernel_rfl) (by kernel_rfl) (by kernel_rfl) (by kernel_rfl) (by kernel_rfl) (fun _ _ _ h => h) (Or.inl ⟨by kernel_rfl, ?_⟩) hHeld ?_
        rotate_left
        · intro w' hSw
          (try dsimp only at hSw)
          go_simp
          first | done | with_reducible rfl
        try simp only [Act.put, List.setIfInBounds_toArray, List.set]
        refine PhaseIn.takeD (i := 6) (v := ?_) [6, 9, 10] 100 rfl (by rfl) (by kernel_rfl) (by kernel_rfl) (by kernel_rfl) (by kernel_rfl) (by kernel_rfl) (fun _ _ _ h => h) (Or.inl ⟨by kernel_rfl, ?_⟩) hHeld ?_
        rotate_left
        · intro w' hSw
          (try dsimp only at hSw)
          go_simp
          first | done | with_reducible rfl
        try simp only [Act.put, List.setIfInBounds_toArray, List.set]
        refine PhaseIn.takeD (i := 7) (v := ?_) [7, 10] 101 rfl (by rfl) (by kernel_rfl) (by kernel_rfl) (by kernel_rfl) (by kernel_rfl) (by kernel_rfl) (fun _ _ _ h => h) (Or.inl ⟨by kernel_rfl, ?_⟩) hHeld ?_
        rotate_left
        · intro w' hSw
          (try dsimp only at hSw)
          go_simp
          first | done | with_reducible rfl
        try simp only [Act.put, List.setIfInBounds_toArray, List.set]
        refine PhaseIn.one (i := 8) (by kernel_rfl) rfl (by kernel_rfl) (fun K hK => ?_)
        unfold Oper.wpIn
        refine ⟨fun _ _ => trivial, ?_⟩
        go_simp
        have hb := alloc_below h3 (.cells #[.slice none 0 0, .int .i64 0, .slice none 0 0, .int .i64 0, .bool false, .bool false, .int .i64 0, .slice none 0 0, .slice none 0 0, .int .i64 0] 30)
        have YB := hide (Rec.new h3 [.slice none 0 0, .int .i64 0, .slice none 0 0, .int .i64 0, .bool false, .bool false, .int .i64 0, .slice none 0 0, .slice none 0 0, .int .i64 0] 30)
        have LV : Hid (hi ≤ h3.heap.size) := HI.out
        replace HI := hide (Nat.le_trans HI.out hb.size)
        have LN : Hid (w.heap.size + 1 < h3.heap.size) := TA.out.lt
        have LZ : Hid (z0 ≤ h3.heap.size) := SZ.out
        replace SZ := hide (Nat.le_trans SZ.out hb.size)
        replace TB := hide (TB.out.below hb)
        replace TA := hide (TA.out.below hb)
        replace SW := hide (SW.out.below hb)
        replace YS := hide (YS.out.below hb)
        replace BQ := hide (BQ.out.below hb)
        replace G := hide (G.out.below hb)
        replace MW := hide (MW.out.below hb)
        replace BW := hide (BW.out.trans (hb.mono BW.out.size))
        clear hb
        have hHeld2 : Rec w.heap.size [.int .i64 bp, .int .i64 ln, .slice q0 ops.length cap0, .int .i64 en, .int .i64 bx, .int .i64 by_, .int .i64 bk] (h3.alloc (.cells #[.slice none 0 0, .int .i64 0, .slice none 0 0, .int .i64 0, .bool false, .bool false, .int .i64 0, .slice none 0 0, .slice none 0 0, .int .i64 0] 30)) ∧ Rec (w.heap.size + 1) [.slice t1 regs.length j1, .int .i64 pc, .slice t2 mem.length j2, .int .i64 save, .bool lets, .bool waits, .int .i64 halt, .slice t3 ins.length j3, .slice t4 outs.length j4, .int .i64 count] (h3.alloc (.cells #[.slice none 0 0, .int .i64 0, .slice none 0 0, .int .i64 0, .bool false, .bool false, .int .i64 0, .slice none 0 0, .slice none 0 0, .int .i64 0] 30)) ∧ True := ⟨TB.out, TA.out, trivial⟩
        refine hK _ _ (fun _ => hHeld2) ?_
        clear hK K hHeld
        have hHeld := hHeld2
        clear hHeld2
        try simp only [Act.put, List.setIfInBounds_toArray, List.set]
        generalize h3.alloc (.cells #[.slice none 0 0, .int .i64 0, .slice none 0 0, .int .i64 0, .bool false, .bool false, .int .i64 0, .slice none 0 0, .slice none 0 0, .int .i64 0] 30) = h4 at TB TA SW YS BQ G MW YB BW hHeld HI SZ ⊢
        generalize h3.heap.size = Y at YB LN LV LZ ⊢
        have z0 := YB.out.cell 0 _ rfl
        have s0 := YB.out.soft 0
        have z1 := YB.out.cell 1 _ rfl
        have s1 := YB.out.soft 1
        have z2 := YB.out.cell 2 _ rfl
        have s2 := YB.out.soft 2
        have z3 := YB.out.cell 3 _ rfl
        have s3 := YB.out.soft 3
        have z4 := YB.out.cell 4 _ rfl
        have s4 := YB.out.soft 4
        have z5 := YB.out.cell 5 _ rfl
        have s5 := YB.out.soft 5
        have z6 := YB.out.cell 6 _ rfl
        have s6 := YB.out.soft 6
        have z7 := YB.out.cell 7 _ rfl
        have s7 := YB.out.soft 7
        have z8 := YB.out.cell 8 _ rfl
        have s8 := YB.out.soft 8
        have z9 := YB.out.cell 9 _ rfl
        have s9 := YB.out.soft 9
        refine PhaseIn.one (i := 9) (by kernel_rfl) rfl (by kernel_rfl) (fun K hK => ?_)
        unfold Oper.wpIn
        refine ⟨fun _ _ => trivial, ?_⟩
        go_simp
        have tY := turn_ten Y h4 (.slice pq1 pn1 pk1) (.int .i64 m.pc) (.slice pq2 pn2 pk2) (.int .i64 m.save) (.bool m.lets) (.bool m.waits) (.int .i64 m.halt) (.slice pq3 pn3 pk3) (.slice pq4 pn4 pk4) (.int .i64 m.count)
        have YR := hide (rec_ten YB.out (.slice pq1 pn1 pk1) (.int .i64 m.pc) (.slice pq2 pn2 pk2) (.int .i64 m.save) (.bool m.lets) (.bool m.waits) (.int .i64 m.halt) (.slice pq3 pn3 pk3) (.slice pq4 pn4 pk4) (.int .i64 m.count))
        have BD : Hid (hi ≤ Y ∨ Y < lo) := Or.inl LV.out
        replace MW := hide (MW.out.keep (turn_keep tY) (fun b h1 h2 h3 => by have := BD.out; omega))
        replace TB := hide (TB.out.turn tY (by have := LN.out; omega))
        replace TA := hide (TA.out.turn tY (by have := LN.out; omega))
        replace HI := hide (Nat.le_trans HI.out tY.size)
        replace BW := hide (BW.out.trans (tY.below (by have := LN.out; omega) BW.out.size))
        replace SW := hide (SW.out.keep (turn_keep tY) (fun b h1 h2 h3 => by have := SB.out; have := LZ.out; omega))
        replace YS := hide (YS.out.turn tY (by have := SB.out; have := LZ.out; omega))
        replace BQ := hide (BQ.out.keep (turn_keep tY) (fun b h1 h2 h3 => by have := SB.out; have := LZ.out; omega))
        replace G := hide (G.out.turn tY (by have := SB.out; have := LZ.out; omega))
        clear SZ
        clear tY YB
        have hHeld2 : Rec w.heap.size [.int .i64 bp, .int .i64 ln, .slice q0 ops.length cap0, .int .i64 en, .int .i64 bx, .int .i64 by_, .int .i64 bk] ((((((((((h4.setCell ⟨Y, 0, none⟩ (.slice pq1 pn1 pk1)).setCell ⟨Y, 1, none⟩ (.int .i64 m.pc)).setCell ⟨Y, 2, none⟩ (.slice pq2 pn2 pk2)).setCell ⟨Y, 3, none⟩ (.int .i64 m.save)).setCell ⟨Y, 4, none⟩ (.bool m.lets)).setCell ⟨Y, 5, none⟩ (.bool m.waits)).setCell ⟨Y, 6, none⟩ (.int .i64 m.halt)).setCell ⟨Y, 7, none⟩ (.slice pq3 pn3 pk3)).setCell ⟨Y, 8, none⟩ (.slice pq4 pn4 pk4)).setCell ⟨Y, 9, none⟩ (.int .i64 m.count)) ∧ Rec (w.heap.size + 1) [.slice t1 regs.length j1, .int .i64 pc, .slice t2 mem.length j2, .int .i64 save, .bool lets, .bool waits, .int .i64 halt, .slice t3 ins.length j3, .slice t4 outs.length j4, .int .i64 count] ((((((((((h4.setCell ⟨Y, 0, none⟩ (.slice pq1 pn1 pk1)).setCell ⟨Y, 1, none⟩ (.int .i64 m.pc)).setCell ⟨Y, 2, none⟩ (.slice pq2 pn2 pk2)).setCell ⟨Y, 3, none⟩ (.int .i64 m.save)).setCell ⟨Y, 4, none⟩ (.bool m.lets)).setCell ⟨Y, 5, none⟩ (.bool m.waits)).setCell ⟨Y, 6, none⟩ (.int .i64 m.halt)).setCell ⟨Y, 7, none⟩ (.slice pq3 pn3 pk3)).setCell ⟨Y, 8, none⟩ (.slice pq4 pn4 pk4)).setCell ⟨Y, 9, none⟩ (.int .i64 m.count)) ∧ True := ⟨TB.out, TA.out, trivial⟩
        refine hK _ _ (fun _ => hHeld2) ?_
        clear hK K hHeld z0 s0 z1 s1 z2 s2 z3 s3 z4 s4 z5 s5 z6 s6 z7 s7 z8 s8 z9 s9
        try simp only [Act.put, List.setIfInBounds_toArray, List.set]
        generalize ((((((((((h4.setCell ⟨Y, 0, none⟩ (.slice pq1 pn1 pk1)).setCell ⟨Y, 1, none⟩ (.int .i64 m.pc)).setCell ⟨Y, 2, none⟩ (.slice pq2 pn2 pk2)).setCell ⟨Y, 3, none⟩ (.int .i64 m.save)).setCell ⟨Y, 4, none⟩ (.bool m.lets)).setCell ⟨Y, 5, none⟩ (.bool m.waits)).setCell ⟨Y, 6, none⟩ (.int .i64 m.halt)).setCell ⟨Y, 7, none⟩ (.slice pq3 pn3 pk3)).setCell ⟨Y, 8, none⟩ (.slice pq4 pn4 pk4)).setCell ⟨Y, 9, none⟩ (.int .i64 m.count)) = h5 at MW TB TA HI BW YR hHeld2 SW YS BQ G ⊢
        refine PhaseIn.late (i := 10) (v := ?_) (by kernel_rfl) rfl 16 (by rfl) (by omega) (Or.inl ⟨by kernel_rfl, ?_⟩) ?_
        rotate_left
        · intro w' hSw
          go_simp
          first | done | with_reducible rfl
        try simp only [Act.put, List.setIfInBounds_toArray, List.set]
        refine PhaseIn.done (by kernel_rfl) ?_ _
        clear hHeld2
        have y0 := YS.out.cell 0 _ rfl
        have y1 := YS.out.cell 1 _ rfl
        have y2 := YS.out.cell 2 _ rfl
        have y3 := YS.out.cell 3 _ rfl
        have y4 := YS.out.cell 4 _ rfl
        have y5 := YS.out.cell 5 _ rfl
        have y6 := YS.out.cell 6 _ rfl
        have y7 := YS.out.cell 7 _ rfl
        have y8 := YS.out.cell 8 _ rfl
        have y9 := YS.out.cell 9 _ rfl
        have z0 := YR.out.cell 0 _ rfl
        have z1 := YR.out.cell 1 _ rfl
        have z2 := YR.out.cell 2 _ rfl
        have z3 := YR.out.cell 3 _ rfl
        have z4 := YR.out.cell 4 _ rfl
        have z5 := YR.out.cell 5 _ rfl
        have z6 := YR.out.cell 6 _ rfl
        have z7 := YR.out.cell 7 _ rfl
        have z8 := YR.out.cell 8 _ rfl
        have z9 := YR.out.cell 9 _ rfl
        go_wp2_with fail
        refine (eqMch m _ _ _ MW.out.write.read SW.out.write.read).mono ?_
        rintro e e1 ⟨rfl, hb⟩
        clear y0 y1 y2 y3 y4 y5 y6 y7 y8 y9
        clear z0 z1 z2 z3 z4 z5 z6 z7 z8 z9
        replace BQ := hide (BQ.out.below hb)
        replace G := hide (G.out.below hb)
        replace BW := hide (BW.out.trans (hb.mono BW.out.size))
        clear hb MW SW YS YR TB TA
        have z0 := G.out.cell 0 _ rfl
        have z1 := G.out.cell 1 _ rfl
        have z2 := G.out.cell 2 _ rfl
        have z3 := G.out.cell 3 _ rfl
        have z4 := G.out.cell 4 _ rfl
        have z5 := G.out.cell 5 _ rfl
        have z6 := G.out.cell 6 _ rfl
        have z7 := G.out.cell 7 _ rfl
        have z8 := G.out.cell 8 _ rfl
        have z9 := G.out.cell 9 _ rfl
        go_wp2_with fail
        refine (heldMch m 1 _ _ BQ.out.write.read SM.out (by omega) (by omega)).mono ?_
        rintro e e2 ⟨rfl, hb⟩
        rw [ET.out]
        clear z0 z1 z2 z3 z4 z5 z6 z7 z8 z9
        clear BQ G
        replace BW := hide (BW.out.trans (hb.mono BW.out.size))
        clear hb
        go_wp2
        go_ret
        exact ⟨rfl, BW.out⟩
      · unfold Oper.wpIn
        refine ⟨fun _ _ => trivial, ?_⟩
        go_simp
        have hb := alloc_below h2 (.cells #[.slice none 0 0, .int .i64 0, .slice none 0 0, .int .i64 0, .bool false, .bool false, .int .i64 0, .slice none 0 0, .slice none 0 0, .int .i64 0] 30)
        have YB := hide (Rec.new h2 [.slice none 0 0, .int .i64 0, .slice none 0 0, .int .i64 0, .bool false, .bool false, .int .i64 0, .slice none 0 0, .slice none 0 0, .int .i64 0] 30)
        have LN : Hid (w.heap.size + 1 < h2.heap.size) := TA.out.lt
        have LZ : Hid (z0 ≤ h2.heap.size) := SZ.out
        replace SZ := hide (Nat.le_trans SZ.out hb.size)
        replace TB := hide (TB.out.below hb)
        replace TA := hide (TA.out.below hb)
        replace SW := hide (SW.out.below hb)
        replace YS := hide (YS.out.below hb)
        replace BQ := hide (BQ.out.below hb)
        replace G := hide (G.out.below hb)
        replace R1 := hide (R1.out.below hb)
        replace M3 := hide (M3.out.below hb)
        replace BW := hide (BW.out.trans (hb.mono BW.out.size))
        clear hb
        have hHeld2 : Rec w.heap.size [.int .i64 bp, .int .i64 ln, .slice q0 ops.length cap0, .int .i64 en, .int .i64 bx, .int .i64 by_, .int .i64 bk] (h2.alloc (.cells #[.slice none 0 0, .int .i64 0, .slice none 0 0, .int .i64 0, .bool false, .bool false, .int .i64 0, .slice none 0 0, .slice none 0 0, .int .i64 0] 30)) ∧ Rec (w.heap.size + 1) [.slice t1 regs.length j1, .int .i64 pc, .slice t2 mem.length j2, .int .i64 save, .bool lets, .bool waits, .int .i64 halt, .slice t3 ins.length j3, .slice t4 outs.length j4, .int .i64 count] (h2.alloc (.cells #[.slice none 0 0, .int .i64 0, .slice none 0 0, .int .i64 0, .bool false, .bool false, .int .i64 0, .slice none 0 0, .slice none 0 0, .int .i64 0] 30)) ∧ True := ⟨TB.out, TA.out, trivial⟩
        refine hK _ _ (fun _ => hHeld2) ?_
        clear hK K hHeld
        have hHeld := hHeld2
        clear hHeld2
        try simp only [Act.put, List.setIfInBounds_toArray, List.set]
        generalize h2.alloc (.cells #[.slice none 0 0, .int .i64 0, .slice none 0 0, .int .i64 0, .bool false, .bool false, .int .i64 0, .slice none 0 0, .slice none 0 0, .int .i64 0] 30) = h6 at TB TA SW YS BQ G R1 M3 YB BW hHeld SZ ⊢
        generalize h2.heap.size = Y at YB LN  LZ ⊢
        refine PhaseIn.one (i := 4) (by kernel_rfl) rfl (by kernel_rfl) (fun K hK => ?_)
        unfold Oper.wpIn
        refine ⟨fun _ _ => trivial, ?_⟩
        go_simp
        have LV : Hid (Y < h6.heap.size) := YB.out.lt
        refine ⟨rfl, (callsIn_wide.2 (implIrRun ⟨bp, ln, ops, en, bx, by_, bk⟩ ⟨regs, pc, mem, save, lets, waits, halt, ins, outs, count⟩ _ _ h6 R1.out M3.out HM.out (tb_below HT.out BW.out) (tb_below HZ.out BW.out) ((World.cell?_of_block (w := w) (BW.out.block _ (cell_lt HG.out))).trans HG.out))).mono ?_⟩
        rintro e h7 ⟨hir, hb⟩
        obtain ⟨cw, rfl, MW⟩ := ir_bound hir
        rw [EK.out]
        rw [EM.out] at MW
        clear hir
        obtain ⟨pq1, pq2, pq3, pq4, pn1, pn2, pn3, pn4, pk1, pk2, pk3, pk4, rfl⟩ := ten_forms MW
        simp only [mv] at MW ⊢
        replace MW := hide MW
        obtain ⟨lo, elo⟩ : ∃ lo, h6.heap.size = lo := ⟨_, rfl⟩
        rw [elo] at MW LV
        clear elo
        obtain ⟨hi, ehi⟩ : ∃ hi, h7.heap.size = hi := ⟨_, rfl⟩
        rw [ehi] at MW
        have HI : Hid (hi ≤ h7.heap.size) := show _ ≤ _ by omega
        clear ehi R1 M3
        replace SZ := hide (Nat.le_trans SZ.out hb.size)
        replace TB := hide (TB.out.below hb)
        replace TA := hide (TA.out.below hb)
        replace SW := hide (SW.out.below hb)
        replace YS := hide (YS.out.below hb)
        replace BQ := hide (BQ.out.below hb)
        replace G := hide (G.out.below hb)
        replace YB := hide (YB.out.below hb)
        replace BW := hide (BW.out.trans (hb.mono BW.out.size))
        clear hb
        have hHeld2 : Rec w.heap.size [.int .i64 bp, .int .i64 ln, .slice q0 ops.length cap0, .int .i64 en, .int .i64 bx, .int .i64 by_, .int .i64 bk] h7 ∧ Rec (w.heap.size + 1) [.slice t1 regs.length j1, .int .i64 pc, .slice t2 mem.length j2, .int .i64 save, .bool lets, .bool waits, .int .i64 halt, .slice t3 ins.length j3, .slice t4 outs.length j4, .int .i64 count] h7 ∧ True := ⟨TB.out, TA.out, trivial⟩
        refine hK _ _ (fun _ => hHeld2) ?_
        clear hK K hHeld
        have hHeld := hHeld2
        clear hHeld2
        try simp only [Act.put, List.setIfInBounds_toArray, List.set]
        refine PhaseIn.takeD (i := 5) (v := ?_) [5, 6, 7, 9, 10] 94 rfl (by rfl) (by kernel_rfl) (by kernel_rfl) (by kernel_rfl) (by kernel_rfl) (by kernel_rfl) (fun _ _ _ h => h) (Or.inl ⟨by kernel_rfl, ?_⟩) hHeld ?_
        rotate_left
        · intro w' hSw
          (try dsimp only at hSw)
          go_simp
          first | done | with_reducible rfl
        try simp only [Act.put, List.setIfInBounds_toArray, List.set]
        refine PhaseIn.takeD (i := 6) (v := ?_) [6, 9, 10] 100 rfl (by rfl) (by kernel_rfl) (by kernel_rfl) (by kernel_rfl) (by kernel_rfl) (by kernel_rfl) (fun _ _ _ h => h) (Or.inl ⟨by kernel_rfl, ?_⟩) hHeld ?_
        rotate_left
        · intro w' hSw
          (try dsimp only at hSw)
          go_simp
          first | done | with_reducible rfl
        try simp only [Act.put, List.setIfInBounds_toArray, List.set]
        refine PhaseIn.takeD (i := 7) (v := ?_) [7, 10] 101 rfl (by rfl) (by kernel_rfl) (by kernel_rfl) (by kernel_rfl) (by kernel_rfl) (by kernel_rfl) (fun _ _ _ h => h) (Or.inl ⟨by kernel_rfl, ?_⟩) hHeld ?_
        rotate_left
        · intro w' hSw
          (try dsimp only at hSw)
          go_simp
          first | done | with_reducible rfl
        try simp only [Act.put, List.setIfInBounds_toArray, List.set]
        have z0 := YB.out.cell 0 _ rfl
        have s0 := YB.out.soft 0
        have z1 := YB.out.cell 1 _ rfl
        have s1 := YB.out.soft 1
        have z2 := YB.out.cell 2 _ rfl
        have s2 := YB.out.soft 2
        have z3 := YB.out.cell 3 _ rfl
        have s3 := YB.out.soft 3
        have z4 := YB.out.cell 4 _ rfl
        have s4 := YB.out.soft 4
        have z5 := YB.out.cell 5 _ rfl
        have s5 := YB.out.soft 5
        have z6 := YB.out.cell 6 _ rfl
        have s6 := YB.out.soft 6
        have z7 := YB.out.cell 7 _ rfl
        have s7 := YB.out.soft 7
        have z8 := YB.out.cell 8 _ rfl
        have s8 := YB.out.soft 8
        have z9 := YB.out.cell 9 _ rfl
        have s9 := YB.out.soft 9
        refine PhaseIn.one (i := 9) (by kernel_rfl) rfl (by kernel_rfl) (fun K hK => ?_)
        unfold Oper.wpIn
        refine ⟨fun _ _ => trivial, ?_⟩
        go_simp
        have tY := turn_ten Y h7 (.slice pq1 pn1 pk1) (.int .i64 m.pc) (.slice pq2 pn2 pk2) (.int .i64 m.save) (.bool m.lets) (.bool m.waits) (.int .i64 m.halt) (.slice pq3 pn3 pk3) (.slice pq4 pn4 pk4) (.int .i64 m.count)
        have YR := hide (rec_ten YB.out (.slice pq1 pn1 pk1) (.int .i64 m.pc) (.slice pq2 pn2 pk2) (.int .i64 m.save) (.bool m.lets) (.bool m.waits) (.int .i64 m.halt) (.slice pq3 pn3 pk3) (.slice pq4 pn4 pk4) (.int .i64 m.count))
        have BD : Hid (hi ≤ Y ∨ Y < lo) := Or.inr LV.out
        replace MW := hide (MW.out.keep (turn_keep tY) (fun b h1 h2 h3 => by have := BD.out; omega))
        replace TB := hide (TB.out.turn tY (by have := LN.out; omega))
        replace TA := hide (TA.out.turn tY (by have := LN.out; omega))
        replace HI := hide (Nat.le_trans HI.out tY.size)
        replace BW := hide (BW.out.trans (tY.below (by have := LN.out; omega) BW.out.size))
        replace SW := hide (SW.out.keep (turn_keep tY) (fun b h1 h2 h3 => by have := SB.out; have := LZ.out; omega))
        replace YS := hide (YS.out.turn tY (by have := SB.out; have := LZ.out; omega))
        replace BQ := hide (BQ.out.keep (turn_keep tY) (fun b h1 h2 h3 => by have := SB.out; have := LZ.out; omega))
        replace G := hide (G.out.turn tY (by have := SB.out; have := LZ.out; omega))
        clear SZ
        clear tY YB
        have hHeld2 : Rec w.heap.size [.int .i64 bp, .int .i64 ln, .slice q0 ops.length cap0, .int .i64 en, .int .i64 bx, .int .i64 by_, .int .i64 bk] ((((((((((h7.setCell ⟨Y, 0, none⟩ (.slice pq1 pn1 pk1)).setCell ⟨Y, 1, none⟩ (.int .i64 m.pc)).setCell ⟨Y, 2, none⟩ (.slice pq2 pn2 pk2)).setCell ⟨Y, 3, none⟩ (.int .i64 m.save)).setCell ⟨Y, 4, none⟩ (.bool m.lets)).setCell ⟨Y, 5, none⟩ (.bool m.waits)).setCell ⟨Y, 6, none⟩ (.int .i64 m.halt)).setCell ⟨Y, 7, none⟩ (.slice pq3 pn3 pk3)).setCell ⟨Y, 8, none⟩ (.slice pq4 pn4 pk4)).setCell ⟨Y, 9, none⟩ (.int .i64 m.count)) ∧ Rec (w.heap.size + 1) [.slice t1 regs.length j1, .int .i64 pc, .slice t2 mem.length j2, .int .i64 save, .bool lets, .bool waits, .int .i64 halt, .slice t3 ins.length j3, .slice t4 outs.length j4, .int .i64 count] ((((((((((h7.setCell ⟨Y, 0, none⟩ (.slice pq1 pn1 pk1)).setCell ⟨Y, 1, none⟩ (.int .i64 m.pc)).setCell ⟨Y, 2, none⟩ (.slice pq2 pn2 pk2)).setCell ⟨Y, 3, none⟩ (.int .i64 m.save)).setCell ⟨Y, 4, none⟩ (.bool m.lets)).setCell ⟨Y, 5, none⟩ (.bool m.waits)).setCell ⟨Y, 6, none⟩ (.int .i64 m.halt)).setCell ⟨Y, 7, none⟩ (.slice pq3 pn3 pk3)).setCell ⟨Y, 8, none⟩ (.slice pq4 pn4 pk4)).setCell ⟨Y, 9, none⟩ (.int .i64 m.count)) ∧ True := ⟨TB.out, TA.out, trivial⟩
        refine hK _ _ (fun _ => hHeld2) ?_
        clear hK K hHeld z0 s0 z1 s1 z2 s2 z3 s3 z4 s4 z5 s5 z6 s6 z7 s7 z8 s8 z9 s9
        try simp only [Act.put, List.setIfInBounds_toArray, List.set]
        generalize ((((((((((h7.setCell ⟨Y, 0, none⟩ (.slice pq1 pn1 pk1)).setCell ⟨Y, 1, none⟩ (.int .i64 m.pc)).setCell ⟨Y, 2, none⟩ (.slice pq2 pn2 pk2)).setCell ⟨Y, 3, none⟩ (.int .i64 m.save)).setCell ⟨Y, 4, none⟩ (.bool m.lets)).setCell ⟨Y, 5, none⟩ (.bool m.waits)).setCell ⟨Y, 6, none⟩ (.int .i64 m.halt)).setCell ⟨Y, 7, none⟩ (.slice pq3 pn3 pk3)).setCell ⟨Y, 8, none⟩ (.slice pq4 pn4 pk4)).setCell ⟨Y, 9, none⟩ (.int .i64 m.count)) = h8 at MW TB TA HI BW YR hHeld2 SW YS BQ G ⊢
        refine PhaseIn.late (i := 10) (v := ?_) (by kernel_rfl) rfl 16 (by rfl) (by omega) (Or.inl ⟨by kernel_rfl, ?_⟩) ?_
        rotate_left
        · intro w' hSw
          go_simp
          first | done | with_reducible rfl
        try simp only [Act.put, List.setIfInBounds_toArray, List.set]
        refine PhaseIn.done (by kernel_rfl) ?_ _
        clear hHeld2
        have y0 := YS.out.cell 0 _ rfl
        have y1 := YS.out.cell 1 _ rfl
        have y2 := YS.out.cell 2 _ rfl
        have y3 := YS.out.cell 3 _ rfl
        have y4 := YS.out.cell 4 _ rfl
        have y5 := YS.out.cell 5 _ rfl
        have y6 := YS.out.cell 6 _ rfl
        have y7 := YS.out.cell 7 _ rfl
        have y8 := YS.out.cell 8 _ rfl
        have y9 := YS.out.cell 9 _ rfl
        have z0 := YR.out.cell 0 _ rfl
        have z1 := YR.out.cell 1 _ rfl
        have z2 := YR.out.cell 2 _ rfl
        have z3 := YR.out.cell 3 _ rfl
        have z4 := YR.out.cell 4 _ rfl
        have z5 := YR.out.cell 5 _ rfl
        have z6 := YR.out.cell 6 _ rfl
        have z7 := YR.out.cell 7 _ rfl
        have z8 := YR.out.cell 8 _ rfl
        have z9 := YR.out.cell 9 _ rfl
        go_wp2_with fail
        refine (eqMch m _ _ _ MW.out.write.read SW.out.write.read).mono ?_
        rintro e e1 ⟨rfl, hb⟩
        clear y0 y1 y2 y3 y4 y5 y6 y7 y8 y9
        clear z0 z1 z2 z3 z4 z5 z6 z7 z8 z9
        replace BQ := hide (BQ.out.below hb)
        replace G := hide (G.out.below hb)
        replace BW := hide (BW.out.trans (hb.mono BW.out.size))
        clear hb MW SW YS YR TB TA
        have z0 := G.out.cell 0 _ rfl
        have z1 := G.out.cell 1 _ rfl
        have z2 := G.out.cell 2 _ rfl
        have z3 := G.out.cell 3 _ rfl
        have z4 := G.out.cell 4 _ rfl
        have z5 := G.out.cell 5 _ rfl
        have z6 := G.out.cell 6 _ rfl
        have z7 := G.out.cell 7 _ rfl
        have z8 := G.out.cell 8 _ rfl
        have z9 := G.out.cell 9 _ rfl
        go_wp2_with fail
        refine (heldMch m 1 _ _ BQ.out.write.read SM.out (by omega) (by omega)).mono ?_
        rintro e e2 ⟨rfl, hb⟩
        rw [ET.out]
        clear z0 z1 z2 z3 z4 z5 z6 z7 z8 z9
        clear BQ G
        replace BW := hide (BW.out.trans (hb.mono BW.out.size))
        clear hb
        go_wp2
        go_ret
        exact ⟨rfl, BW.out⟩
    · unfold Oper.wpIn
      refine ⟨fun _ _ => trivial, ?_⟩
      go_simp
      have hb := alloc_below h1 (.cells #[.slice none 0 0, .int .i64 0, .slice none 0 0, .int .i64 0, .bool false, .bool false, .int .i64 0, .slice none 0 0, .slice none 0 0, .int .i64 0] 30)
      have YB := hide (Rec.new h1 [.slice none 0 0, .int .i64 0, .slice none 0 0, .int .i64 0, .bool false, .bool false, .int .i64 0, .slice none 0 0, .slice none 0 0, .int .i64 0] 30)
      have LN : Hid (w.heap.size + 1 < h1.heap.size) := TA.out.lt
      have LZ : Hid (z0 ≤ h1.heap.size) := SZ.out
      replace SZ := hide (Nat.le_trans SZ.out hb.size)
      replace TB := hide (TB.out.below hb)
      replace TA := hide (TA.out.below hb)
      replace SW := hide (SW.out.below hb)
      replace YS := hide (YS.out.below hb)
      replace BQ := hide (BQ.out.below hb)
      replace G := hide (G.out.below hb)
      replace R1 := hide (R1.out.below hb)
      replace BW := hide (BW.out.trans (hb.mono BW.out.size))
      clear hb
      have hHeld2 : Rec w.heap.size [.int .i64 bp, .int .i64 ln, .slice q0 ops.length cap0, .int .i64 en, .int .i64 bx, .int .i64 by_, .int .i64 bk] (h1.alloc (.cells #[.slice none 0 0, .int .i64 0, .slice none 0 0, .int .i64 0, .bool false, .bool false, .int .i64 0, .slice none 0 0, .slice none 0 0, .int .i64 0] 30)) ∧ Rec (w.heap.size + 1) [.slice t1 regs.length j1, .int .i64 pc, .slice t2 mem.length j2, .int .i64 save, .bool lets, .bool waits, .int .i64 halt, .slice t3 ins.length j3, .slice t4 outs.length j4, .int .i64 count] (h1.alloc (.cells #[.slice none 0 0, .int .i64 0, .slice none 0 0, .int .i64 0, .bool false, .bool false, .int .i64 0, .slice none 0 0, .slice none 0 0, .int .i64 0] 30)) ∧ True := ⟨TB.out, TA.out, trivial⟩
      refine hK _ _ (fun _ => hHeld2) ?_
      clear hK K hHeld
      have hHeld := hHeld2
      clear hHeld2
      try simp only [Act.put, List.setIfInBounds_toArray, List.set]
      generalize h1.alloc (.cells #[.slice none 0 0, .int .i64 0, .slice none 0 0, .int .i64 0, .bool false, .bool false, .int .i64 0, .slice none 0 0, .slice none 0 0, .int .i64 0] 30) = h9 at TB TA SW YS BQ G R1 YB BW hHeld SZ ⊢
      generalize h1.heap.size = Y at YB LN  LZ ⊢
      refine PhaseIn.one (i := 3) (by kernel_rfl) rfl (by kernel_rfl) (fun K hK => ?_)
      unfold Oper.wpIn
      refine ⟨fun _ _ => trivial, ?_⟩
      go_simp
      refine ⟨rfl, (callsIn_wide.2 (toMch ⟨regs, pc, mem, save, lets, waits, halt, ins, outs, count⟩ _ h9 (RM.out.below BW.out) HS.out)).mono ?_⟩
      rintro e h10 ⟨c3, rfl, M3, hb⟩
      replace M3 := hide M3.read
      replace SZ := hide (Nat.le_trans SZ.out hb.size)
      replace TB := hide (TB.out.below hb)
      replace TA := hide (TA.out.below hb)
      replace SW := hide (SW.out.below hb)
      replace YS := hide (YS.out.below hb)
      replace BQ := hide (BQ.out.below hb)
      replace G := hide (G.out.below hb)
      replace R1 := hide (R1.out.below hb)
      replace YB := hide (YB.out.below hb)
      replace BW := hide (BW.out.trans (hb.mono BW.out.size))
      clear hb
      have hHeld2 : Rec w.heap.size [.int .i64 bp, .int .i64 ln, .slice q0 ops.length cap0, .int .i64 en, .int .i64 bx, .int .i64 by_, .int .i64 bk] h10 ∧ Rec (w.heap.size + 1) [.slice t1 regs.length j1, .int .i64 pc, .slice t2 mem.length j2, .int .i64 save, .bool lets, .bool waits, .int .i64 halt, .slice t3 ins.length j3, .slice t4 outs.length j4, .int .i64 count] h10 ∧ True := ⟨TB.out, TA.out, trivial⟩
      refine hK _ _ (fun _ => hHeld2) ?_
      clear hK K hHeld
      have hHeld := hHeld2
      clear hHeld2
      try simp only [Act.put, List.setIfInBounds_toArray, List.set]
      refine PhaseIn.one (i := 4) (by kernel_rfl) rfl (by kernel_rfl) (fun K hK => ?_)
      unfold Oper.wpIn
      refine ⟨fun _ _ => trivial, ?_⟩
      go_simp
      have LV : Hid (Y < h10.heap.size) := YB.out.lt
      refine ⟨rfl, (callsIn_wide.2 (implIrRun ⟨bp, ln, ops, en, bx, by_, bk⟩ ⟨regs, pc, mem, save, lets, waits, halt, ins, outs, count⟩ _ _ h10 R1.out M3.out HM.out (tb_below HT.out BW.out) (tb_below HZ.out BW.out) ((World.cell?_of_block (w := w) (BW.out.block _ (cell_lt HG.out))).trans HG.out))).mono ?_⟩
      rintro e h11 ⟨hir, hb⟩
      obtain ⟨cw, rfl, MW⟩ := ir_bound hir
      rw [EK.out]
      rw [EM.out] at MW
      clear hir
      obtain ⟨pq1, pq2, pq3, pq4, pn1, pn2, pn3, pn4, pk1, pk2, pk3, pk4, rfl⟩ := ten_forms MW
      simp only [mv] at MW ⊢
      replace MW := hide MW
      obtain ⟨lo, elo⟩ : ∃ lo, h10.heap.size = lo := ⟨_, rfl⟩
      rw [elo] at MW LV
      clear elo
      obtain ⟨hi, ehi⟩ : ∃ hi, h11.heap.size = hi := ⟨_, rfl⟩
      rw [ehi] at MW
      have HI : Hid (hi ≤ h11.heap.size) := show _ ≤ _ by omega
      clear ehi R1 M3
      replace SZ := hide (Nat.le_trans SZ.out hb.size)
      replace TB := hide (TB.out.below hb)
      replace TA := hide (TA.out.below hb)
      replace SW := hide (SW.out.below hb)
      replace YS := hide (YS.out.below hb)
      replace BQ := hide (BQ.out.below hb)
      replace G := hide (G.out.below hb)
      replace YB := hide (YB.out.below hb)
      replace BW := hide (BW.out.trans (hb.mono BW.out.size))
      clear hb
      have hHeld2 : Rec w.heap.size [.int .i64 bp, .int .i64 ln, .slice q0 ops.length cap0, .int .i64 en, .int .i64 bx, .int .i64 by_, .int .i64 bk] h11 ∧ Rec (w.heap.size + 1) [.slice t1 regs.length j1, .int .i64 pc, .slice t2 mem.length j2, .int .i64 save, .bool lets, .bool waits, .int .i64 halt, .slice t3 ins.length j3, .slice t4 outs.length j4, .int .i64 count] h11 ∧ True := ⟨TB.out, TA.out, trivial⟩
      refine hK _ _ (fun _ => hHeld2) ?_
      clear hK K hHeld
      have hHeld := hHeld2
      clear hHeld2
      try simp only [Act.put, List.setIfInBounds_toArray, List.set]
      refine PhaseIn.takeD (i := 5) (v := ?_) [5, 6, 7, 9, 10] 94 rfl (by rfl) (by kernel_rfl) (by kernel_rfl) (by kernel_rfl) (by kernel_rfl) (by kernel_rfl) (fun _ _ _ h => h) (Or.inl ⟨by kernel_rfl, ?_⟩) hHeld ?_
      rotate_left
      · intro w' hSw
        (try dsimp only at hSw)
        go_simp
        first | done | with_reducible rfl
      try simp only [Act.put, List.setIfInBounds_toArray, List.set]
      refine PhaseIn.takeD (i := 6) (v := ?_) [6, 9, 10] 100 rfl (by rfl) (by kernel_rfl) (by kernel_rfl) (by kernel_rfl) (by kernel_rfl) (by kernel_rfl) (fun _ _ _ h => h) (Or.inl ⟨by kernel_rfl, ?_⟩) hHeld ?_
      rotate_left
      · intro w' hSw
        (try dsimp only at hSw)
        go_simp
        first | done | with_reducible rfl
      try simp only [Act.put, List.setIfInBounds_toArray, List.set]
      refine PhaseIn.takeD (i := 7) (v := ?_) [7, 10] 101 rfl (by rfl) (by kernel_rfl) (by kernel_rfl) (by kernel_rfl) (by kernel_rfl) (by kernel_rfl) (fun _ _ _ h => h) (Or.inl ⟨by kernel_rfl, ?_⟩) hHeld ?_
      rotate_left
      · intro w' hSw
        (try dsimp only at hSw)
        go_simp
        first | done | with_reducible rfl
      try simp only [Act.put, List.setIfInBounds_toArray, List.set]
      have z0 := YB.out.cell 0 _ rfl
      have s0 := YB.out.soft 0
      have z1 := YB.out.cell 1 _ rfl
      have s1 := YB.out.soft 1
      have z2 := YB.out.cell 2 _ rfl
      have s2 := YB.out.soft 2
      have z3 := YB.out.cell 3 _ rfl
      have s3 := YB.out.soft 3
      have z4 := YB.out.cell 4 _ rfl
      have s4 := YB.out.soft 4
      have z5 := YB.out.cell 5 _ rfl
      have s5 := YB.out.soft 5
      have z6 := YB.out.cell 6 _ rfl
      have s6 := YB.out.soft 6
      have z7 := YB.out.cell 7 _ rfl
      have s7 := YB.out.soft 7
      have z8 := YB.out.cell 8 _ rfl
      have s8 := YB.out.soft 8
      have z9 := YB.out.cell 9 _ rfl
      have s9 := YB.out.soft 9
      refine PhaseIn.one (i := 9) (by kernel_rfl) rfl (by kernel_rfl) (fun K hK => ?_)
      unfold Oper.wpIn
      refine ⟨fun _ _ => trivial, ?_⟩
      go_simp
      have tY := turn_ten Y h11 (.slice pq1 pn1 pk1) (.int .i64 m.pc) (.slice pq2 pn2 pk2) (.int .i64 m.save) (.bool m.lets) (.bool m.waits) (.int .i64 m.halt) (.slice pq3 pn3 pk3) (.slice pq4 pn4 pk4) (.int .i64 m.count)
      have YR := hide (rec_ten YB.out (.slice pq1 pn1 pk1) (.int .i64 m.pc) (.slice pq2 pn2 pk2) (.int .i64 m.save) (.bool m.lets) (.bool m.waits) (.int .i64 m.halt) (.slice pq3 pn3 pk3) (.slice pq4 pn4 pk4) (.int .i64 m.count))
      have BD : Hid (hi ≤ Y ∨ Y < lo) := Or.inr LV.out
      replace MW := hide (MW.out.keep (turn_keep tY) (fun b h1 h2 h3 => by have := BD.out; omega))
      replace TB := hide (TB.out.turn tY (by have := LN.out; omega))
      replace TA := hide (TA.out.turn tY (by have := LN.out; omega))
      replace HI := hide (Nat.le_trans HI.out tY.size)
      replace BW := hide (BW.out.trans (tY.below (by have := LN.out; omega) BW.out.size))
      replace SW := hide (SW.out.keep (turn_keep tY) (fun b h1 h2 h3 => by have := SB.out; have := LZ.out; omega))
      replace YS := hide (YS.out.turn tY (by have := SB.out; have := LZ.out; omega))
      replace BQ := hide (BQ.out.keep (turn_keep tY) (fun b h1 h2 h3 => by have := SB.out; have := LZ.out; omega))
      replace G := hide (G.out.turn tY (by have := SB.out; have := LZ.out; omega))
      clear SZ
      clear tY YB
      have hHeld2 : Rec w.heap.size [.int .i64 bp, .int .i64 ln, .slice q0 ops.length cap0, .int .i64 en, .int .i64 bx, .int .i64 by_, .int .i64 bk] ((((((((((h11.setCell ⟨Y, 0, none⟩ (.slice pq1 pn1 pk1)).setCell ⟨Y, 1, none⟩ (.int .i64 m.pc)).setCell ⟨Y, 2, none⟩ (.slice pq2 pn2 pk2)).setCell ⟨Y, 3, none⟩ (.int .i64 m.save)).setCell ⟨Y, 4, none⟩ (.bool m.lets)).setCell ⟨Y, 5, none⟩ (.bool m.waits)).setCell ⟨Y, 6, none⟩ (.int .i64 m.halt)).setCell ⟨Y, 7, none⟩ (.slice pq3 pn3 pk3)).setCell ⟨Y, 8, none⟩ (.slice pq4 pn4 pk4)).setCell ⟨Y, 9, none⟩ (.int .i64 m.count)) ∧ Rec (w.heap.size + 1) [.slice t1 regs.length j1, .int .i64 pc, .slice t2 mem.length j2, .int .i64 save, .bool lets, .bool waits, .int .i64 halt, .slice t3 ins.length j3, .slice t4 outs.length j4, .int .i64 count] ((((((((((h11.setCell ⟨Y, 0, none⟩ (.slice pq1 pn1 pk1)).setCell ⟨Y, 1, none⟩ (.int .i64 m.pc)).setCell ⟨Y, 2, none⟩ (.slice pq2 pn2 pk2)).setCell ⟨Y, 3, none⟩ (.int .i64 m.save)).setCell ⟨Y, 4, none⟩ (.bool m.lets)).setCell ⟨Y, 5, none⟩ (.bool m.waits)).setCell ⟨Y, 6, none⟩ (.int .i64 m.halt)).setCell ⟨Y, 7, none⟩ (.slice pq3 pn3 pk3)).setCell ⟨Y, 8, none⟩ (.slice pq4 pn4 pk4)).setCell ⟨Y, 9, none⟩ (.int .i64 m.count)) ∧ True := ⟨TB.out, TA.out, trivial⟩
      refine hK _ _ (fun _ => hHeld2) ?_
      clear hK K hHeld z0 s0 z1 s1 z2 s2 z3 s3 z4 s4 z5 s5 z6 s6 z7 s7 z8 s8 z9 s9
      try simp only [Act.put, List.setIfInBounds_toArray, List.set]
      generalize ((((((((((h11.setCell ⟨Y, 0, none⟩ (.slice pq1 pn1 pk1)).setCell ⟨Y, 1, none⟩ (.int .i64 m.pc)).setCell ⟨Y, 2, none⟩ (.slice pq2 pn2 pk2)).setCell ⟨Y, 3, none⟩ (.int .i64 m.save)).setCell ⟨Y, 4, none⟩ (.bool m.lets)).setCell ⟨Y, 5, none⟩ (.bool m.waits)).setCell ⟨Y, 6, none⟩ (.int .i64 m.halt)).setCell ⟨Y, 7, none⟩ (.slice pq3 pn3 pk3)).setCell ⟨Y, 8, none⟩ (.slice pq4 pn4 pk4)).setCell ⟨Y, 9, none⟩ (.int .i64 m.count)) = h12 at MW TB TA HI BW YR hHeld2 SW YS BQ G ⊢
      refine PhaseIn.late (i := 10) (v := ?_) (by kernel_rfl) rfl 16 (by rfl) (by omega) (Or.inl ⟨by kernel_rfl, ?_⟩) ?_
      rotate_left
      · intro w' hSw
        go_simp
        first | done | with_reducible rfl
      try simp only [Act.put, List.setIfInBounds_toArray, List.set]
      refine PhaseIn.done (by kernel_rfl) ?_ _
      clear hHeld2
      have y0 := YS.out.cell 0 _ rfl
      have y1 := YS.out.cell 1 _ rfl
      have y2 := YS.out.cell 2 _ rfl
      have y3 := YS.out.cell 3 _ rfl
      have y4 := YS.out.cell 4 _ rfl
      have y5 := YS.out.cell 5 _ rfl
      have y6 := YS.out.cell 6 _ rfl
      have y7 := YS.out.cell 7 _ rfl
      have y8 := YS.out.cell 8 _ rfl
      have y9 := YS.out.cell 9 _ rfl
      have z0 := YR.out.cell 0 _ rfl
      have z1 := YR.out.cell 1 _ rfl
      have z2 := YR.out.cell 2 _ rfl
      have z3 := YR.out.cell 3 _ rfl
      have z4 := YR.out.cell 4 _ rfl
      have z5 := YR.out.cell 5 _ rfl
      have z6 := YR.out.cell 6 _ rfl
      have z7 := YR.out.cell 7 _ rfl
      have z8 := YR.out.cell 8 _ rfl
      have z9 := YR.out.cell 9 _ rfl
      go_wp2_with fail
      refine (eqMch m _ _ _ MW.out.write.read SW.out.write.read).mono ?_
      rintro e e1 ⟨rfl, hb⟩
      clear y0 y1 y2 y3 y4 y5 y6 y7 y8 y9
      clear z0 z1 z2 z3 z4 z5 z6 z7 z8 z9
      replace BQ := hide (BQ.out.below hb)
      replace G := hide (G.out.below hb)
      replace BW := hide (BW.out.trans (hb.mono BW.out.size))
      clear hb MW SW YS YR TB TA
      have z0 := G.out.cell 0 _ rfl
      have z1 := G.out.cell 1 _ rfl
      have z2 := G.out.cell 2 _ rfl
      have z3 := G.out.cell 3 _ rfl
      have z4 := G.out.cell 4 _ rfl
      have z5 := G.out.cell 5 _ rfl
      have z6 := G.out.cell 6 _ rfl
      have z7 := G.out.cell 7 _ rfl
      have z8 := G.out.cell 8 _ rfl
      have z9 := G.out.cell 9 _ rfl
      go_wp2_with fail
      refine (heldMch m 1 _ _ BQ.out.write.read SM.out (by omega) (by omega)).mono ?_
      rintro e e2 ⟨rfl, hb⟩
      rw [ET.out]
      clear z0 z1 z2 z3 z4 z5 z6 z7 z8 z9
      clear BQ G
      replace BW := hide (BW.out.trans (hb.mono BW.out.size))
      clear hb
      go_wp2
      go_ret
      exact ⟨rfl, BW.out⟩
  · unfold Oper.wpIn
    refine ⟨fun _ _ => trivial, ?_⟩
    go_simp
    have hb := alloc_below v0 (.cells #[.slice none 0 0, .int .i64 0, .slice none 0 0, .int .i64 0, .bool false, .bool false, .int .i64 0, .slice none 0 0, .slice none 0 0, .int .i64 0] 30)
    have YB := hide (Rec.new v0 [.slice none 0 0, .int .i64 0, .slice none 0 0, .int .i64 0, .bool false, .bool false, .int .i64 0, .slice none 0 0, .slice none 0 0, .int .i64 0] 30)
    have LN : Hid (w.heap.size + 1 < v0.heap.size) := TA.out.lt
    have LZ : Hid (z0 ≤ v0.heap.size) := SZ.out
    replace SZ := hide (Nat.le_trans SZ.out hb.size)
    replace TB := hide (TB.out.below hb)
    replace TA := hide (TA.out.below hb)
    replace SW := hide (SW.out.below hb)
    replace YS := hide (YS.out.below hb)
    replace BQ := hide (BQ.out.below hb)
    replace G := hide (G.out.below hb)
    replace BW := hide (BW.out.trans (hb.mono BW.out.size))
    clear hb
    have hHeld2 : Rec w.heap.size [.int .i64 bp, .int .i64 ln, .slice q0 ops.length cap0, .int .i64 en, .int .i64 bx, .int .i64 by_, .int .i64 bk] (v0.alloc (.cells #[.slice none 0 0, .int .i64 0, .slice none 0 0, .int .i64 0, .bool false, .bool false, .int .i64 0, .slice none 0 0, .slice none 0 0, .int .i64 0] 30)) ∧ Rec (w.heap.size + 1) [.slice t1 regs.length j1, .int .i64 pc, .slice t2 mem.length j2, .int .i64 save, .bool lets, .bool waits, .int .i64 halt, .slice t3 ins.length j3, .slice t4 outs.length j4, .int .i64 count] (v0.alloc (.cells #[.slice none 0 0, .int .i64 0, .slice none 0 0, .int .i64 0, .bool false, .bool false, .int .i64 0, .slice none 0 0, .slice none 0 0, .int .i64 0] 30)) ∧ True := ⟨TB.out, TA.out, trivial⟩
    refine hK _ _ (fun _ => hHeld2) ?_
    clear hK K hHeld
    have hHeld := hHeld2
    clear hHeld2
    try simp only [Act.put, List.setIfInBounds_toArray, List.set]
    generalize v0.alloc (.cells #[.slice none 0 0, .int .i64 0, .slice none 0 0, .int .i64 0, .bool false, .bool false, .int .i64 0, .slice none 0 0, .slice none 0 0, .int .i64 0] 30) = h13 at TB TA SW YS BQ G YB BW hHeld SZ ⊢
    generalize v0.heap.size = Y at YB LN  LZ ⊢
    refine PhaseIn.one (i := 1) (by kernel_rfl) rfl (by kernel_rfl) (fun K hK => ?_)
    unfold Oper.wpIn
    refine ⟨fun _ _ => trivial, ?_⟩
    go_simp
    refine ⟨rfl, (callsIn_wide.2 (toIrBlock ⟨bp, ln, ops, en, bx, by_, bk⟩ _ h13 (RB.out.below BW.out) LO.out)).mono ?_⟩
    rintro e h14 ⟨g1, c1, rfl, rfl, M1, -, -, hb⟩
    simp only [bv] at M1 ⊢
    have R1 := hide M1.read
    clear M1
    replace SZ := hide (Nat.le_trans SZ.out hb.size)
    replace TB := hide (TB.out.below hb)
    replace TA := hide (TA.out.below hb)
    replace SW := hide (SW.out.below hb)
    replace YS := hide (YS.out.below hb)
    replace BQ := hide (BQ.out.below hb)
    replace G := hide (G.out.below hb)
    replace YB := hide (YB.out.below hb)
    replace BW := hide (BW.out.trans (hb.mono BW.out.size))
    clear hb
    have hHeld2 : Rec w.heap.size [.int .i64 bp, .int .i64 ln, .slice q0 ops.length cap0, .int .i64 en, .int .i64 bx, .int .i64 by_, .int .i64 bk] h14 ∧ Rec (w.heap.size + 1) [.slice t1 regs.length j1, .int .i64 pc, .slice t2 mem.length j2, .int .i64 save, .bool lets, .bool waits, .int .i64 halt, .slice t3 ins.length j3, .slice t4 outs.length j4, .int .i64 count] h14 ∧ True := ⟨TB.out, TA.out, trivial⟩
    refine hK _ _ (fun _ => hHeld2) ?_
    clear hK K hHeld
    have hHeld := hHeld2
    clear hHeld2
    try simp only [Act.put, List.setIfInBounds_toArray, List.set]
    refine PhaseIn.one (i := 3) (by kernel_rfl) rfl (by kernel_rfl) (fun K hK => ?_)
    unfold Oper.wpIn
    refine ⟨fun _ _ => trivial, ?_⟩
    go_simp
    refine ⟨rfl, (callsIn_wide.2 (toMch ⟨regs, pc, mem, save, lets, waits, halt, ins, outs, count⟩ _ h14 (RM.out.below BW.out) HS.out)).mono ?_⟩
    rintro e h15 ⟨c3, rfl, M3, hb⟩
    replace M3 := hide M3.read
    replace SZ := hide (Nat.le_trans SZ.out hb.size)
    replace TB := hide (TB.out.below hb)
    replace TA := hide (TA.out.below hb)
    replace SW := hide (SW.out.below hb)
    replace YS := hide (YS.out.below hb)
    replace BQ := hide (BQ.out.below hb)
    replace G := hide (G.out.below hb)
    replace R1 := hide (R1.out.below hb)
    replace YB := hide (YB.out.below hb)
    replace BW := hide (BW.out.trans (hb.mono BW.out.size))
    clear hb
    have hHeld2 : Rec w.heap.size [.int .i64 bp, .int .i64 ln, .slice q0 ops.length cap0, .int .i64 en, .int .i64 bx, .int .i64 by_, .int .i64 bk] h15 ∧ Rec (w.heap.size + 1) [.slice t1 regs.length j1, .int .i64 pc, .slice t2 mem.length j2, .int .i64 save, .bool lets, .bool waits, .int .i64 halt, .slice t3 ins.length j3, .slice t4 outs.length j4, .int .i64 count] h15 ∧ True := ⟨TB.out, TA.out, trivial⟩
    refine hK _ _ (fun _ => hHeld2) ?_
    clear hK K hHeld
    have hHeld := hHeld2
    clear hHeld2
    try simp only [Act.put, List.setIfInBounds_toArray, List.set]
    refine PhaseIn.one (i := 4) (by kernel_rfl) rfl (by kernel_rfl) (fun K hK => ?_)
    unfold Oper.wpIn
    refine ⟨fun _ _ => trivial, ?_⟩
    go_simp
    have LV : Hid (Y < h15.heap.size) := YB.out.lt
    refine ⟨rfl, (callsIn_wide.2 (implIrRun ⟨bp, ln, ops, en, bx, by_, bk⟩ ⟨regs, pc, mem, save, lets, waits, halt, ins, outs, count⟩ _ _ h15 R1.out M3.out HM.out (tb_below HT.out BW.out) (tb_below HZ.out BW.out) ((World.cell?_of_block (w := w) (BW.out.block _ (cell_lt HG.out))).trans HG.out))).mono ?_⟩
    rintro e h16 ⟨hir, hb⟩
    obtain ⟨cw, rfl, MW⟩ := ir_bound hir
    rw [EK.out]
    rw [EM.out] at MW
    clear hir
    obtain ⟨pq1, pq2, pq3, pq4, pn1, pn2, pn3, pn4, pk1, pk2, pk3, pk4, rfl⟩ := ten_forms MW
    simp only [mv] at MW ⊢
    replace MW := hide MW
    obtain ⟨lo, elo⟩ : ∃ lo, h15.heap.size = lo := ⟨_, rfl⟩
    rw [elo] at MW LV
    clear elo
    obtain ⟨hi, ehi⟩ : ∃ hi, h16.heap.size = hi := ⟨_, rfl⟩
    rw [ehi] at MW
    have HI : Hid (hi ≤ h16.heap.size) := show _ ≤ _ by omega
    clear ehi R1 M3
    replace SZ := hide (Nat.le_trans SZ.out hb.size)
    replace TB := hide (TB.out.below hb)
    replace TA := hide (TA.out.below hb)
    replace SW := hide (SW.out.below hb)
    replace YS := hide (YS.out.below hb)
    replace BQ := hide (BQ.out.below hb)
    replace G := hide (G.out.below hb)
    replace YB := hide (YB.out.below hb)
    replace BW := hide (BW.out.trans (hb.mono BW.out.size))
    clear hb
    have hHeld2 : Rec w.heap.size [.int .i64 bp, .int .i64 ln, .slice q0 ops.length cap0, .int .i64 en, .int .i64 bx, .int .i64 by_, .int .i64 bk] h16 ∧ Rec (w.heap.size + 1) [.slice t1 regs.length j1, .int .i64 pc, .slice t2 mem.length j2, .int .i64 save, .bool lets, .bool waits, .int .i64 halt, .slice t3 ins.length j3, .slice t4 outs.length j4, .int .i64 count] h16 ∧ True := ⟨TB.out, TA.out, trivial⟩
    refine hK _ _ (fun _ => hHeld2) ?_
    clear hK K hHeld
    have hHeld := hHeld2
    clear hHeld2
    try simp only [Act.put, List.setIfInBounds_toArray, List.set]
    refine PhaseIn.takeD (i := 5) (v := ?_) [5, 6, 7, 9, 10] 94 rfl (by rfl) (by kernel_rfl) (by kernel_rfl) (by kernel_rfl) (by kernel_rfl) (by kernel_rfl) (fun _ _ _ h => h) (Or.inl ⟨by kernel_rfl, ?_⟩) hHeld ?_
    rotate_left
    · intro w' hSw
      (try dsimp only at hSw)
      go_simp
      first | done | with_reducible rfl
    try simp only [Act.put, List.setIfInBounds_toArray, List.set]
    refine PhaseIn.takeD (i := 6) (v := ?_) [6, 9, 10] 100 rfl (by rfl) (by kernel_rfl) (by kernel_rfl) (by kernel_rfl) (by kernel_rfl) (by kernel_rfl) (fun _ _ _ h => h) (Or.inl ⟨by kernel_rfl, ?_⟩) hHeld ?_
    rotate_left
    · intro w' hSw
      (try dsimp only at hSw)
      go_simp
      first | done | with_reducible rfl
    try simp only [Act.put, List.setIfInBounds_toArray, List.set]
    refine PhaseIn.takeD (i := 7) (v := ?_) [7, 10] 101 rfl (by rfl) (by kernel_rfl) (by kernel_rfl) (by kernel_rfl) (by kernel_rfl) (by kernel_rfl) (fun _ _ _ h => h) (Or.inl ⟨by kernel_rfl, ?_⟩) hHeld ?_
    rotate_left
    · intro w' hSw
      (try dsimp only at hSw)
      go_simp
      first | done | with_reducible rfl
    try simp only [Act.put, List.setIfInBounds_toArray, List.set]
    have z0 := YB.out.cell 0 _ rfl
    have s0 := YB.out.soft 0
    have z1 := YB.out.cell 1 _ rfl
    have s1 := YB.out.soft 1
    have z2 := YB.out.cell 2 _ rfl
    have s2 := YB.out.soft 2
    have z3 := YB.out.cell 3 _ rfl
    have s3 := YB.out.soft 3
    have z4 := YB.out.cell 4 _ rfl
    have s4 := YB.out.soft 4
    have z5 := YB.out.cell 5 _ rfl
    have s5 := YB.out.soft 5
    have z6 := YB.out.cell 6 _ rfl
    have s6 := YB.out.soft 6
    have z7 := YB.out.cell 7 _ rfl
    have s7 := YB.out.soft 7
    have z8 := YB.out.cell 8 _ rfl
    have s8 := YB.out.soft 8
    have z9 := YB.out.cell 9 _ rfl
    have s9 := YB.out.soft 9
    refine PhaseIn.one (i := 9) (by kernel_rfl) rfl (by kernel_rfl) (fun K hK => ?_)
    unfold Oper.wpIn
    refine ⟨fun _ _ => trivial, ?_⟩
    go_simp
    have tY := turn_ten Y h16 (.slice pq1 pn1 pk1) (.int .i64 m.pc) (.slice pq2 pn2 pk2) (.int .i64 m.save) (.bool m.lets) (.bool m.waits) (.int .i64 m.halt) (.slice pq3 pn3 pk3) (.slice pq4 pn4 pk4) (.int .i64 m.count)
    have YR := hide (rec_ten YB.out (.slice pq1 pn1 pk1) (.int .i64 m.pc) (.slice pq2 pn2 pk2) (.int .i64 m.save) (.bool m.lets) (.bool m.waits) (.int .i64 m.halt) (.slice pq3 pn3 pk3) (.slice pq4 pn4 pk4) (.int .i64 m.count))
    have BD : Hid (hi ≤ Y ∨ Y < lo) := Or.inr LV.out
    replace MW := hide (MW.out.keep (turn_keep tY) (fun b h1 h2 h3 => by have := BD.out; omega))
    replace TB := hide (TB.out.turn tY (by have := LN.out; omega))
    replace TA := hide (TA.out.turn tY (by have := LN.out; omega))
    replace HI := hide (Nat.le_trans HI.out tY.size)
    replace BW := hide (BW.out.trans (tY.below (by have := LN.out; omega) BW.out.size))
    replace SW := hide (SW.out.keep (turn_keep tY) (fun b h1 h2 h3 => by have := SB.out; have := LZ.out; omega))
    replace YS := hide (YS.out.turn tY (by have := SB.out; have := LZ.out; omega))
    replace BQ := hide (BQ.out.keep (turn_keep tY) (fun b h1 h2 h3 => by have := SB.out; have := LZ.out; omega))
    replace G := hide (G.out.turn tY (by have := SB.out; have := LZ.out; omega))
    clear SZ
    clear tY YB
    have hHeld2 : Rec w.heap.size [.int .i64 bp, .int .i64 ln, .slice q0 ops.length cap0, .int .i64 en, .int .i64 bx, .int .i64 by_, .int .i64 bk] ((((((((((h16.setCell ⟨Y, 0, none⟩ (.slice pq1 pn1 pk1)).setCell ⟨Y, 1, none⟩ (.int .i64 m.pc)).setCell ⟨Y, 2, none⟩ (.slice pq2 pn2 pk2)).setCell ⟨Y, 3, none⟩ (.int .i64 m.save)).setCell ⟨Y, 4, none⟩ (.bool m.lets)).setCell ⟨Y, 5, none⟩ (.bool m.waits)).setCell ⟨Y, 6, none⟩ (.int .i64 m.halt)).setCell ⟨Y, 7, none⟩ (.slice pq3 pn3 pk3)).setCell ⟨Y, 8, none⟩ (.slice pq4 pn4 pk4)).setCell ⟨Y, 9, none⟩ (.int .i64 m.count)) ∧ Rec (w.heap.size + 1) [.slice t1 regs.length j1, .int .i64 pc, .slice t2 mem.length j2, .int .i64 save, .bool lets, .bool waits, .int .i64 halt, .slice t3 ins.length j3, .slice t4 outs.length j4, .int .i64 count] ((((((((((h16.setCell ⟨Y, 0, none⟩ (.slice pq1 pn1 pk1)).setCell ⟨Y, 1, none⟩ (.int .i64 m.pc)).setCell ⟨Y, 2, none⟩ (.slice pq2 pn2 pk2)).setCell ⟨Y, 3, none⟩ (.int .i64 m.save)).setCell ⟨Y, 4, none⟩ (.bool m.lets)).setCell ⟨Y, 5, none⟩ (.bool m.waits)).setCell ⟨Y, 6, none⟩ (.int .i64 m.halt)).setCell ⟨Y, 7, none⟩ (.slice pq3 pn3 pk3)).setCell ⟨Y, 8, none⟩ (.slice pq4 pn4 pk4)).setCell ⟨Y, 9, none⟩ (.int .i64 m.count)) ∧ True := ⟨TB.out, TA.out, trivial⟩
    refine hK _ _ (fun _ => hHeld2) ?_
    clear hK K hHeld z0 s0 z1 s1 z2 s2 z3 s3 z4 s4 z5 s5 z6 s6 z7 s7 z8 s8 z9 s9
    try simp only [Act.put, List.setIfInBounds_toArray, List.set]
    generalize ((((((((((h16.setCell ⟨Y, 0, none⟩ (.slice pq1 pn1 pk1)).setCell ⟨Y, 1, none⟩ (.int .i64 m.pc)).setCell ⟨Y, 2, none⟩ (.slice pq2 pn2 pk2)).setCell ⟨Y, 3, none⟩ (.int .i64 m.save)).setCell ⟨Y, 4, none⟩ (.bool m.lets)).setCell ⟨Y, 5, none⟩ (.bool m.waits)).setCell ⟨Y, 6, none⟩ (.int .i64 m.halt)).setCell ⟨Y, 7, none⟩ (.slice pq3 pn3 pk3)).setCell ⟨Y, 8, none⟩ (.slice pq4 pn4 pk4)).setCell ⟨Y, 9, none⟩ (.int .i64 m.count)) = h17 at MW TB TA HI BW YR hHeld2 SW YS BQ G ⊢
    refine PhaseIn.late (i := 10) (v := ?_) (by kernel_rfl) rfl 16 (by rfl) (by omega) (Or.inl ⟨by kernel_rfl, ?_⟩) ?_
    rotate_left
    · intro w' hSw
      go_simp
      first | done | with_reducible rfl
    try simp only [Act.put, List.setIfInBounds_toArray, List.set]
    refine PhaseIn.done (by kernel_rfl) ?_ _
    clear hHeld2
    have y0 := YS.out.cell 0 _ rfl
    have y1 := YS.out.cell 1 _ rfl
    have y2 := YS.out.cell 2 _ rfl
    have y3 := YS.out.cell 3 _ rfl
    have y4 := YS.out.cell 4 _ rfl
    have y5 := YS.out.cell 5 _ rfl
    have y6 := YS.out.cell 6 _ rfl
    have y7 := YS.out.cell 7 _ rfl
    have y8 := YS.out.cell 8 _ rfl
    have y9 := YS.out.cell 9 _ rfl
    have z0 := YR.out.cell 0 _ rfl
    have z1 := YR.out.cell 1 _ rfl
    have z2 := YR.out.cell 2 _ rfl
    have z3 := YR.out.cell 3 _ rfl
    have z4 := YR.out.cell 4 _ rfl
    have z5 := YR.out.cell 5 _ rfl
    have z6 := YR.out.cell 6 _ rfl
    have z7 := YR.out.cell 7 _ rfl
    have z8 := YR.out.cell 8 _ rfl
    have z9 := YR.out.cell 9 _ rfl
    go_wp2_with fail
    refine (eqMch m _ _ _ MW.out.write.read SW.out.write.read).mono ?_
    rintro e e1 ⟨rfl, hb⟩
    clear y0 y1 y2 y3 y4 y5 y6 y7 y8 y9
    clear z0 z1 z2 z3 z4 z5 z6 z7 z8 z9
    replace BQ := hide (BQ.out.below hb)
    replace G := hide (G.out.below hb)
    replace BW := hide (BW.out.trans (hb.mono BW.out.size))
    clear hb MW SW YS YR TB TA
    have z0 := G.out.cell 0 _ rfl
    have z1 := G.out.cell 1 _ rfl
    have z2 := G.out.cell 2 _ rfl
    have z3 := G.out.cell 3 _ rfl
    have z4 := G.out.cell 4 _ rfl
    have z5 := G.out.cell 5 _ rfl
    have z6 := G.out.cell 6 _ rfl
    have z7 := G.out.cell 7 _ rfl
    have z8 := G.out.cell 8 _ rfl
    have z9 := G.out.cell 9 _ rfl
    go_wp2_with fail
    refine (heldMch m 1 _ _ BQ.out.write.read SM.out (by omega) (by omega)).mono ?_
    rintro e e2 ⟨rfl, hb⟩
    rw [ET.out]
    clear z0 z1 z2 z3 z4 z5 z6 z7 z8 z9
    clear BQ G
    replace BW := hide (BW.out.trans (hb.mono BW.out.size))
    clear hb
    go_wp2
    go_ret
    exact ⟨rfl, BW.out⟩

set_option maxRecDepth 100000 in
theorem lifted (os : Os) (started : os.Started) (H : Type) (enc : TypeId × Value → H) :
    ReturnsInHanded {} Tryz.checked os 3 .any (fun w args => (Rows.fnExactIrRunSpec.pre enc Tryz.prog Tryz.f3 Rows.fnExactIrRunRow.domain false w args ∧ laidMetH Tryz.prog Rows.fnExactIrRunRow.laid w) ∧ sizedMet enc Tryz.prog Tryz.f3 (OpenSpec.ofChange Rows.fnExactIrRunSpec) false w args)
      (Rows.fnExactIrRunSpec.post enc Tryz.prog Tryz.f3 false true false false) := by
  refine returnsInHanded_of_change_and (C := Tryz.checked) (X := fun w _ => laidMetH Tryz.prog Rows.fnExactIrRunRow.laid w) (fun _ _ _ hh h => h.of_heap hh) own started (by kernel_rfl) Tryz.func3
    (ChangeSpec.witness_shaped (enc := enc) (C := Tryz.checked) (os := os) (X := fun w _ => laidMetH Tryz.prog Rows.fnExactIrRunRow.laid w) false (World.doorLaid Tryz.prog 400 os) #[.agg #[.int .i64 0, .int .i64 0, .slice none 0 0, .int .i64 0, .int .i64 0, .int .i64 0, .int .i64 0], .agg #[.slice none 0 0, .int .i64 0, .slice none 0 0, .int .i64 0, .bool false, .bool false, .int .i64 0, .slice none 0 0, .slice none 0 0, .int .i64 0]] 8 rfl (World.shaped_of_RefB (by kernel_rfl) (by kernel_rfl)) (by kernel_rfl) (by kernel_rfl) (by kernel_rfl) (door_met os _)) ?_
  intro W base args ds gs before hval0 hW _ hsz0 hL _
  have hval : ∀ (j : Nat) t v, Tryz.f3.params[j]? = some t → args[j]? = some v → Value.okWide Tryz.prog W .any base t v := hval0
  have hW' := hW
  obtain ⟨p, q, hA0, hV, rfl, hfz, hnd⟩ := hW
  have hA : DataW.TrodAll enc Tryz.prog W 0 (fun _ => true) true Tryz.f3.params.toList args.toList ds p := hA0
  rw [Tryz.params3] at hA hval
  obtain ⟨v0, vs0, d0, ds0, p0, q0, hargs, rfl, rfl, h0, r0⟩ := trodAll_cons hA
  obtain ⟨v1, vs1, d1, ds1, p1, q1, rfl, rfl, rfl, h1, r1⟩ := trodAll_cons r0
  obtain ⟨rfl, rfl, rfl⟩ := trodAll_nil r1
  obtain rfl : args = #[v0, v1] := by cases args; simp_all
  have hgl : gs.length = 2 := (trodVars_len hV).trans rfl
  obtain ⟨g0, g1, rfl⟩ : ∃ g0 g1, gs = [g0, g1] := by
    match gs, hgl with
    | [g0, g1], _ => exact ⟨g0, g1, rfl⟩
  have k0 := h0
  have lt0 : ∀ x ∈ p0, x.block < W.heap.size := by obtain ⟨m, hm⟩ := k0; exact DataW.trod_lt m _ _ _ hm
  obtain ⟨a0, rfl, _⟩ := okWide_struct Tryz.underlying24 (hval 0 24 v0 rfl rfl)
  have w0 : Shape.Holds Tryz.prog W 9 24 a0.toList := Shape.opened 9 h0
  have k1 := h1
  have lt1 : ∀ x ∈ p1, x.block < W.heap.size := by obtain ⟨m, hm⟩ := k1; exact DataW.trod_lt m _ _ _ hm
  obtain ⟨a1, rfl, _⟩ := okWide_struct Tryz.underlying27 (hval 1 27 v1 rfl rfl)
  have w1 : Shape.Holds Tryz.prog W 9 27 a1.toList := Shape.opened 9 h1
  clear hA0 hval0
  refine (walk a0 a1 W w0 w1 hL).mono fun e W' ⟨he, hnx⟩ => ?_
  subst he
  exact ⟨_, rfl, _, _, _, [], _, q, hW', trodAll_cons_mk (shut_bool Tryz.underlying4 _) trodAll_mk0, (trodAll_cons_mk (Below.trod laidOut (by kernel_rfl) (of_decide_eq_true (by kernel_rfl)) k0 hnx lt0) (trodAll_cons_mk (Below.trod laidOut (by kernel_rfl) (of_decide_eq_true (by kernel_rfl)) k1 hnx lt1) trodAll_mk0)), hnx.trodVars laidOut (by kernel_rfl) hV, hnx.frame _, fun h => by cases h⟩

theorem over : Rows.fnExactIrRunRow.holds Tryz.pinned (OpenSpec.ofChange Rows.fnExactIrRunSpec) :=
  OpenClaim.holds_of_wide 3 Tryz.f3 rfl rfl rfl rfl rfl rfl rfl ⟨rfl, rfl, rfl, rfl, rfl⟩ rfl rfl rfl rfl rfl (by kernel_rfl) Tryz.func3 (by kernel_rfl)
    (of_decide_eq_true (by kernel_rfl)) (by unfold Func.isWrapper; first | (rw [if_pos (by decide +kernel)]; kernel_rfl) | (rw [if_neg (by decide +kernel)]; exact ⟨rfl, rfl⟩))
    (fun os started H enc _ => lifted os started H enc)

theorem proved : Rows.FnExactIrRunCardSaid :=
  Claim7.holds_tied_plain_at .later [] [.handle, .wider, .wider] true (true, "fdabc3ea3a3a876ee7d1cc37f23c1b83a21771ec7d7055eb93e997fa63728abf") true
    over (fun _ h => by cases h) (by kernel_rfl) (fun _ h => by cases h) fnExactIrRun_row_tie rfl ⟨rfl, rfl⟩ (by kernel_rfl) rfl
    (fun f fn hf hfn => by
      obtain rfl : f = 3 := Option.some.inj ((show Tryz.prog.funcNamed "loop.example/latimer/laws.FnExactIrRun" = some 3 by kernel_rfl).symm.trans hf) |>.symm
      obtain rfl : fn = Tryz.f3 := (Option.some.inj (Tryz.func3.symm.trans hfn)).symm
      exact ⟨by kernel_rfl, fun j t ht => by
        rw [Tryz.params3] at ht
        have hm : t ∈ [24, 27] := by simpa using Array.mem_of_getElem? ht
        have hall : ([24, 27].all fun u => !Tryz.prog.wantsStandIn u) = true := by kernel_rfl
        exact (show Tryz.prog.wantsStandIn t = false by simpa using List.all_eq_true.1 hall t hm)⟩)
    (by kernel_rfl)
#print axioms proved
end Go.Proofs.YtaokopipgolmbaaGreatDoor.fnExactIrRun
