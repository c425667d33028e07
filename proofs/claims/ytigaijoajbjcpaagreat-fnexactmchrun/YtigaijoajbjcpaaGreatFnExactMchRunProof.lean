/-
  At every machine, every list of ints and every int the program's MchRun answers as the specification's MchRun does, every field; it writes into no list of its arguments, and its answer owns its memory (the law FnExactMchRun returns true); no condition.
  The frame (lifted, over, proved) is written by my own program after the guide's worked texts; the walk and the lemmas ahead of it are mine.
-/
import Derived.Test.YtigaijoajbjcpaaGreatRows
import Derived.Test.YtigaijoajbjcpaaGreatShape
import Derived.Test.YtigaijoajbjcpaaGreatMchH
import Derived.Test.YtigaijoajbjcpaaGreatMchK
import Derived.Test.YtigaijoajbjcpaaGreatMchLL
import Derived.Test.YtigaijoajbjcpaaGreatMchMM
import Derived.Test.YtigaijoajbjcpaaGreatMchLM
import Derived.WalkKit
import Derived.ProofKit
import Derived.OpenShut
import Derived.ShutString
import Derived.ChangeOld
import Derived.Below
import Derived.SizedLaws
namespace Go.Proofs.YtigaijoajbjcpaaGreat.fnExactMchRun
open Go.ChangeShapes Go.WideShapes Go.ChangeAt Go.RowKit
open Go.ChangeMaps (open_string shut_string)
set_option linter.unusedVariables false

theorem own : ownKnob Tryz.prog.godebug = none := by kernel_rfl
theorem laidOut : laidOutB Tryz.prog = true := by kernel_rfl

open IntS Mch
set_option linter.unusedSimpArgs false
theorem len_of {w : World} {B : Nat} {a : Option Addr} {n cap : Nat} {xs : List Int} (h : Row w B (.slice a n cap) xs) : n = xs.length := by
  obtain ⟨x, j, o, e, _⟩ := h
  cases e
  rfl
theorem total_pos (m : M) : 0 ≤ total m := by unfold total; omega
theorem ten_forms {w : World} {lo hi : Nat} {c : List Value} {m : M} (h : BMach w lo hi c m) : ∃ q1 q2 q3 q4 n1 n2 n3 n4 k1 k2 k3 k4, c = mv m (.slice q1 n1 k1) (.slice q2 n2 k2) (.slice q3 n3 k3) (.slice q4 n4 k4) := by
  obtain ⟨r, e, i, o, b1, b2, b3, b4, hc, h1, h2, h3, h4, _⟩ := h
  obtain ⟨q1, k1, _, rfl, _⟩ := h1
  obtain ⟨q2, k2, _, rfl, _⟩ := h2
  obtain ⟨q3, k3, _, rfl, _⟩ := h3
  obtain ⟨q4, k4, _, rfl, _⟩ := h4
  exact ⟨q1, q2, q3, q4, _, _, _, _, k1, k2, k3, k4, hc⟩

set_option maxRecDepth 8000 in
set_option maxHeartbeats 8000000 in
theorem walk (a0 : Array Value) (a1 : Option Addr) (len1 cap1 : Nat) (a2 : Int) (w2 : (Lit.int .i64 a2).wf = true) (w : World) (w0 : Shape.Holds Tryz.prog w 9 24 a0.toList) (w1 : Shape.Holds Tryz.prog w 9 22 [.slice a1 len1 cap1])  :
    Calls Tryz.prog 3 #[.agg a0, .slice a1 len1 cap1, .int .i64 a2] w fun e w' => e = .returned (.bool true) ∧ Below w.heap.size w w' := by
  obtain ⟨v1, is, BI, hv1, AI⟩ := row_holds (n := 7) w1
  simp only [List.cons.injEq, and_true] at hv1
  subst hv1
  obtain rfl := len_of AI
  replace AI := hide AI
  clear w1
  obtain ⟨l, m0, rfl, hm⟩ := Mch.of_holds w0
  obtain ⟨r, e, i, o, b1, b2, b3, b4, rfl, h1, h2, h3, h4⟩ := hm
  obtain ⟨regs, pc, mem, save, lets, waits, halt, ins, outs, count⟩ := m0
  have RM : Hid (RMach w [r, .int .i64 pc, e, .int .i64 save, .bool lets, .bool waits, .int .i64 halt, i, o, .int .i64 count] ⟨regs, pc, mem, save, lets, waits, halt, ins, outs, count⟩) := ⟨r, e, i, o, b1, b2, b3, b4, rfl, h1, h2, h3, h4⟩
  obtain ⟨t1, j1, _, rfl, _⟩ := h1
  obtain ⟨t2, j2, _, rfl, _⟩ := h2
  obtain ⟨t3, j3, _, rfl, _⟩ := h3
  obtain ⟨t4, j4, _, rfl, _⟩ := h4
  simp only [Mch.mv] at *
  clear w0
  by_cases li : is.length ≤ 1048576
  case neg =>
    have ti : (1048576 : Int) < is.length := by omega
    have BW := hide ((Below.refl w.heap.size w).alloc (Nat.le_refl _) (.cells #[.slice t1 regs.length j1, .int .i64 pc, .slice t2 mem.length j2, .int .i64 save, .bool lets, .bool waits, .int .i64 halt, .slice t3 ins.length j3, .slice t4 outs.length j4, .int .i64 count] 24))
    clear li
    go_enter Tryz.func3, Tryz.ntmps3
    go_wp2
    go_ret
    exact ⟨rfl, BW.out⟩
  have ti : ¬ (1048576 : Int) < is.length := by omega
  have LI := hide li
  clear li
  have TA := hide (Rec.new w [.slice t1 regs.length j1, .int .i64 pc, .slice t2 mem.length j2, .int .i64 save, .bool lets, .bool waits, .int .i64 halt, .slice t3 ins.length j3, .slice t4 outs.length j4, .int .i64 count] 24)
  have BW := hide ((Below.refl w.heap.size w).alloc (Nat.le_refl _) (.cells #[.slice t1 regs.length j1, .int .i64 pc, .slice t2 mem.length j2, .int .i64 save, .bool lets, .bool waits, .int .i64 halt, .slice t3 ins.length j3, .slice t4 outs.length j4, .int .i64 count] 24))
  go_enter Tryz.func3, Tryz.ntmps3
  go_wp2_with fail
  refine (szMch _ _ _ (RM.out.below BW.out)).mono ?_
  rintro e u0 ⟨n, rfl, n0, hs, hb⟩
  replace TA := hide (TA.out.below hb)
  replace BW := hide (BW.out.trans (hb.mono BW.out.size))
  clear hb
  by_cases hn : n < 0
  · clear TA
    go_wp2
    go_ret
    exact ⟨rfl, BW.out⟩
  have HS := hide (hs (by omega))
  clear hs
  have HM : Hid (Near ⟨regs, pc, mem, save, lets, waits, halt, ins, outs, count⟩) := HS.out.near
  clear w2
  obtain ⟨m, em⟩ : ∃ m, runOf ⟨regs, pc, mem, save, lets, waits, halt, ins, outs, count⟩ is a2 = m := ⟨_, rfl⟩
  have EM := hide em
  have SM : Hid (Wide m) := by rw [← em]; exact run_wide HS.out is a2
  clear em
  have ta0 := TA.out.cell 0 _ rfl
  have ta1 := TA.out.cell 1 _ rfl
  have ta2 := TA.out.cell 2 _ rfl
  have ta3 := TA.out.cell 3 _ rfl
  have ta4 := TA.out.cell 4 _ rfl
  have ta5 := TA.out.cell 5 _ rfl
  have ta6 := TA.out.cell 6 _ rfl
  have ta7 := TA.out.cell 7 _ rfl
  have ta8 := TA.out.cell 8 _ rfl
  have ta9 := TA.out.cell 9 _ rfl
  go_wp2_with fail
  refine (toMch _ _ _ (RM.out.below BW.out) HS.out).mono ?_
  rintro e u1 ⟨c1, rfl, M1, hb⟩
  clear ta0 ta1 ta2 ta3 ta4 ta5 ta6 ta7 ta8 ta9
  replace TA := hide (TA.out.below hb)
  replace BW := hide (BW.out.trans (hb.mono BW.out.size))
  clear hb
  replace M1 := hide M1
  go_wp2_with fail
  refine (toIntS is _ _ _ (AI.out.below BW.out) LI.out).mono ?_
  rintro e u1b ⟨gi, rfl, RI, gie, gil, hb⟩
  replace RI := hide RI
  replace M1 := hide (M1.out.bound.below hb).write
  clear gie gil
  replace TA := hide (TA.out.below hb)
  replace BW := hide (BW.out.trans (hb.mono BW.out.size))
  clear hb
  go_wp2_with fail
  refine (specRun _ is a2 _ _ gi _ M1.out.read RI.out.row HM.out).mono ?_
  rintro e u2 ⟨cw, rfl, MW, hb⟩
  rw [EM.out] at MW
  clear M1 RI
  have loW : Hid (u1b.heap.size ≤ u2.heap.size) := hb.size
  replace MW := MW.bound
  obtain ⟨pq1, pq2, pq3, pq4, pn1, pn2, pn3, pn4, pk1, pk2, pk3, pk4, rfl⟩ := ten_forms MW
  simp only [mv] at MW ⊢
  replace MW := hide MW
  replace BW := hide (BW.out.trans (hb.mono BW.out.size))
  replace TA := hide (TA.out.below hb)
  clear hb
  have bX : Below u2.heap.size u2 (u2.alloc (.cells #[.slice pq1 pn1 pk1, .int .i64 m.pc, .slice pq2 pn2 pk2, .int .i64 m.save, .bool m.lets, .bool m.waits, .int .i64 m.halt, .slice pq3 pn3 pk3, .slice pq4 pn4 pk4, .int .i64 m.count] 26)) := (Below.refl _ _).alloc (Nat.le_refl _) _
  have Y := hide (Rec.new u2 [.slice pq1 pn1 pk1, .int .i64 m.pc, .slice pq2 pn2 pk2, .int .i64 m.save, .bool m.lets, .bool m.waits, .int .i64 m.halt, .slice pq3 pn3 pk3, .slice pq4 pn4 pk4, .int .i64 m.count] 26)
  have szY : Hid ((u2.alloc (.cells #[.slice pq1 pn1 pk1, .int .i64 m.pc, .slice pq2 pn2 pk2, .int .i64 m.save, .bool m.lets, .bool m.waits, .int .i64 m.halt, .slice pq3 pn3 pk3, .slice pq4 pn4 pk4, .int .i64 m.count] 26)).heap.size = u2.heap.size + 1) := show _ = _ by simp
  replace BW := hide (BW.out.trans (bX.mono BW.out.size))
  replace TA := hide (TA.out.below bX)
  replace MW := hide (MW.out.below bX)
  clear bX
  have TW : Hid (w.heap.size ≤ u2.heap.size) := by have := TA.out.lt; have := szY.out; show _ ≤ _; omega
  have WW : Hid (w.heap.size ≤ u2.heap.size + 1) := by have := BW.out.size; rw [szY.out] at this; exact this
  have ta0 := TA.out.cell 0 _ rfl
  have ta1 := TA.out.cell 1 _ rfl
  have ta2 := TA.out.cell 2 _ rfl
  have ta3 := TA.out.cell 3 _ rfl
  have ta4 := TA.out.cell 4 _ rfl
  have ta5 := TA.out.cell 5 _ rfl
  have ta6 := TA.out.cell 6 _ rfl
  have ta7 := TA.out.cell 7 _ rfl
  have ta8 := TA.out.cell 8 _ rfl
  have ta9 := TA.out.cell 9 _ rfl
  go_wp2_with fail
  refine (toMch _ _ _ (RM.out.below BW.out) HS.out).mono ?_
  rintro e u3 ⟨cx, rfl, MX, hb⟩
  clear ta0 ta1 ta2 ta3 ta4 ta5 ta6 ta7 ta8 ta9
  have loX : Hid (u2.heap.size + 1 ≤ u3.heap.size) := by have := hb.size; rw [szY.out] at this; exact this
  rw [szY.out] at MX
  replace MX := MX.bound
  obtain ⟨xq1, xq2, xq3, xq4, xn1, xn2, xn3, xn4, xk1, xk2, xk3, xk4, rfl⟩ := ten_forms MX
  simp only [mv] at MX ⊢
  replace MX := hide MX
  replace BW := hide (BW.out.trans (hb.mono BW.out.size))
  replace TA := hide (TA.out.below hb)
  replace MW := hide (MW.out.below hb)
  replace Y := hide (Y.out.below hb)
  clear hb
  have bX : Below u3.heap.size u3 (u3.alloc (.cells #[.slice xq1 xn1 xk1, .int .i64 pc, .slice xq2 xn2 xk2, .int .i64 save, .bool lets, .bool waits, .int .i64 halt, .slice xq3 xn3 xk3, .slice xq4 xn4 xk4, .int .i64 count] 26)) := (Below.refl _ _).alloc (Nat.le_refl _) _
  have X := hide (Rec.new u3 [.slice xq1 xn1 xk1, .int .i64 pc, .slice xq2 xn2 xk2, .int .i64 save, .bool lets, .bool waits, .int .i64 halt, .slice xq3 xn3 xk3, .slice xq4 xn4 xk4, .int .i64 count] 26)
  have szX : Hid ((u3.alloc (.cells #[.slice xq1 xn1 xk1, .int .i64 pc, .slice xq2 xn2 xk2, .int .i64 save, .bool lets, .bool waits, .int .i64 halt, .slice xq3 xn3 xk3, .slice xq4 xn4 xk4, .int .i64 count] 26)).heap.size = u3.heap.size + 1) := show _ = _ by simp
  replace BW := hide (BW.out.trans (bX.mono BW.out.size))
  replace TA := hide (TA.out.below bX)
  replace MW := hide (MW.out.below bX)
  replace Y := hide (Y.out.below bX)
  replace MX := hide (MX.out.below bX)
  clear bX
  go_wp2_with fail
  refine (toIntS is _ _ _ (AI.out.below BW.out) LI.out).mono ?_
  rintro e u3b ⟨gx, rfl, RX, gxe, gxl, hb⟩
  have NX : Hid (u3.heap.size < gx) := Nat.lt_of_lt_of_le (by rw [szX.out]; omega) gxe
  have MXX : Hid (gx < u3b.heap.size) := gxl
  replace RX := hide RX
  clear gxe gxl
  replace TA := hide (TA.out.below hb)
  replace MW := hide (MW.out.below hb)
  replace Y := hide (Y.out.below hb)
  replace MX := hide (MX.out.below hb)
  replace X := hide (X.out.below hb)
  replace BW := hide (BW.out.trans (hb.mono BW.out.size))
  clear hb
  have x0 := X.out.cell 0 _ rfl
  have x1 := X.out.cell 1 _ rfl
  have x2 := X.out.cell 2 _ rfl
  have x3 := X.out.cell 3 _ rfl
  have x4 := X.out.cell 4 _ rfl
  have x5 := X.out.cell 5 _ rfl
  have x6 := X.out.cell 6 _ rfl
  have x7 := X.out.cell 7 _ rfl
  have x8 := X.out.cell 8 _ rfl
  have x9 := X.out.cell 9 _ rfl
  go_wp2_with fail
  refine (MchI.mchRun _ is a2 _ _ gx _ MX.out.write.read RX.out.row HM.out).mono ?_
  rintro e u4 ⟨cg, rfl, MG, hb⟩
  rw [EM.out] at MG
  clear x0 x1 x2 x3 x4 x5 x6 x7 x8 x9
  have loG : Hid (u3b.heap.size ≤ u4.heap.size) := hb.size
  replace MG := MG.bound
  obtain ⟨gq1, gq2, gq3, gq4, gn1, gn2, gn3, gn4, gk1, gk2, gk3, gk4, rfl⟩ := ten_forms MG
  simp only [mv] at MG ⊢
  replace MG := hide MG
  replace BW := hide (BW.out.trans (hb.mono BW.out.size))
  replace TA := hide (TA.out.below hb)
  replace MW := hide (MW.out.below hb)
  replace Y := hide (Y.out.below hb)
  replace MX := hide (MX.out.below hb)
  replace X := hide (X.out.below hb)
  replace RX := hide (RX.out.below hb)
  clear hb
  have bX : Below u4.heap.size u4 (u4.alloc (.cells #[.slice gq1 gn1 gk1, .int .i64 m.pc, .slice gq2 gn2 gk2, .int .i64 m.save, .bool m.lets, .bool m.waits, .int .i64 m.halt, .slice gq3 gn3 gk3, .slice gq4 gn4 gk4, .int .i64 m.count] 26)) := (Below.refl _ _).alloc (Nat.le_refl _) _
  have G := hide (Rec.new u4 [.slice gq1 gn1 gk1, .int .i64 m.pc, .slice gq2 gn2 gk2, .int .i64 m.save, .bool m.lets, .bool m.waits, .int .i64 m.halt, .slice gq3 gn3 gk3, .slice gq4 gn4 gk4, .int .i64 m.count] 26)
  have szG : Hid ((u4.alloc (.cells #[.slice gq1 gn1 gk1, .int .i64 m.pc, .slice gq2 gn2 gk2, .int .i64 m.save, .bool m.lets, .bool m.waits, .int .i64 m.halt, .slice gq3 gn3 gk3, .slice gq4 gn4 gk4, .int .i64 m.count] 26)).heap.size = u4.heap.size + 1) := show _ = _ by simp
  replace BW := hide (BW.out.trans (bX.mono BW.out.size))
  replace TA := hide (TA.out.below bX)
  replace MW := hide (MW.out.below bX)
  replace Y := hide (Y.out.below bX)
  replace MX := hide (MX.out.below bX)
  replace X := hide (X.out.below bX)
  replace RX := hide (RX.out.below bX)
  replace MG := hide (MG.out.below bX)
  clear bX
  have y0 := Y.out.cell 0 _ rfl
  have y1 := Y.out.cell 1 _ rfl
  have y2 := Y.out.cell 2 _ rfl
  have y3 := Y.out.cell 3 _ rfl
  have y4 := Y.out.cell 4 _ rfl
  have y5 := Y.out.cell 5 _ rfl
  have y6 := Y.out.cell 6 _ rfl
  have y7 := Y.out.cell 7 _ rfl
  have y8 := Y.out.cell 8 _ rfl
  have y9 := Y.out.cell 9 _ rfl
  have z0 := G.out.cell 0 _ rfl
  have z1 := G.out.cell 1 _ rfl
  have z2 := G.out.cell 2 _ rfl
  have z3 := G.out.cell 3 _ rfl
  have z4 := G.out.cell 4 _ rfl
  have z5 := G.out.cell 5 _ rfl
  have z6 := G.out.cell 6 _ rfl
  have z7 := G.out.cell 7 _ rfl
  have z8 := G.out.cell 8 _ rfl
  have z9 := G.out.cell 9 _ rfl
  go_wp2_with fail
  refine (eqMch m _ _ _ MG.out.write.read MW.out.write.read).mono ?_
  rintro e u5 ⟨rfl, hb⟩
  clear y0 y1 y2 y3 y4 y5 y6 y7 y8 y9 z0 z1 z2 z3 z4 z5 z6 z7 z8 z9
  replace TA := hide (TA.out.below hb)
  replace MW := hide (MW.out.below hb)
  replace Y := hide (Y.out.below hb)
  replace MX := hide (MX.out.below hb)
  replace X := hide (X.out.below hb)
  replace MG := hide (MG.out.below hb)
  replace G := hide (G.out.below hb)
  replace RX := hide (RX.out.below hb)
  replace BW := hide (BW.out.trans (hb.mono BW.out.size))
  clear hb
  have ta0 := TA.out.cell 0 _ rfl
  have ta1 := TA.out.cell 1 _ rfl
  have ta2 := TA.out.cell 2 _ rfl
  have ta3 := TA.out.cell 3 _ rfl
  have ta4 := TA.out.cell 4 _ rfl
  have ta5 := TA.out.cell 5 _ rfl
  have ta6 := TA.out.cell 6 _ rfl
  have ta7 := TA.out.cell 7 _ rfl
  have ta8 := TA.out.cell 8 _ rfl
  have ta9 := TA.out.cell 9 _ rfl
  have x0 := X.out.cell 0 _ rfl
  have x1 := X.out.cell 1 _ rfl
  have x2 := X.out.cell 2 _ rfl
  have x3 := X.out.cell 3 _ rfl
  have x4 := X.out.cell 4 _ rfl
  have x5 := X.out.cell 5 _ rfl
  have x6 := X.out.cell 6 _ rfl
  have x7 := X.out.cell 7 _ rfl
  have x8 := X.out.cell 8 _ rfl
  have x9 := X.out.cell 9 _ rfl
  go_wp2_with fail
  replace TA := hide (TA.out.below (drew_below u5))
  replace MW := hide (MW.out.below (drew_below u5))
  replace Y := hide (Y.out.below (drew_below u5))
  replace MX := hide (MX.out.below (drew_below u5))
  replace X := hide (X.out.below (drew_below u5))
  replace MG := hide (MG.out.below (drew_below u5))
  replace G := hide (G.out.below (drew_below u5))
  replace RX := hide (RX.out.below (drew_below u5))
  replace BW := hide (BW.out.drew)
  have SS : u5.drew.cell? ⟨u3.heap.size, 0, none⟩ = some (.slice xq1 xn1 xk1) ∧ u5.drew.cell? ⟨u3.heap.size, 1, none⟩ = some (.int .i64 pc) ∧ u5.drew.cell? ⟨u3.heap.size, 2, none⟩ = some (.slice xq2 xn2 xk2) ∧ u5.drew.cell? ⟨u3.heap.size, 3, none⟩ = some (.int .i64 save) ∧ u5.drew.cell? ⟨u3.heap.size, 4, none⟩ = some (.bool lets) ∧ u5.drew.cell? ⟨u3.heap.size, 5, none⟩ = some (.bool waits) ∧ u5.drew.cell? ⟨u3.heap.size, 6, none⟩ = some (.int .i64 halt) ∧ u5.drew.cell? ⟨u3.heap.size, 7, none⟩ = some (.slice xq3 xn3 xk3) ∧ u5.drew.cell? ⟨u3.heap.size, 8, none⟩ = some (.slice xq4 xn4 xk4) ∧ u5.drew.cell? ⟨u3.heap.size, 9, none⟩ = some (.int .i64 count) ∧ u5.drew.cell? ⟨w.heap.size, 0, none⟩ = some (.slice t1 regs.length j1) ∧ u5.drew.cell? ⟨w.heap.size, 1, none⟩ = some (.int .i64 pc) ∧ u5.drew.cell? ⟨w.heap.size, 2, none⟩ = some (.slice t2 mem.length j2) ∧ u5.drew.cell? ⟨w.heap.size, 3, none⟩ = some (.int .i64 save) ∧ u5.drew.cell? ⟨w.heap.size, 4, none⟩ = some (.bool lets) ∧ u5.drew.cell? ⟨w.heap.size, 5, none⟩ = some (.bool waits) ∧ u5.drew.cell? ⟨w.heap.size, 6, none⟩ = some (.int .i64 halt) ∧ u5.drew.cell? ⟨w.heap.size, 7, none⟩ = some (.slice t3 ins.length j3) ∧ u5.drew.cell? ⟨w.heap.size, 8, none⟩ = some (.slice t4 outs.length j4) ∧ u5.drew.cell? ⟨w.heap.size, 9, none⟩ = some (.int .i64 count) := ⟨x0, x1, x2, x3, x4, x5, x6, x7, x8, x9, ta0, ta1, ta2, ta3, ta4, ta5, ta6, ta7, ta8, ta9⟩
  refine wp_region_held_drew (S := fun v => (v.cell? ⟨u3.heap.size, 0, none⟩ = some (.slice xq1 xn1 xk1) ∧ v.cell? ⟨u3.heap.size, 1, none⟩ = some (.int .i64 pc) ∧ v.cell? ⟨u3.heap.size, 2, none⟩ = some (.slice xq2 xn2 xk2) ∧ v.cell? ⟨u3.heap.size, 3, none⟩ = some (.int .i64 save) ∧ v.cell? ⟨u3.heap.size, 4, none⟩ = some (.bool lets) ∧ v.cell? ⟨u3.heap.size, 5, none⟩ = some (.bool waits) ∧ v.cell? ⟨u3.heap.size, 6, none⟩ = some (.int .i64 halt) ∧ v.cell? ⟨u3.heap.size, 7, none⟩ = some (.slice xq3 xn3 xk3) ∧ v.cell? ⟨u3.heap.size, 8, none⟩ = some (.slice xq4 xn4 xk4) ∧ v.cell? ⟨u3.heap.size, 9, none⟩ = some (.int .i64 count) ∧ v.cell? ⟨w.heap.size, 0, none⟩ = some (.slice t1 regs.length j1) ∧ v.cell? ⟨w.heap.size, 1, none⟩ = some (.int .i64 pc) ∧ v.cell? ⟨w.heap.size, 2, none⟩ = some (.slice t2 mem.length j2) ∧ v.cell? ⟨w.heap.size, 3, none⟩ = some (.int .i64 save) ∧ v.cell? ⟨w.heap.size, 4, none⟩ = some (.bool lets) ∧ v.cell? ⟨w.heap.size, 5, none⟩ = some (.bool waits) ∧ v.cell? ⟨w.heap.size, 6, none⟩ = some (.int .i64 halt) ∧ v.cell? ⟨w.heap.size, 7, none⟩ = some (.slice t3 ins.length j3) ∧ v.cell? ⟨w.heap.size, 8, none⟩ = some (.slice t4 outs.length j4) ∧ v.cell? ⟨w.heap.size, 9, none⟩ = some (.int .i64 count))) (by kernel_rfl) SS (fun hHeld => ?_)
  refine wpAnyH_take (i := 0) (v := ?_) rfl (by kernel_rfl) (by kernel_rfl) (by kernel_rfl) (fun _ _ _ h => h) (Or.inl ⟨by rfl, ?_⟩) hHeld ?_
  rotate_left
  · intro w' hSw
    (try dsimp only at hSw)
    go_simp
    first | done | with_reducible rfl
  try simp only [Act.put, List.setIfInBounds_toArray, List.set]
  refine wpAnyH_take (i := 1) (v := ?_) rfl (by kernel_rfl) (by kernel_rfl) (by kernel_rfl) (fun _ _ _ h => h) (Or.inl ⟨by rfl, ?_⟩) hHeld ?_
  rotate_left
  · intro w' hSw
    (try dsimp only at hSw)
    go_simp
    first | done | with_reducible rfl
  try simp only [Act.put, List.setIfInBounds_toArray, List.set]
  clear ta0 ta1 ta2 ta3 ta4 ta5 ta6 ta7 ta8 ta9 x0 x1 x2 x3 x4 x5 x6 x7 x8 x9
  clear SS
  refine wpAnyH_ready (rs := [2]) (by kernel_rfl) (by simp) ?_
  refine AllReadyH.cons rfl (fun K hK => ?_) AllReadyH.nil
  go_simp
  refine (toMch _ _ _ (RM.out.below BW.out) HS.out).mono ?_
  rintro e u6 ⟨c6, rfl, M6, hb⟩
  replace TA := hide (TA.out.below hb)
  replace MW := hide (MW.out.below hb)
  replace Y := hide (Y.out.below hb)
  replace MX := hide (MX.out.below hb)
  replace X := hide (X.out.below hb)
  replace MG := hide (MG.out.below hb)
  replace G := hide (G.out.below hb)
  replace RX := hide (RX.out.below hb)
  replace BW := hide (BW.out.trans (hb.mono BW.out.size))
  clear hb
  replace M6 := hide M6
  have SU : u6.cell? ⟨u3.heap.size, 0, none⟩ = some (.slice xq1 xn1 xk1) ∧ u6.cell? ⟨u3.heap.size, 1, none⟩ = some (.int .i64 pc) ∧ u6.cell? ⟨u3.heap.size, 2, none⟩ = some (.slice xq2 xn2 xk2) ∧ u6.cell? ⟨u3.heap.size, 3, none⟩ = some (.int .i64 save) ∧ u6.cell? ⟨u3.heap.size, 4, none⟩ = some (.bool lets) ∧ u6.cell? ⟨u3.heap.size, 5, none⟩ = some (.bool waits) ∧ u6.cell? ⟨u3.heap.size, 6, none⟩ = some (.int .i64 halt) ∧ u6.cell? ⟨u3.heap.size, 7, none⟩ = some (.slice xq3 xn3 xk3) ∧ u6.cell? ⟨u3.heap.size, 8, none⟩ = some (.slice xq4 xn4 xk4) ∧ u6.cell? ⟨u3.heap.size, 9, none⟩ = some (.int .i64 count) ∧ u6.cell? ⟨w.heap.size, 0, none⟩ = some (.slice t1 regs.length j1) ∧ u6.cell? ⟨w.heap.size, 1, none⟩ = some (.int .i64 pc) ∧ u6.cell? ⟨w.heap.size, 2, none⟩ = some (.slice t2 mem.length j2) ∧ u6.cell? ⟨w.heap.size, 3, none⟩ = some (.int .i64 save) ∧ u6.cell? ⟨w.heap.size, 4, none⟩ = some (.bool lets) ∧ u6.cell? ⟨w.heap.size, 5, none⟩ = some (.bool waits) ∧ u6.cell? ⟨w.heap.size, 6, none⟩ = some (.int .i64 halt) ∧ u6.cell? ⟨w.heap.size, 7, none⟩ = some (.slice t3 ins.length j3) ∧ u6.cell? ⟨w.heap.size, 8, none⟩ = some (.slice t4 outs.length j4) ∧ u6.cell? ⟨w.heap.size, 9, none⟩ = some (.int .i64 count) := ⟨X.out.cell 0 _ rfl, X.out.cell 1 _ rfl, X.out.cell 2 _ rfl, X.out.cell 3 _ rfl, X.out.cell 4 _ rfl, X.out.cell 5 _ rfl, X.out.cell 6 _ rfl, X.out.cell 7 _ rfl, X.out.cell 8 _ rfl, X.out.cell 9 _ rfl, TA.out.cell 0 _ rfl, TA.out.cell 1 _ rfl, TA.out.cell 2 _ rfl, TA.out.cell 3 _ rfl, TA.out.cell 4 _ rfl, TA.out.cell 5 _ rfl, TA.out.cell 6 _ rfl, TA.out.cell 7 _ rfl, TA.out.cell 8 _ rfl, TA.out.cell 9 _ rfl⟩
  refine hK.out _ _ SU (fun hHeld => ?_)
  clear hK K SU
  try simp only [Act.put, List.setIfInBounds_toArray, List.set]
  refine wpAnyH_ready (rs := [3]) (by kernel_rfl) (by simp) ?_
  refine AllReadyH.cons rfl (fun K hK => ?_) AllReadyH.nil
  go_simp
  refine (eqMch _ _ _ _ MX.out.write.read M6.out.read).mono ?_
  rintro e u7 ⟨rfl, hb⟩
  clear M6
  replace TA := hide (TA.out.below hb)
  replace MW := hide (MW.out.below hb)
  replace Y := hide (Y.out.below hb)
  replace MX := hide (MX.out.below hb)
  replace X := hide (X.out.below hb)
  replace MG := hide (MG.out.below hb)
  replace G := hide (G.out.below hb)
  replace RX := hide (RX.out.below hb)
  replace BW := hide (BW.out.trans (hb.mono BW.out.size))
  clear hb
  have SU : u7.cell? ⟨u3.heap.size, 0, none⟩ = some (.slice xq1 xn1 xk1) ∧ u7.cell? ⟨u3.heap.size, 1, none⟩ = some (.int .i64 pc) ∧ u7.cell? ⟨u3.heap.size, 2, none⟩ = some (.slice xq2 xn2 xk2) ∧ u7.cell? ⟨u3.heap.size, 3, none⟩ = some (.int .i64 save) ∧ u7.cell? ⟨u3.heap.size, 4, none⟩ = some (.bool lets) ∧ u7.cell? ⟨u3.heap.size, 5, none⟩ = some (.bool waits) ∧ u7.cell? ⟨u3.heap.size, 6, none⟩ = some (.int .i64 halt) ∧ u7.cell? ⟨u3.heap.size, 7, none⟩ = some (.slice xq3 xn3 xk3) ∧ u7.cell? ⟨u3.heap.size, 8, none⟩ = some (.slice xq4 xn4 xk4) ∧ u7.cell? ⟨u3.heap.size, 9, none⟩ = some (.int .i64 count) ∧ u7.cell? ⟨w.heap.size, 0, none⟩ = some (.slice t1 regs.length j1) ∧ u7.cell? ⟨w.heap.size, 1, none⟩ = some (.int .i64 pc) ∧ u7.cell? ⟨w.heap.size, 2, none⟩ = some (.slice t2 mem.length j2) ∧ u7.cell? ⟨w.heap.size, 3, none⟩ = some (.int .i64 save) ∧ u7.cell? ⟨w.heap.size, 4, none⟩ = some (.bool lets) ∧ u7.cell? ⟨w.heap.size, 5, none⟩ = some (.bool waits) ∧ u7.cell? ⟨w.heap.size, 6, none⟩ = some (.int .i64 halt) ∧ u7.cell? ⟨w.heap.size, 7, none⟩ = some (.slice t3 ins.length j3) ∧ u7.cell? ⟨w.heap.size, 8, none⟩ = some (.slice t4 outs.length j4) ∧ u7.cell? ⟨w.heap.size, 9, none⟩ = some (.int .i64 count) := ⟨X.out.cell 0 _ rfl, X.out.cell 1 _ rfl, X.out.cell 2 _ rfl, X.out.cell 3 _ rfl, X.out.cell 4 _ rfl, X.out.cell 5 _ rfl, X.out.cell 6 _ rfl, X.out.cell 7 _ rfl, X.out.cell 8 _ rfl, X.out.cell 9 _ rfl, TA.out.cell 0 _ rfl, TA.out.cell 1 _ rfl, TA.out.cell 2 _ rfl, TA.out.cell 3 _ rfl, TA.out.cell 4 _ rfl, TA.out.cell 5 _ rfl, TA.out.cell 6 _ rfl, TA.out.cell 7 _ rfl, TA.out.cell 8 _ rfl, TA.out.cell 9 _ rfl⟩
  refine hK.out _ _ SU (fun hHeld => ?_)
  clear hK K SU
  try simp only [Act.put, List.setIfInBounds_toArray, List.set]
  refine wpAnyH_take (i := 4) (v := ?_) rfl (by kernel_rfl) (by kernel_rfl) (by kernel_rfl) (fun _ _ _ h => h) (Or.inl ⟨by rfl, ?_⟩) hHeld ?_
  rotate_left
  · intro w' hSw
    (try dsimp only at hSw)
    go_simp
    first | done | with_reducible rfl
  try simp only [Act.put, List.setIfInBounds_toArray, List.set]
  refine wpAnyH_done (by kernel_rfl) ?_ _
  clear hHeld
  go_wp2_with fail
  refine (toIntS is _ _ _ (AI.out.below BW.out) LI.out).mono ?_
  rintro e u7b ⟨gy, rfl, RY, gye, gyl, hb⟩
  replace RY := hide RY
  clear gye gyl
  replace TA := hide (TA.out.below hb)
  replace MW := hide (MW.out.below hb)
  replace Y := hide (Y.out.below hb)
  replace MX := hide (MX.out.below hb)
  replace X := hide (X.out.below hb)
  replace MG := hide (MG.out.below hb)
  replace G := hide (G.out.below hb)
  replace RX := hide (RX.out.below hb)
  replace BW := hide (BW.out.trans (hb.mono BW.out.size))
  clear hb
  go_wp2_with fail
  refine (eqIntS is is _ _ _ _ _ RX.out.row RY.out.row).mono ?_
  rintro e u7c ⟨rfl, hb⟩
  rw [decide_eq_true (rfl : is = is)]
  clear RY
  replace TA := hide (TA.out.below hb)
  replace MW := hide (MW.out.below hb)
  replace Y := hide (Y.out.below hb)
  replace MX := hide (MX.out.below hb)
  replace X := hide (X.out.below hb)
  replace MG := hide (MG.out.below hb)
  replace G := hide (G.out.below hb)
  replace RX := hide (RX.out.below hb)
  replace BW := hide (BW.out.trans (hb.mono BW.out.size))
  clear hb
  have x0 := X.out.cell 0 _ rfl
  have x1 := X.out.cell 1 _ rfl
  have x2 := X.out.cell 2 _ rfl
  have x3 := X.out.cell 3 _ rfl
  have x4 := X.out.cell 4 _ rfl
  have x5 := X.out.cell 5 _ rfl
  have x6 := X.out.cell 6 _ rfl
  have x7 := X.out.cell 7 _ rfl
  have x8 := X.out.cell 8 _ rfl
  have x9 := X.out.cell 9 _ rfl
  obtain ⟨tx, etx⟩ : ∃ tx, total ⟨regs, pc, mem, save, lets, waits, halt, ins, outs, count⟩ = tx := ⟨_, rfl⟩
  have txp : 0 ≤ tx := by rw [← etx]; exact total_pos _
  have ETX := hide etx
  have TXB : Hid (tx ≤ 10000000) := by have := HS.out; obtain ⟨q1, q2, q3, q4⟩ := this; show tx ≤ _; rw [← etx]; unfold total; simp only [] at *; omega
  clear etx
  go_wp2_with fail
  refine (markMchK _ 1 _ _ _ _ MX.out (by have := loX.out; have := X.out.lt; omega) (small_wide HS.out) (by omega) (by omega)).mono ?_
  rintro e u8 ⟨rfl, MXM, hk⟩
  rw [ETX.out]
  clear x0 x1 x2 x3 x4 x5 x6 x7 x8 x9
  clear MXM MX
  replace MW := hide (MW.out.keep hk (fun b h1 h2 h3 => by omega))
  replace Y := hide (Y.out.keep hk (by omega))
  replace MG := hide (MG.out.keep hk (fun b h1 h2 h3 => by have := NX.out; have := MXX.out; omega))
  replace G := hide (G.out.keep hk (by have := loG.out; have := NX.out; have := MXX.out; omega))
  replace RX := hide (row_keep RX.out hk (by have := NX.out; omega))
  replace TA := hide (TA.out.keep hk (by have := WW.out; have := TW.out; omega))
  replace BW := hide (BW.out.trans (hk.below BW.out.size (fun k h1 h2 => by have := WW.out; omega)))
  clear hk X
  go_wp2_with fail
  refine (markIntS (1 + tx) is gx _ _ RX.out (by omega) (by have := TXB.out; omega) (by have := LI.out; omega)).mono ?_
  rintro e u8b ⟨rfl, RM9, ht⟩
  have hk := Keep.of_turn ht
  replace MW := hide (MW.out.keep hk (fun b h1 h2 (h3 : b = _) => by have := NX.out; have := loX.out; omega))
  replace Y := hide (Y.out.keep hk (by show ¬ (_ = _); have := NX.out; have := loX.out; omega))
  replace MG := hide (MG.out.keep hk (fun b h1 h2 (h3 : b = _) => by have := NX.out; have := MXX.out; omega))
  replace G := hide (G.out.keep hk (by show ¬ (_ = _); have := loG.out; have := NX.out; have := MXX.out; omega))
  replace TA := hide (TA.out.keep hk (by show ¬ (_ = _); have := WW.out; have := TW.out; have := NX.out; have := loX.out; omega))
  replace BW := hide (BW.out.trans (hk.below BW.out.size (fun k h1 (h2 : k = _) => by have := WW.out; have := NX.out; have := loX.out; omega)))
  clear hk ht RM9 RX
  have pk : ¬ (1 + tx + (is.length : Int)) < 0 := by omega
  have y0 := Y.out.cell 0 _ rfl
  have y1 := Y.out.cell 1 _ rfl
  have y2 := Y.out.cell 2 _ rfl
  have y3 := Y.out.cell 3 _ rfl
  have y4 := Y.out.cell 4 _ rfl
  have y5 := Y.out.cell 5 _ rfl
  have y6 := Y.out.cell 6 _ rfl
  have y7 := Y.out.cell 7 _ rfl
  have y8 := Y.out.cell 8 _ rfl
  have y9 := Y.out.cell 9 _ rfl
  have z0 := G.out.cell 0 _ rfl
  have z1 := G.out.cell 1 _ rfl
  have z2 := G.out.cell 2 _ rfl
  have z3 := G.out.cell 3 _ rfl
  have z4 := G.out.cell 4 _ rfl
  have z5 := G.out.cell 5 _ rfl
  have z6 := G.out.cell 6 _ rfl
  have z7 := G.out.cell 7 _ rfl
  have z8 := G.out.cell 8 _ rfl
  have z9 := G.out.cell 9 _ rfl
  go_wp2_with fail
  refine (eqMch m _ _ _ MG.out.write.read MW.out.write.read).mono ?_
  rintro e u9 ⟨rfl, hb⟩
  clear y0 y1 y2 y3 y4 y5 y6 y7 y8 y9 z0 z1 z2 z3 z4 z5 z6 z7 z8 z9
  replace TA := hide (TA.out.below hb)
  replace MW := hide (MW.out.below hb)
  replace Y := hide (Y.out.below hb)
  replace MG := hide (MG.out.below hb)
  replace G := hide (G.out.below hb)
  replace BW := hide (BW.out.trans (hb.mono BW.out.size))
  clear hb
  clear ETX
  have z0 := G.out.cell 0 _ rfl
  have z1 := G.out.cell 1 _ rfl
  have z2 := G.out.cell 2 _ rfl
  have z3 := G.out.cell 3 _ rfl
  have z4 := G.out.cell 4 _ rfl
  have z5 := G.out.cell 5 _ rfl
  have z6 := G.out.cell 6 _ rfl
  have z7 := G.out.cell 7 _ rfl
  have z8 := G.out.cell 8 _ rfl
  have z9 := G.out.cell 9 _ rfl
  go_wp2_with fail
  refine (markMchK m 1 _ _ _ _ MG.out (by have := loG.out; have := G.out.lt; omega) SM.out (by omega) (by omega)).mono ?_
  rintro e u15 ⟨rfl, MQ, hk⟩
  clear z0 z1 z2 z3 z4 z5 z6 z7 z8 z9
  clear MG
  replace MW := hide (MW.out.keep hk (fun b h1 h2 h3 => by have := loX.out; have := NX.out; have := MXX.out; omega))
  replace Y := hide (Y.out.keep hk (by have := loX.out; have := NX.out; have := MXX.out; omega))
  replace G := hide (G.out.keep hk (by omega))
  replace TA := hide (TA.out.keep hk (by have := WW.out; have := TW.out; have := loX.out; have := NX.out; have := MXX.out; omega))
  replace BW := hide (BW.out.trans (hk.below BW.out.size (fun k h1 h2 => by have := WW.out; have := loX.out; have := NX.out; have := MXX.out; omega)))
  replace MQ := hide MQ
  clear hk
  obtain ⟨tt, et⟩ : ∃ tt, total m = tt := ⟨_, rfl⟩
  have tp : 0 ≤ tt := by rw [← et]; exact total_pos m
  have ET := hide et
  rw [et]
  clear et
  have pt : ¬ (1 + tt) < 0 := by omega
  have pn : ((1 + tt) != (1 + tt)) = false := by simp
  have z0 := G.out.cell 0 _ rfl
  have z1 := G.out.cell 1 _ rfl
  have z2 := G.out.cell 2 _ rfl
  have z3 := G.out.cell 3 _ rfl
  have z4 := G.out.cell 4 _ rfl
  have z5 := G.out.cell 5 _ rfl
  have z6 := G.out.cell 6 _ rfl
  have z7 := G.out.cell 7 _ rfl
  have z8 := G.out.cell 8 _ rfl
  have z9 := G.out.cell 9 _ rfl
  go_wp2_with fail
  refine (heldMch m 1 _ _ MQ.out.read SM.out (by omega) (by omega)).mono ?_
  rintro e u16 ⟨rfl, hb⟩
  rw [ET.out]
  clear z0 z1 z2 z3 z4 z5 z6 z7 z8 z9
  replace TA := hide (TA.out.below hb)
  replace MW := hide (MW.out.below hb)
  replace Y := hide (Y.out.below hb)
  replace MQ := hide (MQ.out.below hb)
  replace G := hide (G.out.below hb)
  replace BW := hide (BW.out.trans (hb.mono BW.out.size))
  clear hb
  have ta0 := TA.out.cell 0 _ rfl
  have ta1 := TA.out.cell 1 _ rfl
  have ta2 := TA.out.cell 2 _ rfl
  have ta3 := TA.out.cell 3 _ rfl
  have ta4 := TA.out.cell 4 _ rfl
  have ta5 := TA.out.cell 5 _ rfl
  have ta6 := TA.out.cell 6 _ rfl
  have ta7 := TA.out.cell 7 _ rfl
  have ta8 := TA.out.cell 8 _ rfl
  have ta9 := TA.out.cell 9 _ rfl
  go_wp2_with fail
  refine (toMch _ _ _ (RM.out.below BW.out) HS.out).mono ?_
  rintro e u17 ⟨c17, rfl, M17, hb⟩
  clear ta0 ta1 ta2 ta3 ta4 ta5 ta6 ta7 ta8 ta9
  replace M17 := hide M17
  replace MW := hide (MW.out.below hb)
  replace Y := hide (Y.out.below hb)
  replace MQ := hide (MQ.out.below hb)
  replace G := hide (G.out.below hb)
  replace BW := hide (BW.out.trans (hb.mono BW.out.size))
  clear hb
  clear TA
  go_wp2_with fail
  refine (toIntS is _ _ _ (AI.out.below BW.out) LI.out).mono ?_
  rintro e u17b ⟨gz, rfl, RZ, gze, gzl, hb⟩
  replace RZ := hide RZ
  replace M17 := hide (M17.out.bound.below hb).write
  clear gze gzl
  replace MW := hide (MW.out.below hb)
  replace Y := hide (Y.out.below hb)
  replace MQ := hide (MQ.out.below hb)
  replace G := hide (G.out.below hb)
  replace BW := hide (BW.out.trans (hb.mono BW.out.size))
  clear hb
  go_wp2_with fail
  refine (MchI.mchRun _ is a2 _ _ gz _ M17.out.read RZ.out.row HM.out).mono ?_
  rintro e u18 ⟨ch, rfl, MH, hb⟩
  rw [EM.out] at MH
  clear M17 RZ
  replace MH := MH.bound
  obtain ⟨hq1, hq2, hq3, hq4, hn1, hn2, hn3, hn4, hk1, hk2, hk3, hk4, rfl⟩ := ten_forms MH
  simp only [mv] at MH ⊢
  replace MH := hide MH
  replace BW := hide (BW.out.trans (hb.mono BW.out.size))
  replace MW := hide (MW.out.below hb)
  replace Y := hide (Y.out.below hb)
  replace MQ := hide (MQ.out.below hb)
  replace G := hide (G.out.below hb)
  clear hb
  have bX : Below u18.heap.size u18 (u18.alloc (.cells #[.slice hq1 hn1 hk1, .int .i64 m.pc, .slice hq2 hn2 hk2, .int .i64 m.save, .bool m.lets, .bool m.waits, .int .i64 m.halt, .slice hq3 hn3 hk3, .slice hq4 hn4 hk4, .int .i64 m.count] 26)) := (Below.refl _ _).alloc (Nat.le_refl _) _
  have H := hide (Rec.new u18 [.slice hq1 hn1 hk1, .int .i64 m.pc, .slice hq2 hn2 hk2, .int .i64 m.save, .bool m.lets, .bool m.waits, .int .i64 m.halt, .slice hq3 hn3 hk3, .slice hq4 hn4 hk4, .int .i64 m.count] 26)
  have szH : Hid ((u18.alloc (.cells #[.slice hq1 hn1 hk1, .int .i64 m.pc, .slice hq2 hn2 hk2, .int .i64 m.save, .bool m.lets, .bool m.waits, .int .i64 m.halt, .slice hq3 hn3 hk3, .slice hq4 hn4 hk4, .int .i64 m.count] 26)).heap.size = u18.heap.size + 1) := show _ = _ by simp
  replace BW := hide (BW.out.trans (bX.mono BW.out.size))
  replace MW := hide (MW.out.below bX)
  replace Y := hide (Y.out.below bX)
  replace MQ := hide (MQ.out.below bX)
  replace G := hide (G.out.below bX)
  replace MH := hide (MH.out.below bX)
  clear bX
  have y0 := Y.out.cell 0 _ rfl
  have y1 := Y.out.cell 1 _ rfl
  have y2 := Y.out.cell 2 _ rfl
  have y3 := Y.out.cell 3 _ rfl
  have y4 := Y.out.cell 4 _ rfl
  have y5 := Y.out.cell 5 _ rfl
  have y6 := Y.out.cell 6 _ rfl
  have y7 := Y.out.cell 7 _ rfl
  have y8 := Y.out.cell 8 _ rfl
  have y9 := Y.out.cell 9 _ rfl
  have z0 := H.out.cell 0 _ rfl
  have z1 := H.out.cell 1 _ rfl
  have z2 := H.out.cell 2 _ rfl
  have z3 := H.out.cell 3 _ rfl
  have z4 := H.out.cell 4 _ rfl
  have z5 := H.out.cell 5 _ rfl
  have z6 := H.out.cell 6 _ rfl
  have z7 := H.out.cell 7 _ rfl
  have z8 := H.out.cell 8 _ rfl
  have z9 := H.out.cell 9 _ rfl
  go_wp2_with fail
  refine (eqMch m _ _ _ MH.out.write.read MW.out.write.read).mono ?_
  rintro e u20 ⟨rfl, hb⟩
  clear y0 y1 y2 y3 y4 y5 y6 y7 y8 y9 z0 z1 z2 z3 z4 z5 z6 z7 z8 z9
  clear MH H MW Y
  replace MQ := hide (MQ.out.below hb)
  replace G := hide (G.out.below hb)
  replace BW := hide (BW.out.trans (hb.mono BW.out.size))
  clear hb
  have z0 := G.out.cell 0 _ rfl
  have z1 := G.out.cell 1 _ rfl
  have z2 := G.out.cell 2 _ rfl
  have z3 := G.out.cell 3 _ rfl
  have z4 := G.out.cell 4 _ rfl
  have z5 := G.out.cell 5 _ rfl
  have z6 := G.out.cell 6 _ rfl
  have z7 := G.out.cell 7 _ rfl
  have z8 := G.out.cell 8 _ rfl
  have z9 := G.out.cell 9 _ rfl
  go_wp2_with fail
  refine (heldMch m 1 _ _ MQ.out.read SM.out (by omega) (by omega)).mono ?_
  rintro e u21 ⟨rfl, hb⟩
  rw [ET.out]
  clear z0 z1 z2 z3 z4 z5 z6 z7 z8 z9
  clear MQ G
  replace BW := hide (BW.out.trans (hb.mono BW.out.size))
  clear hb
  go_wp2
  go_ret
  exact ⟨rfl, BW.out⟩

set_option maxRecDepth 100000 in
theorem lifted (os : Os) (started : os.Started) (H : Type) (enc : TypeId × Value → H) :
    ReturnsInHanded {} Tryz.checked os 3 .any (Rows.fnExactMchRunSpec.pre6 enc Tryz.prog Tryz.f3 Rows.fnExactMchRunRow.domain false) (Rows.fnExactMchRunSpec.post enc Tryz.prog Tryz.f3 false true false false) := by
  refine returnsInHanded_of_change (C := Tryz.checked) own started (by kernel_rfl) Tryz.func3
    (ChangeSpec.witness6 (enc := enc) (C := Tryz.checked) false ⟨#[], #[.agg #[.slice none 0 0, .int .i64 0, .slice none 0 0, .int .i64 0, .bool false, .bool false, .int .i64 0, .slice none 0 0, .slice none 0 0, .int .i64 0], .slice none 0 0, .int .i64 0], []⟩ 8 (by kernel_rfl) (by kernel_rfl) (by kernel_rfl) (by kernel_rfl)) ?_
  intro W base args ds gs before hval0 hW hcnd hsz0
  have hval : ∀ (j : Nat) t v, Tryz.f3.params[j]? = some t → args[j]? = some v → Value.okWide Tryz.prog W .any base t v := hval0
  have hW' := hW
  obtain ⟨p, q, hA0, hV, rfl, hfz, hnd⟩ := hW
  have hA : DataW.TrodAll enc Tryz.prog W 0 (fun _ => true) true Tryz.f3.params.toList args.toList ds p := hA0
  rw [Tryz.params3] at hA hval
  obtain ⟨v0, vs0, d0, ds0, p0, q0, hargs, rfl, rfl, h0, r0⟩ := trodAll_cons hA
  obtain ⟨v1, vs1, d1, ds1, p1, q1, rfl, rfl, rfl, h1, r1⟩ := trodAll_cons r0
  obtain ⟨v2, vs2, d2, ds2, p2, q2, rfl, rfl, rfl, h2, r2⟩ := trodAll_cons r1
  obtain ⟨rfl, rfl, rfl⟩ := trodAll_nil r2
  obtain rfl : args = #[v0, v1, v2] := by cases args; simp_all
  obtain ⟨rfl, rfl⟩ := trodVars_none hV
  have k0 := h0
  have lt0 : ∀ x ∈ p0, x.block < W.heap.size := by obtain ⟨m, hm⟩ := k0; exact DataW.trod_lt m _ _ _ hm
  obtain ⟨a0, rfl, _⟩ := okWide_struct Tryz.underlying24 (hval 0 24 v0 rfl rfl)
  have w0 : Shape.Holds Tryz.prog W 9 24 a0.toList := Shape.opened 9 h0
  have k1 := h1
  have lt1 : ∀ x ∈ p1, x.block < W.heap.size := by obtain ⟨m, hm⟩ := k1; exact DataW.trod_lt m _ _ _ hm
  obtain ⟨a1, len1, cap1, rfl⟩ := okWide_slice Tryz.underlying22 (hval 1 22 v1 rfl rfl)
  have w1 : Shape.Holds Tryz.prog W 9 22 [.slice a1 len1 cap1] := Shape.opened 9 h1
  have k2 := h2
  have lt2 : ∀ x ∈ p2, x.block < W.heap.size := by obtain ⟨m, hm⟩ := k2; exact DataW.trod_lt m _ _ _ hm
  obtain ⟨a2, rfl, rfl, rfl, w2⟩ := open_int Tryz.underlying3 (hval 2 3 v2 rfl rfl) h2
  clear hA0 hval0
  refine (walk a0 a1 len1 cap1 a2 w2 W w0 w1).mono fun e W' ⟨he, hnx⟩ => ?_
  subst he
  exact ⟨_, rfl, _, _, _, [], _, [], hW', trodAll_cons_mk (shut_bool Tryz.underlying4 _) trodAll_mk0, (trodAll_cons_mk (Below.trod laidOut (by kernel_rfl) (of_decide_eq_true (by kernel_rfl)) k0 hnx lt0) (trodAll_cons_mk (Below.trod laidOut (by kernel_rfl) (of_decide_eq_true (by kernel_rfl)) k1 hnx lt1) (trodAll_cons_mk (Below.trod laidOut (by kernel_rfl) (of_decide_eq_true (by kernel_rfl)) k2 hnx lt2) trodAll_mk0))), rfl, hnx.frame _, fun h => by cases h⟩

theorem over : Rows.fnExactMchRunRow.holds Tryz.pinned (OpenSpec.ofChange Rows.fnExactMchRunSpec) :=
  OpenClaim.holds_of_wide 3 Tryz.f3 rfl rfl rfl rfl rfl rfl rfl ⟨rfl, rfl, rfl, rfl, rfl⟩ rfl rfl rfl rfl rfl (by kernel_rfl) Tryz.func3 (by kernel_rfl)
    (of_decide_eq_true (by kernel_rfl)) (by unfold Func.isWrapper; first | (rw [if_pos (by decide +kernel)]; kernel_rfl) | (rw [if_neg (by decide +kernel)]; exact ⟨rfl, rfl⟩))
    (fun os started H enc _ => lifted os started H enc)

theorem proved : Rows.FnExactMchRunSaid := over
#print axioms proved
end Go.Proofs.YtigaijoajbjcpaaGreat.fnExactMchRun
