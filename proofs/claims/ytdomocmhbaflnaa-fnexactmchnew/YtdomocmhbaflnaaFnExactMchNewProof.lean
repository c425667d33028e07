/-
  At every two lists of ints the program's MchNew answers as the specification's MchNew does, every field; it writes into neither list, and its answer owns its memory (the law FnExactMchNew returns true); no condition.
  The frame (lifted, over, proved) is written by my own program after the guide's worked texts; the walk and the lemmas ahead of it are mine.
-/
import Derived.Test.YtdomocmhbaflnaaRows
import Derived.Test.YtdomocmhbaflnaaShape
import Derived.Test.YtdomocmhbaflnaaMchH
import Derived.Test.YtdomocmhbaflnaaMchO
import Derived.Test.YtdomocmhbaflnaaMchK
import Derived.WalkKit
import Derived.ProofKit
import Derived.OpenShut
import Derived.ShutString
import Derived.ChangeOld
import Derived.Below
import Derived.SizedLaws
namespace Go.Proofs.Ytdomocmhbaflnaa.fnExactMchNew
open Go.ChangeShapes Go.WideShapes Go.ChangeAt Go.RowKit
open Go.ChangeMaps (open_string shut_string)
set_option linter.unusedVariables false

theorem own : ownKnob Try.prog.godebug = none := by kernel_rfl
theorem laidOut : laidOutB Try.prog = true := by kernel_rfl

open IntS Mch
theorem small_new {ws is : List Int} (h : is.length ≤ 1048576) : Small (newOf ws is) := by
  unfold newOf
  split
  · rename_i h2
    simp only [Bool.and_eq_true, decide_eq_true_eq] at h2
    refine ⟨by simp [newM], ?_, by simpa [newM] using h, by simp [newM]⟩
    simp [newM]
    omega
  · exact ⟨by simp [emptyM], by simp [emptyM], by simp [emptyM], by simp [emptyM]⟩
theorem total_pos (m : M) : 0 ≤ total m := by unfold total; omega
theorem keep_turn {B : Nat} {w w' : World} (h : Turn B w w') : Keep (fun k => k = B) w w' := ⟨h.os, h.tape, h.output, h.size, fun k hk hn => h.block k hk hn⟩
theorem len_of {w : World} {B : Nat} {a : Option Addr} {n cap : Nat} {xs : List Int} (h : Row w B (.slice a n cap) xs) : n = xs.length := by
  obtain ⟨x, j, o, e, _⟩ := h
  cases e
  rfl
theorem ten_forms {w : World} {lo hi : Nat} {c : List Value} {m : M} (h : BMach w lo hi c m) : ∃ q1 q2 q3 q4 n1 n2 n3 n4 k1 k2 k3 k4, c = mv m (.slice q1 n1 k1) (.slice q2 n2 k2) (.slice q3 n3 k3) (.slice q4 n4 k4) := by
  obtain ⟨r, e, i, o, b1, b2, b3, b4, hc, h1, h2, h3, h4, _⟩ := h
  obtain ⟨q1, k1, _, rfl, _⟩ := h1
  obtain ⟨q2, k2, _, rfl, _⟩ := h2
  obtain ⟨q3, k3, _, rfl, _⟩ := h3
  obtain ⟨q4, k4, _, rfl, _⟩ := h4
  exact ⟨q1, q2, q3, q4, _, _, _, _, k1, k2, k3, k4, hc⟩

set_option maxRecDepth 8000 in
set_option maxHeartbeats 8000000 in
theorem walk (a0 : Option Addr) (len0 cap0 : Nat) (a1 : Option Addr) (len1 cap1 : Nat) (w : World) (w0 : Shape.Holds Try.prog w 9 22 [.slice a0 len0 cap0]) (w1 : Shape.Holds Try.prog w 9 22 [.slice a1 len1 cap1])  :
    Calls Try.prog 4 #[.slice a0 len0 cap0, .slice a1 len1 cap1] w fun e w' => e = .returned (.bool true) ∧ Below w.heap.size w w' := by
  obtain ⟨v0, ws, B0, hv0, A0⟩ := row_holds (n := 7) w0
  obtain ⟨v1, is, B1, hv1, A1⟩ := row_holds (n := 7) w1
  simp only [List.cons.injEq, and_true] at hv0 hv1
  subst hv0 hv1
  obtain rfl := len_of A0
  obtain rfl := len_of A1
  replace A0 := hide A0
  replace A1 := hide A1
  clear w0 w1
  by_cases l0 : ws.length ≤ 1048576
  case neg =>
    have t0 : (1048576 : Int) < ws.length := by omega
    clear l0
    go_enter Try.func4, Try.ntmps4
    go_wp2
    go_ret
    exact ⟨rfl, Below.refl _ _⟩
  have t0 : ¬ (1048576 : Int) < ws.length := by omega
  by_cases l1 : is.length ≤ 1048576
  case neg =>
    have t1 : (1048576 : Int) < is.length := by omega
    clear l1 l0
    go_enter Try.func4, Try.ntmps4
    go_wp2
    go_ret
    exact ⟨rfl, Below.refl _ _⟩
  have t1 : ¬ (1048576 : Int) < is.length := by omega
  have SM := hide (small_new (ws := ws) l1)
  have L0 := hide l0
  have L1 := hide l1
  obtain ⟨m, em⟩ : ∃ m, newOf ws is = m := ⟨_, rfl⟩
  have EM := hide em
  rw [em] at SM
  clear l0 l1 em
  have BW := hide (Below.refl w.heap.size w)
  go_enter Try.func4, Try.ntmps4
  go_wp2_with fail
  refine (toIntS ws _ _ _ (A0.out.below BW.out) L0.out).mono ?_
  rintro e u1 ⟨g1, rfl, R1, ge1, gl1, hb⟩
  replace R1 := hide R1
  replace BW := hide (BW.out.trans (hb.mono BW.out.size))
  clear hb
  go_wp2_with fail
  refine (toIntS is _ _ _ (A1.out.below BW.out) L1.out).mono ?_
  rintro e u2 ⟨g2, rfl, R2, ge2, gl2, hb⟩
  replace R2 := hide R2
  replace R1 := hide (R1.out.below hb)
  replace BW := hide (BW.out.trans (hb.mono BW.out.size))
  clear hb
  go_wp2_with fail
  refine (specNew ws is g1 g2 _ _ _ R1.out.row R2.out.row (by have := L1.out; omega)).mono ?_
  rintro e u3 ⟨cw, rfl, MW, hb⟩
  rw [EM.out] at MW
  have loW : Hid (u2.heap.size ≤ u3.heap.size) := hb.size
  replace MW := MW.bound
  obtain ⟨pq1, pq2, pq3, pq4, pn1, pn2, pn3, pn4, pk1, pk2, pk3, pk4, rfl⟩ := ten_forms MW
  simp only [mv] at MW ⊢
  replace MW := hide MW
  replace BW := hide (BW.out.trans (hb.mono BW.out.size))
  clear hb
  have bX : Below u3.heap.size u3 (u3.alloc (.cells #[.slice pq1 pn1 pk1, .int .i64 m.pc, .slice pq2 pn2 pk2, .int .i64 m.save, .bool m.lets, .bool m.waits, .int .i64 m.halt, .slice pq3 pn3 pk3, .slice pq4 pn4 pk4, .int .i64 m.count] 27)) := (Below.refl _ _).alloc (Nat.le_refl _) _
  have Y := hide (Rec.new u3 [.slice pq1 pn1 pk1, .int .i64 m.pc, .slice pq2 pn2 pk2, .int .i64 m.save, .bool m.lets, .bool m.waits, .int .i64 m.halt, .slice pq3 pn3 pk3, .slice pq4 pn4 pk4, .int .i64 m.count] 27)
  have szY : Hid ((u3.alloc (.cells #[.slice pq1 pn1 pk1, .int .i64 m.pc, .slice pq2 pn2 pk2, .int .i64 m.save, .bool m.lets, .bool m.waits, .int .i64 m.halt, .slice pq3 pn3 pk3, .slice pq4 pn4 pk4, .int .i64 m.count] 27)).heap.size = u3.heap.size + 1) := show _ = _ by simp
  replace BW := hide (BW.out.trans (bX.mono BW.out.size))
  replace MW := hide (MW.out.below bX)
  clear bX
  have WW : Hid (w.heap.size ≤ u3.heap.size + 1) := by have := BW.out.size; rw [szY.out] at this; exact this
  clear R1 R2 ge1 gl1 ge2 gl2
  go_wp2_with fail
  refine (toIntS ws _ _ _ (A0.out.below BW.out) L0.out).mono ?_
  rintro e u4 ⟨g4, rfl, R4, ge4, gl4, hb⟩
  replace R4 := hide R4
  have N4 : Hid (u3.heap.size < g4) := Nat.lt_of_lt_of_le (by rw [szY.out]; omega) ge4
  have M4 : Hid (g4 < u4.heap.size) := gl4
  clear ge4 gl4
  replace MW := hide (MW.out.below hb)
  replace Y := hide (Y.out.below hb)
  replace BW := hide (BW.out.trans (hb.mono BW.out.size))
  clear hb
  go_wp2_with fail
  refine (toIntS is _ _ _ (A1.out.below BW.out) L1.out).mono ?_
  rintro e u5 ⟨g5, rfl, R5, ge5, gl5, hb⟩
  replace R5 := hide R5
  have N5 : Hid (g4 < g5) := Nat.lt_of_lt_of_le M4.out ge5
  have M5 : Hid (g5 < u5.heap.size) := gl5
  clear ge5 gl5
  replace MW := hide (MW.out.below hb)
  replace Y := hide (Y.out.below hb)
  replace R4 := hide (R4.out.below hb)
  replace BW := hide (BW.out.trans (hb.mono BW.out.size))
  clear hb
  go_wp2_with fail
  refine (MchI.mchNew ws is g4 g5 _ _ _ R4.out.row R5.out.row (by have := L1.out; omega)).mono ?_
  rintro e u6 ⟨cg, rfl, MG, hb⟩
  rw [EM.out] at MG
  have lo6 : Hid (u5.heap.size ≤ u6.heap.size) := hb.size
  replace MG := MG.bound
  obtain ⟨gq1, gq2, gq3, gq4, gn1, gn2, gn3, gn4, gk1, gk2, gk3, gk4, rfl⟩ := ten_forms MG
  simp only [mv] at MG ⊢
  replace MG := hide MG
  replace BW := hide (BW.out.trans (hb.mono BW.out.size))
  replace MW := hide (MW.out.below hb)
  replace Y := hide (Y.out.below hb)
  replace R4 := hide (R4.out.below hb)
  replace R5 := hide (R5.out.below hb)
  clear hb
  have bX : Below u6.heap.size u6 (u6.alloc (.cells #[.slice gq1 gn1 gk1, .int .i64 m.pc, .slice gq2 gn2 gk2, .int .i64 m.save, .bool m.lets, .bool m.waits, .int .i64 m.halt, .slice gq3 gn3 gk3, .slice gq4 gn4 gk4, .int .i64 m.count] 27)) := (Below.refl _ _).alloc (Nat.le_refl _) _
  have G := hide (Rec.new u6 [.slice gq1 gn1 gk1, .int .i64 m.pc, .slice gq2 gn2 gk2, .int .i64 m.save, .bool m.lets, .bool m.waits, .int .i64 m.halt, .slice gq3 gn3 gk3, .slice gq4 gn4 gk4, .int .i64 m.count] 27)
  have szG : Hid ((u6.alloc (.cells #[.slice gq1 gn1 gk1, .int .i64 m.pc, .slice gq2 gn2 gk2, .int .i64 m.save, .bool m.lets, .bool m.waits, .int .i64 m.halt, .slice gq3 gn3 gk3, .slice gq4 gn4 gk4, .int .i64 m.count] 27)).heap.size = u6.heap.size + 1) := show _ = _ by simp
  replace BW := hide (BW.out.trans (bX.mono BW.out.size))
  replace MW := hide (MW.out.below bX)
  replace Y := hide (Y.out.below bX)
  replace R4 := hide (R4.out.below bX)
  replace R5 := hide (R5.out.below bX)
  replace MG := hide (MG.out.below bX)
  clear bX
  have y0 := Y.out.cell 0 _ rfl
  have y1 := Y.out.cell 1 _ rfl
  have y2 := Y.out.cell 2 _ rfl
  have y3 := Y.out.cell 3 _ rfl
  have y4 := Y.out.cell 4 _ rfl
  have y5 := Y.out.cell 5 _ rfl
  have y6 := Y.out.cell 6 _ rfl
  have y7 := Y.out.cell 7 _ rfl
  have y8 := Y.out.cell 8 _ rfl
  have y9 := Y.out.cell 9 _ rfl
  have x0 := G.out.cell 0 _ rfl
  have x1 := G.out.cell 1 _ rfl
  have x2 := G.out.cell 2 _ rfl
  have x3 := G.out.cell 3 _ rfl
  have x4 := G.out.cell 4 _ rfl
  have x5 := G.out.cell 5 _ rfl
  have x6 := G.out.cell 6 _ rfl
  have x7 := G.out.cell 7 _ rfl
  have x8 := G.out.cell 8 _ rfl
  have x9 := G.out.cell 9 _ rfl
  go_wp2_with fail
  refine (eqMch m _ _ _ MG.out.write.read MW.out.write.read).mono ?_
  rintro e u7 ⟨rfl, hb⟩
  clear y0 y1 y2 y3 y4 y5 y6 y7 y8 y9 x0 x1 x2 x3 x4 x5 x6 x7 x8 x9
  replace MW := hide (MW.out.below hb)
  replace Y := hide (Y.out.below hb)
  replace R4 := hide (R4.out.below hb)
  replace R5 := hide (R5.out.below hb)
  replace MG := hide (MG.out.below hb)
  replace G := hide (G.out.below hb)
  replace BW := hide (BW.out.trans (hb.mono BW.out.size))
  clear hb
  go_wp2_with fail
  refine (toIntS ws _ _ _ (A0.out.below BW.out) L0.out).mono ?_
  rintro e u8 ⟨g8, rfl, R8, ge8, gl8, hb⟩
  replace R8 := hide R8
  clear ge8 gl8
  replace MW := hide (MW.out.below hb)
  replace Y := hide (Y.out.below hb)
  replace R4 := hide (R4.out.below hb)
  replace R5 := hide (R5.out.below hb)
  replace MG := hide (MG.out.below hb)
  replace G := hide (G.out.below hb)
  replace BW := hide (BW.out.trans (hb.mono BW.out.size))
  clear hb
  go_wp2_with fail
  refine (eqIntS ws ws _ _ _ _ _ R4.out.row R8.out.row).mono ?_
  rintro e u9 ⟨rfl, hb⟩
  rw [decide_eq_true (rfl : ws = ws)]
  clear R8
  replace MW := hide (MW.out.below hb)
  replace Y := hide (Y.out.below hb)
  replace R4 := hide (R4.out.below hb)
  replace R5 := hide (R5.out.below hb)
  replace MG := hide (MG.out.below hb)
  replace G := hide (G.out.below hb)
  replace BW := hide (BW.out.trans (hb.mono BW.out.size))
  clear hb
  go_wp2_with fail
  refine (toIntS is _ _ _ (A1.out.below BW.out) L1.out).mono ?_
  rintro e u10 ⟨g10, rfl, R10, ge10, gl10, hb⟩
  replace R10 := hide R10
  clear ge10 gl10
  replace MW := hide (MW.out.below hb)
  replace Y := hide (Y.out.below hb)
  replace R4 := hide (R4.out.below hb)
  replace R5 := hide (R5.out.below hb)
  replace MG := hide (MG.out.below hb)
  replace G := hide (G.out.below hb)
  replace BW := hide (BW.out.trans (hb.mono BW.out.size))
  clear hb
  go_wp2_with fail
  refine (eqIntS is is _ _ _ _ _ R5.out.row R10.out.row).mono ?_
  rintro e u11 ⟨rfl, hb⟩
  rw [decide_eq_true (rfl : is = is)]
  clear R10
  replace MW := hide (MW.out.below hb)
  replace Y := hide (Y.out.below hb)
  replace R4 := hide (R4.out.below hb)
  replace R5 := hide (R5.out.below hb)
  replace MG := hide (MG.out.below hb)
  replace G := hide (G.out.below hb)
  replace BW := hide (BW.out.trans (hb.mono BW.out.size))
  clear hb
  go_wp2_with fail
  refine (markIntS 1 ws g4 _ _ R4.out (by omega) (by omega) (by have := L0.out; omega)).mono ?_
  rintro e u12 ⟨rfl, RM, ht⟩
  clear RM R4
  have hk := keep_turn ht
  replace MW := hide (MW.out.keep hk (fun b h1 h2 (h3 : b = _) => by have := N4.out; have := N5.out; have := M4.out; have := M5.out; omega))
  replace Y := hide (Y.out.keep hk (by show ¬ (_ = _); have := N4.out; have := N5.out; omega))
  replace MG := hide (MG.out.keep hk (fun b h1 h2 (h3 : b = _) => by have := N4.out; have := N5.out; have := M5.out; omega))
  replace G := hide (G.out.keep hk (by show ¬ (_ = _); have := N4.out; have := N5.out; have := M5.out; have := lo6.out; omega))
  replace R5 := hide (row_keep R5.out hk (by show ¬ (_ = _); have := N4.out; have := N5.out; omega))
  replace BW := hide (BW.out.trans (ht.below (by have := N4.out; have := N5.out; have := WW.out; omega) BW.out.size))
  clear hk ht
  go_wp2_with fail
  refine (markIntS (1 + (ws.length : Int)) is g5 _ _ R5.out (by omega) (by have := L0.out; omega) (by have := L1.out; omega)).mono ?_
  rintro e u13 ⟨rfl, RM, ht⟩
  clear RM R5
  have hk := keep_turn ht
  replace MW := hide (MW.out.keep hk (fun b h1 h2 (h3 : b = _) => by have := N4.out; have := N5.out; have := M4.out; have := M5.out; omega))
  replace Y := hide (Y.out.keep hk (by show ¬ (_ = _); have := N4.out; have := N5.out; omega))
  replace MG := hide (MG.out.keep hk (fun b h1 h2 (h3 : b = _) => by have := N4.out; have := N5.out; have := M5.out; omega))
  replace G := hide (G.out.keep hk (by show ¬ (_ = _); have := N4.out; have := N5.out; have := M5.out; have := lo6.out; omega))
  replace BW := hide (BW.out.trans (ht.below (by have := N4.out; have := N5.out; have := WW.out; omega) BW.out.size))
  clear hk ht
  have pk : ¬ (1 + (ws.length : Int) + (is.length : Int)) < 0 := by omega
  have y0 := Y.out.cell 0 _ rfl
  have y1 := Y.out.cell 1 _ rfl
  have y2 := Y.out.cell 2 _ rfl
  have y3 := Y.out.cell 3 _ rfl
  have y4 := Y.out.cell 4 _ rfl
  have y5 := Y.out.cell 5 _ rfl
  have y6 := Y.out.cell 6 _ rfl
  have y7 := Y.out.cell 7 _ rfl
  have y8 := Y.out.cell 8 _ rfl
  have y9 := Y.out.cell 9 _ rfl
  have x0 := G.out.cell 0 _ rfl
  have x1 := G.out.cell 1 _ rfl
  have x2 := G.out.cell 2 _ rfl
  have x3 := G.out.cell 3 _ rfl
  have x4 := G.out.cell 4 _ rfl
  have x5 := G.out.cell 5 _ rfl
  have x6 := G.out.cell 6 _ rfl
  have x7 := G.out.cell 7 _ rfl
  have x8 := G.out.cell 8 _ rfl
  have x9 := G.out.cell 9 _ rfl
  go_wp2_with fail
  refine (eqMch m _ _ _ MG.out.write.read MW.out.write.read).mono ?_
  rintro e u14 ⟨rfl, hb⟩
  clear y0 y1 y2 y3 y4 y5 y6 y7 y8 y9 x0 x1 x2 x3 x4 x5 x6 x7 x8 x9
  replace MW := hide (MW.out.below hb)
  replace Y := hide (Y.out.below hb)
  replace MG := hide (MG.out.below hb)
  replace G := hide (G.out.below hb)
  replace BW := hide (BW.out.trans (hb.mono BW.out.size))
  clear hb
  clear pk
  have x0 := G.out.cell 0 _ rfl
  have x1 := G.out.cell 1 _ rfl
  have x2 := G.out.cell 2 _ rfl
  have x3 := G.out.cell 3 _ rfl
  have x4 := G.out.cell 4 _ rfl
  have x5 := G.out.cell 5 _ rfl
  have x6 := G.out.cell 6 _ rfl
  have x7 := G.out.cell 7 _ rfl
  have x8 := G.out.cell 8 _ rfl
  have x9 := G.out.cell 9 _ rfl
  go_wp2_with fail
  refine (markMchK m 1 _ _ _ _ MG.out (by have := lo6.out; have := G.out.lt; omega) SM.out (by omega) (by omega)).mono ?_
  rintro e u15 ⟨rfl, MM, hk⟩
  clear x0 x1 x2 x3 x4 x5 x6 x7 x8 x9
  clear MG
  replace MW := hide (MW.out.keep hk (fun b h1 h2 h3 => by have := N4.out; have := N5.out; have := M5.out; omega))
  replace Y := hide (Y.out.keep hk (by have := N4.out; have := N5.out; have := M5.out; omega))
  replace G := hide (G.out.keep hk (by omega))
  replace BW := hide (BW.out.trans (hk.below BW.out.size (fun k h1 h2 => by have := N4.out; have := N5.out; have := M5.out; have := WW.out; omega)))
  replace MM := hide MM
  clear hk
  obtain ⟨tt, et⟩ : ∃ tt, total m = tt := ⟨_, rfl⟩
  have tp : 0 ≤ tt := by rw [← et]; exact total_pos m
  have ET := hide et
  rw [et]
  clear et
  have pt : ¬ (1 + tt) < 0 := by omega
  have pn : ((1 + tt) != (1 + tt)) = false := by simp
  have x0 := G.out.cell 0 _ rfl
  have x1 := G.out.cell 1 _ rfl
  have x2 := G.out.cell 2 _ rfl
  have x3 := G.out.cell 3 _ rfl
  have x4 := G.out.cell 4 _ rfl
  have x5 := G.out.cell 5 _ rfl
  have x6 := G.out.cell 6 _ rfl
  have x7 := G.out.cell 7 _ rfl
  have x8 := G.out.cell 8 _ rfl
  have x9 := G.out.cell 9 _ rfl
  go_wp2_with fail
  refine (heldMch m 1 _ _ MM.out.read SM.out (by omega) (by omega)).mono ?_
  rintro e u16 ⟨rfl, hb⟩
  rw [ET.out]
  clear x0 x1 x2 x3 x4 x5 x6 x7 x8 x9
  replace MW := hide (MW.out.below hb)
  replace Y := hide (Y.out.below hb)
  replace MM := hide (MM.out.below hb)
  replace G := hide (G.out.below hb)
  replace BW := hide (BW.out.trans (hb.mono BW.out.size))
  clear hb
  go_wp2_with fail
  refine (toIntS ws _ _ _ (A0.out.below BW.out) L0.out).mono ?_
  rintro e u17 ⟨g17, rfl, R17, ge17, gl17, hb⟩
  replace R17 := hide R17
  clear ge17 gl17
  replace MW := hide (MW.out.below hb)
  replace Y := hide (Y.out.below hb)
  replace MM := hide (MM.out.below hb)
  replace G := hide (G.out.below hb)
  replace BW := hide (BW.out.trans (hb.mono BW.out.size))
  clear hb
  go_wp2_with fail
  refine (toIntS is _ _ _ (A1.out.below BW.out) L1.out).mono ?_
  rintro e u18 ⟨g18, rfl, R18, ge18, gl18, hb⟩
  replace R18 := hide R18
  clear ge18 gl18
  replace MW := hide (MW.out.below hb)
  replace Y := hide (Y.out.below hb)
  replace MM := hide (MM.out.below hb)
  replace G := hide (G.out.below hb)
  replace R17 := hide (R17.out.below hb)
  replace BW := hide (BW.out.trans (hb.mono BW.out.size))
  clear hb
  go_wp2_with fail
  refine (MchI.mchNew ws is g17 g18 _ _ _ R17.out.row R18.out.row (by have := L1.out; omega)).mono ?_
  rintro e u19 ⟨ch, rfl, MH, hb⟩
  rw [EM.out] at MH
  clear R17 R18
  replace MH := MH.bound
  obtain ⟨hq1, hq2, hq3, hq4, hn1, hn2, hn3, hn4, hk1, hk2, hk3, hk4, rfl⟩ := ten_forms MH
  simp only [mv] at MH ⊢
  replace MH := hide MH
  replace BW := hide (BW.out.trans (hb.mono BW.out.size))
  replace MW := hide (MW.out.below hb)
  replace Y := hide (Y.out.below hb)
  replace MM := hide (MM.out.below hb)
  replace G := hide (G.out.below hb)
  clear hb
  have bX : Below u19.heap.size u19 (u19.alloc (.cells #[.slice hq1 hn1 hk1, .int .i64 m.pc, .slice hq2 hn2 hk2, .int .i64 m.save, .bool m.lets, .bool m.waits, .int .i64 m.halt, .slice hq3 hn3 hk3, .slice hq4 hn4 hk4, .int .i64 m.count] 27)) := (Below.refl _ _).alloc (Nat.le_refl _) _
  have H := hide (Rec.new u19 [.slice hq1 hn1 hk1, .int .i64 m.pc, .slice hq2 hn2 hk2, .int .i64 m.save, .bool m.lets, .bool m.waits, .int .i64 m.halt, .slice hq3 hn3 hk3, .slice hq4 hn4 hk4, .int .i64 m.count] 27)
  have szH : Hid ((u19.alloc (.cells #[.slice hq1 hn1 hk1, .int .i64 m.pc, .slice hq2 hn2 hk2, .int .i64 m.save, .bool m.lets, .bool m.waits, .int .i64 m.halt, .slice hq3 hn3 hk3, .slice hq4 hn4 hk4, .int .i64 m.count] 27)).heap.size = u19.heap.size + 1) := show _ = _ by simp
  replace BW := hide (BW.out.trans (bX.mono BW.out.size))
  replace MW := hide (MW.out.below bX)
  replace Y := hide (Y.out.below bX)
  replace MM := hide (MM.out.below bX)
  replace G := hide (G.out.below bX)
  replace MH := hide (MH.out.below bX)
  clear bX
  have y0 := Y.out.cell 0 _ rfl
  have y1 := Y.out.cell 1 _ rfl
  have y2 := Y.out.cell 2 _ rfl
  have y3 := Y.out.cell 3 _ rfl
  have y4 := Y.out.cell 4 _ rfl
  have y5 := Y.out.cell 5 _ rfl
  have y6 := Y.out.cell 6 _ rfl
  have y7 := Y.out.cell 7 _ rfl
  have y8 := Y.out.cell 8 _ rfl
  have y9 := Y.out.cell 9 _ rfl
  have z0 := H.out.cell 0 _ rfl
  have z1 := H.out.cell 1 _ rfl
  have z2 := H.out.cell 2 _ rfl
  have z3 := H.out.cell 3 _ rfl
  have z4 := H.out.cell 4 _ rfl
  have z5 := H.out.cell 5 _ rfl
  have z6 := H.out.cell 6 _ rfl
  have z7 := H.out.cell 7 _ rfl
  have z8 := H.out.cell 8 _ rfl
  have z9 := H.out.cell 9 _ rfl
  go_wp2_with fail
  refine (eqMch m _ _ _ MH.out.write.read MW.out.write.read).mono ?_
  rintro e u20 ⟨rfl, hb⟩
  clear y0 y1 y2 y3 y4 y5 y6 y7 y8 y9 z0 z1 z2 z3 z4 z5 z6 z7 z8 z9
  clear MH H MW Y
  replace MM := hide (MM.out.below hb)
  replace G := hide (G.out.below hb)
  replace BW := hide (BW.out.trans (hb.mono BW.out.size))
  clear hb
  have x0 := G.out.cell 0 _ rfl
  have x1 := G.out.cell 1 _ rfl
  have x2 := G.out.cell 2 _ rfl
  have x3 := G.out.cell 3 _ rfl
  have x4 := G.out.cell 4 _ rfl
  have x5 := G.out.cell 5 _ rfl
  have x6 := G.out.cell 6 _ rfl
  have x7 := G.out.cell 7 _ rfl
  have x8 := G.out.cell 8 _ rfl
  have x9 := G.out.cell 9 _ rfl
  go_wp2_with fail
  refine (heldMch m 1 _ _ MM.out.read SM.out (by omega) (by omega)).mono ?_
  rintro e u21 ⟨rfl, hb⟩
  rw [ET.out]
  clear x0 x1 x2 x3 x4 x5 x6 x7 x8 x9
  clear MM G
  replace BW := hide (BW.out.trans (hb.mono BW.out.size))
  clear hb
  go_wp2
  go_ret
  exact ⟨rfl, BW.out⟩

set_option maxRecDepth 100000 in
theorem lifted (os : Os) (started : os.Started) (H : Type) (enc : TypeId × Value → H) :
    ReturnsInHanded {} Try.checked os 4 .any (Rows.fnExactMchNewSpec.pre6 enc Try.prog Try.f4 Rows.fnExactMchNewRow.domain false) (Rows.fnExactMchNewSpec.post enc Try.prog Try.f4 false true false false) := by
  refine returnsInHanded_of_change (C := Try.checked) own started (by kernel_rfl) Try.func4
    (ChangeSpec.witness6 (enc := enc) (C := Try.checked) false ⟨#[], #[.slice none 0 0, .slice none 0 0], []⟩ 8 (by kernel_rfl) (by kernel_rfl) (by kernel_rfl) (by kernel_rfl)) ?_
  intro W base args ds gs before hval0 hW hcnd hsz0
  have hval : ∀ (j : Nat) t v, Try.f4.params[j]? = some t → args[j]? = some v → Value.okWide Try.prog W .any base t v := hval0
  have hW' := hW
  obtain ⟨p, q, hA0, hV, rfl, hfz, hnd⟩ := hW
  have hA : DataW.TrodAll enc Try.prog W 0 (fun _ => true) true Try.f4.params.toList args.toList ds p := hA0
  rw [Try.params4] at hA hval
  obtain ⟨v0, vs0, d0, ds0, p0, q0, hargs, rfl, rfl, h0, r0⟩ := trodAll_cons hA
  obtain ⟨v1, vs1, d1, ds1, p1, q1, rfl, rfl, rfl, h1, r1⟩ := trodAll_cons r0
  obtain ⟨rfl, rfl, rfl⟩ := trodAll_nil r1
  obtain rfl : args = #[v0, v1] := by cases args; simp_all
  obtain ⟨rfl, rfl⟩ := trodVars_none hV
  have k0 := h0
  have lt0 : ∀ x ∈ p0, x.block < W.heap.size := by obtain ⟨m, hm⟩ := k0; exact DataW.trod_lt m _ _ _ hm
  obtain ⟨a0, len0, cap0, rfl⟩ := okWide_slice Try.underlying22 (hval 0 22 v0 rfl rfl)
  have w0 : Shape.Holds Try.prog W 9 22 [.slice a0 len0 cap0] := Shape.opened 9 h0
  have k1 := h1
  have lt1 : ∀ x ∈ p1, x.block < W.heap.size := by obtain ⟨m, hm⟩ := k1; exact DataW.trod_lt m _ _ _ hm
  obtain ⟨a1, len1, cap1, rfl⟩ := okWide_slice Try.underlying22 (hval 1 22 v1 rfl rfl)
  have w1 : Shape.Holds Try.prog W 9 22 [.slice a1 len1 cap1] := Shape.opened 9 h1
  clear hA0 hval0
  refine (walk a0 len0 cap0 a1 len1 cap1 W w0 w1).mono fun e W' ⟨he, hnx⟩ => ?_
  subst he
  exact ⟨_, rfl, _, _, _, [], _, [], hW', trodAll_cons_mk (shut_bool Try.underlying4 _) trodAll_mk0, (trodAll_cons_mk (Below.trod laidOut (by kernel_rfl) (of_decide_eq_true (by kernel_rfl)) k0 hnx lt0) (trodAll_cons_mk (Below.trod laidOut (by kernel_rfl) (of_decide_eq_true (by kernel_rfl)) k1 hnx lt1) trodAll_mk0)), rfl, hnx.frame _, fun h => by cases h⟩

theorem over : Rows.fnExactMchNewRow.holds Try.pinned (OpenSpec.ofChange Rows.fnExactMchNewSpec) :=
  OpenClaim.holds_of_wide 4 Try.f4 rfl rfl rfl rfl rfl rfl rfl ⟨rfl, rfl, rfl, rfl, rfl⟩ rfl rfl rfl rfl rfl (by kernel_rfl) Try.func4 (by kernel_rfl)
    (of_decide_eq_true (by kernel_rfl)) (by unfold Func.isWrapper; first | (rw [if_pos (by decide +kernel)]; kernel_rfl) | (rw [if_neg (by decide +kernel)]; exact ⟨rfl, rfl⟩))
    (fun os started H enc _ => lifted os started H enc)

theorem proved : Rows.FnExactMchNewSaid := over
#print axioms proved
end Go.Proofs.Ytdomocmhbaflnaa.fnExactMchNew
