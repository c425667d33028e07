/-
  Our own hand, the specification's l10Fold and OptConst.
-/
import Derived.Test.YtflhehofgplcoaaDoorOsA
namespace Go.Proofs.YtflhehofgplcoaaDoor.Op
set_option linter.unusedVariables false
set_option linter.unusedSimpArgs false
open Go.ChangeShapes Go.WideShapes Go.ChangeAt Go.RowKit IntS Flat Irk
open Ir Dt
open Mch (Rec)
set_option maxRecDepth 8000 in
set_option maxHeartbeats 8000000 in
theorem l10Fold2 (pc ln x y k : Int) (ops : List Opn) (q : Option Addr) (c B : Nat) (w : World) (h : ORow w B (.slice q ops.length c) ops) (p0 : 0 ≤ pc) (p1 : pc ≤ 64) (n0 : 0 ≤ ln) (n1 : ln ≤ 8) :
    Calls Tryd.prog 58 #[.agg #[.int .i64 pc, .int .i64 ln, .slice q ops.length c, .int .i64 2, .int .i64 x, .int .i64 y, .int .i64 k]] w fun e w' => e = .returned (.agg #[.int .i64 (foldB ⟨pc, ln, ops, 2, x, y, k⟩).pc, .int .i64 (foldB ⟨pc, ln, ops, 2, x, y, k⟩).ln, .slice q ops.length c, .int .i64 (foldB ⟨pc, ln, ops, 2, x, y, k⟩).en, .int .i64 (foldB ⟨pc, ln, ops, 2, x, y, k⟩).x, .int .i64 (foldB ⟨pc, ln, ops, 2, x, y, k⟩).y, .int .i64 (foldB ⟨pc, ln, ops, 2, x, y, k⟩).k]) ∧ Below w.heap.size w w' := by
  obtain ⟨r1, r2, b0⟩ := boxes w (.int .i64 pc) (.int .i64 ln) (.slice q ops.length c) (.int .i64 2) (.int .i64 x) (.int .i64 y) (.int .i64 k)
  have RA := hide r1
  have RZ := hide r2
  have BW := hide b0
  have HR := hide (h.below b0)
  clear r1 r2 b0 h
  cases ex : knownO ops x with
  | none =>
    have EX := hide ex
    cases ey : knownO ops y with
    | none =>
      have EY := hide ey
      have HF : foldK ⟨pc, ln, ops, 2, x, y, k⟩ = none := by
        unfold foldK
        simp only []
        rw [if_pos (by decide), ex]
      have HB : foldB ⟨pc, ln, ops, 2, x, y, k⟩ = ⟨pc, ln, ops, 2, x, y, k⟩ := by unfold foldB; rw [HF]
      rw [HB]
      simp only [goB]
      clear HF HB
      clear ex ey
      go_enter Tryd.func58, Tryd.ntmps58
      go_wp2_with fail
      generalize ((w.alloc (.cells #[.int .i64 pc, .int .i64 ln, .slice q ops.length c, .int .i64 2, .int .i64 x, .int .i64 y, .int .i64 k] 28)).alloc (.cells #[.int .i64 0, .int .i64 0, .slice none 0 0, .int .i64 0, .int .i64 0, .int .i64 0, .int .i64 0] 28)) = W0 at RA RZ BW HR ⊢
      have z0 := RA.out.cell 0 _ rfl
      have z1 := RA.out.cell 1 _ rfl
      have z2 := RA.out.cell 2 _ rfl
      have z3 := RA.out.cell 3 _ rfl
      have z4 := RA.out.cell 4 _ rfl
      have z5 := RA.out.cell 5 _ rfl
      have z6 := RA.out.cell 6 _ rfl
      refine (l10Known ops B _ x _ HR.out).mono ?_
      rintro e u1 ⟨rfl, rfl⟩
      rw [EX.out]
      simp only [Option.getD_some, Option.getD_none, Option.isSome_some, Option.isSome_none]
      go_wp2_with fail
      refine (l10Known ops B _ y _ HR.out).mono ?_
      rintro e u2 ⟨rfl, rfl⟩
      rw [EY.out]
      simp only [Option.getD_some, Option.getD_none, Option.isSome_some, Option.isSome_none]
      clear EX EY HR
      go_wp2_with (refine lay7 rfl rfl _ _ rfl (w.heap.size + 1) _ _ _ _ _ _ _ RZ.out rfl _ _ _ _ _ _ _ _ _ rfl ?_; intro p1 RB TB; refine Hid.out ?_)
      replace BW := hide (BW.out.trans (TB.out.below (by omega) BW.out.size))
      clear TB RZ RA
      refine hide ?_
      have y0 := RB.out.cell 0 _ rfl
      have y1 := RB.out.cell 1 _ rfl
      have y2 := RB.out.cell 2 _ rfl
      have y3 := RB.out.cell 3 _ rfl
      have y4 := RB.out.cell 4 _ rfl
      have y5 := RB.out.cell 5 _ rfl
      have y6 := RB.out.cell 6 _ rfl
      go_wp2
      exact bodyPost_ret (v := .agg #[.int .i64 pc, .int .i64 ln, .slice q ops.length c, .int .i64 2, .int .i64 x, .int .i64 y, .int .i64 k]) (by simp [results, Tryd.results58, go_sem, y0, y1, y2, y3, y4, y5, y6]) rfl ⟨rfl, BW.out⟩

    | some py =>
      have EY := hide ey
      have HF : foldK ⟨pc, ln, ops, 2, x, y, k⟩ = none := by
        unfold foldK
        simp only []
        rw [if_pos (by decide), ex]
      have HB : foldB ⟨pc, ln, ops, 2, x, y, k⟩ = ⟨pc, ln, ops, 2, x, y, k⟩ := by unfold foldB; rw [HF]
      rw [HB]
      simp only [goB]
      clear HF HB
      clear ex ey
      go_enter Tryd.func58, Tryd.ntmps58
      go_wp2_with fail
      generalize ((w.alloc (.cells #[.int .i64 pc, .int .i64 ln, .slice q ops.length c, .int .i64 2, .int .i64 x, .int .i64 y, .int .i64 k] 28)).alloc (.cells #[.int .i64 0, .int .i64 0, .slice none 0 0, .int .i64 0, .int .i64 0, .int .i64 0, .int .i64 0] 28)) = W0 at RA RZ BW HR ⊢
      have z0 := RA.out.cell 0 _ rfl
      have z1 := RA.out.cell 1 _ rfl
      have z2 := RA.out.cell 2 _ rfl
      have z3 := RA.out.cell 3 _ rfl
      have z4 := RA.out.cell 4 _ rfl
      have z5 := RA.out.cell 5 _ rfl
      have z6 := RA.out.cell 6 _ rfl
      refine (l10Known ops B _ x _ HR.out).mono ?_
      rintro e u1 ⟨rfl, rfl⟩
      rw [EX.out]
      simp only [Option.getD_some, Option.getD_none, Option.isSome_some, Option.isSome_none]
      go_wp2_with fail
      refine (l10Known ops B _ y _ HR.out).mono ?_
      rintro e u2 ⟨rfl, rfl⟩
      rw [EY.out]
      simp only [Option.getD_some, Option.getD_none, Option.isSome_some, Option.isSome_none]
      clear EX EY HR
      go_wp2_with (refine lay7 rfl rfl _ _ rfl (w.heap.size + 1) _ _ _ _ _ _ _ RZ.out rfl _ _ _ _ _ _ _ _ _ rfl ?_; intro p1 RB TB; refine Hid.out ?_)
      replace BW := hide (BW.out.trans (TB.out.below (by omega) BW.out.size))
      clear TB RZ RA
      refine hide ?_
      have y0 := RB.out.cell 0 _ rfl
      have y1 := RB.out.cell 1 _ rfl
      have y2 := RB.out.cell 2 _ rfl
      have y3 := RB.out.cell 3 _ rfl
      have y4 := RB.out.cell 4 _ rfl
      have y5 := RB.out.cell 5 _ rfl
      have y6 := RB.out.cell 6 _ rfl
      go_wp2
      exact bodyPost_ret (v := .agg #[.int .i64 pc, .int .i64 ln, .slice q ops.length c, .int .i64 2, .int .i64 x, .int .i64 y, .int .i64 k]) (by simp [results, Tryd.results58, go_sem, y0, y1, y2, y3, y4, y5, y6]) rfl ⟨rfl, BW.out⟩

  | some px =>
    have EX := hide ex
    cases ey : knownO ops y with
    | none =>
      have EY := hide ey
      have HF : foldK ⟨pc, ln, ops, 2, x, y, k⟩ = some (px) := by
        unfold foldK
        simp only []
        rw [if_pos (by decide), ex]
      have HB : foldB ⟨pc, ln, ops, 2, x, y, k⟩ = goB ⟨pc, ln, ops, 2, x, y, k⟩ (px) := by unfold foldB; rw [HF]
      rw [HB]
      simp only [goB]
      clear HF HB
      clear ex ey
      go_enter Tryd.func58, Tryd.ntmps58
      go_wp2_with fail
      generalize ((w.alloc (.cells #[.int .i64 pc, .int .i64 ln, .slice q ops.length c, .int .i64 2, .int .i64 x, .int .i64 y, .int .i64 k] 28)).alloc (.cells #[.int .i64 0, .int .i64 0, .slice none 0 0, .int .i64 0, .int .i64 0, .int .i64 0, .int .i64 0] 28)) = W0 at RA RZ BW HR ⊢
      have z0 := RA.out.cell 0 _ rfl
      have z1 := RA.out.cell 1 _ rfl
      have z2 := RA.out.cell 2 _ rfl
      have z3 := RA.out.cell 3 _ rfl
      have z4 := RA.out.cell 4 _ rfl
      have z5 := RA.out.cell 5 _ rfl
      have z6 := RA.out.cell 6 _ rfl
      refine (l10Known ops B _ x _ HR.out).mono ?_
      rintro e u1 ⟨rfl, rfl⟩
      rw [EX.out]
      simp only [Option.getD_some, Option.getD_none, Option.isSome_some, Option.isSome_none]
      go_wp2_with fail
      refine (l10Known ops B _ y _ HR.out).mono ?_
      rintro e u2 ⟨rfl, rfl⟩
      rw [EY.out]
      simp only [Option.getD_some, Option.getD_none, Option.isSome_some, Option.isSome_none]
      clear EX EY HR
      go_wp2_with fail
      refine (l10Go pc ln 2 x y k (px) q ops.length c _).mono ?_
      rintro e u3 ⟨rfl, hb⟩
      replace RZ := hide (RZ.out.below hb)
      replace RA := hide (RA.out.below hb)
      replace BW := hide (BW.out.trans (hb.mono BW.out.size))
      clear hb z0 z1 z2 z3 z4 z5 z6
      go_wp2_with (refine lay7 rfl rfl _ _ rfl (w.heap.size + 1) _ _ _ _ _ _ _ RZ.out rfl _ _ _ _ _ _ _ _ _ rfl ?_; intro p1 RB TB; refine Hid.out ?_)
      replace BW := hide (BW.out.trans (TB.out.below (by omega) BW.out.size))
      clear TB RZ RA
      refine hide ?_
      have y0 := RB.out.cell 0 _ rfl
      have y1 := RB.out.cell 1 _ rfl
      have y2 := RB.out.cell 2 _ rfl
      have y3 := RB.out.cell 3 _ rfl
      have y4 := RB.out.cell 4 _ rfl
      have y5 := RB.out.cell 5 _ rfl
      have y6 := RB.out.cell 6 _ rfl
      go_wp2
      exact bodyPost_ret (v := .agg #[.int .i64 pc, .int .i64 ln, .slice q ops.length c, .int .i64 1, .int .i64 0, .int .i64 0, .int .i64 px]) (by simp [results, Tryd.results58, go_sem, y0, y1, y2, y3, y4, y5, y6]) rfl ⟨rfl, BW.out⟩

    | some py =>
      have EY := hide ey
      have HF : foldK ⟨pc, ln, ops, 2, x, y, k⟩ = some (px) := by
        unfold foldK
        simp only []
        rw [if_pos (by decide), ex]
      have HB : foldB ⟨pc, ln, ops, 2, x, y, k⟩ = goB ⟨pc, ln, ops, 2, x, y, k⟩ (px) := by unfold foldB; rw [HF]
      rw [HB]
      simp only [goB]
      clear HF HB
      clear ex ey
      go_enter Tryd.func58, Tryd.ntmps58
      go_wp2_with fail
      generalize ((w.alloc (.cells #[.int .i64 pc, .int .i64 ln, .slice q ops.length c, .int .i64 2, .int .i64 x, .int .i64 y, .int .i64 k] 28)).alloc (.cells #[.int .i64 0, .int .i64 0, .slice none 0 0, .int .i64 0, .int .i64 0, .int .i64 0, .int .i64 0] 28)) = W0 at RA RZ BW HR ⊢
      have z0 := RA.out.cell 0 _ rfl
      have z1 := RA.out.cell 1 _ rfl
      have z2 := RA.out.cell 2 _ rfl
      have z3 := RA.out.cell 3 _ rfl
      have z4 := RA.out.cell 4 _ rfl
      have z5 := RA.out.cell 5 _ rfl
      have z6 := RA.out.cell 6 _ rfl
      refine (l10Known ops B _ x _ HR.out).mono ?_
      rintro e u1 ⟨rfl, rfl⟩
      rw [EX.out]
      simp only [Option.getD_some, Option.getD_none, Option.isSome_some, Option.isSome_none]
      go_wp2_with fail
      refine (l10Known ops B _ y _ HR.out).mono ?_
      rintro e u2 ⟨rfl, rfl⟩
      rw [EY.out]
      simp only [Option.getD_some, Option.getD_none, Option.isSome_some, Option.isSome_none]
      clear EX EY HR
      go_wp2_with fail
      refine (l10Go pc ln 2 x y k (px) q ops.length c _).mono ?_
      rintro e u3 ⟨rfl, hb⟩
      replace RZ := hide (RZ.out.below hb)
      replace RA := hide (RA.out.below hb)
      replace BW := hide (BW.out.trans (hb.mono BW.out.size))
      clear hb z0 z1 z2 z3 z4 z5 z6
      go_wp2_with (refine lay7 rfl rfl _ _ rfl (w.heap.size + 1) _ _ _ _ _ _ _ RZ.out rfl _ _ _ _ _ _ _ _ _ rfl ?_; intro p1 RB TB; refine Hid.out ?_)
      replace BW := hide (BW.out.trans (TB.out.below (by omega) BW.out.size))
      clear TB RZ RA
      refine hide ?_
      have y0 := RB.out.cell 0 _ rfl
      have y1 := RB.out.cell 1 _ rfl
      have y2 := RB.out.cell 2 _ rfl
      have y3 := RB.out.cell 3 _ rfl
      have y4 := RB.out.cell 4 _ rfl
      have y5 := RB.out.cell 5 _ rfl
      have y6 := RB.out.cell 6 _ rfl
      go_wp2
      exact bodyPost_ret (v := .agg #[.int .i64 pc, .int .i64 ln, .slice q ops.length c, .int .i64 1, .int .i64 0, .int .i64 0, .int .i64 px]) (by simp [results, Tryd.results58, go_sem, y0, y1, y2, y3, y4, y5, y6]) rfl ⟨rfl, BW.out⟩

set_option maxRecDepth 8000 in
set_option maxHeartbeats 8000000 in
theorem l10Fold3 (pc ln x y k : Int) (ops : List Opn) (q : Option Addr) (c B : Nat) (w : World) (h : ORow w B (.slice q ops.length c) ops) (p0 : 0 ≤ pc) (p1 : pc ≤ 64) (n0 : 0 ≤ ln) (n1 : ln ≤ 8) :
    Calls Tryd.prog 58 #[.agg #[.int .i64 pc, .int .i64 ln, .slice q ops.length c, .int .i64 3, .int .i64 x, .int .i64 y, .int .i64 k]] w fun e w' => e = .returned (.agg #[.int .i64 (foldB ⟨pc, ln, ops, 3, x, y, k⟩).pc, .int .i64 (foldB ⟨pc, ln, ops, 3, x, y, k⟩).ln, .slice q ops.length c, .int .i64 (foldB ⟨pc, ln, ops, 3, x, y, k⟩).en, .int .i64 (foldB ⟨pc, ln, ops, 3, x, y, k⟩).x, .int .i64 (foldB ⟨pc, ln, ops, 3, x, y, k⟩).y, .int .i64 (foldB ⟨pc, ln, ops, 3, x, y, k⟩).k]) ∧ Below w.heap.size w w' := by
  obtain ⟨r1, r2, b0⟩ := boxes w (.int .i64 pc) (.int .i64 ln) (.slice q ops.length c) (.int .i64 3) (.int .i64 x) (.int .i64 y) (.int .i64 k)
  have RA := hide r1
  have RZ := hide r2
  have BW := hide b0
  have HR := hide (h.below b0)
  clear r1 r2 b0 h
  cases ex : knownO ops x with
  | none =>
    have EX := hide ex
    cases ey : knownO ops y with
    | none =>
      have EY := hide ey
      have HF : foldK ⟨pc, ln, ops, 3, x, y, k⟩ = none := by
        unfold foldK
        simp only []
        rw [if_neg (by decide), if_pos (by decide), ex]
      have HB : foldB ⟨pc, ln, ops, 3, x, y, k⟩ = ⟨pc, ln, ops, 3, x, y, k⟩ := by unfold foldB; rw [HF]
      rw [HB]
      simp only [goB]
      clear HF HB
      clear ex ey
      go_enter Tryd.func58, Tryd.ntmps58
      go_wp2_with fail
      generalize ((w.alloc (.cells #[.int .i64 pc, .int .i64 ln, .slice q ops.length c, .int .i64 3, .int .i64 x, .int .i64 y, .int .i64 k] 28)).alloc (.cells #[.int .i64 0, .int .i64 0, .slice none 0 0, .int .i64 0, .int .i64 0, .int .i64 0, .int .i64 0] 28)) = W0 at RA RZ BW HR ⊢
      have z0 := RA.out.cell 0 _ rfl
      have z1 := RA.out.cell 1 _ rfl
      have z2 := RA.out.cell 2 _ rfl
      have z3 := RA.out.cell 3 _ rfl
      have z4 := RA.out.cell 4 _ rfl
      have z5 := RA.out.cell 5 _ rfl
      have z6 := RA.out.cell 6 _ rfl
      refine (l10Known ops B _ x _ HR.out).mono ?_
      rintro e u1 ⟨rfl, rfl⟩
      rw [EX.out]
      simp only [Option.getD_some, Option.getD_none, Option.isSome_some, Option.isSome_none]
      go_wp2_with fail
      refine (l10Known ops B _ y _ HR.out).mono ?_
      rintro e u2 ⟨rfl, rfl⟩
      rw [EY.out]
      simp only [Option.getD_some, Option.getD_none, Option.isSome_some, Option.isSome_none]
      clear EX EY HR
      go_wp2_with (refine lay7 rfl rfl _ _ rfl (w.heap.size + 1) _ _ _ _ _ _ _ RZ.out rfl _ _ _ _ _ _ _ _ _ rfl ?_; intro p1 RB TB; refine Hid.out ?_)
      replace BW := hide (BW.out.trans (TB.out.below (by omega) BW.out.size))
      clear TB RZ RA
      refine hide ?_
      have y0 := RB.out.cell 0 _ rfl
      have y1 := RB.out.cell 1 _ rfl
      have y2 := RB.out.cell 2 _ rfl
      have y3 := RB.out.cell 3 _ rfl
      have y4 := RB.out.cell 4 _ rfl
      have y5 := RB.out.cell 5 _ rfl
      have y6 := RB.out.cell 6 _ rfl
      go_wp2
      exact bodyPost_ret (v := .agg #[.int .i64 pc, .int .i64 ln, .slice q ops.length c, .int .i64 3, .int .i64 x, .int .i64 y, .int .i64 k]) (by simp [results, Tryd.results58, go_sem, y0, y1, y2, y3, y4, y5, y6]) rfl ⟨rfl, BW.out⟩

    | some py =>
      have EY := hide ey
      have HF : foldK ⟨pc, ln, ops, 3, x, y, k⟩ = none := by
        unfold foldK
        simp only []
        rw [if_neg (by decide), if_pos (by decide), ex]
      have HB : foldB ⟨pc, ln, ops, 3, x, y, k⟩ = ⟨pc, ln, ops, 3, x, y, k⟩ := by unfold foldB; rw [HF]
      rw [HB]
      simp only [goB]
      clear HF HB
      clear ex ey
      go_enter Tryd.func58, Tryd.ntmps58
      go_wp2_with fail
      generalize ((w.alloc (.cells #[.int .i64 pc, .int .i64 ln, .slice q ops.length c, .int .i64 3, .int .i64 x, .int .i64 y, .int .i64 k] 28)).alloc (.cells #[.int .i64 0, .int .i64 0, .slice none 0 0, .int .i64 0, .int .i64 0, .int .i64 0, .int .i64 0] 28)) = W0 at RA RZ BW HR ⊢
      have z0 := RA.out.cell 0 _ rfl
      have z1 := RA.out.cell 1 _ rfl
      have z2 := RA.out.cell 2 _ rfl
      have z3 := RA.out.cell 3 _ rfl
      have z4 := RA.out.cell 4 _ rfl
      have z5 := RA.out.cell 5 _ rfl
      have z6 := RA.out.cell 6 _ rfl
      refine (l10Known ops B _ x _ HR.out).mono ?_
      rintro e u1 ⟨rfl, rfl⟩
      rw [EX.out]
      simp only [Option.getD_some, Option.getD_none, Option.isSome_some, Option.isSome_none]
      go_wp2_with fail
      refine (l10Known ops B _ y _ HR.out).mono ?_
      rintro e u2 ⟨rfl, rfl⟩
      rw [EY.out]
      simp only [Option.getD_some, Option.getD_none, Option.isSome_some, Option.isSome_none]
      clear EX EY HR
      go_wp2_with (refine lay7 rfl rfl _ _ rfl (w.heap.size + 1) _ _ _ _ _ _ _ RZ.out rfl _ _ _ _ _ _ _ _ _ rfl ?_; intro p1 RB TB; refine Hid.out ?_)
      replace BW := hide (BW.out.trans (TB.out.below (by omega) BW.out.size))
      clear TB RZ RA
      refine hide ?_
      have y0 := RB.out.cell 0 _ rfl
      have y1 := RB.out.cell 1 _ rfl
      have y2 := RB.out.cell 2 _ rfl
      have y3 := RB.out.cell 3 _ rfl
      have y4 := RB.out.cell 4 _ rfl
      have y5 := RB.out.cell 5 _ rfl
      have y6 := RB.out.cell 6 _ rfl
      go_wp2
      exact bodyPost_ret (v := .agg #[.int .i64 pc, .int .i64 ln, .slice q ops.length c, .int .i64 3, .int .i64 x, .int .i64 y, .int .i64 k]) (by simp [results, Tryd.results58, go_sem, y0, y1, y2, y3, y4, y5, y6]) rfl ⟨rfl, BW.out⟩

  | some px =>
    have EX := hide ex
    cases ey : knownO ops y with
    | none =>
      have EY := hide ey
      have HF : foldK ⟨pc, ln, ops, 3, x, y, k⟩ = none := by
        unfold foldK
        simp only []
        rw [if_neg (by decide), if_pos (by decide), ex, ey]
      have HB : foldB ⟨pc, ln, ops, 3, x, y, k⟩ = ⟨pc, ln, ops, 3, x, y, k⟩ := by unfold foldB; rw [HF]
      rw [HB]
      simp only [goB]
      clear HF HB
      clear ex ey
      go_enter Tryd.func58, Tryd.ntmps58
      go_wp2_with fail
      generalize ((w.alloc (.cells #[.int .i64 pc, .int .i64 ln, .slice q ops.length c, .int .i64 3, .int .i64 x, .int .i64 y, .int .i64 k] 28)).alloc (.cells #[.int .i64 0, .int .i64 0, .slice none 0 0, .int .i64 0, .int .i64 0, .int .i64 0, .int .i64 0] 28)) = W0 at RA RZ BW HR ⊢
      have z0 := RA.out.cell 0 _ rfl
      have z1 := RA.out.cell 1 _ rfl
      have z2 := RA.out.cell 2 _ rfl
      have z3 := RA.out.cell 3 _ rfl
      have z4 := RA.out.cell 4 _ rfl
      have z5 := RA.out.cell 5 _ rfl
      have z6 := RA.out.cell 6 _ rfl
      refine (l10Known ops B _ x _ HR.out).mono ?_
      rintro e u1 ⟨rfl, rfl⟩
      rw [EX.out]
      simp only [Option.getD_some, Option.getD_none, Option.isSome_some, Option.isSome_none]
      go_wp2_with fail
      refine (l10Known ops B _ y _ HR.out).mono ?_
      rintro e u2 ⟨rfl, rfl⟩
      rw [EY.out]
      simp only [Option.getD_some, Option.getD_none, Option.isSome_some, Option.isSome_none]
      clear EX EY HR
      go_wp2_with (refine lay7 rfl rfl _ _ rfl (w.heap.size + 1) _ _ _ _ _ _ _ RZ.out rfl _ _ _ _ _ _ _ _ _ rfl ?_; intro p1 RB TB; refine Hid.out ?_)
      replace BW := hide (BW.out.trans (TB.out.below (by omega) BW.out.size))
      clear TB RZ RA
      refine hide ?_
      have y0 := RB.out.cell 0 _ rfl
      have y1 := RB.out.cell 1 _ rfl
      have y2 := RB.out.cell 2 _ rfl
      have y3 := RB.out.cell 3 _ rfl
      have y4 := RB.out.cell 4 _ rfl
      have y5 := RB.out.cell 5 _ rfl
      have y6 := RB.out.cell 6 _ rfl
      go_wp2
      exact bodyPost_ret (v := .agg #[.int .i64 pc, .int .i64 ln, .slice q ops.length c, .int .i64 3, .int .i64 x, .int .i64 y, .int .i64 k]) (by simp [results, Tryd.results58, go_sem, y0, y1, y2, y3, y4, y5, y6]) rfl ⟨rfl, BW.out⟩

    | some py =>
      have EY := hide ey
      by_cases hr : px = py
      · have HF : foldK ⟨pc, ln, ops, 3, x, y, k⟩ = some (k) := by
          unfold foldK
          simp only []
          rw [if_neg (by decide), if_pos (by decide), ex, ey]
          simp only []
          rw [if_pos (Or.inl ⟨by trivial, hr⟩)]
        have HB : foldB ⟨pc, ln, ops, 3, x, y, k⟩ = goB ⟨pc, ln, ops, 3, x, y, k⟩ (k) := by unfold foldB; rw [HF]
        rw [HB]
        simp only [goB]
        clear HF HB
        clear ex ey
        subst hr
        go_enter Tryd.func58, Tryd.ntmps58
        go_wp2_with fail
        generalize ((w.alloc (.cells #[.int .i64 pc, .int .i64 ln, .slice q ops.length c, .int .i64 3, .int .i64 x, .int .i64 y, .int .i64 k] 28)).alloc (.cells #[.int .i64 0, .int .i64 0, .slice none 0 0, .int .i64 0, .int .i64 0, .int .i64 0, .int .i64 0] 28)) = W0 at RA RZ BW HR ⊢
        have z0 := RA.out.cell 0 _ rfl
        have z1 := RA.out.cell 1 _ rfl
        have z2 := RA.out.cell 2 _ rfl
        have z3 := RA.out.cell 3 _ rfl
        have z4 := RA.out.cell 4 _ rfl
        have z5 := RA.out.cell 5 _ rfl
        have z6 := RA.out.cell 6 _ rfl
        refine (l10Known ops B _ x _ HR.out).mono ?_
        rintro e u1 ⟨rfl, rfl⟩
        rw [EX.out]
        simp only [Option.getD_some, Option.getD_none, Option.isSome_some, Option.isSome_none]
        go_wp2_with fail
        refine (l10Known ops B _ y _ HR.out).mono ?_
        rintro e u2 ⟨rfl, rfl⟩
        rw [EY.out]
        simp only [Option.getD_some, Option.getD_none, Option.isSome_some, Option.isSome_none]
        clear EX EY HR
        go_wp2_with fail
        refine (l10Go pc ln 3 x y k (k) q ops.length c _).mono ?_
        rintro e u3 ⟨rfl, hb⟩
        replace RZ := hide (RZ.out.below hb)
        replace RA := hide (RA.out.below hb)
        replace BW := hide (BW.out.trans (hb.mono BW.out.size))
        clear hb z0 z1 z2 z3 z4 z5 z6
        go_wp2_with (refine lay7 rfl rfl _ _ rfl (w.heap.size + 1) _ _ _ _ _ _ _ RZ.out rfl _ _ _ _ _ _ _ _ _ rfl ?_; intro p1 RB TB; refine Hid.out ?_)
        replace BW := hide (BW.out.trans (TB.out.below (by omega) BW.out.size))
        clear TB RZ RA
        refine hide ?_
        have y0 := RB.out.cell 0 _ rfl
        have y1 := RB.out.cell 1 _ rfl
        have y2 := RB.out.cell 2 _ rfl
        have y3 := RB.out.cell 3 _ rfl
        have y4 := RB.out.cell 4 _ rfl
        have y5 := RB.out.cell 5 _ rfl
        have y6 := RB.out.cell 6 _ rfl
        go_wp2
        exact bodyPost_ret (v := .agg #[.int .i64 pc, .int .i64 ln, .slice q ops.length c, .int .i64 1, .int .i64 0, .int .i64 0, .int .i64 k]) (by simp [results, Tryd.results58, go_sem, y0, y1, y2, y3, y4, y5, y6]) rfl ⟨rfl, BW.out⟩

      · have HF : foldK ⟨pc, ln, ops, 3, x, y, k⟩ = some (pc + ln) := by
          unfold foldK
          simp only []
          rw [if_neg (by decide), if_pos (by decide), ex, ey]
          simp only []
          rw [if_neg (fun h => h.elim (fun h => hr h.2) (fun h => absurd h.1 (by decide)))]
        have HB : foldB ⟨pc, ln, ops, 3, x, y, k⟩ = goB ⟨pc, ln, ops, 3, x, y, k⟩ (pc + ln) := by unfold foldB; rw [HF]
        rw [HB]
        simp only [goB]
        clear HF HB
        clear ex ey
        have hr2 : (px == py) = false := beq_eq_false_iff_ne.2 hr
        clear hr
        go_enter Tryd.func58, Tryd.ntmps58
        go_wp2_with fail
        generalize ((w.alloc (.cells #[.int .i64 pc, .int .i64 ln, .slice q ops.length c, .int .i64 3, .int .i64 x, .int .i64 y, .int .i64 k] 28)).alloc (.cells #[.int .i64 0, .int .i64 0, .slice none 0 0, .int .i64 0, .int .i64 0, .int .i64 0, .int .i64 0] 28)) = W0 at RA RZ BW HR ⊢
        have z0 := RA.out.cell 0 _ rfl
        have z1 := RA.out.cell 1 _ rfl
        have z2 := RA.out.cell 2 _ rfl
        have z3 := RA.out.cell 3 _ rfl
        have z4 := RA.out.cell 4 _ rfl
        have z5 := RA.out.cell 5 _ rfl
        have z6 := RA.out.cell 6 _ rfl
        refine (l10Known ops B _ x _ HR.out).mono ?_
        rintro e u1 ⟨rfl, rfl⟩
        rw [EX.out]
        simp only [Option.getD_some, Option.getD_none, Option.isSome_some, Option.isSome_none]
        go_wp2_with fail
        refine (l10Known ops B _ y _ HR.out).mono ?_
        rintro e u2 ⟨rfl, rfl⟩
        rw [EY.out]
        simp only [Option.getD_some, Option.getD_none, Option.isSome_some, Option.isSome_none]
        clear EX EY HR
        go_wp2_with fail
        refine (l10Go pc ln 3 x y k (pc + ln) q ops.length c _).mono ?_
        rintro e u3 ⟨rfl, hb⟩
        replace RZ := hide (RZ.out.below hb)
        replace RA := hide (RA.out.below hb)
        replace BW := hide (BW.out.trans (hb.mono BW.out.size))
        clear hb z0 z1 z2 z3 z4 z5 z6
        go_wp2_with (refine lay7 rfl rfl _ _ rfl (w.heap.size + 1) _ _ _ _ _ _ _ RZ.out rfl _ _ _ _ _ _ _ _ _ rfl ?_; intro p1 RB TB; refine Hid.out ?_)
        replace BW := hide (BW.out.trans (TB.out.below (by omega) BW.out.size))
        clear TB RZ RA
        refine hide ?_
        have y0 := RB.out.cell 0 _ rfl
        have y1 := RB.out.cell 1 _ rfl
        have y2 := RB.out.cell 2 _ rfl
        have y3 := RB.out.cell 3 _ rfl
        have y4 := RB.out.cell 4 _ rfl
        have y5 := RB.out.cell 5 _ rfl
        have y6 := RB.out.cell 6 _ rfl
        go_wp2
        exact bodyPost_ret (v := .agg #[.int .i64 pc, .int .i64 ln, .slice q ops.length c, .int .i64 1, .int .i64 0, .int .i64 0, .int .i64 (pc + ln)]) (by simp [results, Tryd.results58, go_sem, y0, y1, y2, y3, y4, y5, y6]) rfl ⟨rfl, BW.out⟩

set_option maxRecDepth 8000 in
set_option maxHeartbeats 8000000 in
theorem l10Fold4 (pc ln x y k : Int) (ops : List Opn) (q : Option Addr) (c B : Nat) (w : World) (h : ORow w B (.slice q ops.length c) ops) (p0 : 0 ≤ pc) (p1 : pc ≤ 64) (n0 : 0 ≤ ln) (n1 : ln ≤ 8) :
    Calls Tryd.prog 58 #[.agg #[.int .i64 pc, .int .i64 ln, .slice q ops.length c, .int .i64 4, .int .i64 x, .int .i64 y, .int .i64 k]] w fun e w' => e = .returned (.agg #[.int .i64 (foldB ⟨pc, ln, ops, 4, x, y, k⟩).pc, .int .i64 (foldB ⟨pc, ln, ops, 4, x, y, k⟩).ln, .slice q ops.length c, .int .i64 (foldB ⟨pc, ln, ops, 4, x, y, k⟩).en, .int .i64 (foldB ⟨pc, ln, ops, 4, x, y, k⟩).x, .int .i64 (foldB ⟨pc, ln, ops, 4, x, y, k⟩).y, .int .i64 (foldB ⟨pc, ln, ops, 4, x, y, k⟩).k]) ∧ Below w.heap.size w w' := by
  obtain ⟨r1, r2, b0⟩ := boxes w (.int .i64 pc) (.int .i64 ln) (.slice q ops.length c) (.int .i64 4) (.int .i64 x) (.int .i64 y) (.int .i64 k)
  have RA := hide r1
  have RZ := hide r2
  have BW := hide b0
  have HR := hide (h.below b0)
  clear r1 r2 b0 h
  cases ex : knownO ops x with
  | none =>
    have EX := hide ex
    cases ey : knownO ops y with
    | none =>
      have EY := hide ey
      have HF : foldK ⟨pc, ln, ops, 4, x, y, k⟩ = none := by
        unfold foldK
        simp only []
        rw [if_neg (by decide), if_pos (by decide), ex]
      have HB : foldB ⟨pc, ln, ops, 4, x, y, k⟩ = ⟨pc, ln, ops, 4, x, y, k⟩ := by unfold foldB; rw [HF]
      rw [HB]
      simp only [goB]
      clear HF HB
      clear ex ey
      go_enter Tryd.func58, Tryd.ntmps58
      go_wp2_with fail
      generalize ((w.alloc (.cells #[.int .i64 pc, .int .i64 ln, .slice q ops.length c, .int .i64 4, .int .i64 x, .int .i64 y, .int .i64 k] 28)).alloc (.cells #[.int .i64 0, .int .i64 0, .slice none 0 0, .int .i64 0, .int .i64 0, .int .i64 0, .int .i64 0] 28)) = W0 at RA RZ BW HR ⊢
      have z0 := RA.out.cell 0 _ rfl
      have z1 := RA.out.cell 1 _ rfl
      have z2 := RA.out.cell 2 _ rfl
      have z3 := RA.out.cell 3 _ rfl
      have z4 := RA.out.cell 4 _ rfl
      have z5 := RA.out.cell 5 _ rfl
      have z6 := RA.out.cell 6 _ rfl
      refine (l10Known ops B _ x _ HR.out).mono ?_
      rintro e u1 ⟨rfl, rfl⟩
      rw [EX.out]
      simp only [Option.getD_some, Option.getD_none, Option.isSome_some, Option.isSome_none]
      go_wp2_with fail
      refine (l10Known ops B _ y _ HR.out).mono ?_
      rintro e u2 ⟨rfl, rfl⟩
      rw [EY.out]
      simp only [Option.getD_some, Option.getD_none, Option.isSome_some, Option.isSome_none]
      clear EX EY HR
      go_wp2_with (refine lay7 rfl rfl _ _ rfl (w.heap.size + 1) _ _ _ _ _ _ _ RZ.out rfl _ _ _ _ _ _ _ _ _ rfl ?_; intro p1 RB TB; refine Hid.out ?_)
      replace BW := hide (BW.out.trans (TB.out.below (by omega) BW.out.size))
      clear TB RZ RA
      refine hide ?_
      have y0 := RB.out.cell 0 _ rfl
      have y1 := RB.out.cell 1 _ rfl
      have y2 := RB.out.cell 2 _ rfl
      have y3 := RB.out.cell 3 _ rfl
      have y4 := RB.out.cell 4 _ rfl
      have y5 := RB.out.cell 5 _ rfl
      have y6 := RB.out.cell 6 _ rfl
      go_wp2
      exact bodyPost_ret (v := .agg #[.int .i64 pc, .int .i64 ln, .slice q ops.length c, .int .i64 4, .int .i64 x, .int .i64 y, .int .i64 k]) (by simp [results, Tryd.results58, go_sem, y0, y1, y2, y3, y4, y5, y6]) rfl ⟨rfl, BW.out⟩

    | some py =>
      have EY := hide ey
      have HF : foldK ⟨pc, ln, ops, 4, x, y, k⟩ = none := by
        unfold foldK
        simp only []
        rw [if_neg (by decide), if_pos (by decide), ex]
      have HB : foldB ⟨pc, ln, ops, 4, x, y, k⟩ = ⟨pc, ln, ops, 4, x, y, k⟩ := by unfold foldB; rw [HF]
      rw [HB]
      simp only [goB]
      clear HF HB
      clear ex ey
      go_enter Tryd.func58, Tryd.ntmps58
      go_wp2_with fail
      generalize ((w.alloc (.cells #[.int .i64 pc, .int .i64 ln, .slice q ops.length c, .int .i64 4, .int .i64 x, .int .i64 y, .int .i64 k] 28)).alloc (.cells #[.int .i64 0, .int .i64 0, .slice none 0 0, .int .i64 0, .int .i64 0, .int .i64 0, .int .i64 0] 28)) = W0 at RA RZ BW HR ⊢
      have z0 := RA.out.cell 0 _ rfl
      have z1 := RA.out.cell 1 _ rfl
      have z2 := RA.out.cell 2 _ rfl
      have z3 := RA.out.cell 3 _ rfl
      have z4 := RA.out.cell 4 _ rfl
      have z5 := RA.out.cell 5 _ rfl
      have z6 := RA.out.cell 6 _ rfl
      refine (l10Known ops B _ x _ HR.out).mono ?_
      rintro e u1 ⟨rfl, rfl⟩
      rw [EX.out]
      simp only [Option.getD_some, Option.getD_none, Option.isSome_some, Option.isSome_none]
      go_wp2_with fail
      refine (l10Known ops B _ y _ HR.out).mono ?_
      rintro e u2 ⟨rfl, rfl⟩
      rw [EY.out]
      simp only [Option.getD_some, Option.getD_none, Option.isSome_some, Option.isSome_none]
      clear EX EY HR
      go_wp2_with (refine lay7 rfl rfl _ _ rfl (w.heap.size + 1) _ _ _ _ _ _ _ RZ.out rfl _ _ _ _ _ _ _ _ _ rfl ?_; intro p1 RB TB; refine Hid.out ?_)
      replace BW := hide (BW.out.trans (TB.out.below (by omega) BW.out.size))
      clear TB RZ RA
      refine hide ?_
      have y0 := RB.out.cell 0 _ rfl
      have y1 := RB.out.cell 1 _ rfl
      have y2 := RB.out.cell 2 _ rfl
      have y3 := RB.out.cell 3 _ rfl
      have y4 := RB.out.cell 4 _ rfl
      have y5 := RB.out.cell 5 _ rfl
      have y6 := RB.out.cell 6 _ rfl
      go_wp2
      exact bodyPost_ret (v := .agg #[.int .i64 pc, .int .i64 ln, .slice q ops.length c, .int .i64 4, .int .i64 x, .int .i64 y, .int .i64 k]) (by simp [results, Tryd.results58, go_sem, y0, y1, y2, y3, y4, y5, y6]) rfl ⟨rfl, BW.out⟩

  | some px =>
    have EX := hide ex
    cases ey : knownO ops y with
    | none =>
      have EY := hide ey
      have HF : foldK ⟨pc, ln, ops, 4, x, y, k⟩ = none := by
        unfold foldK
        simp only []
        rw [if_neg (by decide), if_pos (by decide), ex, ey]
      have HB : foldB ⟨pc, ln, ops, 4, x, y, k⟩ = ⟨pc, ln, ops, 4, x, y, k⟩ := by unfold foldB; rw [HF]
      rw [HB]
      simp only [goB]
      clear HF HB
      clear ex ey
      go_enter Tryd.func58, Tryd.ntmps58
      go_wp2_with fail
      generalize ((w.alloc (.cells #[.int .i64 pc, .int .i64 ln, .slice q ops.length c, .int .i64 4, .int .i64 x, .int .i64 y, .int .i64 k] 28)).alloc (.cells #[.int .i64 0, .int .i64 0, .slice none 0 0, .int .i64 0, .int .i64 0, .int .i64 0, .int .i64 0] 28)) = W0 at RA RZ BW HR ⊢
      have z0 := RA.out.cell 0 _ rfl
      have z1 := RA.out.cell 1 _ rfl
      have z2 := RA.out.cell 2 _ rfl
      have z3 := RA.out.cell 3 _ rfl
      have z4 := RA.out.cell 4 _ rfl
      have z5 := RA.out.cell 5 _ rfl
      have z6 := RA.out.cell 6 _ rfl
      refine (l10Known ops B _ x _ HR.out).mono ?_
      rintro e u1 ⟨rfl, rfl⟩
      rw [EX.out]
      simp only [Option.getD_some, Option.getD_none, Option.isSome_some, Option.isSome_none]
      go_wp2_with fail
      refine (l10Known ops B _ y _ HR.out).mono ?_
      rintro e u2 ⟨rfl, rfl⟩
      rw [EY.out]
      simp only [Option.getD_some, Option.getD_none, Option.isSome_some, Option.isSome_none]
      clear EX EY HR
      go_wp2_with (refine lay7 rfl rfl _ _ rfl (w.heap.size + 1) _ _ _ _ _ _ _ RZ.out rfl _ _ _ _ _ _ _ _ _ rfl ?_; intro p1 RB TB; refine Hid.out ?_)
      replace BW := hide (BW.out.trans (TB.out.below (by omega) BW.out.size))
      clear TB RZ RA
      refine hide ?_
      have y0 := RB.out.cell 0 _ rfl
      have y1 := RB.out.cell 1 _ rfl
      have y2 := RB.out.cell 2 _ rfl
      have y3 := RB.out.cell 3 _ rfl
      have y4 := RB.out.cell 4 _ rfl
      have y5 := RB.out.cell 5 _ rfl
      have y6 := RB.out.cell 6 _ rfl
      go_wp2
      exact bodyPost_ret (v := .agg #[.int .i64 pc, .int .i64 ln, .slice q ops.length c, .int .i64 4, .int .i64 x, .int .i64 y, .int .i64 k]) (by simp [results, Tryd.results58, go_sem, y0, y1, y2, y3, y4, y5, y6]) rfl ⟨rfl, BW.out⟩

    | some py =>
      have EY := hide ey
      by_cases hr : px < py
      · have HF : foldK ⟨pc, ln, ops, 4, x, y, k⟩ = some (k) := by
          unfold foldK
          simp only []
          rw [if_neg (by decide), if_pos (by decide), ex, ey]
          simp only []
          rw [if_pos (Or.inr ⟨by trivial, hr⟩)]
        have HB : foldB ⟨pc, ln, ops, 4, x, y, k⟩ = goB ⟨pc, ln, ops, 4, x, y, k⟩ (k) := by unfold foldB; rw [HF]
        rw [HB]
        simp only [goB]
        clear HF HB
        clear ex ey
        go_enter Tryd.func58, Tryd.ntmps58
        go_wp2_with fail
        generalize ((w.alloc (.cells #[.int .i64 pc, .int .i64 ln, .slice q ops.length c, .int .i64 4, .int .i64 x, .int .i64 y, .int .i64 k] 28)).alloc (.cells #[.int .i64 0, .int .i64 0, .slice none 0 0, .int .i64 0, .int .i64 0, .int .i64 0, .int .i64 0] 28)) = W0 at RA RZ BW HR ⊢
        have z0 := RA.out.cell 0 _ rfl
        have z1 := RA.out.cell 1 _ rfl
        have z2 := RA.out.cell 2 _ rfl
        have z3 := RA.out.cell 3 _ rfl
        have z4 := RA.out.cell 4 _ rfl
        have z5 := RA.out.cell 5 _ rfl
        have z6 := RA.out.cell 6 _ rfl
        refine (l10Known ops B _ x _ HR.out).mono ?_
        rintro e u1 ⟨rfl, rfl⟩
        rw [EX.out]
        simp only [Option.getD_some, Option.getD_none, Option.isSome_some, Option.isSome_none]
        go_wp2_with fail
        refine (l10Known ops B _ y _ HR.out).mono ?_
        rintro e u2 ⟨rfl, rfl⟩
        rw [EY.out]
        simp only [Option.getD_some, Option.getD_none, Option.isSome_some, Option.isSome_none]
        clear EX EY HR
        go_wp2_with fail
        refine (l10Go pc ln 4 x y k (k) q ops.length c _).mono ?_
        rintro e u3 ⟨rfl, hb⟩
        replace RZ := hide (RZ.out.below hb)
        replace RA := hide (RA.out.below hb)
        replace BW := hide (BW.out.trans (hb.mono BW.out.size))
        clear hb z0 z1 z2 z3 z4 z5 z6
        go_wp2_with (refine lay7 rfl rfl _ _ rfl (w.heap.size + 1) _ _ _ _ _ _ _ RZ.out rfl _ _ _ _ _ _ _ _ _ rfl ?_; intro p1 RB TB; refine Hid.out ?_)
        replace BW := hide (BW.out.trans (TB.out.below (by omega) BW.out.size))
        clear TB RZ RA
        refine hide ?_
        have y0 := RB.out.cell 0 _ rfl
        have y1 := RB.out.cell 1 _ rfl
        have y2 := RB.out.cell 2 _ rfl
        have y3 := RB.out.cell 3 _ rfl
        have y4 := RB.out.cell 4 _ rfl
        have y5 := RB.out.cell 5 _ rfl
        have y6 := RB.out.cell 6 _ rfl
        go_wp2
        exact bodyPost_ret (v := .agg #[.int .i64 pc, .int .i64 ln, .slice q ops.length c, .int .i64 1, .int .i64 0, .int .i64 0, .int .i64 k]) (by simp [results, Tryd.results58, go_sem, y0, y1, y2, y3, y4, y5, y6]) rfl ⟨rfl, BW.out⟩

      · have HF : foldK ⟨pc, ln, ops, 4, x, y, k⟩ = some (pc + ln) := by
          unfold foldK
          simp only []
          rw [if_neg (by decide), if_pos (by decide), ex, ey]
          simp only []
          rw [if_neg (fun h => h.elim (fun h => absurd h.1 (by decide)) (fun h => hr h.2))]
        have HB : foldB ⟨pc, ln, ops, 4, x, y, k⟩ = goB ⟨pc, ln, ops, 4, x, y, k⟩ (pc + ln) := by unfold foldB; rw [HF]
        rw [HB]
        simp only [goB]
        clear HF HB
        clear ex ey
        go_enter Tryd.func58, Tryd.ntmps58
        go_wp2_with fail
        generalize ((w.alloc (.cells #[.int .i64 pc, .int .i64 ln, .slice q ops.length c, .int .i64 4, .int .i64 x, .int .i64 y, .int .i64 k] 28)).alloc (.cells #[.int .i64 0, .int .i64 0, .slice none 0 0, .int .i64 0, .int .i64 0, .int .i64 0, .int .i64 0] 28)) = W0 at RA RZ BW HR ⊢
        have z0 := RA.out.cell 0 _ rfl
        have z1 := RA.out.cell 1 _ rfl
        have z2 := RA.out.cell 2 _ rfl
        have z3 := RA.out.cell 3 _ rfl
        have z4 := RA.out.cell 4 _ rfl
        have z5 := RA.out.cell 5 _ rfl
        have z6 := RA.out.cell 6 _ rfl
        refine (l10Known ops B _ x _ HR.out).mono ?_
        rintro e u1 ⟨rfl, rfl⟩
        rw [EX.out]
        simp only [Option.getD_some, Option.getD_none, Option.isSome_some, Option.isSome_none]
        go_wp2_with fail
        refine (l10Known ops B _ y _ HR.out).mono ?_
        rintro e u2 ⟨rfl, rfl⟩
        rw [EY.out]
        simp only [Option.getD_some, Option.getD_none, Option.isSome_some, Option.isSome_none]
        clear EX EY HR
        go_wp2_with fail
        refine (l10Go pc ln 4 x y k (pc + ln) q ops.length c _).mono ?_
        rintro e u3 ⟨rfl, hb⟩
        replace RZ := hide (RZ.out.below hb)
        replace RA := hide (RA.out.below hb)
        replace BW := hide (BW.out.trans (hb.mono BW.out.size))
        clear hb z0 z1 z2 z3 z4 z5 z6
        go_wp2_with (refine lay7 rfl rfl _ _ rfl (w.heap.size + 1) _ _ _ _ _ _ _ RZ.out rfl _ _ _ _ _ _ _ _ _ rfl ?_; intro p1 RB TB; refine Hid.out ?_)
        replace BW := hide (BW.out.trans (TB.out.below (by omega) BW.out.size))
        clear TB RZ RA
        refine hide ?_
        have y0 := RB.out.cell 0 _ rfl
        have y1 := RB.out.cell 1 _ rfl
        have y2 := RB.out.cell 2 _ rfl
        have y3 := RB.out.cell 3 _ rfl
        have y4 := RB.out.cell 4 _ rfl
        have y5 := RB.out.cell 5 _ rfl
        have y6 := RB.out.cell 6 _ rfl
        go_wp2
        exact bodyPost_ret (v := .agg #[.int .i64 pc, .int .i64 ln, .slice q ops.length c, .int .i64 1, .int .i64 0, .int .i64 0, .int .i64 (pc + ln)]) (by simp [results, Tryd.results58, go_sem, y0, y1, y2, y3, y4, y5, y6]) rfl ⟨rfl, BW.out⟩

set_option maxRecDepth 8000 in
set_option maxHeartbeats 8000000 in
theorem l10Fold_other (pc ln x y k : Int) (en : Int) (ops : List Opn) (q : Option Addr) (c B : Nat) (w : World) (h : ORow w B (.slice q ops.length c) ops) (p0 : 0 ≤ pc) (p1 : pc ≤ 64) (n0 : 0 ≤ ln) (n1 : ln ≤ 8) (e2 : (en == 2) = false) (e3 : (en == 3) = false) (e4 : (en == 4) = false) :
    Calls Tryd.prog 58 #[.agg #[.int .i64 pc, .int .i64 ln, .slice q ops.length c, .int .i64 en, .int .i64 x, .int .i64 y, .int .i64 k]] w fun e w' => e = .returned (.agg #[.int .i64 (foldB ⟨pc, ln, ops, en, x, y, k⟩).pc, .int .i64 (foldB ⟨pc, ln, ops, en, x, y, k⟩).ln, .slice q ops.length c, .int .i64 (foldB ⟨pc, ln, ops, en, x, y, k⟩).en, .int .i64 (foldB ⟨pc, ln, ops, en, x, y, k⟩).x, .int .i64 (foldB ⟨pc, ln, ops, en, x, y, k⟩).y, .int .i64 (foldB ⟨pc, ln, ops, en, x, y, k⟩).k]) ∧ Below w.heap.size w w' := by
  obtain ⟨r1, r2, b0⟩ := boxes w (.int .i64 pc) (.int .i64 ln) (.slice q ops.length c) (.int .i64 en) (.int .i64 x) (.int .i64 y) (.int .i64 k)
  have RA := hide r1
  have RZ := hide r2
  have BW := hide b0
  have HR := hide (h.below b0)
  clear r1 r2 b0 h
  cases ex : knownO ops x with
  | none =>
    have EX := hide ex
    cases ey : knownO ops y with
    | none =>
      have EY := hide ey
      have g2 := beq_eq_false_iff_ne.1 e2
      have g3 := beq_eq_false_iff_ne.1 e3
      have g4 := beq_eq_false_iff_ne.1 e4
      have HF : foldK ⟨pc, ln, ops, en, x, y, k⟩ = none := by
        unfold foldK
        simp only []
        rw [if_neg g2, if_neg (by omega)]
      have HB : foldB ⟨pc, ln, ops, en, x, y, k⟩ = ⟨pc, ln, ops, en, x, y, k⟩ := by unfold foldB; rw [HF]
      rw [HB]
      simp only [goB]
      clear HF HB
      clear ex ey g2 g3 g4
      go_enter Tryd.func58, Tryd.ntmps58
      go_wp2_with fail
      generalize ((w.alloc (.cells #[.int .i64 pc, .int .i64 ln, .slice q ops.length c, .int .i64 en, .int .i64 x, .int .i64 y, .int .i64 k] 28)).alloc (.cells #[.int .i64 0, .int .i64 0, .slice none 0 0, .int .i64 0, .int .i64 0, .int .i64 0, .int .i64 0] 28)) = W0 at RA RZ BW HR ⊢
      have z0 := RA.out.cell 0 _ rfl
      have z1 := RA.out.cell 1 _ rfl
      have z2 := RA.out.cell 2 _ rfl
      have z3 := RA.out.cell 3 _ rfl
      have z4 := RA.out.cell 4 _ rfl
      have z5 := RA.out.cell 5 _ rfl
      have z6 := RA.out.cell 6 _ rfl
      refine (l10Known ops B _ x _ HR.out).mono ?_
      rintro e u1 ⟨rfl, rfl⟩
      rw [EX.out]
      simp only [Option.getD_some, Option.getD_none, Option.isSome_some, Option.isSome_none]
      go_wp2_with fail
      refine (l10Known ops B _ y _ HR.out).mono ?_
      rintro e u2 ⟨rfl, rfl⟩
      rw [EY.out]
      simp only [Option.getD_some, Option.getD_none, Option.isSome_some, Option.isSome_none]
      clear EX EY HR
      go_wp2_with (refine lay7 rfl rfl _ _ rfl (w.heap.size + 1) _ _ _ _ _ _ _ RZ.out rfl _ _ _ _ _ _ _ _ _ rfl ?_; intro p1 RB TB; refine Hid.out ?_)
      replace BW := hide (BW.out.trans (TB.out.below (by omega) BW.out.size))
      clear TB RZ RA
      refine hide ?_
      have y0 := RB.out.cell 0 _ rfl
      have y1 := RB.out.cell 1 _ rfl
      have y2 := RB.out.cell 2 _ rfl
      have y3 := RB.out.cell 3 _ rfl
      have y4 := RB.out.cell 4 _ rfl
      have y5 := RB.out.cell 5 _ rfl
      have y6 := RB.out.cell 6 _ rfl
      go_wp2
      exact bodyPost_ret (v := .agg #[.int .i64 pc, .int .i64 ln, .slice q ops.length c, .int .i64 en, .int .i64 x, .int .i64 y, .int .i64 k]) (by simp [results, Tryd.results58, go_sem, y0, y1, y2, y3, y4, y5, y6]) rfl ⟨rfl, BW.out⟩

    | some py =>
      have EY := hide ey
      have g2 := beq_eq_false_iff_ne.1 e2
      have g3 := beq_eq_false_iff_ne.1 e3
      have g4 := beq_eq_false_iff_ne.1 e4
      have HF : foldK ⟨pc, ln, ops, en, x, y, k⟩ = none := by
        unfold foldK
        simp only []
        rw [if_neg g2, if_neg (by omega)]
      have HB : foldB ⟨pc, ln, ops, en, x, y, k⟩ = ⟨pc, ln, ops, en, x, y, k⟩ := by unfold foldB; rw [HF]
      rw [HB]
      simp only [goB]
      clear HF HB
      clear ex ey g2 g3 g4
      go_enter Tryd.func58, Tryd.ntmps58
      go_wp2_with fail
      generalize ((w.alloc (.cells #[.int .i64 pc, .int .i64 ln, .slice q ops.length c, .int .i64 en, .int .i64 x, .int .i64 y, .int .i64 k] 28)).alloc (.cells #[.int .i64 0, .int .i64 0, .slice none 0 0, .int .i64 0, .int .i64 0, .int .i64 0, .int .i64 0] 28)) = W0 at RA RZ BW HR ⊢
      have z0 := RA.out.cell 0 _ rfl
      have z1 := RA.out.cell 1 _ rfl
      have z2 := RA.out.cell 2 _ rfl
      have z3 := RA.out.cell 3 _ rfl
      have z4 := RA.out.cell 4 _ rfl
      have z5 := RA.out.cell 5 _ rfl
      have z6 := RA.out.cell 6 _ rfl
      refine (l10Known ops B _ x _ HR.out).mono ?_
      rintro e u1 ⟨rfl, rfl⟩
      rw [EX.out]
      simp only [Option.getD_some, Option.getD_none, Option.isSome_some, Option.isSome_none]
      go_wp2_with fail
      refine (l10Known ops B _ y _ HR.out).mono ?_
      rintro e u2 ⟨rfl, rfl⟩
      rw [EY.out]
      simp only [Option.getD_some, Option.getD_none, Option.isSome_some, Option.isSome_none]
      clear EX EY HR
      go_wp2_with (refine lay7 rfl rfl _ _ rfl (w.heap.size + 1) _ _ _ _ _ _ _ RZ.out rfl _ _ _ _ _ _ _ _ _ rfl ?_; intro p1 RB TB; refine Hid.out ?_)
      replace BW := hide (BW.out.trans (TB.out.below (by omega) BW.out.size))
      clear TB RZ RA
      refine hide ?_
      have y0 := RB.out.cell 0 _ rfl
      have y1 := RB.out.cell 1 _ rfl
      have y2 := RB.out.cell 2 _ rfl
      have y3 := RB.out.cell 3 _ rfl
      have y4 := RB.out.cell 4 _ rfl
      have y5 := RB.out.cell 5 _ rfl
      have y6 := RB.out.cell 6 _ rfl
      go_wp2
      exact bodyPost_ret (v := .agg #[.int .i64 pc, .int .i64 ln, .slice q ops.length c, .int .i64 en, .int .i64 x, .int .i64 y, .int .i64 k]) (by simp [results, Tryd.results58, go_sem, y0, y1, y2, y3, y4, y5, y6]) rfl ⟨rfl, BW.out⟩

  | some px =>
    have EX := hide ex
    cases ey : knownO ops y with
    | none =>
      have EY := hide ey
      have g2 := beq_eq_false_iff_ne.1 e2
      have g3 := beq_eq_false_iff_ne.1 e3
      have g4 := beq_eq_false_iff_ne.1 e4
      have HF : foldK ⟨pc, ln, ops, en, x, y, k⟩ = none := by
        unfold foldK
        simp only []
        rw [if_neg g2, if_neg (by omega)]
      have HB : foldB ⟨pc, ln, ops, en, x, y, k⟩ = ⟨pc, ln, ops, en, x, y, k⟩ := by unfold foldB; rw [HF]
      rw [HB]
      simp only [goB]
      clear HF HB
      clear ex ey g2 g3 g4
      go_enter Tryd.func58, Tryd.ntmps58
      go_wp2_with fail
      generalize ((w.alloc (.cells #[.int .i64 pc, .int .i64 ln, .slice q ops.length c, .int .i64 en, .int .i64 x, .int .i64 y, .int .i64 k] 28)).alloc (.cells #[.int .i64 0, .int .i64 0, .slice none 0 0, .int .i64 0, .int .i64 0, .int .i64 0, .int .i64 0] 28)) = W0 at RA RZ BW HR ⊢
      have z0 := RA.out.cell 0 _ rfl
      have z1 := RA.out.cell 1 _ rfl
      have z2 := RA.out.cell 2 _ rfl
      have z3 := RA.out.cell 3 _ rfl
      have z4 := RA.out.cell 4 _ rfl
      have z5 := RA.out.cell 5 _ rfl
      have z6 := RA.out.cell 6 _ rfl
      refine (l10Known ops B _ x _ HR.out).mono ?_
      rintro e u1 ⟨rfl, rfl⟩
      rw [EX.out]
      simp only [Option.getD_some, Option.getD_none, Option.isSome_some, Option.isSome_none]
      go_wp2_with fail
      refine (l10Known ops B _ y _ HR.out).mono ?_
      rintro e u2 ⟨rfl, rfl⟩
      rw [EY.out]
      simp only [Option.getD_some, Option.getD_none, Option.isSome_some, Option.isSome_none]
      clear EX EY HR
      go_wp2_with (refine lay7 rfl rfl _ _ rfl (w.heap.size + 1) _ _ _ _ _ _ _ RZ.out rfl _ _ _ _ _ _ _ _ _ rfl ?_; intro p1 RB TB; refine Hid.out ?_)
      replace BW := hide (BW.out.trans (TB.out.below (by omega) BW.out.size))
      clear TB RZ RA
      refine hide ?_
      have y0 := RB.out.cell 0 _ rfl
      have y1 := RB.out.cell 1 _ rfl
      have y2 := RB.out.cell 2 _ rfl
      have y3 := RB.out.cell 3 _ rfl
      have y4 := RB.out.cell 4 _ rfl
      have y5 := RB.out.cell 5 _ rfl
      have y6 := RB.out.cell 6 _ rfl
      go_wp2
      exact bodyPost_ret (v := .agg #[.int .i64 pc, .int .i64 ln, .slice q ops.length c, .int .i64 en, .int .i64 x, .int .i64 y, .int .i64 k]) (by simp [results, Tryd.results58, go_sem, y0, y1, y2, y3, y4, y5, y6]) rfl ⟨rfl, BW.out⟩

    | some py =>
      have EY := hide ey
      have g2 := beq_eq_false_iff_ne.1 e2
      have g3 := beq_eq_false_iff_ne.1 e3
      have g4 := beq_eq_false_iff_ne.1 e4
      have HF : foldK ⟨pc, ln, ops, en, x, y, k⟩ = none := by
        unfold foldK
        simp only []
        rw [if_neg g2, if_neg (by omega)]
      have HB : foldB ⟨pc, ln, ops, en, x, y, k⟩ = ⟨pc, ln, ops, en, x, y, k⟩ := by unfold foldB; rw [HF]
      rw [HB]
      simp only [goB]
      clear HF HB
      clear ex ey g2 g3 g4
      go_enter Tryd.func58, Tryd.ntmps58
      go_wp2_with fail
      generalize ((w.alloc (.cells #[.int .i64 pc, .int .i64 ln, .slice q ops.length c, .int .i64 en, .int .i64 x, .int .i64 y, .int .i64 k] 28)).alloc (.cells #[.int .i64 0, .int .i64 0, .slice none 0 0, .int .i64 0, .int .i64 0, .int .i64 0, .int .i64 0] 28)) = W0 at RA RZ BW HR ⊢
      have z0 := RA.out.cell 0 _ rfl
      have z1 := RA.out.cell 1 _ rfl
      have z2 := RA.out.cell 2 _ rfl
      have z3 := RA.out.cell 3 _ rfl
      have z4 := RA.out.cell 4 _ rfl
      have z5 := RA.out.cell 5 _ rfl
      have z6 := RA.out.cell 6 _ rfl
      refine (l10Known ops B _ x _ HR.out).mono ?_
      rintro e u1 ⟨rfl, rfl⟩
      rw [EX.out]
      simp only [Option.getD_some, Option.getD_none, Option.isSome_some, Option.isSome_none]
      go_wp2_with fail
      refine (l10Known ops B _ y _ HR.out).mono ?_
      rintro e u2 ⟨rfl, rfl⟩
      rw [EY.out]
      simp only [Option.getD_some, Option.getD_none, Option.isSome_some, Option.isSome_none]
      clear EX EY HR
      go_wp2_with (refine lay7 rfl rfl _ _ rfl (w.heap.size + 1) _ _ _ _ _ _ _ RZ.out rfl _ _ _ _ _ _ _ _ _ rfl ?_; intro p1 RB TB; refine Hid.out ?_)
      replace BW := hide (BW.out.trans (TB.out.below (by omega) BW.out.size))
      clear TB RZ RA
      refine hide ?_
      have y0 := RB.out.cell 0 _ rfl
      have y1 := RB.out.cell 1 _ rfl
      have y2 := RB.out.cell 2 _ rfl
      have y3 := RB.out.cell 3 _ rfl
      have y4 := RB.out.cell 4 _ rfl
      have y5 := RB.out.cell 5 _ rfl
      have y6 := RB.out.cell 6 _ rfl
      go_wp2
      exact bodyPost_ret (v := .agg #[.int .i64 pc, .int .i64 ln, .slice q ops.length c, .int .i64 en, .int .i64 x, .int .i64 y, .int .i64 k]) (by simp [results, Tryd.results58, go_sem, y0, y1, y2, y3, y4, y5, y6]) rfl ⟨rfl, BW.out⟩

theorem l10Fold (b : Bk) (q : Option Addr) (c B : Nat) (w : World) (h : ORow w B (.slice q b.ops.length c) b.ops) (p0 : 0 ≤ b.pc) (p1 : b.pc ≤ 64) (n0 : 0 ≤ b.ln) (n1 : b.ln ≤ 8) :
    Calls Tryd.prog 58 #[.agg #[.int .i64 b.pc, .int .i64 b.ln, .slice q b.ops.length c, .int .i64 b.en, .int .i64 b.x, .int .i64 b.y, .int .i64 b.k]] w fun e w' => e = .returned (.agg #[.int .i64 (foldB b).pc, .int .i64 (foldB b).ln, .slice q b.ops.length c, .int .i64 (foldB b).en, .int .i64 (foldB b).x, .int .i64 (foldB b).y, .int .i64 (foldB b).k]) ∧ Below w.heap.size w w' := by
  obtain ⟨pc, ln, ops, en, x, y, k⟩ := b
  simp only [] at h p0 p1 n0 n1 ⊢
  by_cases e2 : en = 2
  · subst e2; exact l10Fold2 pc ln x y k ops q c B w h p0 p1 n0 n1
  by_cases e3 : en = 3
  · subst e3; exact l10Fold3 pc ln x y k ops q c B w h p0 p1 n0 n1
  by_cases e4 : en = 4
  · subst e4; exact l10Fold4 pc ln x y k ops q c B w h p0 p1 n0 n1
  exact l10Fold_other pc ln x y k en ops q c B w h p0 p1 n0 n1 (beq_eq_false_iff_ne.2 e2) (beq_eq_false_iff_ne.2 e3) (beq_eq_false_iff_ne.2 e4)
end Go.Proofs.YtflhehofgplcoaaDoor.Op
