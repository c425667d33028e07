/-
  Our own hand, the specification's l10Alias.
-/
import Derived.Test.YtflhehofgplcoaaDoorOsC
namespace Go.Proofs.YtflhehofgplcoaaDoor.Op
set_option linter.unusedVariables false
set_option linter.unusedSimpArgs false
open Go.ChangeShapes Go.WideShapes Go.ChangeAt Go.RowKit IntS Flat Irk
open Ir Dt
open Mch (Rec)
/-- Five cells stored into a box. -/
theorem rec_fiveS {Z : Nat} {w : World} {c0 c1 c2 c3 c4 : Value} (h : Rec Z [c0, c1, c2, c3, c4] w) (a b c d e : Value) : Rec Z [a, b, c, d, e] (set5 w Z 0 a b c d e) := by
  have := ((((h.set 0 a (by simp) (show _ = [a, c1, c2, c3, c4] from rfl)).set 1 b (by simp) (show _ = [a, b, c2, c3, c4] from rfl)).set 2 c (by simp) (show _ = [a, b, c, c3, c4] from rfl)).set 3 d (by simp) (show _ = [a, b, c, d, c4] from rfl)).set 4 e (by simp) (show _ = [a, b, c, d, e] from rfl)
  exact this
theorem row_at {w : World} {B : Nat} {v : Value} {xs : List Int} (h : Row w B v xs) {a : Option Addr} {n c m : Nat} (hv : v = .slice a n c) {x : Int} (hx : xs[m]? = some x) : ∃ off, a = some ⟨B, off, none⟩ ∧ w.cell? ⟨B, off + m, none⟩ = some (.int .i64 x) ∧ n = xs.length ∧ n ≤ c ∧ c ≤ maxLen := by
  obtain ⟨a', cap, off, e, h2, h3, hz, h4⟩ := h
  rw [hv] at e
  cases e
  obtain ⟨e, q⟩ := h4.resolve_left (fun e => by rw [e] at hx; simp at hx)
  exact ⟨off, e, q m x hx, rfl, h2, h3⟩
set_option maxRecDepth 8000 in
set_option maxHeartbeats 8000000 in
theorem l10Alias1 (k t : Int) (x : Int) (y : Int) (al : List Int) (B : Nat) (v : Value) (w : World) (h : Row w B v al) (hB : B < w.heap.size ∨ al = []) :
    Calls Tryd.prog 45 #[.agg #[.int .i64 1, .int .i64 x, .int .i64 y, .int .i64 k, .int .i64 t], v] w fun e w' => e = .returned (.agg #[.int .i64 1, .int .i64 x, .int .i64 y, .int .i64 k, .int .i64 t]) ∧ Below w.heap.size w w' := by
  have b3 : Below w.heap.size w (((w.alloc (.cells #[.int .i64 1, .int .i64 x, .int .i64 y, .int .i64 k, .int .i64 t] 41)).alloc (.cells #[.int .i64 0, .int .i64 0, .int .i64 0, .int .i64 0, .int .i64 0] 41)).alloc (.cells #[.int .i64 1, .int .i64 x, .int .i64 y, .int .i64 k, .int .i64 t] 41)) := (((Below.refl _ _).alloc (Nat.le_refl _) _).alloc (by simp) _).alloc (by simp <;> omega) _
  have r1 := ((Rec.new w [.int .i64 1, .int .i64 x, .int .i64 y, .int .i64 k, .int .i64 t] 41).alloc (.cells #[.int .i64 0, .int .i64 0, .int .i64 0, .int .i64 0, .int .i64 0] 41)).alloc (.cells #[.int .i64 1, .int .i64 x, .int .i64 y, .int .i64 k, .int .i64 t] 41)
  have r2 := (Rec.new (w.alloc (.cells #[.int .i64 1, .int .i64 x, .int .i64 y, .int .i64 k, .int .i64 t] 41)) [.int .i64 0, .int .i64 0, .int .i64 0, .int .i64 0, .int .i64 0] 41).alloc (.cells #[.int .i64 1, .int .i64 x, .int .i64 y, .int .i64 k, .int .i64 t] 41)
  have r3 := Rec.new ((w.alloc (.cells #[.int .i64 1, .int .i64 x, .int .i64 y, .int .i64 k, .int .i64 t] 41)).alloc (.cells #[.int .i64 0, .int .i64 0, .int .i64 0, .int .i64 0, .int .i64 0] 41)) [.int .i64 1, .int .i64 x, .int .i64 y, .int .i64 k, .int .i64 t] 41
  rw [show (w.alloc (.cells #[.int .i64 1, .int .i64 x, .int .i64 y, .int .i64 k, .int .i64 t] 41)).heap.size = w.heap.size + 1 by simp] at r2
  rw [show ((w.alloc (.cells #[.int .i64 1, .int .i64 x, .int .i64 y, .int .i64 k, .int .i64 t] 41)).alloc (.cells #[.int .i64 0, .int .i64 0, .int .i64 0, .int .i64 0, .int .i64 0] 41)).heap.size = w.heap.size + 1 + 1 by simp] at r3
  have RA := hide r1
  have RZ := hide r2
  have RX := hide r3
  have BW := hide b3
  clear h b3 r1 r2 r3 hB
  go_enter Tryd.func45, Tryd.ntmps45
  go_wp2_with fail
  generalize (((w.alloc (.cells #[.int .i64 1, .int .i64 x, .int .i64 y, .int .i64 k, .int .i64 t] 41)).alloc (.cells #[.int .i64 0, .int .i64 0, .int .i64 0, .int .i64 0, .int .i64 0] 41)).alloc (.cells #[.int .i64 1, .int .i64 x, .int .i64 y, .int .i64 k, .int .i64 t] 41)) = W0 at *
  refine (l1In 1 3 5 _).mono ?_
  rintro e u ⟨rfl, rfl⟩
  rw [show inI 1 3 5 = false from rfl]
  have z0 := RA.out.cell 0 _ rfl
  have z1 := RA.out.cell 1 _ rfl
  have z2 := RA.out.cell 2 _ rfl
  have x0 := RX.out.cell 0 _ rfl
  have x1 := RX.out.cell 1 _ rfl
  have x2 := RX.out.cell 2 _ rfl
  have x3 := RX.out.cell 3 _ rfl
  have x4 := RX.out.cell 4 _ rfl
  have f1 := RX.out.soft 1
  have f2 := RX.out.soft 2
  have TX : Turn (w.heap.size + 1 + 1) u u := Turn.refl _ u
  have RN := RZ.out.turn TX (by omega)
  have R5 := rec_fiveS RN (.int .i64 1) (.int .i64 x) (.int .i64 y) (.int .i64 k) (.int .i64 t)
  have T5 := set5_turn u (w.heap.size + 1) 0 (.int .i64 1) (.int .i64 x) (.int .i64 y) (.int .i64 k) (.int .i64 t)
  have BN := (BW.out.trans (TX.below (by omega) BW.out.size))
  have BM := hide (BN.trans (T5.below (by omega) BN.size))
  have FR : Hid (∀ i, u.frozen? ⟨w.heap.size + 1, i, none⟩ = false) := RN.soft
  have FC : Hid (Rec (w.heap.size + 1) [.int .i64 0, .int .i64 0, .int .i64 0, .int .i64 0, .int .i64 0] u) := RN
  unfold set5 at BM R5
  have R6 := hide R5
  clear TX RN T5 BN R5 RZ BW RA RX
  have y0 := FC.out.cell 0 _ rfl
  have y1 := FC.out.cell 1 _ rfl
  have y2 := FC.out.cell 2 _ rfl
  have y3 := FC.out.cell 3 _ rfl
  have y4 := FC.out.cell 4 _ rfl
  have g0 := FR.out 0
  have g1 := FR.out 1
  have g2 := FR.out 2
  have g3 := FR.out 3
  have g4 := FR.out 4
  go_wp2
  have q0 := R6.out.cell 0 _ rfl
  have q1 := R6.out.cell 1 _ rfl
  have q2 := R6.out.cell 2 _ rfl
  have q3 := R6.out.cell 3 _ rfl
  have q4 := R6.out.cell 4 _ rfl
  exact bodyPost_ret (v := .agg #[.int .i64 1, .int .i64 x, .int .i64 y, .int .i64 k, .int .i64 t]) (by simp [results, Tryd.results45, go_sem, q0, q1, q2, q3, q4]) rfl ⟨rfl, BM.out⟩
set_option maxRecDepth 8000 in
set_option maxHeartbeats 8000000 in
theorem l10Alias2 (k t : Int) (x : Int) (y : Int) (al : List Int) (B : Nat) (v : Value) (w : World) (h : Row w B v al) (hB : B < w.heap.size ∨ al = []) :
    Calls Tryd.prog 45 #[.agg #[.int .i64 2, .int .i64 x, .int .i64 y, .int .i64 k, .int .i64 t], v] w fun e w' => e = .returned (.agg #[.int .i64 2, .int .i64 x, .int .i64 y, .int .i64 k, .int .i64 t]) ∧ Below w.heap.size w w' := by
  have b3 : Below w.heap.size w (((w.alloc (.cells #[.int .i64 2, .int .i64 x, .int .i64 y, .int .i64 k, .int .i64 t] 41)).alloc (.cells #[.int .i64 0, .int .i64 0, .int .i64 0, .int .i64 0, .int .i64 0] 41)).alloc (.cells #[.int .i64 2, .int .i64 x, .int .i64 y, .int .i64 k, .int .i64 t] 41)) := (((Below.refl _ _).alloc (Nat.le_refl _) _).alloc (by simp) _).alloc (by simp <;> omega) _
  have r1 := ((Rec.new w [.int .i64 2, .int .i64 x, .int .i64 y, .int .i64 k, .int .i64 t] 41).alloc (.cells #[.int .i64 0, .int .i64 0, .int .i64 0, .int .i64 0, .int .i64 0] 41)).alloc (.cells #[.int .i64 2, .int .i64 x, .int .i64 y, .int .i64 k, .int .i64 t] 41)
  have r2 := (Rec.new (w.alloc (.cells #[.int .i64 2, .int .i64 x, .int .i64 y, .int .i64 k, .int .i64 t] 41)) [.int .i64 0, .int .i64 0, .int .i64 0, .int .i64 0, .int .i64 0] 41).alloc (.cells #[.int .i64 2, .int .i64 x, .int .i64 y, .int .i64 k, .int .i64 t] 41)
  have r3 := Rec.new ((w.alloc (.cells #[.int .i64 2, .int .i64 x, .int .i64 y, .int .i64 k, .int .i64 t] 41)).alloc (.cells #[.int .i64 0, .int .i64 0, .int .i64 0, .int .i64 0, .int .i64 0] 41)) [.int .i64 2, .int .i64 x, .int .i64 y, .int .i64 k, .int .i64 t] 41
  rw [show (w.alloc (.cells #[.int .i64 2, .int .i64 x, .int .i64 y, .int .i64 k, .int .i64 t] 41)).heap.size = w.heap.size + 1 by simp] at r2
  rw [show ((w.alloc (.cells #[.int .i64 2, .int .i64 x, .int .i64 y, .int .i64 k, .int .i64 t] 41)).alloc (.cells #[.int .i64 0, .int .i64 0, .int .i64 0, .int .i64 0, .int .i64 0] 41)).heap.size = w.heap.size + 1 + 1 by simp] at r3
  have RA := hide r1
  have RZ := hide r2
  have RX := hide r3
  have BW := hide b3
  clear h b3 r1 r2 r3 hB
  go_enter Tryd.func45, Tryd.ntmps45
  go_wp2_with fail
  generalize (((w.alloc (.cells #[.int .i64 2, .int .i64 x, .int .i64 y, .int .i64 k, .int .i64 t] 41)).alloc (.cells #[.int .i64 0, .int .i64 0, .int .i64 0, .int .i64 0, .int .i64 0] 41)).alloc (.cells #[.int .i64 2, .int .i64 x, .int .i64 y, .int .i64 k, .int .i64 t] 41)) = W0 at *
  refine (l1In 2 3 5 _).mono ?_
  rintro e u ⟨rfl, rfl⟩
  rw [show inI 2 3 5 = false from rfl]
  have z0 := RA.out.cell 0 _ rfl
  have z1 := RA.out.cell 1 _ rfl
  have z2 := RA.out.cell 2 _ rfl
  have x0 := RX.out.cell 0 _ rfl
  have x1 := RX.out.cell 1 _ rfl
  have x2 := RX.out.cell 2 _ rfl
  have x3 := RX.out.cell 3 _ rfl
  have x4 := RX.out.cell 4 _ rfl
  have f1 := RX.out.soft 1
  have f2 := RX.out.soft 2
  have TX : Turn (w.heap.size + 1 + 1) u u := Turn.refl _ u
  have RN := RZ.out.turn TX (by omega)
  have R5 := rec_fiveS RN (.int .i64 2) (.int .i64 x) (.int .i64 y) (.int .i64 k) (.int .i64 t)
  have T5 := set5_turn u (w.heap.size + 1) 0 (.int .i64 2) (.int .i64 x) (.int .i64 y) (.int .i64 k) (.int .i64 t)
  have BN := (BW.out.trans (TX.below (by omega) BW.out.size))
  have BM := hide (BN.trans (T5.below (by omega) BN.size))
  have FR : Hid (∀ i, u.frozen? ⟨w.heap.size + 1, i, none⟩ = false) := RN.soft
  have FC : Hid (Rec (w.heap.size + 1) [.int .i64 0, .int .i64 0, .int .i64 0, .int .i64 0, .int .i64 0] u) := RN
  unfold set5 at BM R5
  have R6 := hide R5
  clear TX RN T5 BN R5 RZ BW RA RX
  have y0 := FC.out.cell 0 _ rfl
  have y1 := FC.out.cell 1 _ rfl
  have y2 := FC.out.cell 2 _ rfl
  have y3 := FC.out.cell 3 _ rfl
  have y4 := FC.out.cell 4 _ rfl
  have g0 := FR.out 0
  have g1 := FR.out 1
  have g2 := FR.out 2
  have g3 := FR.out 3
  have g4 := FR.out 4
  go_wp2
  have q0 := R6.out.cell 0 _ rfl
  have q1 := R6.out.cell 1 _ rfl
  have q2 := R6.out.cell 2 _ rfl
  have q3 := R6.out.cell 3 _ rfl
  have q4 := R6.out.cell 4 _ rfl
  exact bodyPost_ret (v := .agg #[.int .i64 2, .int .i64 x, .int .i64 y, .int .i64 k, .int .i64 t]) (by simp [results, Tryd.results45, go_sem, q0, q1, q2, q3, q4]) rfl ⟨rfl, BM.out⟩
set_option maxRecDepth 8000 in
set_option maxHeartbeats 8000000 in
theorem l10Alias3 (k t : Int) (mx : Nat) (vx : Int) (my : Nat) (vy : Int) (al : List Int) (B : Nat) (v : Value) (w : World) (h : Row w B v al) (hB : B < w.heap.size ∨ al = []) (hx : al[mx]? = some vx) (hy : al[my]? = some vy) :
    Calls Tryd.prog 45 #[.agg #[.int .i64 3, .int .i64 (mx : Int), .int .i64 (my : Int), .int .i64 k, .int .i64 t], v] w fun e w' => e = .returned (.agg #[.int .i64 3, .int .i64 vx, .int .i64 vy, .int .i64 k, .int .i64 t]) ∧ Below w.heap.size w w' := by
  have b3 : Below w.heap.size w (((w.alloc (.cells #[.int .i64 3, .int .i64 (mx : Int), .int .i64 (my : Int), .int .i64 k, .int .i64 t] 41)).alloc (.cells #[.int .i64 0, .int .i64 0, .int .i64 0, .int .i64 0, .int .i64 0] 41)).alloc (.cells #[.int .i64 3, .int .i64 (mx : Int), .int .i64 (my : Int), .int .i64 k, .int .i64 t] 41)) := (((Below.refl _ _).alloc (Nat.le_refl _) _).alloc (by simp) _).alloc (by simp <;> omega) _
  have r1 := ((Rec.new w [.int .i64 3, .int .i64 (mx : Int), .int .i64 (my : Int), .int .i64 k, .int .i64 t] 41).alloc (.cells #[.int .i64 0, .int .i64 0, .int .i64 0, .int .i64 0, .int .i64 0] 41)).alloc (.cells #[.int .i64 3, .int .i64 (mx : Int), .int .i64 (my : Int), .int .i64 k, .int .i64 t] 41)
  have r2 := (Rec.new (w.alloc (.cells #[.int .i64 3, .int .i64 (mx : Int), .int .i64 (my : Int), .int .i64 k, .int .i64 t] 41)) [.int .i64 0, .int .i64 0, .int .i64 0, .int .i64 0, .int .i64 0] 41).alloc (.cells #[.int .i64 3, .int .i64 (mx : Int), .int .i64 (my : Int), .int .i64 k, .int .i64 t] 41)
  have r3 := Rec.new ((w.alloc (.cells #[.int .i64 3, .int .i64 (mx : Int), .int .i64 (my : Int), .int .i64 k, .int .i64 t] 41)).alloc (.cells #[.int .i64 0, .int .i64 0, .int .i64 0, .int .i64 0, .int .i64 0] 41)) [.int .i64 3, .int .i64 (mx : Int), .int .i64 (my : Int), .int .i64 k, .int .i64 t] 41
  rw [show (w.alloc (.cells #[.int .i64 3, .int .i64 (mx : Int), .int .i64 (my : Int), .int .i64 k, .int .i64 t] 41)).heap.size = w.heap.size + 1 by simp] at r2
  rw [show ((w.alloc (.cells #[.int .i64 3, .int .i64 (mx : Int), .int .i64 (my : Int), .int .i64 k, .int .i64 t] 41)).alloc (.cells #[.int .i64 0, .int .i64 0, .int .i64 0, .int .i64 0, .int .i64 0] 41)).heap.size = w.heap.size + 1 + 1 by simp] at r3
  have RA := hide r1
  have RZ := hide r2
  have RX := hide r3
  have BW := hide b3
  have hB2 := hB.resolve_right (fun e => by rw [e] at hx; simp at hx)
  obtain ⟨a, cap, off0, hv, -, -, -, -⟩ := h.ex
  obtain ⟨off, rfl, c1, -, l1, l2⟩ := row_at (h.below b3) hv hx
  subst hv
  have lx := (List.getElem?_eq_some_iff.1 hx).1
  have lx2 : ((mx : Nat) : Int) < (al.length : Nat) := by omega
  unfold maxLen at l2
  obtain ⟨off2, e2, c2, -, -, -⟩ := row_at (h.below b3) rfl hy
  cases e2
  have ly := (List.getElem?_eq_some_iff.1 hy).1
  have ly2 : ((my : Nat) : Int) < (al.length : Nat) := by omega
  have c3 := ((Turn.refl (w.heap.size + 1 + 1) (((w.alloc (.cells #[.int .i64 3, .int .i64 (mx : Int), .int .i64 (my : Int), .int .i64 k, .int .i64 t] 41)).alloc (.cells #[.int .i64 0, .int .i64 0, .int .i64 0, .int .i64 0, .int .i64 0] 41)).alloc (.cells #[.int .i64 3, .int .i64 (mx : Int), .int .i64 (my : Int), .int .i64 k, .int .i64 t] 41))).setCell (p := ⟨w.heap.size + 1 + 1, 1, none⟩) rfl (.int .i64 vx)).cell (p := ⟨B, off + my, none⟩) (by simp <;> omega) (by simp <;> omega)
  rw [c2] at c3
  have C3 := hide c3
  clear c3 hy
  clear hx hB hB2
  clear h b3 r1 r2 r3
  go_enter Tryd.func45, Tryd.ntmps45
  go_wp2_with fail
  generalize (((w.alloc (.cells #[.int .i64 3, .int .i64 (mx : Int), .int .i64 (my : Int), .int .i64 k, .int .i64 t] 41)).alloc (.cells #[.int .i64 0, .int .i64 0, .int .i64 0, .int .i64 0, .int .i64 0] 41)).alloc (.cells #[.int .i64 3, .int .i64 (mx : Int), .int .i64 (my : Int), .int .i64 k, .int .i64 t] 41)) = W0 at *
  refine (l1In 3 3 5 _).mono ?_
  rintro e u ⟨rfl, rfl⟩
  rw [show inI 3 3 5 = true from rfl]
  have z0 := RA.out.cell 0 _ rfl
  have z1 := RA.out.cell 1 _ rfl
  have z2 := RA.out.cell 2 _ rfl
  have x0 := RX.out.cell 0 _ rfl
  have x1 := RX.out.cell 1 _ rfl
  have x2 := RX.out.cell 2 _ rfl
  have x3 := RX.out.cell 3 _ rfl
  have x4 := RX.out.cell 4 _ rfl
  have f1 := RX.out.soft 1
  have f2 := RX.out.soft 2
  have c3 := C3.out
  have TX : Turn (w.heap.size + 1 + 1) u ((u.setCell ⟨w.heap.size + 1 + 1, 1, none⟩ (.int .i64 vx)).setCell ⟨w.heap.size + 1 + 1, 2, none⟩ (.int .i64 vy)) := ((Turn.refl _ u).setCell (p := ⟨w.heap.size + 1 + 1, 1, none⟩) rfl _).setCell (p := ⟨w.heap.size + 1 + 1, 2, none⟩) rfl _
  have RN := RZ.out.turn TX (by omega)
  have R5 := rec_fiveS RN (.int .i64 3) (.int .i64 vx) (.int .i64 vy) (.int .i64 k) (.int .i64 t)
  have T5 := set5_turn ((u.setCell ⟨w.heap.size + 1 + 1, 1, none⟩ (.int .i64 vx)).setCell ⟨w.heap.size + 1 + 1, 2, none⟩ (.int .i64 vy)) (w.heap.size + 1) 0 (.int .i64 3) (.int .i64 vx) (.int .i64 vy) (.int .i64 k) (.int .i64 t)
  have BN := (BW.out.trans (TX.below (by omega) BW.out.size))
  have BM := hide (BN.trans (T5.below (by omega) BN.size))
  have FR : Hid (∀ i, ((u.setCell ⟨w.heap.size + 1 + 1, 1, none⟩ (.int .i64 vx)).setCell ⟨w.heap.size + 1 + 1, 2, none⟩ (.int .i64 vy)).frozen? ⟨w.heap.size + 1, i, none⟩ = false) := RN.soft
  have FC : Hid (Rec (w.heap.size + 1) [.int .i64 0, .int .i64 0, .int .i64 0, .int .i64 0, .int .i64 0] ((u.setCell ⟨w.heap.size + 1 + 1, 1, none⟩ (.int .i64 vx)).setCell ⟨w.heap.size + 1 + 1, 2, none⟩ (.int .i64 vy))) := RN
  unfold set5 at BM R5
  have R6 := hide R5
  clear TX RN T5 BN R5 RZ BW RA RX C3
  have y0 := FC.out.cell 0 _ rfl
  have y1 := FC.out.cell 1 _ rfl
  have y2 := FC.out.cell 2 _ rfl
  have y3 := FC.out.cell 3 _ rfl
  have y4 := FC.out.cell 4 _ rfl
  have g0 := FR.out 0
  have g1 := FR.out 1
  have g2 := FR.out 2
  have g3 := FR.out 3
  have g4 := FR.out 4
  go_wp2
  have q0 := R6.out.cell 0 _ rfl
  have q1 := R6.out.cell 1 _ rfl
  have q2 := R6.out.cell 2 _ rfl
  have q3 := R6.out.cell 3 _ rfl
  have q4 := R6.out.cell 4 _ rfl
  exact bodyPost_ret (v := .agg #[.int .i64 3, .int .i64 vx, .int .i64 vy, .int .i64 k, .int .i64 t]) (by simp [results, Tryd.results45, go_sem, q0, q1, q2, q3, q4]) rfl ⟨rfl, BM.out⟩
set_option maxRecDepth 8000 in
set_option maxHeartbeats 8000000 in
theorem l10Alias4 (k t : Int) (mx : Nat) (vx : Int) (y : Int) (al : List Int) (B : Nat) (v : Value) (w : World) (h : Row w B v al) (hB : B < w.heap.size ∨ al = []) (hx : al[mx]? = some vx) :
    Calls Tryd.prog 45 #[.agg #[.int .i64 4, .int .i64 (mx : Int), .int .i64 y, .int .i64 k, .int .i64 t], v] w fun e w' => e = .returned (.agg #[.int .i64 4, .int .i64 vx, .int .i64 y, .int .i64 k, .int .i64 t]) ∧ Below w.heap.size w w' := by
  have b3 : Below w.heap.size w (((w.alloc (.cells #[.int .i64 4, .int .i64 (mx : Int), .int .i64 y, .int .i64 k, .int .i64 t] 41)).alloc (.cells #[.int .i64 0, .int .i64 0, .int .i64 0, .int .i64 0, .int .i64 0] 41)).alloc (.cells #[.int .i64 4, .int .i64 (mx : Int), .int .i64 y, .int .i64 k, .int .i64 t] 41)) := (((Below.refl _ _).alloc (Nat.le_refl _) _).alloc (by simp) _).alloc (by simp <;> omega) _
  have r1 := ((Rec.new w [.int .i64 4, .int .i64 (mx : Int), .int .i64 y, .int .i64 k, .int .i64 t] 41).alloc (.cells #[.int .i64 0, .int .i64 0, .int .i64 0, .int .i64 0, .int .i64 0] 41)).alloc (.cells #[.int .i64 4, .int .i64 (mx : Int), .int .i64 y, .int .i64 k, .int .i64 t] 41)
  have r2 := (Rec.new (w.alloc (.cells #[.int .i64 4, .int .i64 (mx : Int), .int .i64 y, .int .i64 k, .int .i64 t] 41)) [.int .i64 0, .int .i64 0, .int .i64 0, .int .i64 0, .int .i64 0] 41).alloc (.cells #[.int .i64 4, .int .i64 (mx : Int), .int .i64 y, .int .i64 k, .int .i64 t] 41)
  have r3 := Rec.new ((w.alloc (.cells #[.int .i64 4, .int .i64 (mx : Int), .int .i64 y, .int .i64 k, .int .i64 t] 41)).alloc (.cells #[.int .i64 0, .int .i64 0, .int .i64 0, .int .i64 0, .int .i64 0] 41)) [.int .i64 4, .int .i64 (mx : Int), .int .i64 y, .int .i64 k, .int .i64 t] 41
  rw [show (w.alloc (.cells #[.int .i64 4, .int .i64 (mx : Int), .int .i64 y, .int .i64 k, .int .i64 t] 41)).heap.size = w.heap.size + 1 by simp] at r2
  rw [show ((w.alloc (.cells #[.int .i64 4, .int .i64 (mx : Int), .int .i64 y, .int .i64 k, .int .i64 t] 41)).alloc (.cells #[.int .i64 0, .int .i64 0, .int .i64 0, .int .i64 0, .int .i64 0] 41)).heap.size = w.heap.size + 1 + 1 by simp] at r3
  have RA := hide r1
  have RZ := hide r2
  have RX := hide r3
  have BW := hide b3
  have hB2 := hB.resolve_right (fun e => by rw [e] at hx; simp at hx)
  obtain ⟨a, cap, off0, hv, -, -, -, -⟩ := h.ex
  obtain ⟨off, rfl, c1, -, l1, l2⟩ := row_at (h.below b3) hv hx
  subst hv
  have lx := (List.getElem?_eq_some_iff.1 hx).1
  have lx2 : ((mx : Nat) : Int) < (al.length : Nat) := by omega
  unfold maxLen at l2
  clear hx hB hB2
  clear h b3 r1 r2 r3
  go_enter Tryd.func45, Tryd.ntmps45
  go_wp2_with fail
  generalize (((w.alloc (.cells #[.int .i64 4, .int .i64 (mx : Int), .int .i64 y, .int .i64 k, .int .i64 t] 41)).alloc (.cells #[.int .i64 0, .int .i64 0, .int .i64 0, .int .i64 0, .int .i64 0] 41)).alloc (.cells #[.int .i64 4, .int .i64 (mx : Int), .int .i64 y, .int .i64 k, .int .i64 t] 41)) = W0 at *
  refine (l1In 4 3 5 _).mono ?_
  rintro e u ⟨rfl, rfl⟩
  rw [show inI 4 3 5 = true from rfl]
  have z0 := RA.out.cell 0 _ rfl
  have z1 := RA.out.cell 1 _ rfl
  have z2 := RA.out.cell 2 _ rfl
  have x0 := RX.out.cell 0 _ rfl
  have x1 := RX.out.cell 1 _ rfl
  have x2 := RX.out.cell 2 _ rfl
  have x3 := RX.out.cell 3 _ rfl
  have x4 := RX.out.cell 4 _ rfl
  have f1 := RX.out.soft 1
  have f2 := RX.out.soft 2
  have TX : Turn (w.heap.size + 1 + 1) u (u.setCell ⟨w.heap.size + 1 + 1, 1, none⟩ (.int .i64 vx)) := (Turn.refl _ u).setCell (p := ⟨w.heap.size + 1 + 1, 1, none⟩) rfl _
  have RN := RZ.out.turn TX (by omega)
  have R5 := rec_fiveS RN (.int .i64 4) (.int .i64 vx) (.int .i64 y) (.int .i64 k) (.int .i64 t)
  have T5 := set5_turn (u.setCell ⟨w.heap.size + 1 + 1, 1, none⟩ (.int .i64 vx)) (w.heap.size + 1) 0 (.int .i64 4) (.int .i64 vx) (.int .i64 y) (.int .i64 k) (.int .i64 t)
  have BN := (BW.out.trans (TX.below (by omega) BW.out.size))
  have BM := hide (BN.trans (T5.below (by omega) BN.size))
  have FR : Hid (∀ i, (u.setCell ⟨w.heap.size + 1 + 1, 1, none⟩ (.int .i64 vx)).frozen? ⟨w.heap.size + 1, i, none⟩ = false) := RN.soft
  have FC : Hid (Rec (w.heap.size + 1) [.int .i64 0, .int .i64 0, .int .i64 0, .int .i64 0, .int .i64 0] (u.setCell ⟨w.heap.size + 1 + 1, 1, none⟩ (.int .i64 vx))) := RN
  unfold set5 at BM R5
  have R6 := hide R5
  clear TX RN T5 BN R5 RZ BW RA RX
  have y0 := FC.out.cell 0 _ rfl
  have y1 := FC.out.cell 1 _ rfl
  have y2 := FC.out.cell 2 _ rfl
  have y3 := FC.out.cell 3 _ rfl
  have y4 := FC.out.cell 4 _ rfl
  have g0 := FR.out 0
  have g1 := FR.out 1
  have g2 := FR.out 2
  have g3 := FR.out 3
  have g4 := FR.out 4
  go_wp2
  have q0 := R6.out.cell 0 _ rfl
  have q1 := R6.out.cell 1 _ rfl
  have q2 := R6.out.cell 2 _ rfl
  have q3 := R6.out.cell 3 _ rfl
  have q4 := R6.out.cell 4 _ rfl
  exact bodyPost_ret (v := .agg #[.int .i64 4, .int .i64 vx, .int .i64 y, .int .i64 k, .int .i64 t]) (by simp [results, Tryd.results45, go_sem, q0, q1, q2, q3, q4]) rfl ⟨rfl, BM.out⟩
set_option maxRecDepth 8000 in
set_option maxHeartbeats 8000000 in
theorem l10Alias5 (k t : Int) (mx : Nat) (vx : Int) (my : Nat) (vy : Int) (al : List Int) (B : Nat) (v : Value) (w : World) (h : Row w B v al) (hB : B < w.heap.size ∨ al = []) (hx : al[mx]? = some vx) (hy : al[my]? = some vy) :
    Calls Tryd.prog 45 #[.agg #[.int .i64 5, .int .i64 (mx : Int), .int .i64 (my : Int), .int .i64 k, .int .i64 t], v] w fun e w' => e = .returned (.agg #[.int .i64 5, .int .i64 vx, .int .i64 vy, .int .i64 k, .int .i64 t]) ∧ Below w.heap.size w w' := by
  have b3 : Below w.heap.size w (((w.alloc (.cells #[.int .i64 5, .int .i64 (mx : Int), .int .i64 (my : Int), .int .i64 k, .int .i64 t] 41)).alloc (.cells #[.int .i64 0, .int .i64 0, .int .i64 0, .int .i64 0, .int .i64 0] 41)).alloc (.cells #[.int .i64 5, .int .i64 (mx : Int), .int .i64 (my : Int), .int .i64 k, .int .i64 t] 41)) := (((Below.refl _ _).alloc (Nat.le_refl _) _).alloc (by simp) _).alloc (by simp <;> omega) _
  have r1 := ((Rec.new w [.int .i64 5, .int .i64 (mx : Int), .int .i64 (my : Int), .int .i64 k, .int .i64 t] 41).alloc (.cells #[.int .i64 0, .int .i64 0, .int .i64 0, .int .i64 0, .int .i64 0] 41)).alloc (.cells #[.int .i64 5, .int .i64 (mx : Int), .int .i64 (my : Int), .int .i64 k, .int .i64 t] 41)
  have r2 := (Rec.new (w.alloc (.cells #[.int .i64 5, .int .i64 (mx : Int), .int .i64 (my : Int), .int .i64 k, .int .i64 t] 41)) [.int .i64 0, .int .i64 0, .int .i64 0, .int .i64 0, .int .i64 0] 41).alloc (.cells #[.int .i64 5, .int .i64 (mx : Int), .int .i64 (my : Int), .int .i64 k, .int .i64 t] 41)
  have r3 := Rec.new ((w.alloc (.cells #[.int .i64 5, .int .i64 (mx : Int), .int .i64 (my : Int), .int .i64 k, .int .i64 t] 41)).alloc (.cells #[.int .i64 0, .int .i64 0, .int .i64 0, .int .i64 0, .int .i64 0] 41)) [.int .i64 5, .int .i64 (mx : Int), .int .i64 (my : Int), .int .i64 k, .int .i64 t] 41
  rw [show (w.alloc (.cells #[.int .i64 5, .int .i64 (mx : Int), .int .i64 (my : Int), .int .i64 k, .int .i64 t] 41)).heap.size = w.heap.size + 1 by simp] at r2
  rw [show ((w.alloc (.cells #[.int .i64 5, .int .i64 (mx : Int), .int .i64 (my : Int), .int .i64 k, .int .i64 t] 41)).alloc (.cells #[.int .i64 0, .int .i64 0, .int .i64 0, .int .i64 0, .int .i64 0] 41)).heap.size = w.heap.size + 1 + 1 by simp] at r3
  have RA := hide r1
  have RZ := hide r2
  have RX := hide r3
  have BW := hide b3
  have hB2 := hB.resolve_right (fun e => by rw [e] at hx; simp at hx)
  obtain ⟨a, cap, off0, hv, -, -, -, -⟩ := h.ex
  obtain ⟨off, rfl, c1, -, l1, l2⟩ := row_at (h.below b3) hv hx
  subst hv
  have lx := (List.getElem?_eq_some_iff.1 hx).1
  have lx2 : ((mx : Nat) : Int) < (al.length : Nat) := by omega
  unfold maxLen at l2
  obtain ⟨off2, e2, c2, -, -, -⟩ := row_at (h.below b3) rfl hy
  cases e2
  have ly := (List.getElem?_eq_some_iff.1 hy).1
  have ly2 : ((my : Nat) : Int) < (al.length : Nat) := by omega
  have c3 := ((Turn.refl (w.heap.size + 1 + 1) (((w.alloc (.cells #[.int .i64 5, .int .i64 (mx : Int), .int .i64 (my : Int), .int .i64 k, .int .i64 t] 41)).alloc (.cells #[.int .i64 0, .int .i64 0, .int .i64 0, .int .i64 0, .int .i64 0] 41)).alloc (.cells #[.int .i64 5, .int .i64 (mx : Int), .int .i64 (my : Int), .int .i64 k, .int .i64 t] 41))).setCell (p := ⟨w.heap.size + 1 + 1, 1, none⟩) rfl (.int .i64 vx)).cell (p := ⟨B, off + my, none⟩) (by simp <;> omega) (by simp <;> omega)
  rw [c2] at c3
  have C3 := hide c3
  clear c3 hy
  clear hx hB hB2
  clear h b3 r1 r2 r3
  go_enter Tryd.func45, Tryd.ntmps45
  go_wp2_with fail
  generalize (((w.alloc (.cells #[.int .i64 5, .int .i64 (mx : Int), .int .i64 (my : Int), .int .i64 k, .int .i64 t] 41)).alloc (.cells #[.int .i64 0, .int .i64 0, .int .i64 0, .int .i64 0, .int .i64 0] 41)).alloc (.cells #[.int .i64 5, .int .i64 (mx : Int), .int .i64 (my : Int), .int .i64 k, .int .i64 t] 41)) = W0 at *
  refine (l1In 5 3 5 _).mono ?_
  rintro e u ⟨rfl, rfl⟩
  rw [show inI 5 3 5 = true from rfl]
  have z0 := RA.out.cell 0 _ rfl
  have z1 := RA.out.cell 1 _ rfl
  have z2 := RA.out.cell 2 _ rfl
  have x0 := RX.out.cell 0 _ rfl
  have x1 := RX.out.cell 1 _ rfl
  have x2 := RX.out.cell 2 _ rfl
  have x3 := RX.out.cell 3 _ rfl
  have x4 := RX.out.cell 4 _ rfl
  have f1 := RX.out.soft 1
  have f2 := RX.out.soft 2
  have c3 := C3.out
  have TX : Turn (w.heap.size + 1 + 1) u ((u.setCell ⟨w.heap.size + 1 + 1, 1, none⟩ (.int .i64 vx)).setCell ⟨w.heap.size + 1 + 1, 2, none⟩ (.int .i64 vy)) := ((Turn.refl _ u).setCell (p := ⟨w.heap.size + 1 + 1, 1, none⟩) rfl _).setCell (p := ⟨w.heap.size + 1 + 1, 2, none⟩) rfl _
  have RN := RZ.out.turn TX (by omega)
  have R5 := rec_fiveS RN (.int .i64 5) (.int .i64 vx) (.int .i64 vy) (.int .i64 k) (.int .i64 t)
  have T5 := set5_turn ((u.setCell ⟨w.heap.size + 1 + 1, 1, none⟩ (.int .i64 vx)).setCell ⟨w.heap.size + 1 + 1, 2, none⟩ (.int .i64 vy)) (w.heap.size + 1) 0 (.int .i64 5) (.int .i64 vx) (.int .i64 vy) (.int .i64 k) (.int .i64 t)
  have BN := (BW.out.trans (TX.below (by omega) BW.out.size))
  have BM := hide (BN.trans (T5.below (by omega) BN.size))
  have FR : Hid (∀ i, ((u.setCell ⟨w.heap.size + 1 + 1, 1, none⟩ (.int .i64 vx)).setCell ⟨w.heap.size + 1 + 1, 2, none⟩ (.int .i64 vy)).frozen? ⟨w.heap.size + 1, i, none⟩ = false) := RN.soft
  have FC : Hid (Rec (w.heap.size + 1) [.int .i64 0, .int .i64 0, .int .i64 0, .int .i64 0, .int .i64 0] ((u.setCell ⟨w.heap.size + 1 + 1, 1, none⟩ (.int .i64 vx)).setCell ⟨w.heap.size + 1 + 1, 2, none⟩ (.int .i64 vy))) := RN
  unfold set5 at BM R5
  have R6 := hide R5
  clear TX RN T5 BN R5 RZ BW RA RX C3
  have y0 := FC.out.cell 0 _ rfl
  have y1 := FC.out.cell 1 _ rfl
  have y2 := FC.out.cell 2 _ rfl
  have y3 := FC.out.cell 3 _ rfl
  have y4 := FC.out.cell 4 _ rfl
  have g0 := FR.out 0
  have g1 := FR.out 1
  have g2 := FR.out 2
  have g3 := FR.out 3
  have g4 := FR.out 4
  go_wp2
  have q0 := R6.out.cell 0 _ rfl
  have q1 := R6.out.cell 1 _ rfl
  have q2 := R6.out.cell 2 _ rfl
  have q3 := R6.out.cell 3 _ rfl
  have q4 := R6.out.cell 4 _ rfl
  exact bodyPost_ret (v := .agg #[.int .i64 5, .int .i64 vx, .int .i64 vy, .int .i64 k, .int .i64 t]) (by simp [results, Tryd.results45, go_sem, q0, q1, q2, q3, q4]) rfl ⟨rfl, BM.out⟩
set_option maxRecDepth 8000 in
set_option maxHeartbeats 8000000 in
theorem l10Alias6 (k t : Int) (x : Int) (y : Int) (al : List Int) (B : Nat) (v : Value) (w : World) (h : Row w B v al) (hB : B < w.heap.size ∨ al = []) :
    Calls Tryd.prog 45 #[.agg #[.int .i64 6, .int .i64 x, .int .i64 y, .int .i64 k, .int .i64 t], v] w fun e w' => e = .returned (.agg #[.int .i64 6, .int .i64 x, .int .i64 y, .int .i64 k, .int .i64 t]) ∧ Below w.heap.size w w' := by
  have b3 : Below w.heap.size w (((w.alloc (.cells #[.int .i64 6, .int .i64 x, .int .i64 y, .int .i64 k, .int .i64 t] 41)).alloc (.cells #[.int .i64 0, .int .i64 0, .int .i64 0, .int .i64 0, .int .i64 0] 41)).alloc (.cells #[.int .i64 6, .int .i64 x, .int .i64 y, .int .i64 k, .int .i64 t] 41)) := (((Below.refl _ _).alloc (Nat.le_refl _) _).alloc (by simp) _).alloc (by simp <;> omega) _
  have r1 := ((Rec.new w [.int .i64 6, .int .i64 x, .int .i64 y, .int .i64 k, .int .i64 t] 41).alloc (.cells #[.int .i64 0, .int .i64 0, .int .i64 0, .int .i64 0, .int .i64 0] 41)).alloc (.cells #[.int .i64 6, .int .i64 x, .int .i64 y, .int .i64 k, .int .i64 t] 41)
  have r2 := (Rec.new (w.alloc (.cells #[.int .i64 6, .int .i64 x, .int .i64 y, .int .i64 k, .int .i64 t] 41)) [.int .i64 0, .int .i64 0, .int .i64 0, .int .i64 0, .int .i64 0] 41).alloc (.cells #[.int .i64 6, .int .i64 x, .int .i64 y, .int .i64 k, .int .i64 t] 41)
  have r3 := Rec.new ((w.alloc (.cells #[.int .i64 6, .int .i64 x, .int .i64 y, .int .i64 k, .int .i64 t] 41)).alloc (.cells #[.int .i64 0, .int .i64 0, .int .i64 0, .int .i64 0, .int .i64 0] 41)) [.int .i64 6, .int .i64 x, .int .i64 y, .int .i64 k, .int .i64 t] 41
  rw [show (w.alloc (.cells #[.int .i64 6, .int .i64 x, .int .i64 y, .int .i64 k, .int .i64 t] 41)).heap.size = w.heap.size + 1 by simp] at r2
  rw [show ((w.alloc (.cells #[.int .i64 6, .int .i64 x, .int .i64 y, .int .i64 k, .int .i64 t] 41)).alloc (.cells #[.int .i64 0, .int .i64 0, .int .i64 0, .int .i64 0, .int .i64 0] 41)).heap.size = w.heap.size + 1 + 1 by simp] at r3
  have RA := hide r1
  have RZ := hide r2
  have RX := hide r3
  have BW := hide b3
  clear h b3 r1 r2 r3 hB
  go_enter Tryd.func45, Tryd.ntmps45
  go_wp2_with fail
  generalize (((w.alloc (.cells #[.int .i64 6, .int .i64 x, .int .i64 y, .int .i64 k, .int .i64 t] 41)).alloc (.cells #[.int .i64 0, .int .i64 0, .int .i64 0, .int .i64 0, .int .i64 0] 41)).alloc (.cells #[.int .i64 6, .int .i64 x, .int .i64 y, .int .i64 k, .int .i64 t] 41)) = W0 at *
  refine (l1In 6 3 5 _).mono ?_
  rintro e u ⟨rfl, rfl⟩
  rw [show inI 6 3 5 = false from rfl]
  have z0 := RA.out.cell 0 _ rfl
  have z1 := RA.out.cell 1 _ rfl
  have z2 := RA.out.cell 2 _ rfl
  have x0 := RX.out.cell 0 _ rfl
  have x1 := RX.out.cell 1 _ rfl
  have x2 := RX.out.cell 2 _ rfl
  have x3 := RX.out.cell 3 _ rfl
  have x4 := RX.out.cell 4 _ rfl
  have f1 := RX.out.soft 1
  have f2 := RX.out.soft 2
  have TX : Turn (w.heap.size + 1 + 1) u u := Turn.refl _ u
  have RN := RZ.out.turn TX (by omega)
  have R5 := rec_fiveS RN (.int .i64 6) (.int .i64 x) (.int .i64 y) (.int .i64 k) (.int .i64 t)
  have T5 := set5_turn u (w.heap.size + 1) 0 (.int .i64 6) (.int .i64 x) (.int .i64 y) (.int .i64 k) (.int .i64 t)
  have BN := (BW.out.trans (TX.below (by omega) BW.out.size))
  have BM := hide (BN.trans (T5.below (by omega) BN.size))
  have FR : Hid (∀ i, u.frozen? ⟨w.heap.size + 1, i, none⟩ = false) := RN.soft
  have FC : Hid (Rec (w.heap.size + 1) [.int .i64 0, .int .i64 0, .int .i64 0, .int .i64 0, .int .i64 0] u) := RN
  unfold set5 at BM R5
  have R6 := hide R5
  clear TX RN T5 BN R5 RZ BW RA RX
  have y0 := FC.out.cell 0 _ rfl
  have y1 := FC.out.cell 1 _ rfl
  have y2 := FC.out.cell 2 _ rfl
  have y3 := FC.out.cell 3 _ rfl
  have y4 := FC.out.cell 4 _ rfl
  have g0 := FR.out 0
  have g1 := FR.out 1
  have g2 := FR.out 2
  have g3 := FR.out 3
  have g4 := FR.out 4
  go_wp2
  have q0 := R6.out.cell 0 _ rfl
  have q1 := R6.out.cell 1 _ rfl
  have q2 := R6.out.cell 2 _ rfl
  have q3 := R6.out.cell 3 _ rfl
  have q4 := R6.out.cell 4 _ rfl
  exact bodyPost_ret (v := .agg #[.int .i64 6, .int .i64 x, .int .i64 y, .int .i64 k, .int .i64 t]) (by simp [results, Tryd.results45, go_sem, q0, q1, q2, q3, q4]) rfl ⟨rfl, BM.out⟩
set_option maxRecDepth 8000 in
set_option maxHeartbeats 8000000 in
theorem l10Alias7 (k t : Int) (mx : Nat) (vx : Int) (y : Int) (al : List Int) (B : Nat) (v : Value) (w : World) (h : Row w B v al) (hB : B < w.heap.size ∨ al = []) (hx : al[mx]? = some vx) :
    Calls Tryd.prog 45 #[.agg #[.int .i64 7, .int .i64 (mx : Int), .int .i64 y, .int .i64 k, .int .i64 t], v] w fun e w' => e = .returned (.agg #[.int .i64 7, .int .i64 vx, .int .i64 y, .int .i64 k, .int .i64 t]) ∧ Below w.heap.size w w' := by
  have b3 : Below w.heap.size w (((w.alloc (.cells #[.int .i64 7, .int .i64 (mx : Int), .int .i64 y, .int .i64 k, .int .i64 t] 41)).alloc (.cells #[.int .i64 0, .int .i64 0, .int .i64 0, .int .i64 0, .int .i64 0] 41)).alloc (.cells #[.int .i64 7, .int .i64 (mx : Int), .int .i64 y, .int .i64 k, .int .i64 t] 41)) := (((Below.refl _ _).alloc (Nat.le_refl _) _).alloc (by simp) _).alloc (by simp <;> omega) _
  have r1 := ((Rec.new w [.int .i64 7, .int .i64 (mx : Int), .int .i64 y, .int .i64 k, .int .i64 t] 41).alloc (.cells #[.int .i64 0, .int .i64 0, .int .i64 0, .int .i64 0, .int .i64 0] 41)).alloc (.cells #[.int .i64 7, .int .i64 (mx : Int), .int .i64 y, .int .i64 k, .int .i64 t] 41)
  have r2 := (Rec.new (w.alloc (.cells #[.int .i64 7, .int .i64 (mx : Int), .int .i64 y, .int .i64 k, .int .i64 t] 41)) [.int .i64 0, .int .i64 0, .int .i64 0, .int .i64 0, .int .i64 0] 41).alloc (.cells #[.int .i64 7, .int .i64 (mx : Int), .int .i64 y, .int .i64 k, .int .i64 t] 41)
  have r3 := Rec.new ((w.alloc (.cells #[.int .i64 7, .int .i64 (mx : Int), .int .i64 y, .int .i64 k, .int .i64 t] 41)).alloc (.cells #[.int .i64 0, .int .i64 0, .int .i64 0, .int .i64 0, .int .i64 0] 41)) [.int .i64 7, .int .i64 (mx : Int), .int .i64 y, .int .i64 k, .int .i64 t] 41
  rw [show (w.alloc (.cells #[.int .i64 7, .int .i64 (mx : Int), .int .i64 y, .int .i64 k, .int .i64 t] 41)).heap.size = w.heap.size + 1 by simp] at r2
  rw [show ((w.alloc (.cells #[.int .i64 7, .int .i64 (mx : Int), .int .i64 y, .int .i64 k, .int .i64 t] 41)).alloc (.cells #[.int .i64 0, .int .i64 0, .int .i64 0, .int .i64 0, .int .i64 0] 41)).heap.size = w.heap.size + 1 + 1 by simp] at r3
  have RA := hide r1
  have RZ := hide r2
  have RX := hide r3
  have BW := hide b3
  have hB2 := hB.resolve_right (fun e => by rw [e] at hx; simp at hx)
  obtain ⟨a, cap, off0, hv, -, -, -, -⟩ := h.ex
  obtain ⟨off, rfl, c1, -, l1, l2⟩ := row_at (h.below b3) hv hx
  subst hv
  have lx := (List.getElem?_eq_some_iff.1 hx).1
  have lx2 : ((mx : Nat) : Int) < (al.length : Nat) := by omega
  unfold maxLen at l2
  clear hx hB hB2
  clear h b3 r1 r2 r3
  go_enter Tryd.func45, Tryd.ntmps45
  go_wp2_with fail
  generalize (((w.alloc (.cells #[.int .i64 7, .int .i64 (mx : Int), .int .i64 y, .int .i64 k, .int .i64 t] 41)).alloc (.cells #[.int .i64 0, .int .i64 0, .int .i64 0, .int .i64 0, .int .i64 0] 41)).alloc (.cells #[.int .i64 7, .int .i64 (mx : Int), .int .i64 y, .int .i64 k, .int .i64 t] 41)) = W0 at *
  refine (l1In 7 3 5 _).mono ?_
  rintro e u ⟨rfl, rfl⟩
  rw [show inI 7 3 5 = false from rfl]
  have z0 := RA.out.cell 0 _ rfl
  have z1 := RA.out.cell 1 _ rfl
  have z2 := RA.out.cell 2 _ rfl
  have x0 := RX.out.cell 0 _ rfl
  have x1 := RX.out.cell 1 _ rfl
  have x2 := RX.out.cell 2 _ rfl
  have x3 := RX.out.cell 3 _ rfl
  have x4 := RX.out.cell 4 _ rfl
  have f1 := RX.out.soft 1
  have f2 := RX.out.soft 2
  have TX : Turn (w.heap.size + 1 + 1) u (u.setCell ⟨w.heap.size + 1 + 1, 1, none⟩ (.int .i64 vx)) := (Turn.refl _ u).setCell (p := ⟨w.heap.size + 1 + 1, 1, none⟩) rfl _
  have RN := RZ.out.turn TX (by omega)
  have R5 := rec_fiveS RN (.int .i64 7) (.int .i64 vx) (.int .i64 y) (.int .i64 k) (.int .i64 t)
  have T5 := set5_turn (u.setCell ⟨w.heap.size + 1 + 1, 1, none⟩ (.int .i64 vx)) (w.heap.size + 1) 0 (.int .i64 7) (.int .i64 vx) (.int .i64 y) (.int .i64 k) (.int .i64 t)
  have BN := (BW.out.trans (TX.below (by omega) BW.out.size))
  have BM := hide (BN.trans (T5.below (by omega) BN.size))
  have FR : Hid (∀ i, (u.setCell ⟨w.heap.size + 1 + 1, 1, none⟩ (.int .i64 vx)).frozen? ⟨w.heap.size + 1, i, none⟩ = false) := RN.soft
  have FC : Hid (Rec (w.heap.size + 1) [.int .i64 0, .int .i64 0, .int .i64 0, .int .i64 0, .int .i64 0] (u.setCell ⟨w.heap.size + 1 + 1, 1, none⟩ (.int .i64 vx))) := RN
  unfold set5 at BM R5
  have R6 := hide R5
  clear TX RN T5 BN R5 RZ BW RA RX
  have y0 := FC.out.cell 0 _ rfl
  have y1 := FC.out.cell 1 _ rfl
  have y2 := FC.out.cell 2 _ rfl
  have y3 := FC.out.cell 3 _ rfl
  have y4 := FC.out.cell 4 _ rfl
  have g0 := FR.out 0
  have g1 := FR.out 1
  have g2 := FR.out 2
  have g3 := FR.out 3
  have g4 := FR.out 4
  go_wp2
  have q0 := R6.out.cell 0 _ rfl
  have q1 := R6.out.cell 1 _ rfl
  have q2 := R6.out.cell 2 _ rfl
  have q3 := R6.out.cell 3 _ rfl
  have q4 := R6.out.cell 4 _ rfl
  exact bodyPost_ret (v := .agg #[.int .i64 7, .int .i64 vx, .int .i64 y, .int .i64 k, .int .i64 t]) (by simp [results, Tryd.results45, go_sem, q0, q1, q2, q3, q4]) rfl ⟨rfl, BM.out⟩
set_option maxRecDepth 8000 in
set_option maxHeartbeats 8000000 in
theorem l10Alias8 (k t : Int) (mx : Nat) (vx : Int) (y : Int) (al : List Int) (B : Nat) (v : Value) (w : World) (h : Row w B v al) (hB : B < w.heap.size ∨ al = []) (hx : al[mx]? = some vx) :
    Calls Tryd.prog 45 #[.agg #[.int .i64 8, .int .i64 (mx : Int), .int .i64 y, .int .i64 k, .int .i64 t], v] w fun e w' => e = .returned (.agg #[.int .i64 8, .int .i64 vx, .int .i64 y, .int .i64 k, .int .i64 t]) ∧ Below w.heap.size w w' := by
  have b3 : Below w.heap.size w (((w.alloc (.cells #[.int .i64 8, .int .i64 (mx : Int), .int .i64 y, .int .i64 k, .int .i64 t] 41)).alloc (.cells #[.int .i64 0, .int .i64 0, .int .i64 0, .int .i64 0, .int .i64 0] 41)).alloc (.cells #[.int .i64 8, .int .i64 (mx : Int), .int .i64 y, .int .i64 k, .int .i64 t] 41)) := (((Below.refl _ _).alloc (Nat.le_refl _) _).alloc (by simp) _).alloc (by simp <;> omega) _
  have r1 := ((Rec.new w [.int .i64 8, .int .i64 (mx : Int), .int .i64 y, .int .i64 k, .int .i64 t] 41).alloc (.cells #[.int .i64 0, .int .i64 0, .int .i64 0, .int .i64 0, .int .i64 0] 41)).alloc (.cells #[.int .i64 8, .int .i64 (mx : Int), .int .i64 y, .int .i64 k, .int .i64 t] 41)
  have r2 := (Rec.new (w.alloc (.cells #[.int .i64 8, .int .i64 (mx : Int), .int .i64 y, .int .i64 k, .int .i64 t] 41)) [.int .i64 0, .int .i64 0, .int .i64 0, .int .i64 0, .int .i64 0] 41).alloc (.cells #[.int .i64 8, .int .i64 (mx : Int), .int .i64 y, .int .i64 k, .int .i64 t] 41)
  have r3 := Rec.new ((w.alloc (.cells #[.int .i64 8, .int .i64 (mx : Int), .int .i64 y, .int .i64 k, .int .i64 t] 41)).alloc (.cells #[.int .i64 0, .int .i64 0, .int .i64 0, .int .i64 0, .int .i64 0] 41)) [.int .i64 8, .int .i64 (mx : Int), .int .i64 y, .int .i64 k, .int .i64 t] 41
  rw [show (w.alloc (.cells #[.int .i64 8, .int .i64 (mx : Int), .int .i64 y, .int .i64 k, .int .i64 t] 41)).heap.size = w.heap.size + 1 by simp] at r2
  rw [show ((w.alloc (.cells #[.int .i64 8, .int .i64 (mx : Int), .int .i64 y, .int .i64 k, .int .i64 t] 41)).alloc (.cells #[.int .i64 0, .int .i64 0, .int .i64 0, .int .i64 0, .int .i64 0] 41)).heap.size = w.heap.size + 1 + 1 by simp] at r3
  have RA := hide r1
  have RZ := hide r2
  have RX := hide r3
  have BW := hide b3
  have hB2 := hB.resolve_right (fun e => by rw [e] at hx; simp at hx)
  obtain ⟨a, cap, off0, hv, -, -, -, -⟩ := h.ex
  obtain ⟨off, rfl, c1, -, l1, l2⟩ := row_at (h.below b3) hv hx
  subst hv
  have lx := (List.getElem?_eq_some_iff.1 hx).1
  have lx2 : ((mx : Nat) : Int) < (al.length : Nat) := by omega
  unfold maxLen at l2
  clear hx hB hB2
  clear h b3 r1 r2 r3
  go_enter Tryd.func45, Tryd.ntmps45
  go_wp2_with fail
  generalize (((w.alloc (.cells #[.int .i64 8, .int .i64 (mx : Int), .int .i64 y, .int .i64 k, .int .i64 t] 41)).alloc (.cells #[.int .i64 0, .int .i64 0, .int .i64 0, .int .i64 0, .int .i64 0] 41)).alloc (.cells #[.int .i64 8, .int .i64 (mx : Int), .int .i64 y, .int .i64 k, .int .i64 t] 41)) = W0 at *
  refine (l1In 8 3 5 _).mono ?_
  rintro e u ⟨rfl, rfl⟩
  rw [show inI 8 3 5 = false from rfl]
  have z0 := RA.out.cell 0 _ rfl
  have z1 := RA.out.cell 1 _ rfl
  have z2 := RA.out.cell 2 _ rfl
  have x0 := RX.out.cell 0 _ rfl
  have x1 := RX.out.cell 1 _ rfl
  have x2 := RX.out.cell 2 _ rfl
  have x3 := RX.out.cell 3 _ rfl
  have x4 := RX.out.cell 4 _ rfl
  have f1 := RX.out.soft 1
  have f2 := RX.out.soft 2
  have TX : Turn (w.heap.size + 1 + 1) u (u.setCell ⟨w.heap.size + 1 + 1, 1, none⟩ (.int .i64 vx)) := (Turn.refl _ u).setCell (p := ⟨w.heap.size + 1 + 1, 1, none⟩) rfl _
  have RN := RZ.out.turn TX (by omega)
  have R5 := rec_fiveS RN (.int .i64 8) (.int .i64 vx) (.int .i64 y) (.int .i64 k) (.int .i64 t)
  have T5 := set5_turn (u.setCell ⟨w.heap.size + 1 + 1, 1, none⟩ (.int .i64 vx)) (w.heap.size + 1) 0 (.int .i64 8) (.int .i64 vx) (.int .i64 y) (.int .i64 k) (.int .i64 t)
  have BN := (BW.out.trans (TX.below (by omega) BW.out.size))
  have BM := hide (BN.trans (T5.below (by omega) BN.size))
  have FR : Hid (∀ i, (u.setCell ⟨w.heap.size + 1 + 1, 1, none⟩ (.int .i64 vx)).frozen? ⟨w.heap.size + 1, i, none⟩ = false) := RN.soft
  have FC : Hid (Rec (w.heap.size + 1) [.int .i64 0, .int .i64 0, .int .i64 0, .int .i64 0, .int .i64 0] (u.setCell ⟨w.heap.size + 1 + 1, 1, none⟩ (.int .i64 vx))) := RN
  unfold set5 at BM R5
  have R6 := hide R5
  clear TX RN T5 BN R5 RZ BW RA RX
  have y0 := FC.out.cell 0 _ rfl
  have y1 := FC.out.cell 1 _ rfl
  have y2 := FC.out.cell 2 _ rfl
  have y3 := FC.out.cell 3 _ rfl
  have y4 := FC.out.cell 4 _ rfl
  have g0 := FR.out 0
  have g1 := FR.out 1
  have g2 := FR.out 2
  have g3 := FR.out 3
  have g4 := FR.out 4
  go_wp2
  have q0 := R6.out.cell 0 _ rfl
  have q1 := R6.out.cell 1 _ rfl
  have q2 := R6.out.cell 2 _ rfl
  have q3 := R6.out.cell 3 _ rfl
  have q4 := R6.out.cell 4 _ rfl
  exact bodyPost_ret (v := .agg #[.int .i64 8, .int .i64 vx, .int .i64 y, .int .i64 k, .int .i64 t]) (by simp [results, Tryd.results45, go_sem, q0, q1, q2, q3, q4]) rfl ⟨rfl, BM.out⟩
end Go.Proofs.YtflhehofgplcoaaDoor.Op
