/-
  What the drawing functions of chapter 2 return: an instruction with something wrong, or a number, whatever the code's bytes are; nothing that was there is written.
-/
import Derived.Test.YtmmlhmhlfmafgaaDrawI
import Derived.Test.YtmmlhmhlfmafgaaInsC2
namespace Go.Proofs.Ytmmlhmhlfmafgaa.Draw
open Go.ChangeShapes Go.WideShapes Go.ChangeAt Go.RowKit
/-- A block that holds an instruction. -/
structure Blk (Z : Nat) (a b c d : Int) (w : World) : Prop where
  lt : Z < w.heap.size
  c0 : w.cell? ⟨Z, 0, none⟩ = some (.int .i64 a)
  c1 : w.cell? ⟨Z, 1, none⟩ = some (.int .i64 b)
  c2 : w.cell? ⟨Z, 2, none⟩ = some (.int .i64 c)
  c3 : w.cell? ⟨Z, 3, none⟩ = some (.int .i64 d)
  f0 : w.frozen? ⟨Z, 0, none⟩ = false
  f1 : w.frozen? ⟨Z, 1, none⟩ = false
  f2 : w.frozen? ⟨Z, 2, none⟩ = false
  f3 : w.frozen? ⟨Z, 3, none⟩ = false
theorem Blk.new (w : World) (a b c d : Int) (t : TypeId) : Blk w.heap.size a b c d (w.alloc (.cells #[.int .i64 a, .int .i64 b, .int .i64 c, .int .i64 d] t)) :=
  ⟨by simp, by simp, by simp, by simp, by simp, by simp, by simp, by simp, by simp⟩
theorem Blk.keep {Z R : Nat} {a b c d : Int} {w w' : World} (h : Blk Z a b c d w) (k : Keep R w w') (hZ : Z ≠ R) : Blk Z a b c d w' :=
  ⟨Nat.lt_of_lt_of_le h.lt k.size, (k.cell (p := ⟨Z, 0, none⟩) h.lt hZ).trans h.c0, (k.cell (p := ⟨Z, 1, none⟩) h.lt hZ).trans h.c1, (k.cell (p := ⟨Z, 2, none⟩) h.lt hZ).trans h.c2, (k.cell (p := ⟨Z, 3, none⟩) h.lt hZ).trans h.c3, (k.frozen (p := ⟨Z, 0, none⟩) h.lt hZ).trans h.f0, (k.frozen (p := ⟨Z, 1, none⟩) h.lt hZ).trans h.f1, (k.frozen (p := ⟨Z, 2, none⟩) h.lt hZ).trans h.f2, (k.frozen (p := ⟨Z, 3, none⟩) h.lt hZ).trans h.f3⟩
theorem Blk.alloc {Z : Nat} {a b c d : Int} {w : World} (h : Blk Z a b c d w) (o : Obj) : Blk Z a b c d (w.alloc o) := h.keep (R := Z + 1) ((Keep.refl (Z + 1) w).alloc o) (by omega)
theorem Blk.below {Z : Nat} {a b c d : Int} {w w' : World} (h : Blk Z a b c d w) (hb : Below w.heap.size w w') : Blk Z a b c d w' := h.keep (R := Z + 1) (Keep.of_below hb) (by omega)
set_option maxHeartbeats 8000000 in
theorem insOr (R q : Nat) (n : Int) (w : World) (h : Rd R q w) (hq : q ≤ 800000) (hn : 1 ≤ n) (hn2 : n ≤ 1000) :
    Calls Try.prog 35 #[.pointer (some ⟨R, 0, none⟩), .int .i64 n] w fun e w' => ∃ op d a k, e = .returned (.agg #[.int .i64 op, .int .i64 d, .int .i64 a, .int .i64 k]) ∧ Rd R (q + 11) w' ∧ Keep R w w' := by
  have k0 : Keep R w (w.alloc (.cells #[.int .i64 0, .int .i64 0, .int .i64 0, .int .i64 0] 33)) := (Keep.refl R w).alloc _
  have hR := h.lt
  have o := Blk.new w 0 0 0 0 33
  have hZ : w.heap.size ≠ R := by omega
  go_enter Try.func35, Try.ntmps35
  go_wp2_with fail
  refine (ins R q _ (h.alloc _) (by omega)).mono ?_
  rintro e w1 ⟨op, d, a, k, rfl, h1, k1⟩
  have o1 := (o.keep k1 hZ).alloc (.cells #[.int .i64 op, .int .i64 d, .int .i64 a, .int .i64 k] 33)
  have i1 := Blk.new w1 op d a k 33
  have hI : w.heap.size < w1.heap.size := by have := k1.size; simp at this; omega
  have hIR : w1.heap.size ≠ R := by omega
  replace k1 := k0.trans k1
  go_wp2_with fail
  refine (odd R (q + 7) n _ (h1.alloc _) (by omega) hn hn2).mono ?_
  rintro e w2 ⟨b, rfl, h2, k2⟩
  replace o1 := o1.keep k2 hZ
  replace i1 := i1.keep k2 hIR
  replace k2 := (k1.alloc _).trans k2
  clear h h1 k0 k1 o
  cases b with
  | false =>
    have HF := hideD (fin4 (q' := q + 11) h2 k2 hR (Nat.le_refl _) (by omega) op d a k)
    obtain ⟨_, c0, c1, c2, c3, f0, f1, f2, f3⟩ := o1
    obtain ⟨_, d0, d1, d2, d3, _, _, _, _⟩ := i1
    go_wp2
    exact bodyPost_ret (v := .agg #[.int .i64 op, .int .i64 d, .int .i64 a, .int .i64 k]) (by simp [results, Try.results35, go_sem, c0, c1, c2, c3]) rfl ⟨_, _, _, _, rfl, HF.out⟩
  | true =>
    go_wp2_with fail
    refine (pick R (q + 8) 4 _ h2 (by omega)).mono ?_
    rintro e w3 ⟨x, rfl, x0, x1, _, h3, k3⟩
    replace x1 := x1 (by omega)
    replace o1 := o1.keep k3 hZ
    replace i1 := i1.keep k3 hIR
    replace k3 := k2.trans k3
    have hx : x = 0 ∨ x = 1 ∨ x = 2 ∨ x = 3 := by omega
    clear h2 k2 x0 x1
    rcases hx with rfl | rfl | rfl | rfl
    · go_wp2_with fail
      refine (pick R (q + 9) 16 _ h3 (by omega)).mono ?_
      rintro e w4 ⟨y1, rfl, y10, y11, _, h4, k4⟩
      replace o1 := o1.keep k4 hZ
      replace i1 := i1.keep k4 hIR
      replace k4 := k3.trans k4
      have HL := h4.lt
      have OL := i1.lt
      go_wp2_with fail
      refine (pick R (q + 10) 3 _ (h4.alloc _) (by omega)).mono ?_
      rintro e w5 ⟨y, rfl, y0, y1', _, h5, k5⟩
      replace y1' := y1' (by omega)
      obtain ⟨z, hz⟩ := cellsAny w4 [-1, 16, y1] 3 y y0 y1'
      replace hz : w5.cell? ⟨w4.heap.size, y.toNat, none⟩ = some (.int .i64 z) := (k5.cell (p := ⟨w4.heap.size, y.toNat, none⟩) (by simp) (by simp; omega)).trans hz
      replace o1 := (o1.alloc (.cells #[.int .i64 (-1), .int .i64 (16), .int .i64 (y1)] 3)).keep k5 hZ
      replace i1 := (i1.alloc (.cells #[.int .i64 (-1), .int .i64 (16), .int .i64 (y1)] 3)).keep k5 hIR
      replace k5 := (k4.alloc _).trans k5
      have HF := hideD (fin4 (q' := q + 11) (h5.setCell (p := ⟨w1.heap.size, 0, none⟩) (by show R + 1 ≤ w1.heap.size; omega) (.int .i64 z)) (k5.setCell (p := ⟨w1.heap.size, 0, none⟩) (by show w.heap.size ≤ w1.heap.size; omega) (.int .i64 z)) hR (Nat.le_refl _) (by omega) z d a k)
      obtain ⟨_, c0, c1, c2, c3, f0, f1, f2, f3⟩ := o1
      obtain ⟨_, d0, d1, d2, d3, g0, g1, g2, g3⟩ := i1
      go_wp2
      exact bodyPost_ret (v := .agg #[.int .i64 z, .int .i64 d, .int .i64 a, .int .i64 k]) (by simp [results, Try.results35, go_sem, c0, c1, c2, c3]) rfl ⟨_, _, _, _, rfl, HF.out⟩
    · have HL := h3.lt
      have OL := i1.lt
      go_wp2_with fail
      refine (pick R (q + 9) 3 _ (h3.alloc _) (by omega)).mono ?_
      rintro e w4 ⟨y, rfl, y0, y1', _, h4, k4⟩
      replace y1' := y1' (by omega)
      obtain ⟨z, hz⟩ := cellsAny w3 [-1, 4, 1] 3 y y0 y1'
      replace hz : w4.cell? ⟨w3.heap.size, y.toNat, none⟩ = some (.int .i64 z) := (k4.cell (p := ⟨w3.heap.size, y.toNat, none⟩) (by simp) (by simp; omega)).trans hz
      replace o1 := (o1.alloc (.cells #[.int .i64 (-1), .int .i64 (4), .int .i64 (1)] 3)).keep k4 hZ
      replace i1 := (i1.alloc (.cells #[.int .i64 (-1), .int .i64 (4), .int .i64 (1)] 3)).keep k4 hIR
      replace k4 := (k3.alloc _).trans k4
      have HF := hideD (fin4 (q' := q + 11) (h4.setCell (p := ⟨w1.heap.size, 1, none⟩) (by show R + 1 ≤ w1.heap.size; omega) (.int .i64 z)) (k4.setCell (p := ⟨w1.heap.size, 1, none⟩) (by show w.heap.size ≤ w1.heap.size; omega) (.int .i64 z)) hR (Nat.le_refl _) (by omega) op z a k)
      obtain ⟨_, c0, c1, c2, c3, f0, f1, f2, f3⟩ := o1
      obtain ⟨_, d0, d1, d2, d3, g0, g1, g2, g3⟩ := i1
      go_wp2
      exact bodyPost_ret (v := .agg #[.int .i64 op, .int .i64 z, .int .i64 a, .int .i64 k]) (by simp [results, Try.results35, go_sem, c0, c1, c2, c3]) rfl ⟨_, _, _, _, rfl, HF.out⟩
    · have HL := h3.lt
      have OL := i1.lt
      go_wp2_with fail
      refine (pick R (q + 9) 3 _ (h3.alloc _) (by omega)).mono ?_
      rintro e w4 ⟨y, rfl, y0, y1', _, h4, k4⟩
      replace y1' := y1' (by omega)
      obtain ⟨z, hz⟩ := cellsAny w3 [-1, 4, 1] 3 y y0 y1'
      replace hz : w4.cell? ⟨w3.heap.size, y.toNat, none⟩ = some (.int .i64 z) := (k4.cell (p := ⟨w3.heap.size, y.toNat, none⟩) (by simp) (by simp; omega)).trans hz
      replace o1 := (o1.alloc (.cells #[.int .i64 (-1), .int .i64 (4), .int .i64 (1)] 3)).keep k4 hZ
      replace i1 := (i1.alloc (.cells #[.int .i64 (-1), .int .i64 (4), .int .i64 (1)] 3)).keep k4 hIR
      replace k4 := (k3.alloc _).trans k4
      have HF := hideD (fin4 (q' := q + 11) (h4.setCell (p := ⟨w1.heap.size, 2, none⟩) (by show R + 1 ≤ w1.heap.size; omega) (.int .i64 z)) (k4.setCell (p := ⟨w1.heap.size, 2, none⟩) (by show w.heap.size ≤ w1.heap.size; omega) (.int .i64 z)) hR (Nat.le_refl _) (by omega) op d z k)
      obtain ⟨_, c0, c1, c2, c3, f0, f1, f2, f3⟩ := o1
      obtain ⟨_, d0, d1, d2, d3, g0, g1, g2, g3⟩ := i1
      go_wp2
      exact bodyPost_ret (v := .agg #[.int .i64 op, .int .i64 d, .int .i64 z, .int .i64 k]) (by simp [results, Try.results35, go_sem, c0, c1, c2, c3]) rfl ⟨_, _, _, _, rfl, HF.out⟩
    · have HL := h3.lt
      have OL := i1.lt
      go_wp2_with fail
      refine (pick R (q + 9) 4 _ (h3.alloc _) (by omega)).mono ?_
      rintro e w4 ⟨y, rfl, y0, y1', _, h4, k4⟩
      replace y1' := y1' (by omega)
      obtain ⟨z, hz⟩ := cellsAny w3 [-1, 256, 5, 16] 3 y y0 y1'
      replace hz : w4.cell? ⟨w3.heap.size, y.toNat, none⟩ = some (.int .i64 z) := (k4.cell (p := ⟨w3.heap.size, y.toNat, none⟩) (by simp) (by simp; omega)).trans hz
      replace o1 := (o1.alloc (.cells #[.int .i64 (-1), .int .i64 (256), .int .i64 (5), .int .i64 (16)] 3)).keep k4 hZ
      replace i1 := (i1.alloc (.cells #[.int .i64 (-1), .int .i64 (256), .int .i64 (5), .int .i64 (16)] 3)).keep k4 hIR
      replace k4 := (k3.alloc _).trans k4
      have HF := hideD (fin4 (q' := q + 11) (h4.setCell (p := ⟨w1.heap.size, 3, none⟩) (by show R + 1 ≤ w1.heap.size; omega) (.int .i64 z)) (k4.setCell (p := ⟨w1.heap.size, 3, none⟩) (by show w.heap.size ≤ w1.heap.size; omega) (.int .i64 z)) hR (Nat.le_refl _) (by omega) op d a z)
      obtain ⟨_, c0, c1, c2, c3, f0, f1, f2, f3⟩ := o1
      obtain ⟨_, d0, d1, d2, d3, g0, g1, g2, g3⟩ := i1
      go_wp2
      exact bodyPost_ret (v := .agg #[.int .i64 op, .int .i64 d, .int .i64 a, .int .i64 z]) (by simp [results, Try.results35, go_sem, c0, c1, c2, c3]) rfl ⟨_, _, _, _, rfl, HF.out⟩
end Go.Proofs.Ytmmlhmhlfmafgaa.Draw
