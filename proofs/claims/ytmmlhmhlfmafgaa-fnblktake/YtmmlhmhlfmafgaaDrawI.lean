/-
  What the drawing functions of chapter 2 return: an instruction, or a number, whatever the code's bytes are; nothing that was there is written.
-/
import Derived.Test.YtmmlhmhlfmafgaaDrawB
import Derived.Deep.RegionWith
namespace Go.Proofs.Ytmmlhmhlfmafgaa.Draw
open Go.ChangeShapes Go.WideShapes Go.ChangeAt Go.RowKit
theorem cellsAny (w : World) (vs : List Int) (t : TypeId) (x : Int) (h0 : 0 ≤ x) (h1 : x < vs.length) : ∃ y : Int, (w.alloc (.cells (vs.map fun v => Value.int .i64 v).toArray t)).cell? ⟨w.heap.size, x.toNat, none⟩ = some (.int .i64 y) := by
  rw [World.cell?_alloc_new]
  have hk : x.toNat < vs.length := by omega
  exact ⟨vs[x.toNat], by simp [hk]⟩
theorem Keep.frozen {R : Nat} {w w' : World} (h : Keep R w w') {p : Addr} (hp : p.block < w.heap.size) (hR : p.block ≠ R) : w'.frozen? p = w.frozen? p := World.frozen?_of_block (w := w) (h.block p.block hp hR)
theorem Keep.setCell {R : Nat} {a w : World} (h : Keep R a w) {p : Addr} (hp : a.heap.size ≤ p.block) (v : Value) : Keep R a (w.setCell p v) := by
  have hb := (Below.refl a.heap.size w).setCell (p := p) hp v
  exact ⟨hb.os.trans h.os, hb.tape.trans h.tape, hb.output.trans h.output, Nat.le_trans h.size hb.size, fun k hk hR => (hb.block k hk).trans (h.block k hk hR)⟩
theorem Rd.setCell {R q : Nat} {w : World} (h : Rd R q w) {p : Addr} (hp : R + 1 ≤ p.block) (v : Value) : Rd R q (w.setCell p v) := h.below ((Below.refl (R + 1) w).setCell hp v)
/-- The block of a result that is an instruction, as it was laid. -/
structure Out (Z : Nat) (w : World) : Prop where
  lt : Z < w.heap.size
  cell : ∀ i : Nat, i < 4 → w.cell? ⟨Z, i, none⟩ = some (.int .i64 0)
  frozen : ∀ i : Nat, i < 4 → w.frozen? ⟨Z, i, none⟩ = false
theorem Out.new (w : World) : Out w.heap.size (w.alloc (.cells #[.int .i64 0, .int .i64 0, .int .i64 0, .int .i64 0] 33)) := by
  refine ⟨by simp, fun i hi => ?_, fun i hi => by simp⟩
  rw [World.cell?_alloc_new]
  have : i = 0 ∨ i = 1 ∨ i = 2 ∨ i = 3 := by omega
  rcases this with rfl | rfl | rfl | rfl <;> rfl
theorem Out.keep {Z R : Nat} {w w' : World} (h : Out Z w) (k : Keep R w w') (hZ : Z ≠ R) : Out Z w' :=
  ⟨Nat.lt_of_lt_of_le h.lt k.size, fun i hi => (k.cell (p := ⟨Z, i, none⟩) h.lt hZ).trans (h.cell i hi), fun i hi => (k.frozen (p := ⟨Z, i, none⟩) h.lt hZ).trans (h.frozen i hi)⟩
theorem Out.alloc {Z : Nat} {w : World} (h : Out Z w) (o : Obj) : Out Z (w.alloc o) := h.keep (R := Z + 1) ((Keep.refl (Z + 1) w).alloc o) (by omega)
def set4 (w : World) (Z : Nat) (a b c d : Int) : World := (((w.setCell ⟨Z, 0, none⟩ (.int .i64 a)).setCell ⟨Z, 1, none⟩ (.int .i64 b)).setCell ⟨Z, 2, none⟩ (.int .i64 c)).setCell ⟨Z, 3, none⟩ (.int .i64 d)
theorem fin4 {R q q' Z : Nat} {w w' : World} (h : Rd R q w') (k : Keep R w w') (hR : R < w.heap.size) (hZ : w.heap.size ≤ Z) (hq : q ≤ q') (a b c d : Int) : Rd R q' (set4 w' Z a b c d) ∧ Keep R w (set4 w' Z a b c d) :=
  ⟨((((h.setCell (p := ⟨Z, 0, none⟩) (by show R + 1 ≤ Z; omega) _).setCell (p := ⟨Z, 1, none⟩) (by show R + 1 ≤ Z; omega) _).setCell (p := ⟨Z, 2, none⟩) (by show R + 1 ≤ Z; omega) _).setCell (p := ⟨Z, 3, none⟩) (by show R + 1 ≤ Z; omega) _).mono hq,
   (((k.setCell (p := ⟨Z, 0, none⟩) hZ _).setCell (p := ⟨Z, 1, none⟩) hZ _).setCell (p := ⟨Z, 2, none⟩) hZ _).setCell (p := ⟨Z, 3, none⟩) hZ _⟩
theorem hideD {p : Prop} (h : p) : Hid p := h
set_option maxHeartbeats 8000000 in
theorem ins (R q : Nat) (w : World) (h : Rd R q w) (hq : q ≤ 900000) :
    Calls Try.prog 40 #[.pointer (some ⟨R, 0, none⟩)] w fun e w' => ∃ op d a k, e = .returned (.agg #[.int .i64 op, .int .i64 d, .int .i64 a, .int .i64 k]) ∧ Rd R (q + 7) w' ∧ Keep R w w' := by
  have k0 : Keep R w (w.alloc (.cells #[.int .i64 0, .int .i64 0, .int .i64 0, .int .i64 0] 33)) := (Keep.refl R w).alloc _
  have hR := h.lt
  have o := Out.new w
  have hZ : w.heap.size ≠ R := by omega
  go_enter Try.func40, Try.ntmps40
  go_wp2_with fail
  refine (pick R q 4 _ (h.alloc _) (by omega)).mono ?_
  rintro e w1 ⟨d, rfl, d0, d1, _, h1, k1⟩
  replace d1 := d1 (by omega)
  replace o := o.keep k1 hZ
  replace k1 := k0.trans k1
  go_wp2_with fail
  refine (pick R (q + 1) 4 _ h1 (by omega)).mono ?_
  rintro e w2 ⟨a, rfl, a0, a1, _, h2, k2⟩
  replace a1 := a1 (by omega)
  replace o := o.keep k2 hZ
  replace k2 := k1.trans k2
  go_wp2_with fail
  refine (pick R (q + 2) 14 _ h2 (by omega)).mono ?_
  rintro e w3 ⟨x, rfl, x0, x1, _, h3, k3⟩
  replace x1 := x1 (by omega)
  replace o := o.keep k3 hZ
  replace k3 := k2.trans k3
  have hx : x = 0 ∨ x = 1 ∨ x = 2 ∨ x = 3 ∨ x = 4 ∨ x = 5 ∨ x = 6 ∨ x = 7 ∨ x = 8 ∨ x = 9 ∨ x = 10 ∨ x = 11 ∨ x = 12 ∨ x = 13 := by omega
  clear h h1 h2 k0 k1 k2 x0 x1
  rcases hx with rfl | rfl | rfl | rfl | rfl | rfl | rfl | rfl | rfl | rfl | rfl | rfl | rfl | rfl
  · go_wp2_with fail
    refine (pick R (q + 3) 64 _ h3 (by omega)).mono ?_
    rintro e w4 ⟨y1, rfl, y10, y11, _, h4, k4⟩
    replace y11 := y11 (by omega)
    replace o := o.keep k4 hZ
    replace k4 := k3.trans k4
    go_wp2_with fail
    refine (pick R (q + 4) 256 _ h4 (by omega)).mono ?_
    rintro e w5 ⟨y2, rfl, y20, y21, _, h5, k5⟩
    replace y21 := y21 (by omega)
    replace o := o.keep k5 hZ
    replace k5 := k4.trans k5
    go_wp2_with fail
    refine (pick R (q + 5) 6 _ (h5.alloc _) (by omega)).mono ?_
    rintro e w6 ⟨y3, rfl, y30, y31, _, h6, k6⟩
    replace y31 := y31 (by omega)
    obtain ⟨z, hz⟩ := cellsAny w5 [0, 1, 2, y1, y2, 255] 3 y3 y30 y31
    replace hz : w6.cell? ⟨w5.heap.size, y3.toNat, none⟩ = some (.int .i64 z) := (k6.cell (p := ⟨w5.heap.size, y3.toNat, none⟩) (by simp) (by have := o.lt; have := h5.lt; simp; omega)).trans hz
    replace o := (o.alloc (.cells #[.int .i64 0, .int .i64 1, .int .i64 2, .int .i64 y1, .int .i64 y2, .int .i64 255] 3)).keep k6 hZ
    replace k6 := (k5.alloc _).trans k6
    have c0 := o.cell 0 (by omega)
    have f0 := o.frozen 0 (by omega)
    have c1 := o.cell 1 (by omega)
    have f1 := o.frozen 1 (by omega)
    have c2 := o.cell 2 (by omega)
    have f2 := o.frozen 2 (by omega)
    have c3 := o.cell 3 (by omega)
    have f3 := o.frozen 3 (by omega)
    have HF := hideD ((fin4 (q' := q + 7) h6 k6 hR (Nat.le_refl _) (by omega) (1) (d) (0) (z)))
    clear o
    go_wp2
    exact bodyPost_ret (v := .agg #[.int .i64 (1), .int .i64 (d), .int .i64 (0), .int .i64 (z)]) (by simp [results, Try.results40, go_sem, c0, c1, c2, c3]) rfl ⟨_, _, _, _, rfl, HF.out⟩
  · go_wp2_with fail
    refine (pick R (q + 3) 64 _ h3 (by omega)).mono ?_
    rintro e w4 ⟨y1, rfl, y10, y11, _, h4, k4⟩
    replace y11 := y11 (by omega)
    replace o := o.keep k4 hZ
    replace k4 := k3.trans k4
    go_wp2_with fail
    refine (pick R (q + 4) 256 _ h4 (by omega)).mono ?_
    rintro e w5 ⟨y2, rfl, y20, y21, _, h5, k5⟩
    replace y21 := y21 (by omega)
    replace o := o.keep k5 hZ
    replace k5 := k4.trans k5
    go_wp2_with fail
    refine (pick R (q + 5) 6 _ (h5.alloc _) (by omega)).mono ?_
    rintro e w6 ⟨y3, rfl, y30, y31, _, h6, k6⟩
    replace y31 := y31 (by omega)
    obtain ⟨z, hz⟩ := cellsAny w5 [0, 1, 2, y1, y2, 255] 3 y3 y30 y31
    replace hz : w6.cell? ⟨w5.heap.size, y3.toNat, none⟩ = some (.int .i64 z) := (k6.cell (p := ⟨w5.heap.size, y3.toNat, none⟩) (by simp) (by have := o.lt; have := h5.lt; simp; omega)).trans hz
    replace o := (o.alloc (.cells #[.int .i64 0, .int .i64 1, .int .i64 2, .int .i64 y1, .int .i64 y2, .int .i64 255] 3)).keep k6 hZ
    replace k6 := (k5.alloc _).trans k6
    have c0 := o.cell 0 (by omega)
    have f0 := o.frozen 0 (by omega)
    have c1 := o.cell 1 (by omega)
    have f1 := o.frozen 1 (by omega)
    have c2 := o.cell 2 (by omega)
    have f2 := o.frozen 2 (by omega)
    have c3 := o.cell 3 (by omega)
    have f3 := o.frozen 3 (by omega)
    have HF := hideD ((fin4 (q' := q + 7) h6 k6 hR (Nat.le_refl _) (by omega) (1) (d) (0) (z)))
    clear o
    go_wp2
    exact bodyPost_ret (v := .agg #[.int .i64 (1), .int .i64 (d), .int .i64 (0), .int .i64 (z)]) (by simp [results, Try.results40, go_sem, c0, c1, c2, c3]) rfl ⟨_, _, _, _, rfl, HF.out⟩
  · have c0 := o.cell 0 (by omega)
    have f0 := o.frozen 0 (by omega)
    have c1 := o.cell 1 (by omega)
    have f1 := o.frozen 1 (by omega)
    have c2 := o.cell 2 (by omega)
    have f2 := o.frozen 2 (by omega)
    have c3 := o.cell 3 (by omega)
    have f3 := o.frozen 3 (by omega)
    have HF := hideD ((fin4 (q' := q + 7) h3 k3 hR (Nat.le_refl _) (by omega) (2) (d) (a) (0)))
    clear o
    go_wp2
    exact bodyPost_ret (v := .agg #[.int .i64 (2), .int .i64 (d), .int .i64 (a), .int .i64 (0)]) (by simp [results, Try.results40, go_sem, c0, c1, c2, c3]) rfl ⟨_, _, _, _, rfl, HF.out⟩
  · go_wp2_with fail
    refine (pick R (q + 3) 5 _ h3 (by omega)).mono ?_
    rintro e w4 ⟨y1, rfl, y10, y11, _, h4, k4⟩
    replace y11 := y11 (by omega)
    replace o := o.keep k4 hZ
    replace k4 := k3.trans k4
    go_wp2_with fail
    refine (pick R (q + 4) 4 _ h4 (by omega)).mono ?_
    rintro e w5 ⟨y2, rfl, y20, y21, _, h5, k5⟩
    replace y21 := y21 (by omega)
    replace o := o.keep k5 hZ
    replace k5 := k4.trans k5
    have c0 := o.cell 0 (by omega)
    have f0 := o.frozen 0 (by omega)
    have c1 := o.cell 1 (by omega)
    have f1 := o.frozen 1 (by omega)
    have c2 := o.cell 2 (by omega)
    have f2 := o.frozen 2 (by omega)
    have c3 := o.cell 3 (by omega)
    have f3 := o.frozen 3 (by omega)
    have HF := hideD ((fin4 (q' := q + 7) h5 k5 hR (Nat.le_refl _) (by omega) (3 + y1) (d) (a) (y2)))
    clear o
    go_wp2
    exact bodyPost_ret (v := .agg #[.int .i64 (3 + y1), .int .i64 (d), .int .i64 (a), .int .i64 (y2)]) (by simp [results, Try.results40, go_sem, c0, c1, c2, c3]) rfl ⟨_, _, _, _, rfl, HF.out⟩
  · go_wp2_with fail
    refine (pick R (q + 3) 5 _ h3 (by omega)).mono ?_
    rintro e w4 ⟨y1, rfl, y10, y11, _, h4, k4⟩
    replace y11 := y11 (by omega)
    replace o := o.keep k4 hZ
    replace k4 := k3.trans k4
    go_wp2_with fail
    refine (pick R (q + 4) 4 _ h4 (by omega)).mono ?_
    rintro e w5 ⟨y2, rfl, y20, y21, _, h5, k5⟩
    replace y21 := y21 (by omega)
    replace o := o.keep k5 hZ
    replace k5 := k4.trans k5
    have c0 := o.cell 0 (by omega)
    have f0 := o.frozen 0 (by omega)
    have c1 := o.cell 1 (by omega)
    have f1 := o.frozen 1 (by omega)
    have c2 := o.cell 2 (by omega)
    have f2 := o.frozen 2 (by omega)
    have c3 := o.cell 3 (by omega)
    have f3 := o.frozen 3 (by omega)
    have HF := hideD ((fin4 (q' := q + 7) h5 k5 hR (Nat.le_refl _) (by omega) (3 + y1) (d) (a) (y2)))
    clear o
    go_wp2
    exact bodyPost_ret (v := .agg #[.int .i64 (3 + y1), .int .i64 (d), .int .i64 (a), .int .i64 (y2)]) (by simp [results, Try.results40, go_sem, c0, c1, c2, c3]) rfl ⟨_, _, _, _, rfl, HF.out⟩
  · go_wp2_with fail
    refine (pick R (q + 3) 5 _ h3 (by omega)).mono ?_
    rintro e w4 ⟨y1, rfl, y10, y11, _, h4, k4⟩
    replace y11 := y11 (by omega)
    replace o := o.keep k4 hZ
    replace k4 := k3.trans k4
    go_wp2_with fail
    refine (pick R (q + 4) 4 _ h4 (by omega)).mono ?_
    rintro e w5 ⟨y2, rfl, y20, y21, _, h5, k5⟩
    replace y21 := y21 (by omega)
    replace o := o.keep k5 hZ
    replace k5 := k4.trans k5
    have c0 := o.cell 0 (by omega)
    have f0 := o.frozen 0 (by omega)
    have c1 := o.cell 1 (by omega)
    have f1 := o.frozen 1 (by omega)
    have c2 := o.cell 2 (by omega)
    have f2 := o.frozen 2 (by omega)
    have c3 := o.cell 3 (by omega)
    have f3 := o.frozen 3 (by omega)
    have HF := hideD ((fin4 (q' := q + 7) h5 k5 hR (Nat.le_refl _) (by omega) (3 + y1) (d) (a) (y2)))
    clear o
    go_wp2
    exact bodyPost_ret (v := .agg #[.int .i64 (3 + y1), .int .i64 (d), .int .i64 (a), .int .i64 (y2)]) (by simp [results, Try.results40, go_sem, c0, c1, c2, c3]) rfl ⟨_, _, _, _, rfl, HF.out⟩
  · go_wp2_with fail
    refine (pick R (q + 3) 16 _ h3 (by omega)).mono ?_
    rintro e w4 ⟨y1, rfl, y10, y11, _, h4, k4⟩
    replace y11 := y11 (by omega)
    replace o := o.keep k4 hZ
    replace k4 := k3.trans k4
    go_wp2_with fail
    refine (pick R (q + 4) 5 _ (h4.alloc _) (by omega)).mono ?_
    rintro e w5 ⟨y2, rfl, y20, y21, _, h5, k5⟩
    replace y21 := y21 (by omega)
    obtain ⟨z, hz⟩ := cellsAny w4 [0, 1, 8, 15, y1] 3 y2 y20 y21
    replace hz : w5.cell? ⟨w4.heap.size, y2.toNat, none⟩ = some (.int .i64 z) := (k5.cell (p := ⟨w4.heap.size, y2.toNat, none⟩) (by simp) (by have := o.lt; have := h4.lt; simp; omega)).trans hz
    replace o := (o.alloc (.cells #[.int .i64 0, .int .i64 1, .int .i64 8, .int .i64 15, .int .i64 y1] 3)).keep k5 hZ
    replace k5 := (k4.alloc _).trans k5
    have c0 := o.cell 0 (by omega)
    have f0 := o.frozen 0 (by omega)
    have c1 := o.cell 1 (by omega)
    have f1 := o.frozen 1 (by omega)
    have c2 := o.cell 2 (by omega)
    have f2 := o.frozen 2 (by omega)
    have c3 := o.cell 3 (by omega)
    have f3 := o.frozen 3 (by omega)
    have HF := hideD ((fin4 (q' := q + 7) h5 k5 hR (Nat.le_refl _) (by omega) (8) (d) (a) (z)))
    clear o
    go_wp2
    exact bodyPost_ret (v := .agg #[.int .i64 (8), .int .i64 (d), .int .i64 (a), .int .i64 (z)]) (by simp [results, Try.results40, go_sem, c0, c1, c2, c3]) rfl ⟨_, _, _, _, rfl, HF.out⟩
  · go_wp2_with fail
    refine (pick R (q + 3) 2 _ h3 (by omega)).mono ?_
    rintro e w4 ⟨y1, rfl, y10, y11, _, h4, k4⟩
    replace y11 := y11 (by omega)
    replace o := o.keep k4 hZ
    replace k4 := k3.trans k4
    go_wp2_with fail
    refine (pick R (q + 4) 64 _ h4 (by omega)).mono ?_
    rintro e w5 ⟨y2, rfl, y20, y21, _, h5, k5⟩
    replace y21 := y21 (by omega)
    replace o := o.keep k5 hZ
    replace k5 := k4.trans k5
    go_wp2_with fail
    refine (pick R (q + 5) 6 _ (h5.alloc _) (by omega)).mono ?_
    rintro e w6 ⟨y3, rfl, y30, y31, _, h6, k6⟩
    replace y31 := y31 (by omega)
    obtain ⟨z, hz⟩ := cellsAny w5 [0, 1, y2, 63, 64, 255] 3 y3 y30 y31
    replace hz : w6.cell? ⟨w5.heap.size, y3.toNat, none⟩ = some (.int .i64 z) := (k6.cell (p := ⟨w5.heap.size, y3.toNat, none⟩) (by simp) (by have := o.lt; have := h5.lt; simp; omega)).trans hz
    replace o := (o.alloc (.cells #[.int .i64 0, .int .i64 1, .int .i64 y2, .int .i64 63, .int .i64 64, .int .i64 255] 3)).keep k6 hZ
    replace k6 := (k5.alloc _).trans k6
    have c0 := o.cell 0 (by omega)
    have f0 := o.frozen 0 (by omega)
    have c1 := o.cell 1 (by omega)
    have f1 := o.frozen 1 (by omega)
    have c2 := o.cell 2 (by omega)
    have f2 := o.frozen 2 (by omega)
    have c3 := o.cell 3 (by omega)
    have f3 := o.frozen 3 (by omega)
    have HF := hideD ((fin4 (q' := q + 7) h6 k6 hR (Nat.le_refl _) (by omega) (9 + y1) (d) (a) (z)))
    clear o
    go_wp2
    exact bodyPost_ret (v := .agg #[.int .i64 (9 + y1), .int .i64 (d), .int .i64 (a), .int .i64 (z)]) (by simp [results, Try.results40, go_sem, c0, c1, c2, c3]) rfl ⟨_, _, _, _, rfl, HF.out⟩
  · go_wp2_with fail
    refine (pick R (q + 3) 2 _ h3 (by omega)).mono ?_
    rintro e w4 ⟨y1, rfl, y10, y11, _, h4, k4⟩
    replace y11 := y11 (by omega)
    replace o := o.keep k4 hZ
    replace k4 := k3.trans k4
    go_wp2_with fail
    refine (pick R (q + 4) 64 _ h4 (by omega)).mono ?_
    rintro e w5 ⟨y2, rfl, y20, y21, _, h5, k5⟩
    replace y21 := y21 (by omega)
    replace o := o.keep k5 hZ
    replace k5 := k4.trans k5
    go_wp2_with fail
    refine (pick R (q + 5) 6 _ (h5.alloc _) (by omega)).mono ?_
    rintro e w6 ⟨y3, rfl, y30, y31, _, h6, k6⟩
    replace y31 := y31 (by omega)
    obtain ⟨z, hz⟩ := cellsAny w5 [0, 1, y2, 63, 64, 255] 3 y3 y30 y31
    replace hz : w6.cell? ⟨w5.heap.size, y3.toNat, none⟩ = some (.int .i64 z) := (k6.cell (p := ⟨w5.heap.size, y3.toNat, none⟩) (by simp) (by have := o.lt; have := h5.lt; simp; omega)).trans hz
    replace o := (o.alloc (.cells #[.int .i64 0, .int .i64 1, .int .i64 y2, .int .i64 63, .int .i64 64, .int .i64 255] 3)).keep k6 hZ
    replace k6 := (k5.alloc _).trans k6
    have c0 := o.cell 0 (by omega)
    have f0 := o.frozen 0 (by omega)
    have c1 := o.cell 1 (by omega)
    have f1 := o.frozen 1 (by omega)
    have c2 := o.cell 2 (by omega)
    have f2 := o.frozen 2 (by omega)
    have c3 := o.cell 3 (by omega)
    have f3 := o.frozen 3 (by omega)
    have HF := hideD ((fin4 (q' := q + 7) h6 k6 hR (Nat.le_refl _) (by omega) (9 + y1) (d) (a) (z)))
    clear o
    go_wp2
    exact bodyPost_ret (v := .agg #[.int .i64 (9 + y1), .int .i64 (d), .int .i64 (a), .int .i64 (z)]) (by simp [results, Try.results40, go_sem, c0, c1, c2, c3]) rfl ⟨_, _, _, _, rfl, HF.out⟩
  · go_wp2_with fail
    refine (pick R (q + 3) 2 _ h3 (by omega)).mono ?_
    rintro e w4 ⟨y1, rfl, y10, y11, _, h4, k4⟩
    replace y11 := y11 (by omega)
    replace o := o.keep k4 hZ
    replace k4 := k3.trans k4
    go_wp2_with fail
    refine (pick R (q + 4) 20 _ h4 (by omega)).mono ?_
    rintro e w5 ⟨y2, rfl, y20, y21, _, h5, k5⟩
    replace y21 := y21 (by omega)
    replace o := o.keep k5 hZ
    replace k5 := k4.trans k5
    go_wp2_with fail
    refine (pick R (q + 5) 64 _ h5 (by omega)).mono ?_
    rintro e w6 ⟨y3, rfl, y30, y31, _, h6, k6⟩
    replace y31 := y31 (by omega)
    replace o := o.keep k6 hZ
    replace k6 := k5.trans k6
    go_wp2_with fail
    refine (pick R (q + 6) 3 _ (h6.alloc _) (by omega)).mono ?_
    rintro e w7 ⟨y4, rfl, y40, y41, _, h7, k7⟩
    replace y41 := y41 (by omega)
    obtain ⟨z, hz⟩ := cellsAny w6 [y2, y3, 200] 3 y4 y40 y41
    replace hz : w7.cell? ⟨w6.heap.size, y4.toNat, none⟩ = some (.int .i64 z) := (k7.cell (p := ⟨w6.heap.size, y4.toNat, none⟩) (by simp) (by have := o.lt; have := h6.lt; simp; omega)).trans hz
    replace o := (o.alloc (.cells #[.int .i64 y2, .int .i64 y3, .int .i64 200] 3)).keep k7 hZ
    replace k7 := (k6.alloc _).trans k7
    have c0 := o.cell 0 (by omega)
    have f0 := o.frozen 0 (by omega)
    have c1 := o.cell 1 (by omega)
    have f1 := o.frozen 1 (by omega)
    have c2 := o.cell 2 (by omega)
    have f2 := o.frozen 2 (by omega)
    have c3 := o.cell 3 (by omega)
    have f3 := o.frozen 3 (by omega)
    have HF := hideD ((fin4 (q' := q + 7) h7 k7 hR (Nat.le_refl _) (by omega) (11 + y1) (d) (a) (z)))
    clear o
    go_wp2
    exact bodyPost_ret (v := .agg #[.int .i64 (11 + y1), .int .i64 (d), .int .i64 (a), .int .i64 (z)]) (by simp [results, Try.results40, go_sem, c0, c1, c2, c3]) rfl ⟨_, _, _, _, rfl, HF.out⟩
  · go_wp2_with fail
    refine (pick R (q + 3) 2 _ h3 (by omega)).mono ?_
    rintro e w4 ⟨y1, rfl, y10, y11, _, h4, k4⟩
    replace y11 := y11 (by omega)
    replace o := o.keep k4 hZ
    replace k4 := k3.trans k4
    have c0 := o.cell 0 (by omega)
    have f0 := o.frozen 0 (by omega)
    have c1 := o.cell 1 (by omega)
    have f1 := o.frozen 1 (by omega)
    have c2 := o.cell 2 (by omega)
    have f2 := o.frozen 2 (by omega)
    have c3 := o.cell 3 (by omega)
    have f3 := o.frozen 3 (by omega)
    have HF := hideD ((fin4 (q' := q + 7) h4 k4 hR (Nat.le_refl _) (by omega) (14 + y1) (d) (0) (0)))
    clear o
    go_wp2
    exact bodyPost_ret (v := .agg #[.int .i64 (14 + y1), .int .i64 (d), .int .i64 (0), .int .i64 (0)]) (by simp [results, Try.results40, go_sem, c0, c1, c2, c3]) rfl ⟨_, _, _, _, rfl, HF.out⟩
  · go_wp2_with fail
    refine (pick R (q + 3) 4 _ h3 (by omega)).mono ?_
    rintro e w4 ⟨y1, rfl, y10, y11, _, h4, k4⟩
    replace y11 := y11 (by omega)
    replace o := o.keep k4 hZ
    replace k4 := k3.trans k4
    have c0 := o.cell 0 (by omega)
    have f0 := o.frozen 0 (by omega)
    have c1 := o.cell 1 (by omega)
    have f1 := o.frozen 1 (by omega)
    have c2 := o.cell 2 (by omega)
    have f2 := o.frozen 2 (by omega)
    have c3 := o.cell 3 (by omega)
    have f3 := o.frozen 3 (by omega)
    have HF := hideD ((fin4 (q' := q + 7) h4 k4 hR (Nat.le_refl _) (by omega) (0) (0) (0) (y1)))
    clear o
    go_wp2
    exact bodyPost_ret (v := .agg #[.int .i64 (0), .int .i64 (0), .int .i64 (0), .int .i64 (y1)]) (by simp [results, Try.results40, go_sem, c0, c1, c2, c3]) rfl ⟨_, _, _, _, rfl, HF.out⟩
  · have c0 := o.cell 0 (by omega)
    have f0 := o.frozen 0 (by omega)
    have c1 := o.cell 1 (by omega)
    have f1 := o.frozen 1 (by omega)
    have c2 := o.cell 2 (by omega)
    have f2 := o.frozen 2 (by omega)
    have c3 := o.cell 3 (by omega)
    have f3 := o.frozen 3 (by omega)
    have HF := hideD ((fin4 (q' := q + 7) h3 k3 hR (Nat.le_refl _) (by omega) (13) (0) (a) (0)))
    clear o
    go_wp2
    exact bodyPost_ret (v := .agg #[.int .i64 (13), .int .i64 (0), .int .i64 (a), .int .i64 (0)]) (by simp [results, Try.results40, go_sem, c0, c1, c2, c3]) rfl ⟨_, _, _, _, rfl, HF.out⟩
  · have c0 := o.cell 0 (by omega)
    have f0 := o.frozen 0 (by omega)
    have c1 := o.cell 1 (by omega)
    have f1 := o.frozen 1 (by omega)
    have c2 := o.cell 2 (by omega)
    have f2 := o.frozen 2 (by omega)
    have c3 := o.cell 3 (by omega)
    have f3 := o.frozen 3 (by omega)
    have HF := hideD ((fin4 (q' := q + 7) h3 k3 hR (Nat.le_refl _) (by omega) (14) (d) (0) (0)))
    clear o
    go_wp2
    exact bodyPost_ret (v := .agg #[.int .i64 (14), .int .i64 (d), .int .i64 (0), .int .i64 (0)]) (by simp [results, Try.results40, go_sem, c0, c1, c2, c3]) rfl ⟨_, _, _, _, rfl, HF.out⟩
end Go.Proofs.Ytmmlhmhlfmafgaa.Draw
