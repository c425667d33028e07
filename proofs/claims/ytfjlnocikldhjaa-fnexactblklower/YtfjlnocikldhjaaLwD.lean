/-
  The operations of an instruction: the specification's l7One.
-/
import Derived.Test.YtfjlnocikldhjaaLwC
import Derived.Test.YtfjlnocikldhjaaPhaseTw
namespace Go.Proofs.Ytfjlnocikldhjaa.Lw
set_option linter.unusedVariables false
set_option linter.unusedSimpArgs false
open Go.ChangeShapes Go.WideShapes Go.ChangeAt Go.RowKit IntS Flat
open InsS (In4)
open Ir (Opn Bk bv ORow RBk OpAt lay7)
open Mch (Rec Three Two One)
set_option maxRecDepth 8000 in
set_option maxHeartbeats 8000000 in
theorem l7One_1 (b : Bk) (d a ik t : Int) (q : Option Addr) (c lo : Nat) (w : World) (H : OwnO w lo (.slice q b.ops.length c) b.ops) (hlo : lo ≤ w.heap.size) (hl : b.ops.length ≤ 500) :
    Calls Try.prog 46 #[bx b q c, .agg #[.int .i64 1, .int .i64 d, .int .i64 a, .int .i64 ik], .int .i64 t] w fun e w' => ∃ q' c', e = .returned ((bx ⟨b.pc, b.ln, b.ops ++ [opC ik, opS b.ops.length d], b.en, b.x, b.y, b.k⟩ q' c')) ∧ Ret w lo q w' (⟨b.pc, b.ln, b.ops ++ [opC ik, opS b.ops.length d], b.en, b.x, b.y, b.k⟩) q' c' := by
  obtain ⟨pc, ln, ops, en, x, y, k⟩ := b
  unfold bx
  simp only [] at H hl ⊢
  have Rb := Rec.new w [.int .i64 pc, .int .i64 ln, .slice q ops.length c, .int .i64 en, .int .i64 x, .int .i64 y, .int .i64 k] 42
  replace Rb := Rb.alloc (.cells #[.int .i64 1, .int .i64 d, .int .i64 a, .int .i64 ik] 55)
  replace Rb := Rb.alloc (.cells #[.int .i64 0, .int .i64 0, .slice none 0 0, .int .i64 0, .int .i64 0, .int .i64 0, .int .i64 0] 42)
  have Ri := Rec.new (w.alloc (.cells #[.int .i64 pc, .int .i64 ln, .slice q ops.length c, .int .i64 en, .int .i64 x, .int .i64 y, .int .i64 k] 42)) [.int .i64 1, .int .i64 d, .int .i64 a, .int .i64 ik] 55
  rw [show (w.alloc (.cells #[.int .i64 pc, .int .i64 ln, .slice q ops.length c, .int .i64 en, .int .i64 x, .int .i64 y, .int .i64 k] 42)).heap.size = w.heap.size + 1 by simp] at Ri
  replace Ri := Ri.alloc (.cells #[.int .i64 0, .int .i64 0, .slice none 0 0, .int .i64 0, .int .i64 0, .int .i64 0, .int .i64 0] 42)
  have Rz := Rec.new ((w.alloc (.cells #[.int .i64 pc, .int .i64 ln, .slice q ops.length c, .int .i64 en, .int .i64 x, .int .i64 y, .int .i64 k] 42)).alloc (.cells #[.int .i64 1, .int .i64 d, .int .i64 a, .int .i64 ik] 55)) [.int .i64 0, .int .i64 0, .slice none 0 0, .int .i64 0, .int .i64 0, .int .i64 0, .int .i64 0] 42
  rw [show ((w.alloc (.cells #[.int .i64 pc, .int .i64 ln, .slice q ops.length c, .int .i64 en, .int .i64 x, .int .i64 y, .int .i64 k] 42)).alloc (.cells #[.int .i64 1, .int .i64 d, .int .i64 a, .int .i64 ik] 55)).heap.size = w.heap.size + 1 + 1 by simp] at Rz
  have BA : Below w.heap.size w (((w.alloc (.cells #[.int .i64 pc, .int .i64 ln, .slice q ops.length c, .int .i64 en, .int .i64 x, .int .i64 y, .int .i64 k] 42)).alloc (.cells #[.int .i64 1, .int .i64 d, .int .i64 a, .int .i64 ik] 55)).alloc (.cells #[.int .i64 0, .int .i64 0, .slice none 0 0, .int .i64 0, .int .i64 0, .int .i64 0, .int .i64 0] 42)) := ((((Below.refl w.heap.size w).alloc (Nat.le_refl _) _).alloc (by simp; try omega) _).alloc (by simp; try omega) _)
  have Ab := hide (And.intro Rb (q_far H (w.heap.size) (by omega)))
  have Ai := hide (And.intro Ri (q_far H (w.heap.size + 1) (by omega)))
  have Az := hide (And.intro Rz (q_far H (w.heap.size + 1 + 1) (by omega)))
  have MW := hide (Mv.of_below q BA)
  have OO := hide (H.below BA)
  have LO : Hid (lo ≤ (((w.alloc (.cells #[.int .i64 pc, .int .i64 ln, .slice q ops.length c, .int .i64 en, .int .i64 x, .int .i64 y, .int .i64 k] 42)).alloc (.cells #[.int .i64 1, .int .i64 d, .int .i64 a, .int .i64 ik] 55)).alloc (.cells #[.int .i64 0, .int .i64 0, .slice none 0 0, .int .i64 0, .int .i64 0, .int .i64 0, .int .i64 0] 42)).heap.size) := Nat.le_trans hlo BA.size
  have LB : Hid (w.heap.size < (((w.alloc (.cells #[.int .i64 pc, .int .i64 ln, .slice q ops.length c, .int .i64 en, .int .i64 x, .int .i64 y, .int .i64 k] 42)).alloc (.cells #[.int .i64 1, .int .i64 d, .int .i64 a, .int .i64 ik] 55)).alloc (.cells #[.int .i64 0, .int .i64 0, .slice none 0 0, .int .i64 0, .int .i64 0, .int .i64 0, .int .i64 0] 42)).heap.size) := show _ < _ by simp; try omega
  clear BA H Rb Ri Rz
  go_enter Try.func46, Try.ntmps46
  have cb0 := Ab.out.1.cell 0 _ rfl
  have cb1 := Ab.out.1.cell 1 _ rfl
  have cb2 := Ab.out.1.cell 2 _ rfl
  have cb3 := Ab.out.1.cell 3 _ rfl
  have cb4 := Ab.out.1.cell 4 _ rfl
  have cb5 := Ab.out.1.cell 5 _ rfl
  have cb6 := Ab.out.1.cell 6 _ rfl
  have ci0 := Ai.out.1.cell 0 _ rfl
  have ci3 := Ai.out.1.cell 3 _ rfl
  go_wp2_with fail
  refine (l7Put ⟨pc, ln, ops, en, x, y, k⟩ (opC ik) q c lo _ OO.out LO.out (by first | omega | (simp only []; omega))).mono ?_
  rintro e u1 ⟨q1, c1, rfl, RT⟩
  clear cb0 cb1 cb2 cb3 cb4 cb5 cb6
  clear ci0 ci3
  replace Ab := hide (RT.mv.box Ab.out.1 Ab.out.2)
  replace Ai := hide (RT.mv.box Ai.out.1 Ai.out.2)
  replace Az := hide (RT.mv.box Az.out.1 Az.out.2)
  replace MW := hide (MW.out.trans RT.mv)
  replace LO := hide (Nat.le_trans LO.out RT.mv.size)
  replace LB := hide (Nat.lt_of_lt_of_le LB.out RT.mv.size)
  obtain ⟨os1, eo1⟩ : ∃ os1, ops ++ [opC ik] = os1 := ⟨_, rfl⟩
  have EO1 := hide eo1
  unfold bx
  simp only [] at RT ⊢
  rw [show ops ++ [opC ik] = os1 from eo1] at RT ⊢
  replace OO := hide RT.own
  have LL : Hid (os1.length = ops.length + 1) := show _ = _ by rw [← eo1]; simp
  have nn1 : Hid ((os1.length : Int) = ops.length + 1) := show _ = _ by have := LL.out; omega
  clear RT eo1
  have bo : Below u1.heap.size u1 (u1.alloc (.cells #[.int .i64 pc, .int .i64 ln, .slice q1 os1.length c1, .int .i64 en, .int .i64 x, .int .i64 y, .int .i64 k] 42)) := (Below.refl _ _).alloc (Nat.le_refl _) _
  have Rp := Rec.new u1 [.int .i64 pc, .int .i64 ln, .slice q1 os1.length c1, .int .i64 en, .int .i64 x, .int .i64 y, .int .i64 k] 42
  have Ap := hide (And.intro Rp (q_far OO.out u1.heap.size (Nat.le_refl _)))
  replace Ab := hide (And.intro (Ab.out.1.below bo) Ab.out.2)
  replace Ai := hide (And.intro (Ai.out.1.below bo) Ai.out.2)
  replace Az := hide (And.intro (Az.out.1.below bo) Az.out.2)
  replace MW := hide (MW.out.trans (Mv.of_below _ bo))
  replace OO := hide (OO.out.below bo)
  replace LO := hide (Nat.le_trans LO.out bo.size)
  replace LB := hide (Nat.lt_of_lt_of_le LB.out bo.size)
  clear bo Rp
  have cp0 := Ap.out.1.cell 0 _ rfl
  have cp1 := Ap.out.1.cell 1 _ rfl
  have cp2 := Ap.out.1.cell 2 _ rfl
  have cp3 := Ap.out.1.cell 3 _ rfl
  have cp4 := Ap.out.1.cell 4 _ rfl
  have cp5 := Ap.out.1.cell 5 _ rfl
  have cp6 := Ap.out.1.cell 6 _ rfl
  have ci1 := Ai.out.1.cell 1 _ rfl
  go_wp2_with fail
  refine (l7Set ⟨pc, ln, os1, en, x, y, k⟩ d ops.length q1 c1 lo _ OO.out LO.out (by have := LL.out; first | omega | (simp only []; omega))).mono ?_
  rintro e u2 ⟨q2, c2, rfl, RT⟩
  clear cp0 cp1 cp2 cp3 cp4 cp5 cp6
  clear ci1
  replace Ab := hide (RT.mv.box Ab.out.1 Ab.out.2)
  replace Ai := hide (RT.mv.box Ai.out.1 Ai.out.2)
  replace Az := hide (RT.mv.box Az.out.1 Az.out.2)
  replace Ap := hide (RT.mv.box Ap.out.1 Ap.out.2)
  replace MW := hide (MW.out.trans RT.mv)
  replace LO := hide (Nat.le_trans LO.out RT.mv.size)
  replace LB := hide (Nat.lt_of_lt_of_le LB.out RT.mv.size)
  obtain ⟨os2, eo2⟩ : ∃ os2, os1 ++ [opS ops.length d] = os2 := ⟨_, rfl⟩
  have EO2 := hide eo2
  unfold bx
  simp only [] at RT ⊢
  rw [show os1 ++ [opS ops.length d] = os2 from eo2] at RT ⊢
  replace OO := hide RT.own
  replace LL : Hid (os2.length = ops.length + 2) := show _ = _ by rw [← eo2]; simp; have := LL.out; omega
  have nn2 : Hid ((os2.length : Int) = ops.length + 2) := show _ = _ by have := LL.out; omega
  clear RT eo2
  go_wp2_with (refine lay7 rfl rfl _ _ rfl (w.heap.size + 1 + 1) _ _ _ _ _ _ _ Az.out.1 rfl _ _ _ _ _ _ _ _ _ rfl ?_; intro v9 RB TB; refine Hid.out ?_)
  replace OO := hide (OO.out.apart TB.out (fun G e h => Az.out.2 (by rw [e, h])))
  replace MW := hide (MW.out.turn TB.out (by omega))
  have z0 := RB.out.cell 0 _ rfl
  have z1 := RB.out.cell 1 _ rfl
  have z2 := RB.out.cell 2 _ rfl
  have z3 := RB.out.cell 3 _ rfl
  have z4 := RB.out.cell 4 _ rfl
  have z5 := RB.out.cell 5 _ rfl
  have z6 := RB.out.cell 6 _ rfl
  clear RB TB Ab Ai Az Ap 
  refine hide ?_
  go_wp2
  refine bodyPost_ret (v := .agg #[.int .i64 pc, .int .i64 ln, .slice q2 os2.length c2, .int .i64 en, .int .i64 x, .int .i64 y, .int .i64 k]) (by simp [results, Try.results46, go_sem, z0, z1, z2, z3, z4, z5, z6]) rfl ?_
  have EQ : os2 = ops ++ [opC ik, opS ops.length d] := by
    first
      | (rw [← EO2.out, ← EO1.out]; done)
      | (rw [← EO2.out, ← EO1.out]; simp [nn1.out])
  refine ⟨q2, c2, ?_, ?_⟩
  · first
      | (rw [← EQ]; done)
      | (rw [← EQ]; rfl)
      | (rw [← EQ]; simp [nn1.out])
  · rw [← EQ]; exact ⟨OO.out, MW.out⟩
set_option maxRecDepth 8000 in
set_option maxHeartbeats 8000000 in
theorem l7One_2 (b : Bk) (d a ik t : Int) (q : Option Addr) (c lo : Nat) (w : World) (H : OwnO w lo (.slice q b.ops.length c) b.ops) (hlo : lo ≤ w.heap.size) (hl : b.ops.length ≤ 500) :
    Calls Try.prog 46 #[bx b q c, .agg #[.int .i64 2, .int .i64 d, .int .i64 a, .int .i64 ik], .int .i64 t] w fun e w' => ∃ q' c', e = .returned ((bx ⟨b.pc, b.ln, b.ops ++ [opG a, opS b.ops.length d], b.en, b.x, b.y, b.k⟩ q' c')) ∧ Ret w lo q w' (⟨b.pc, b.ln, b.ops ++ [opG a, opS b.ops.length d], b.en, b.x, b.y, b.k⟩) q' c' := by
  obtain ⟨pc, ln, ops, en, x, y, k⟩ := b
  unfold bx
  simp only [] at H hl ⊢
  have Rb := Rec.new w [.int .i64 pc, .int .i64 ln, .slice q ops.length c, .int .i64 en, .int .i64 x, .int .i64 y, .int .i64 k] 42
  replace Rb := Rb.alloc (.cells #[.int .i64 2, .int .i64 d, .int .i64 a, .int .i64 ik] 55)
  replace Rb := Rb.alloc (.cells #[.int .i64 0, .int .i64 0, .slice none 0 0, .int .i64 0, .int .i64 0, .int .i64 0, .int .i64 0] 42)
  have Ri := Rec.new (w.alloc (.cells #[.int .i64 pc, .int .i64 ln, .slice q ops.length c, .int .i64 en, .int .i64 x, .int .i64 y, .int .i64 k] 42)) [.int .i64 2, .int .i64 d, .int .i64 a, .int .i64 ik] 55
  rw [show (w.alloc (.cells #[.int .i64 pc, .int .i64 ln, .slice q ops.length c, .int .i64 en, .int .i64 x, .int .i64 y, .int .i64 k] 42)).heap.size = w.heap.size + 1 by simp] at Ri
  replace Ri := Ri.alloc (.cells #[.int .i64 0, .int .i64 0, .slice none 0 0, .int .i64 0, .int .i64 0, .int .i64 0, .int .i64 0] 42)
  have Rz := Rec.new ((w.alloc (.cells #[.int .i64 pc, .int .i64 ln, .slice q ops.length c, .int .i64 en, .int .i64 x, .int .i64 y, .int .i64 k] 42)).alloc (.cells #[.int .i64 2, .int .i64 d, .int .i64 a, .int .i64 ik] 55)) [.int .i64 0, .int .i64 0, .slice none 0 0, .int .i64 0, .int .i64 0, .int .i64 0, .int .i64 0] 42
  rw [show ((w.alloc (.cells #[.int .i64 pc, .int .i64 ln, .slice q ops.length c, .int .i64 en, .int .i64 x, .int .i64 y, .int .i64 k] 42)).alloc (.cells #[.int .i64 2, .int .i64 d, .int .i64 a, .int .i64 ik] 55)).heap.size = w.heap.size + 1 + 1 by simp] at Rz
  have BA : Below w.heap.size w (((w.alloc (.cells #[.int .i64 pc, .int .i64 ln, .slice q ops.length c, .int .i64 en, .int .i64 x, .int .i64 y, .int .i64 k] 42)).alloc (.cells #[.int .i64 2, .int .i64 d, .int .i64 a, .int .i64 ik] 55)).alloc (.cells #[.int .i64 0, .int .i64 0, .slice none 0 0, .int .i64 0, .int .i64 0, .int .i64 0, .int .i64 0] 42)) := ((((Below.refl w.heap.size w).alloc (Nat.le_refl _) _).alloc (by simp; try omega) _).alloc (by simp; try omega) _)
  have Ab := hide (And.intro Rb (q_far H (w.heap.size) (by omega)))
  have Ai := hide (And.intro Ri (q_far H (w.heap.size + 1) (by omega)))
  have Az := hide (And.intro Rz (q_far H (w.heap.size + 1 + 1) (by omega)))
  have MW := hide (Mv.of_below q BA)
  have OO := hide (H.below BA)
  have LO : Hid (lo ≤ (((w.alloc (.cells #[.int .i64 pc, .int .i64 ln, .slice q ops.length c, .int .i64 en, .int .i64 x, .int .i64 y, .int .i64 k] 42)).alloc (.cells #[.int .i64 2, .int .i64 d, .int .i64 a, .int .i64 ik] 55)).alloc (.cells #[.int .i64 0, .int .i64 0, .slice none 0 0, .int .i64 0, .int .i64 0, .int .i64 0, .int .i64 0] 42)).heap.size) := Nat.le_trans hlo BA.size
  have LB : Hid (w.heap.size < (((w.alloc (.cells #[.int .i64 pc, .int .i64 ln, .slice q ops.length c, .int .i64 en, .int .i64 x, .int .i64 y, .int .i64 k] 42)).alloc (.cells #[.int .i64 2, .int .i64 d, .int .i64 a, .int .i64 ik] 55)).alloc (.cells #[.int .i64 0, .int .i64 0, .slice none 0 0, .int .i64 0, .int .i64 0, .int .i64 0, .int .i64 0] 42)).heap.size) := show _ < _ by simp; try omega
  clear BA H Rb Ri Rz
  go_enter Try.func46, Try.ntmps46
  have cb0 := Ab.out.1.cell 0 _ rfl
  have cb1 := Ab.out.1.cell 1 _ rfl
  have cb2 := Ab.out.1.cell 2 _ rfl
  have cb3 := Ab.out.1.cell 3 _ rfl
  have cb4 := Ab.out.1.cell 4 _ rfl
  have cb5 := Ab.out.1.cell 5 _ rfl
  have cb6 := Ab.out.1.cell 6 _ rfl
  have ci0 := Ai.out.1.cell 0 _ rfl
  have ci2 := Ai.out.1.cell 2 _ rfl
  go_wp2_with fail
  refine (l7Get ⟨pc, ln, ops, en, x, y, k⟩ a q c lo _ OO.out LO.out (by first | omega | (simp only []; omega))).mono ?_
  rintro e u1 ⟨q1, c1, rfl, RT⟩
  clear cb0 cb1 cb2 cb3 cb4 cb5 cb6
  clear ci0 ci2
  replace Ab := hide (RT.mv.box Ab.out.1 Ab.out.2)
  replace Ai := hide (RT.mv.box Ai.out.1 Ai.out.2)
  replace Az := hide (RT.mv.box Az.out.1 Az.out.2)
  replace MW := hide (MW.out.trans RT.mv)
  replace LO := hide (Nat.le_trans LO.out RT.mv.size)
  replace LB := hide (Nat.lt_of_lt_of_le LB.out RT.mv.size)
  obtain ⟨os1, eo1⟩ : ∃ os1, ops ++ [opG a] = os1 := ⟨_, rfl⟩
  have EO1 := hide eo1
  unfold bx
  simp only [] at RT ⊢
  rw [show ops ++ [opG a] = os1 from eo1] at RT ⊢
  replace OO := hide RT.own
  have LL : Hid (os1.length = ops.length + 1) := show _ = _ by rw [← eo1]; simp
  have nn1 : Hid ((os1.length : Int) = ops.length + 1) := show _ = _ by have := LL.out; omega
  clear RT eo1
  have bo : Below u1.heap.size u1 (u1.alloc (.cells #[.int .i64 pc, .int .i64 ln, .slice q1 os1.length c1, .int .i64 en, .int .i64 x, .int .i64 y, .int .i64 k] 42)) := (Below.refl _ _).alloc (Nat.le_refl _) _
  have Rp := Rec.new u1 [.int .i64 pc, .int .i64 ln, .slice q1 os1.length c1, .int .i64 en, .int .i64 x, .int .i64 y, .int .i64 k] 42
  have Ap := hide (And.intro Rp (q_far OO.out u1.heap.size (Nat.le_refl _)))
  replace Ab := hide (And.intro (Ab.out.1.below bo) Ab.out.2)
  replace Ai := hide (And.intro (Ai.out.1.below bo) Ai.out.2)
  replace Az := hide (And.intro (Az.out.1.below bo) Az.out.2)
  replace MW := hide (MW.out.trans (Mv.of_below _ bo))
  replace OO := hide (OO.out.below bo)
  replace LO := hide (Nat.le_trans LO.out bo.size)
  replace LB := hide (Nat.lt_of_lt_of_le LB.out bo.size)
  clear bo Rp
  have cp0 := Ap.out.1.cell 0 _ rfl
  have cp1 := Ap.out.1.cell 1 _ rfl
  have cp2 := Ap.out.1.cell 2 _ rfl
  have cp3 := Ap.out.1.cell 3 _ rfl
  have cp4 := Ap.out.1.cell 4 _ rfl
  have cp5 := Ap.out.1.cell 5 _ rfl
  have cp6 := Ap.out.1.cell 6 _ rfl
  have ci1 := Ai.out.1.cell 1 _ rfl
  go_wp2_with fail
  refine (l7Set ⟨pc, ln, os1, en, x, y, k⟩ d ops.length q1 c1 lo _ OO.out LO.out (by have := LL.out; first | omega | (simp only []; omega))).mono ?_
  rintro e u2 ⟨q2, c2, rfl, RT⟩
  clear cp0 cp1 cp2 cp3 cp4 cp5 cp6
  clear ci1
  replace Ab := hide (RT.mv.box Ab.out.1 Ab.out.2)
  replace Ai := hide (RT.mv.box Ai.out.1 Ai.out.2)
  replace Az := hide (RT.mv.box Az.out.1 Az.out.2)
  replace Ap := hide (RT.mv.box Ap.out.1 Ap.out.2)
  replace MW := hide (MW.out.trans RT.mv)
  replace LO := hide (Nat.le_trans LO.out RT.mv.size)
  replace LB := hide (Nat.lt_of_lt_of_le LB.out RT.mv.size)
  obtain ⟨os2, eo2⟩ : ∃ os2, os1 ++ [opS ops.length d] = os2 := ⟨_, rfl⟩
  have EO2 := hide eo2
  unfold bx
  simp only [] at RT ⊢
  rw [show os1 ++ [opS ops.length d] = os2 from eo2] at RT ⊢
  replace OO := hide RT.own
  replace LL : Hid (os2.length = ops.length + 2) := show _ = _ by rw [← eo2]; simp; have := LL.out; omega
  have nn2 : Hid ((os2.length : Int) = ops.length + 2) := show _ = _ by have := LL.out; omega
  clear RT eo2
  go_wp2_with (refine lay7 rfl rfl _ _ rfl (w.heap.size + 1 + 1) _ _ _ _ _ _ _ Az.out.1 rfl _ _ _ _ _ _ _ _ _ rfl ?_; intro v9 RB TB; refine Hid.out ?_)
  replace OO := hide (OO.out.apart TB.out (fun G e h => Az.out.2 (by rw [e, h])))
  replace MW := hide (MW.out.turn TB.out (by omega))
  have z0 := RB.out.cell 0 _ rfl
  have z1 := RB.out.cell 1 _ rfl
  have z2 := RB.out.cell 2 _ rfl
  have z3 := RB.out.cell 3 _ rfl
  have z4 := RB.out.cell 4 _ rfl
  have z5 := RB.out.cell 5 _ rfl
  have z6 := RB.out.cell 6 _ rfl
  clear RB TB Ab Ai Az Ap 
  refine hide ?_
  go_wp2
  refine bodyPost_ret (v := .agg #[.int .i64 pc, .int .i64 ln, .slice q2 os2.length c2, .int .i64 en, .int .i64 x, .int .i64 y, .int .i64 k]) (by simp [results, Try.results46, go_sem, z0, z1, z2, z3, z4, z5, z6]) rfl ?_
  have EQ : os2 = ops ++ [opG a, opS ops.length d] := by
    first
      | (rw [← EO2.out, ← EO1.out]; done)
      | (rw [← EO2.out, ← EO1.out]; simp [nn1.out])
  refine ⟨q2, c2, ?_, ?_⟩
  · first
      | (rw [← EQ]; done)
      | (rw [← EQ]; rfl)
      | (rw [← EQ]; simp [nn1.out])
  · rw [← EQ]; exact ⟨OO.out, MW.out⟩
set_option maxRecDepth 8000 in
set_option maxHeartbeats 8000000 in
theorem l7One_op (b : Bk) (op d a ik t : Int) (q : Option Addr) (c lo : Nat) (w : World) (H : OwnO w lo (.slice q b.ops.length c) b.ops) (hlo : lo ≤ w.heap.size) (hl : b.ops.length ≤ 500) (h3 : 3 ≤ op) (h7 : op ≤ 7) :
    Calls Try.prog 46 #[bx b q c, .agg #[.int .i64 op, .int .i64 d, .int .i64 a, .int .i64 ik], .int .i64 t] w fun e w' => ∃ q' c', e = .returned ((bx ⟨b.pc, b.ln, b.ops ++ [opG a, opG ik, opD (op - 3 + 1) b.ops.length (b.ops.length + 1), opS (b.ops.length + 2) d], b.en, b.x, b.y, b.k⟩ q' c')) ∧ Ret w lo q w' (⟨b.pc, b.ln, b.ops ++ [opG a, opG ik, opD (op - 3 + 1) b.ops.length (b.ops.length + 1), opS (b.ops.length + 2) d], b.en, b.x, b.y, b.k⟩) q' c' := by
  obtain ⟨pc, ln, ops, en, x, y, k⟩ := b
  unfold bx
  simp only [] at H hl ⊢
  have e1 : (op == 1) = false := beq_eq_false_iff_ne.2 (by omega)
  have e2 : (op == 2) = false := beq_eq_false_iff_ne.2 (by omega)
  have e8 : (op == 8) = false := beq_eq_false_iff_ne.2 (by omega)
  have e9 : (op == 9) = false := beq_eq_false_iff_ne.2 (by omega)
  have e10 : (op == 10) = false := beq_eq_false_iff_ne.2 (by omega)
  have e11 : (op == 11) = false := beq_eq_false_iff_ne.2 (by omega)
  have e12 : (op == 12) = false := beq_eq_false_iff_ne.2 (by omega)
  have e13 : (op == 13) = false := beq_eq_false_iff_ne.2 (by omega)
  have e14 : (op == 14) = false := beq_eq_false_iff_ne.2 (by omega)
  have e15 : (op == 15) = false := beq_eq_false_iff_ne.2 (by omega)
  have Rb := Rec.new w [.int .i64 pc, .int .i64 ln, .slice q ops.length c, .int .i64 en, .int .i64 x, .int .i64 y, .int .i64 k] 42
  replace Rb := Rb.alloc (.cells #[.int .i64 op, .int .i64 d, .int .i64 a, .int .i64 ik] 55)
  replace Rb := Rb.alloc (.cells #[.int .i64 0, .int .i64 0, .slice none 0 0, .int .i64 0, .int .i64 0, .int .i64 0, .int .i64 0] 42)
  have Ri := Rec.new (w.alloc (.cells #[.int .i64 pc, .int .i64 ln, .slice q ops.length c, .int .i64 en, .int .i64 x, .int .i64 y, .int .i64 k] 42)) [.int .i64 op, .int .i64 d, .int .i64 a, .int .i64 ik] 55
  rw [show (w.alloc (.cells #[.int .i64 pc, .int .i64 ln, .slice q ops.length c, .int .i64 en, .int .i64 x, .int .i64 y, .int .i64 k] 42)).heap.size = w.heap.size + 1 by simp] at Ri
  replace Ri := Ri.alloc (.cells #[.int .i64 0, .int .i64 0, .slice none 0 0, .int .i64 0, .int .i64 0, .int .i64 0, .int .i64 0] 42)
  have Rz := Rec.new ((w.alloc (.cells #[.int .i64 pc, .int .i64 ln, .slice q ops.length c, .int .i64 en, .int .i64 x, .int .i64 y, .int .i64 k] 42)).alloc (.cells #[.int .i64 op, .int .i64 d, .int .i64 a, .int .i64 ik] 55)) [.int .i64 0, .int .i64 0, .slice none 0 0, .int .i64 0, .int .i64 0, .int .i64 0, .int .i64 0] 42
  rw [show ((w.alloc (.cells #[.int .i64 pc, .int .i64 ln, .slice q ops.length c, .int .i64 en, .int .i64 x, .int .i64 y, .int .i64 k] 42)).alloc (.cells #[.int .i64 op, .int .i64 d, .int .i64 a, .int .i64 ik] 55)).heap.size = w.heap.size + 1 + 1 by simp] at Rz
  have BA : Below w.heap.size w (((w.alloc (.cells #[.int .i64 pc, .int .i64 ln, .slice q ops.length c, .int .i64 en, .int .i64 x, .int .i64 y, .int .i64 k] 42)).alloc (.cells #[.int .i64 op, .int .i64 d, .int .i64 a, .int .i64 ik] 55)).alloc (.cells #[.int .i64 0, .int .i64 0, .slice none 0 0, .int .i64 0, .int .i64 0, .int .i64 0, .int .i64 0] 42)) := ((((Below.refl w.heap.size w).alloc (Nat.le_refl _) _).alloc (by simp; try omega) _).alloc (by simp; try omega) _)
  have Ab := hide (And.intro Rb (q_far H (w.heap.size) (by omega)))
  have Ai := hide (And.intro Ri (q_far H (w.heap.size + 1) (by omega)))
  have Az := hide (And.intro Rz (q_far H (w.heap.size + 1 + 1) (by omega)))
  have MW := hide (Mv.of_below q BA)
  have OO := hide (H.below BA)
  have LO : Hid (lo ≤ (((w.alloc (.cells #[.int .i64 pc, .int .i64 ln, .slice q ops.length c, .int .i64 en, .int .i64 x, .int .i64 y, .int .i64 k] 42)).alloc (.cells #[.int .i64 op, .int .i64 d, .int .i64 a, .int .i64 ik] 55)).alloc (.cells #[.int .i64 0, .int .i64 0, .slice none 0 0, .int .i64 0, .int .i64 0, .int .i64 0, .int .i64 0] 42)).heap.size) := Nat.le_trans hlo BA.size
  have LB : Hid (w.heap.size < (((w.alloc (.cells #[.int .i64 pc, .int .i64 ln, .slice q ops.length c, .int .i64 en, .int .i64 x, .int .i64 y, .int .i64 k] 42)).alloc (.cells #[.int .i64 op, .int .i64 d, .int .i64 a, .int .i64 ik] 55)).alloc (.cells #[.int .i64 0, .int .i64 0, .slice none 0 0, .int .i64 0, .int .i64 0, .int .i64 0, .int .i64 0] 42)).heap.size) := show _ < _ by simp; try omega
  clear BA H Rb Ri Rz
  go_enter Try.func46, Try.ntmps46
  have cb0 := Ab.out.1.cell 0 _ rfl
  have cb1 := Ab.out.1.cell 1 _ rfl
  have cb2 := Ab.out.1.cell 2 _ rfl
  have cb3 := Ab.out.1.cell 3 _ rfl
  have cb4 := Ab.out.1.cell 4 _ rfl
  have cb5 := Ab.out.1.cell 5 _ rfl
  have cb6 := Ab.out.1.cell 6 _ rfl
  have ci0 := Ai.out.1.cell 0 _ rfl
  have ci2 := Ai.out.1.cell 2 _ rfl
  have ci3 := Ai.out.1.cell 3 _ rfl
  go_wp2_with fail
  refine (l7Reckon ⟨pc, ln, ops, en, x, y, k⟩ (op - 3 + 1) a (opG ik) q c lo _ OO.out LO.out (by first | omega | (simp only []; omega))).mono ?_
  rintro e u1 ⟨q1, c1, rfl, RT⟩
  clear cb0 cb1 cb2 cb3 cb4 cb5 cb6
  clear ci0 ci2 ci3
  replace Ab := hide (RT.mv.box Ab.out.1 Ab.out.2)
  replace Ai := hide (RT.mv.box Ai.out.1 Ai.out.2)
  replace Az := hide (RT.mv.box Az.out.1 Az.out.2)
  replace MW := hide (MW.out.trans RT.mv)
  replace LO := hide (Nat.le_trans LO.out RT.mv.size)
  replace LB := hide (Nat.lt_of_lt_of_le LB.out RT.mv.size)
  obtain ⟨os1, eo1⟩ : ∃ os1, ops ++ [opG a, opG ik, opD (op - 3 + 1) ops.length (ops.length + 1)] = os1 := ⟨_, rfl⟩
  have EO1 := hide eo1
  unfold bx
  simp only [] at RT ⊢
  rw [show ops ++ [opG a, opG ik, opD (op - 3 + 1) ops.length (ops.length + 1)] = os1 from eo1] at RT ⊢
  replace OO := hide RT.own
  have LL : Hid (os1.length = ops.length + 3) := show _ = _ by rw [← eo1]; simp
  have nn1 : Hid ((os1.length : Int) = ops.length + 3) := show _ = _ by have := LL.out; omega
  clear RT eo1
  have bo : Below u1.heap.size u1 (u1.alloc (.cells #[.int .i64 pc, .int .i64 ln, .slice q1 os1.length c1, .int .i64 en, .int .i64 x, .int .i64 y, .int .i64 k] 42)) := (Below.refl _ _).alloc (Nat.le_refl _) _
  have Rp := Rec.new u1 [.int .i64 pc, .int .i64 ln, .slice q1 os1.length c1, .int .i64 en, .int .i64 x, .int .i64 y, .int .i64 k] 42
  have Ap := hide (And.intro Rp (q_far OO.out u1.heap.size (Nat.le_refl _)))
  replace Ab := hide (And.intro (Ab.out.1.below bo) Ab.out.2)
  replace Ai := hide (And.intro (Ai.out.1.below bo) Ai.out.2)
  replace Az := hide (And.intro (Az.out.1.below bo) Az.out.2)
  replace MW := hide (MW.out.trans (Mv.of_below _ bo))
  replace OO := hide (OO.out.below bo)
  replace LO := hide (Nat.le_trans LO.out bo.size)
  replace LB := hide (Nat.lt_of_lt_of_le LB.out bo.size)
  clear bo Rp
  have cp0 := Ap.out.1.cell 0 _ rfl
  have cp1 := Ap.out.1.cell 1 _ rfl
  have cp2 := Ap.out.1.cell 2 _ rfl
  have cp3 := Ap.out.1.cell 3 _ rfl
  have cp4 := Ap.out.1.cell 4 _ rfl
  have cp5 := Ap.out.1.cell 5 _ rfl
  have cp6 := Ap.out.1.cell 6 _ rfl
  have ci1 := Ai.out.1.cell 1 _ rfl
  go_wp2_with fail
  refine (l7Set ⟨pc, ln, os1, en, x, y, k⟩ d (ops.length + 2) q1 c1 lo _ OO.out LO.out (by have := LL.out; first | omega | (simp only []; omega))).mono ?_
  rintro e u2 ⟨q2, c2, rfl, RT⟩
  clear cp0 cp1 cp2 cp3 cp4 cp5 cp6
  clear ci1
  replace Ab := hide (RT.mv.box Ab.out.1 Ab.out.2)
  replace Ai := hide (RT.mv.box Ai.out.1 Ai.out.2)
  replace Az := hide (RT.mv.box Az.out.1 Az.out.2)
  replace Ap := hide (RT.mv.box Ap.out.1 Ap.out.2)
  replace MW := hide (MW.out.trans RT.mv)
  replace LO := hide (Nat.le_trans LO.out RT.mv.size)
  replace LB := hide (Nat.lt_of_lt_of_le LB.out RT.mv.size)
  obtain ⟨os2, eo2⟩ : ∃ os2, os1 ++ [opS (ops.length + 2) d] = os2 := ⟨_, rfl⟩
  have EO2 := hide eo2
  unfold bx
  simp only [] at RT ⊢
  rw [show os1 ++ [opS (ops.length + 2) d] = os2 from eo2] at RT ⊢
  replace OO := hide RT.own
  replace LL : Hid (os2.length = ops.length + 4) := show _ = _ by rw [← eo2]; simp; have := LL.out; omega
  have nn2 : Hid ((os2.length : Int) = ops.length + 4) := show _ = _ by have := LL.out; omega
  clear RT eo2
  go_wp2_with (refine lay7 rfl rfl _ _ rfl (w.heap.size + 1 + 1) _ _ _ _ _ _ _ Az.out.1 rfl _ _ _ _ _ _ _ _ _ rfl ?_; intro v9 RB TB; refine Hid.out ?_)
  replace OO := hide (OO.out.apart TB.out (fun G e h => Az.out.2 (by rw [e, h])))
  replace MW := hide (MW.out.turn TB.out (by omega))
  have z0 := RB.out.cell 0 _ rfl
  have z1 := RB.out.cell 1 _ rfl
  have z2 := RB.out.cell 2 _ rfl
  have z3 := RB.out.cell 3 _ rfl
  have z4 := RB.out.cell 4 _ rfl
  have z5 := RB.out.cell 5 _ rfl
  have z6 := RB.out.cell 6 _ rfl
  clear RB TB Ab Ai Az Ap 
  refine hide ?_
  go_wp2
  refine bodyPost_ret (v := .agg #[.int .i64 pc, .int .i64 ln, .slice q2 os2.length c2, .int .i64 en, .int .i64 x, .int .i64 y, .int .i64 k]) (by simp [results, Try.results46, go_sem, z0, z1, z2, z3, z4, z5, z6]) rfl ?_
  have EQ : os2 = ops ++ [opG a, opG ik, opD (op - 3 + 1) ops.length (ops.length + 1), opS (ops.length + 2) d] := by
    first
      | (rw [← EO2.out, ← EO1.out]; done)
      | (rw [← EO2.out, ← EO1.out]; simp [nn1.out])
  refine ⟨q2, c2, ?_, ?_⟩
  · first
      | (rw [← EQ]; done)
      | (rw [← EQ]; rfl)
      | (rw [← EQ]; simp [nn1.out])
  · rw [← EQ]; exact ⟨OO.out, MW.out⟩
set_option maxRecDepth 8000 in
set_option maxHeartbeats 8000000 in
theorem l7One_14 (b : Bk) (d a ik t : Int) (q : Option Addr) (c lo : Nat) (w : World) (H : OwnO w lo (.slice q b.ops.length c) b.ops) (hlo : lo ≤ w.heap.size) (hl : b.ops.length ≤ 500) :
    Calls Try.prog 46 #[bx b q c, .agg #[.int .i64 14, .int .i64 d, .int .i64 a, .int .i64 ik], .int .i64 t] w fun e w' => ∃ q' c', e = .returned ((bx ⟨b.pc, b.ln, b.ops ++ [opG d, opU b.ops.length t], b.en, b.x, b.y, b.k⟩ q' c')) ∧ Ret w lo q w' (⟨b.pc, b.ln, b.ops ++ [opG d, opU b.ops.length t], b.en, b.x, b.y, b.k⟩) q' c' := by
  obtain ⟨pc, ln, ops, en, x, y, k⟩ := b
  unfold bx
  simp only [] at H hl ⊢
  have Rb := Rec.new w [.int .i64 pc, .int .i64 ln, .slice q ops.length c, .int .i64 en, .int .i64 x, .int .i64 y, .int .i64 k] 42
  replace Rb := Rb.alloc (.cells #[.int .i64 14, .int .i64 d, .int .i64 a, .int .i64 ik] 55)
  replace Rb := Rb.alloc (.cells #[.int .i64 0, .int .i64 0, .slice none 0 0, .int .i64 0, .int .i64 0, .int .i64 0, .int .i64 0] 42)
  have Ri := Rec.new (w.alloc (.cells #[.int .i64 pc, .int .i64 ln, .slice q ops.length c, .int .i64 en, .int .i64 x, .int .i64 y, .int .i64 k] 42)) [.int .i64 14, .int .i64 d, .int .i64 a, .int .i64 ik] 55
  rw [show (w.alloc (.cells #[.int .i64 pc, .int .i64 ln, .slice q ops.length c, .int .i64 en, .int .i64 x, .int .i64 y, .int .i64 k] 42)).heap.size = w.heap.size + 1 by simp] at Ri
  replace Ri := Ri.alloc (.cells #[.int .i64 0, .int .i64 0, .slice none 0 0, .int .i64 0, .int .i64 0, .int .i64 0, .int .i64 0] 42)
  have Rz := Rec.new ((w.alloc (.cells #[.int .i64 pc, .int .i64 ln, .slice q ops.length c, .int .i64 en, .int .i64 x, .int .i64 y, .int .i64 k] 42)).alloc (.cells #[.int .i64 14, .int .i64 d, .int .i64 a, .int .i64 ik] 55)) [.int .i64 0, .int .i64 0, .slice none 0 0, .int .i64 0, .int .i64 0, .int .i64 0, .int .i64 0] 42
  rw [show ((w.alloc (.cells #[.int .i64 pc, .int .i64 ln, .slice q ops.length c, .int .i64 en, .int .i64 x, .int .i64 y, .int .i64 k] 42)).alloc (.cells #[.int .i64 14, .int .i64 d, .int .i64 a, .int .i64 ik] 55)).heap.size = w.heap.size + 1 + 1 by simp] at Rz
  have BA : Below w.heap.size w (((w.alloc (.cells #[.int .i64 pc, .int .i64 ln, .slice q ops.length c, .int .i64 en, .int .i64 x, .int .i64 y, .int .i64 k] 42)).alloc (.cells #[.int .i64 14, .int .i64 d, .int .i64 a, .int .i64 ik] 55)).alloc (.cells #[.int .i64 0, .int .i64 0, .slice none 0 0, .int .i64 0, .int .i64 0, .int .i64 0, .int .i64 0] 42)) := ((((Below.refl w.heap.size w).alloc (Nat.le_refl _) _).alloc (by simp; try omega) _).alloc (by simp; try omega) _)
  have Ab := hide (And.intro Rb (q_far H (w.heap.size) (by omega)))
  have Ai := hide (And.intro Ri (q_far H (w.heap.size + 1) (by omega)))
  have Az := hide (And.intro Rz (q_far H (w.heap.size + 1 + 1) (by omega)))
  have MW := hide (Mv.of_below q BA)
  have OO := hide (H.below BA)
  have LO : Hid (lo ≤ (((w.alloc (.cells #[.int .i64 pc, .int .i64 ln, .slice q ops.length c, .int .i64 en, .int .i64 x, .int .i64 y, .int .i64 k] 42)).alloc (.cells #[.int .i64 14, .int .i64 d, .int .i64 a, .int .i64 ik] 55)).alloc (.cells #[.int .i64 0, .int .i64 0, .slice none 0 0, .int .i64 0, .int .i64 0, .int .i64 0, .int .i64 0] 42)).heap.size) := Nat.le_trans hlo BA.size
  have LB : Hid (w.heap.size < (((w.alloc (.cells #[.int .i64 pc, .int .i64 ln, .slice q ops.length c, .int .i64 en, .int .i64 x, .int .i64 y, .int .i64 k] 42)).alloc (.cells #[.int .i64 14, .int .i64 d, .int .i64 a, .int .i64 ik] 55)).alloc (.cells #[.int .i64 0, .int .i64 0, .slice none 0 0, .int .i64 0, .int .i64 0, .int .i64 0, .int .i64 0] 42)).heap.size) := show _ < _ by simp; try omega
  clear BA H Rb Ri Rz
  go_enter Try.func46, Try.ntmps46
  have cb0 := Ab.out.1.cell 0 _ rfl
  have cb1 := Ab.out.1.cell 1 _ rfl
  have cb2 := Ab.out.1.cell 2 _ rfl
  have cb3 := Ab.out.1.cell 3 _ rfl
  have cb4 := Ab.out.1.cell 4 _ rfl
  have cb5 := Ab.out.1.cell 5 _ rfl
  have cb6 := Ab.out.1.cell 6 _ rfl
  have ci0 := Ai.out.1.cell 0 _ rfl
  have ci1 := Ai.out.1.cell 1 _ rfl
  go_wp2_with fail
  refine (l7Get ⟨pc, ln, ops, en, x, y, k⟩ d q c lo _ OO.out LO.out (by first | omega | (simp only []; omega))).mono ?_
  rintro e u1 ⟨q1, c1, rfl, RT⟩
  clear cb0 cb1 cb2 cb3 cb4 cb5 cb6
  clear ci0 ci1
  replace Ab := hide (RT.mv.box Ab.out.1 Ab.out.2)
  replace Ai := hide (RT.mv.box Ai.out.1 Ai.out.2)
  replace Az := hide (RT.mv.box Az.out.1 Az.out.2)
  replace MW := hide (MW.out.trans RT.mv)
  replace LO := hide (Nat.le_trans LO.out RT.mv.size)
  replace LB := hide (Nat.lt_of_lt_of_le LB.out RT.mv.size)
  obtain ⟨os1, eo1⟩ : ∃ os1, ops ++ [opG d] = os1 := ⟨_, rfl⟩
  have EO1 := hide eo1
  unfold bx
  simp only [] at RT ⊢
  rw [show ops ++ [opG d] = os1 from eo1] at RT ⊢
  replace OO := hide RT.own
  have LL : Hid (os1.length = ops.length + 1) := show _ = _ by rw [← eo1]; simp
  have nn1 : Hid ((os1.length : Int) = ops.length + 1) := show _ = _ by have := LL.out; omega
  clear RT eo1
  have bo : Below u1.heap.size u1 (u1.alloc (.cells #[.int .i64 pc, .int .i64 ln, .slice q1 os1.length c1, .int .i64 en, .int .i64 x, .int .i64 y, .int .i64 k] 42)) := (Below.refl _ _).alloc (Nat.le_refl _) _
  have Rp := Rec.new u1 [.int .i64 pc, .int .i64 ln, .slice q1 os1.length c1, .int .i64 en, .int .i64 x, .int .i64 y, .int .i64 k] 42
  have Ap := hide (And.intro Rp (q_far OO.out u1.heap.size (Nat.le_refl _)))
  replace Ab := hide (And.intro (Ab.out.1.below bo) Ab.out.2)
  replace Ai := hide (And.intro (Ai.out.1.below bo) Ai.out.2)
  replace Az := hide (And.intro (Az.out.1.below bo) Az.out.2)
  replace MW := hide (MW.out.trans (Mv.of_below _ bo))
  replace OO := hide (OO.out.below bo)
  replace LO := hide (Nat.le_trans LO.out bo.size)
  replace LB := hide (Nat.lt_of_lt_of_le LB.out bo.size)
  clear bo Rp
  have cp0 := Ap.out.1.cell 0 _ rfl
  have cp1 := Ap.out.1.cell 1 _ rfl
  have cp2 := Ap.out.1.cell 2 _ rfl
  have cp3 := Ap.out.1.cell 3 _ rfl
  have cp4 := Ap.out.1.cell 4 _ rfl
  have cp5 := Ap.out.1.cell 5 _ rfl
  have cp6 := Ap.out.1.cell 6 _ rfl
  go_wp2_with fail
  refine (l7Put ⟨pc, ln, os1, en, x, y, k⟩ (opU ops.length t) q1 c1 lo _ OO.out LO.out (by have := LL.out; first | omega | (simp only []; omega))).mono ?_
  rintro e u2 ⟨q2, c2, rfl, RT⟩
  clear cp0 cp1 cp2 cp3 cp4 cp5 cp6
  replace Ab := hide (RT.mv.box Ab.out.1 Ab.out.2)
  replace Ai := hide (RT.mv.box Ai.out.1 Ai.out.2)
  replace Az := hide (RT.mv.box Az.out.1 Az.out.2)
  replace Ap := hide (RT.mv.box Ap.out.1 Ap.out.2)
  replace MW := hide (MW.out.trans RT.mv)
  replace LO := hide (Nat.le_trans LO.out RT.mv.size)
  replace LB := hide (Nat.lt_of_lt_of_le LB.out RT.mv.size)
  obtain ⟨os2, eo2⟩ : ∃ os2, os1 ++ [opU ops.length t] = os2 := ⟨_, rfl⟩
  have EO2 := hide eo2
  unfold bx
  simp only [] at RT ⊢
  rw [show os1 ++ [opU ops.length t] = os2 from eo2] at RT ⊢
  replace OO := hide RT.own
  replace LL : Hid (os2.length = ops.length + 2) := show _ = _ by rw [← eo2]; simp; have := LL.out; omega
  have nn2 : Hid ((os2.length : Int) = ops.length + 2) := show _ = _ by have := LL.out; omega
  clear RT eo2
  have bo : Below u2.heap.size u2 (u2.alloc (.cells #[.int .i64 pc, .int .i64 ln, .slice q2 os2.length c2, .int .i64 en, .int .i64 x, .int .i64 y, .int .i64 k] 42)) := (Below.refl _ _).alloc (Nat.le_refl _) _
  have Rr := Rec.new u2 [.int .i64 pc, .int .i64 ln, .slice q2 os2.length c2, .int .i64 en, .int .i64 x, .int .i64 y, .int .i64 k] 42
  have Ar := hide (And.intro Rr (q_far OO.out u2.heap.size (Nat.le_refl _)))
  replace Ab := hide (And.intro (Ab.out.1.below bo) Ab.out.2)
  replace Ai := hide (And.intro (Ai.out.1.below bo) Ai.out.2)
  replace Az := hide (And.intro (Az.out.1.below bo) Az.out.2)
  replace Ap := hide (And.intro (Ap.out.1.below bo) Ap.out.2)
  replace MW := hide (MW.out.trans (Mv.of_below _ bo))
  replace OO := hide (OO.out.below bo)
  replace LO := hide (Nat.le_trans LO.out bo.size)
  replace LB := hide (Nat.lt_of_lt_of_le LB.out bo.size)
  clear bo Rr
  have cr0 := Ar.out.1.cell 0 _ rfl
  have cr1 := Ar.out.1.cell 1 _ rfl
  have cr2 := Ar.out.1.cell 2 _ rfl
  have cr3 := Ar.out.1.cell 3 _ rfl
  have cr4 := Ar.out.1.cell 4 _ rfl
  have cr5 := Ar.out.1.cell 5 _ rfl
  have cr6 := Ar.out.1.cell 6 _ rfl
  go_wp2_with (refine lay7 rfl rfl _ _ rfl (w.heap.size + 1 + 1) _ _ _ _ _ _ _ Az.out.1 rfl _ _ _ _ _ _ _ _ _ rfl ?_; intro v9 RB TB; refine Hid.out ?_)
  replace OO := hide (OO.out.apart TB.out (fun G e h => Az.out.2 (by rw [e, h])))
  replace MW := hide (MW.out.turn TB.out (by omega))
  have z0 := RB.out.cell 0 _ rfl
  have z1 := RB.out.cell 1 _ rfl
  have z2 := RB.out.cell 2 _ rfl
  have z3 := RB.out.cell 3 _ rfl
  have z4 := RB.out.cell 4 _ rfl
  have z5 := RB.out.cell 5 _ rfl
  have z6 := RB.out.cell 6 _ rfl
  clear RB TB Ab Ai Az Ap Ar cr0 cr1 cr2 cr3 cr4 cr5 cr6
  refine hide ?_
  go_wp2
  refine bodyPost_ret (v := .agg #[.int .i64 pc, .int .i64 ln, .slice q2 os2.length c2, .int .i64 en, .int .i64 x, .int .i64 y, .int .i64 k]) (by simp [results, Try.results46, go_sem, z0, z1, z2, z3, z4, z5, z6]) rfl ?_
  have EQ : os2 = ops ++ [opG d, opU ops.length t] := by
    first
      | (rw [← EO2.out, ← EO1.out]; done)
      | (rw [← EO2.out, ← EO1.out]; simp [nn1.out])
  refine ⟨q2, c2, ?_, ?_⟩
  · first
      | (rw [← EQ]; done)
      | (rw [← EQ]; rfl)
      | (rw [← EQ]; simp [nn1.out])
  · rw [← EQ]; exact ⟨OO.out, MW.out⟩
set_option maxRecDepth 8000 in
set_option maxHeartbeats 8000000 in
theorem l7One_15 (b : Bk) (d a ik t : Int) (q : Option Addr) (c lo : Nat) (w : World) (H : OwnO w lo (.slice q b.ops.length c) b.ops) (hlo : lo ≤ w.heap.size) (hl : b.ops.length ≤ 500) :
    Calls Try.prog 46 #[bx b q c, .agg #[.int .i64 15, .int .i64 d, .int .i64 a, .int .i64 ik], .int .i64 t] w fun e w' => ∃ q' c', e = .returned ((bx ⟨b.pc, b.ln, b.ops ++ [opI t, opS b.ops.length d], b.en, b.x, b.y, b.k⟩ q' c')) ∧ Ret w lo q w' (⟨b.pc, b.ln, b.ops ++ [opI t, opS b.ops.length d], b.en, b.x, b.y, b.k⟩) q' c' := by
  obtain ⟨pc, ln, ops, en, x, y, k⟩ := b
  unfold bx
  simp only [] at H hl ⊢
  have Rb := Rec.new w [.int .i64 pc, .int .i64 ln, .slice q ops.length c, .int .i64 en, .int .i64 x, .int .i64 y, .int .i64 k] 42
  replace Rb := Rb.alloc (.cells #[.int .i64 15, .int .i64 d, .int .i64 a, .int .i64 ik] 55)
  replace Rb := Rb.alloc (.cells #[.int .i64 0, .int .i64 0, .slice none 0 0, .int .i64 0, .int .i64 0, .int .i64 0, .int .i64 0] 42)
  have Ri := Rec.new (w.alloc (.cells #[.int .i64 pc, .int .i64 ln, .slice q ops.length c, .int .i64 en, .int .i64 x, .int .i64 y, .int .i64 k] 42)) [.int .i64 15, .int .i64 d, .int .i64 a, .int .i64 ik] 55
  rw [show (w.alloc (.cells #[.int .i64 pc, .int .i64 ln, .slice q ops.length c, .int .i64 en, .int .i64 x, .int .i64 y, .int .i64 k] 42)).heap.size = w.heap.size + 1 by simp] at Ri
  replace Ri := Ri.alloc (.cells #[.int .i64 0, .int .i64 0, .slice none 0 0, .int .i64 0, .int .i64 0, .int .i64 0, .int .i64 0] 42)
  have Rz := Rec.new ((w.alloc (.cells #[.int .i64 pc, .int .i64 ln, .slice q ops.length c, .int .i64 en, .int .i64 x, .int .i64 y, .int .i64 k] 42)).alloc (.cells #[.int .i64 15, .int .i64 d, .int .i64 a, .int .i64 ik] 55)) [.int .i64 0, .int .i64 0, .slice none 0 0, .int .i64 0, .int .i64 0, .int .i64 0, .int .i64 0] 42
  rw [show ((w.alloc (.cells #[.int .i64 pc, .int .i64 ln, .slice q ops.length c, .int .i64 en, .int .i64 x, .int .i64 y, .int .i64 k] 42)).alloc (.cells #[.int .i64 15, .int .i64 d, .int .i64 a, .int .i64 ik] 55)).heap.size = w.heap.size + 1 + 1 by simp] at Rz
  have BA : Below w.heap.size w (((w.alloc (.cells #[.int .i64 pc, .int .i64 ln, .slice q ops.length c, .int .i64 en, .int .i64 x, .int .i64 y, .int .i64 k] 42)).alloc (.cells #[.int .i64 15, .int .i64 d, .int .i64 a, .int .i64 ik] 55)).alloc (.cells #[.int .i64 0, .int .i64 0, .slice none 0 0, .int .i64 0, .int .i64 0, .int .i64 0, .int .i64 0] 42)) := ((((Below.refl w.heap.size w).alloc (Nat.le_refl _) _).alloc (by simp; try omega) _).alloc (by simp; try omega) _)
  have Ab := hide (And.intro Rb (q_far H (w.heap.size) (by omega)))
  have Ai := hide (And.intro Ri (q_far H (w.heap.size + 1) (by omega)))
  have Az := hide (And.intro Rz (q_far H (w.heap.size + 1 + 1) (by omega)))
  have MW := hide (Mv.of_below q BA)
  have OO := hide (H.below BA)
  have LO : Hid (lo ≤ (((w.alloc (.cells #[.int .i64 pc, .int .i64 ln, .slice q ops.length c, .int .i64 en, .int .i64 x, .int .i64 y, .int .i64 k] 42)).alloc (.cells #[.int .i64 15, .int .i64 d, .int .i64 a, .int .i64 ik] 55)).alloc (.cells #[.int .i64 0, .int .i64 0, .slice none 0 0, .int .i64 0, .int .i64 0, .int .i64 0, .int .i64 0] 42)).heap.size) := Nat.le_trans hlo BA.size
  have LB : Hid (w.heap.size < (((w.alloc (.cells #[.int .i64 pc, .int .i64 ln, .slice q ops.length c, .int .i64 en, .int .i64 x, .int .i64 y, .int .i64 k] 42)).alloc (.cells #[.int .i64 15, .int .i64 d, .int .i64 a, .int .i64 ik] 55)).alloc (.cells #[.int .i64 0, .int .i64 0, .slice none 0 0, .int .i64 0, .int .i64 0, .int .i64 0, .int .i64 0] 42)).heap.size) := show _ < _ by simp; try omega
  clear BA H Rb Ri Rz
  go_enter Try.func46, Try.ntmps46
  have cb0 := Ab.out.1.cell 0 _ rfl
  have cb1 := Ab.out.1.cell 1 _ rfl
  have cb2 := Ab.out.1.cell 2 _ rfl
  have cb3 := Ab.out.1.cell 3 _ rfl
  have cb4 := Ab.out.1.cell 4 _ rfl
  have cb5 := Ab.out.1.cell 5 _ rfl
  have cb6 := Ab.out.1.cell 6 _ rfl
  have ci0 := Ai.out.1.cell 0 _ rfl
  go_wp2_with fail
  refine (l7Put ⟨pc, ln, ops, en, x, y, k⟩ (opI t) q c lo _ OO.out LO.out (by first | omega | (simp only []; omega))).mono ?_
  rintro e u1 ⟨q1, c1, rfl, RT⟩
  clear cb0 cb1 cb2 cb3 cb4 cb5 cb6
  clear ci0
  replace Ab := hide (RT.mv.box Ab.out.1 Ab.out.2)
  replace Ai := hide (RT.mv.box Ai.out.1 Ai.out.2)
  replace Az := hide (RT.mv.box Az.out.1 Az.out.2)
  replace MW := hide (MW.out.trans RT.mv)
  replace LO := hide (Nat.le_trans LO.out RT.mv.size)
  replace LB := hide (Nat.lt_of_lt_of_le LB.out RT.mv.size)
  obtain ⟨os1, eo1⟩ : ∃ os1, ops ++ [opI t] = os1 := ⟨_, rfl⟩
  have EO1 := hide eo1
  unfold bx
  simp only [] at RT ⊢
  rw [show ops ++ [opI t] = os1 from eo1] at RT ⊢
  replace OO := hide RT.own
  have LL : Hid (os1.length = ops.length + 1) := show _ = _ by rw [← eo1]; simp
  have nn1 : Hid ((os1.length : Int) = ops.length + 1) := show _ = _ by have := LL.out; omega
  clear RT eo1
  have bo : Below u1.heap.size u1 (u1.alloc (.cells #[.int .i64 pc, .int .i64 ln, .slice q1 os1.length c1, .int .i64 en, .int .i64 x, .int .i64 y, .int .i64 k] 42)) := (Below.refl _ _).alloc (Nat.le_refl _) _
  have Rp := Rec.new u1 [.int .i64 pc, .int .i64 ln, .slice q1 os1.length c1, .int .i64 en, .int .i64 x, .int .i64 y, .int .i64 k] 42
  have Ap := hide (And.intro Rp (q_far OO.out u1.heap.size (Nat.le_refl _)))
  replace Ab := hide (And.intro (Ab.out.1.below bo) Ab.out.2)
  replace Ai := hide (And.intro (Ai.out.1.below bo) Ai.out.2)
  replace Az := hide (And.intro (Az.out.1.below bo) Az.out.2)
  replace MW := hide (MW.out.trans (Mv.of_below _ bo))
  replace OO := hide (OO.out.below bo)
  replace LO := hide (Nat.le_trans LO.out bo.size)
  replace LB := hide (Nat.lt_of_lt_of_le LB.out bo.size)
  clear bo Rp
  have cp0 := Ap.out.1.cell 0 _ rfl
  have cp1 := Ap.out.1.cell 1 _ rfl
  have cp2 := Ap.out.1.cell 2 _ rfl
  have cp3 := Ap.out.1.cell 3 _ rfl
  have cp4 := Ap.out.1.cell 4 _ rfl
  have cp5 := Ap.out.1.cell 5 _ rfl
  have cp6 := Ap.out.1.cell 6 _ rfl
  have ci1 := Ai.out.1.cell 1 _ rfl
  go_wp2_with fail
  refine (l7Set ⟨pc, ln, os1, en, x, y, k⟩ d ops.length q1 c1 lo _ OO.out LO.out (by have := LL.out; first | omega | (simp only []; omega))).mono ?_
  rintro e u2 ⟨q2, c2, rfl, RT⟩
  clear cp0 cp1 cp2 cp3 cp4 cp5 cp6
  clear ci1
  replace Ab := hide (RT.mv.box Ab.out.1 Ab.out.2)
  replace Ai := hide (RT.mv.box Ai.out.1 Ai.out.2)
  replace Az := hide (RT.mv.box Az.out.1 Az.out.2)
  replace Ap := hide (RT.mv.box Ap.out.1 Ap.out.2)
  replace MW := hide (MW.out.trans RT.mv)
  replace LO := hide (Nat.le_trans LO.out RT.mv.size)
  replace LB := hide (Nat.lt_of_lt_of_le LB.out RT.mv.size)
  obtain ⟨os2, eo2⟩ : ∃ os2, os1 ++ [opS ops.length d] = os2 := ⟨_, rfl⟩
  have EO2 := hide eo2
  unfold bx
  simp only [] at RT ⊢
  rw [show os1 ++ [opS ops.length d] = os2 from eo2] at RT ⊢
  replace OO := hide RT.own
  replace LL : Hid (os2.length = ops.length + 2) := show _ = _ by rw [← eo2]; simp; have := LL.out; omega
  have nn2 : Hid ((os2.length : Int) = ops.length + 2) := show _ = _ by have := LL.out; omega
  clear RT eo2
  go_wp2_with (refine lay7 rfl rfl _ _ rfl (w.heap.size + 1 + 1) _ _ _ _ _ _ _ Az.out.1 rfl _ _ _ _ _ _ _ _ _ rfl ?_; intro v9 RB TB; refine Hid.out ?_)
  replace OO := hide (OO.out.apart TB.out (fun G e h => Az.out.2 (by rw [e, h])))
  replace MW := hide (MW.out.turn TB.out (by omega))
  have z0 := RB.out.cell 0 _ rfl
  have z1 := RB.out.cell 1 _ rfl
  have z2 := RB.out.cell 2 _ rfl
  have z3 := RB.out.cell 3 _ rfl
  have z4 := RB.out.cell 4 _ rfl
  have z5 := RB.out.cell 5 _ rfl
  have z6 := RB.out.cell 6 _ rfl
  clear RB TB Ab Ai Az Ap 
  refine hide ?_
  go_wp2
  refine bodyPost_ret (v := .agg #[.int .i64 pc, .int .i64 ln, .slice q2 os2.length c2, .int .i64 en, .int .i64 x, .int .i64 y, .int .i64 k]) (by simp [results, Try.results46, go_sem, z0, z1, z2, z3, z4, z5, z6]) rfl ?_
  have EQ : os2 = ops ++ [opI t, opS ops.length d] := by
    first
      | (rw [← EO2.out, ← EO1.out]; done)
      | (rw [← EO2.out, ← EO1.out]; simp [nn1.out])
  refine ⟨q2, c2, ?_, ?_⟩
  · first
      | (rw [← EQ]; done)
      | (rw [← EQ]; rfl)
      | (rw [← EQ]; simp [nn1.out])
  · rw [← EQ]; exact ⟨OO.out, MW.out⟩
set_option maxRecDepth 8000 in
set_option maxHeartbeats 8000000 in
theorem l7One_9 (b : Bk) (d a ik t : Int) (q : Option Addr) (c lo : Nat) (w : World) (H : OwnO w lo (.slice q b.ops.length c) b.ops) (hlo : lo ≤ w.heap.size) (hl : b.ops.length ≤ 500) :
    Calls Try.prog 46 #[bx b q c, .agg #[.int .i64 9, .int .i64 d, .int .i64 a, .int .i64 ik], .int .i64 t] w fun e w' => ∃ q' c', e = .returned ((bx ⟨b.pc, b.ln, b.ops ++ [opG a, opC ik, opD 1 b.ops.length (b.ops.length + 1), opL (b.ops.length + 2) t, opS (b.ops.length + 3) d], b.en, b.x, b.y, b.k⟩ q' c')) ∧ Ret w lo q w' (⟨b.pc, b.ln, b.ops ++ [opG a, opC ik, opD 1 b.ops.length (b.ops.length + 1), opL (b.ops.length + 2) t, opS (b.ops.length + 3) d], b.en, b.x, b.y, b.k⟩) q' c' := by
  obtain ⟨pc, ln, ops, en, x, y, k⟩ := b
  unfold bx
  simp only [] at H hl ⊢
  have Rb := Rec.new w [.int .i64 pc, .int .i64 ln, .slice q ops.length c, .int .i64 en, .int .i64 x, .int .i64 y, .int .i64 k] 42
  replace Rb := Rb.alloc (.cells #[.int .i64 9, .int .i64 d, .int .i64 a, .int .i64 ik] 55)
  replace Rb := Rb.alloc (.cells #[.int .i64 0, .int .i64 0, .slice none 0 0, .int .i64 0, .int .i64 0, .int .i64 0, .int .i64 0] 42)
  have Ri := Rec.new (w.alloc (.cells #[.int .i64 pc, .int .i64 ln, .slice q ops.length c, .int .i64 en, .int .i64 x, .int .i64 y, .int .i64 k] 42)) [.int .i64 9, .int .i64 d, .int .i64 a, .int .i64 ik] 55
  rw [show (w.alloc (.cells #[.int .i64 pc, .int .i64 ln, .slice q ops.length c, .int .i64 en, .int .i64 x, .int .i64 y, .int .i64 k] 42)).heap.size = w.heap.size + 1 by simp] at Ri
  replace Ri := Ri.alloc (.cells #[.int .i64 0, .int .i64 0, .slice none 0 0, .int .i64 0, .int .i64 0, .int .i64 0, .int .i64 0] 42)
  have Rz := Rec.new ((w.alloc (.cells #[.int .i64 pc, .int .i64 ln, .slice q ops.length c, .int .i64 en, .int .i64 x, .int .i64 y, .int .i64 k] 42)).alloc (.cells #[.int .i64 9, .int .i64 d, .int .i64 a, .int .i64 ik] 55)) [.int .i64 0, .int .i64 0, .slice none 0 0, .int .i64 0, .int .i64 0, .int .i64 0, .int .i64 0] 42
  rw [show ((w.alloc (.cells #[.int .i64 pc, .int .i64 ln, .slice q ops.length c, .int .i64 en, .int .i64 x, .int .i64 y, .int .i64 k] 42)).alloc (.cells #[.int .i64 9, .int .i64 d, .int .i64 a, .int .i64 ik] 55)).heap.size = w.heap.size + 1 + 1 by simp] at Rz
  have BA : Below w.heap.size w (((w.alloc (.cells #[.int .i64 pc, .int .i64 ln, .slice q ops.length c, .int .i64 en, .int .i64 x, .int .i64 y, .int .i64 k] 42)).alloc (.cells #[.int .i64 9, .int .i64 d, .int .i64 a, .int .i64 ik] 55)).alloc (.cells #[.int .i64 0, .int .i64 0, .slice none 0 0, .int .i64 0, .int .i64 0, .int .i64 0, .int .i64 0] 42)) := ((((Below.refl w.heap.size w).alloc (Nat.le_refl _) _).alloc (by simp; try omega) _).alloc (by simp; try omega) _)
  have Ab := hide (And.intro Rb (q_far H (w.heap.size) (by omega)))
  have Ai := hide (And.intro Ri (q_far H (w.heap.size + 1) (by omega)))
  have Az := hide (And.intro Rz (q_far H (w.heap.size + 1 + 1) (by omega)))
  have MW := hide (Mv.of_below q BA)
  have OO := hide (H.below BA)
  have LO : Hid (lo ≤ (((w.alloc (.cells #[.int .i64 pc, .int .i64 ln, .slice q ops.length c, .int .i64 en, .int .i64 x, .int .i64 y, .int .i64 k] 42)).alloc (.cells #[.int .i64 9, .int .i64 d, .int .i64 a, .int .i64 ik] 55)).alloc (.cells #[.int .i64 0, .int .i64 0, .slice none 0 0, .int .i64 0, .int .i64 0, .int .i64 0, .int .i64 0] 42)).heap.size) := Nat.le_trans hlo BA.size
  have LB : Hid (w.heap.size < (((w.alloc (.cells #[.int .i64 pc, .int .i64 ln, .slice q ops.length c, .int .i64 en, .int .i64 x, .int .i64 y, .int .i64 k] 42)).alloc (.cells #[.int .i64 9, .int .i64 d, .int .i64 a, .int .i64 ik] 55)).alloc (.cells #[.int .i64 0, .int .i64 0, .slice none 0 0, .int .i64 0, .int .i64 0, .int .i64 0, .int .i64 0] 42)).heap.size) := show _ < _ by simp; try omega
  clear BA H Rb Ri Rz
  go_enter Try.func46, Try.ntmps46
  have cb0 := Ab.out.1.cell 0 _ rfl
  have cb1 := Ab.out.1.cell 1 _ rfl
  have cb2 := Ab.out.1.cell 2 _ rfl
  have cb3 := Ab.out.1.cell 3 _ rfl
  have cb4 := Ab.out.1.cell 4 _ rfl
  have cb5 := Ab.out.1.cell 5 _ rfl
  have cb6 := Ab.out.1.cell 6 _ rfl
  have ci0 := Ai.out.1.cell 0 _ rfl
  have ci1 := Ai.out.1.cell 1 _ rfl
  have ci2 := Ai.out.1.cell 2 _ rfl
  have ci3 := Ai.out.1.cell 3 _ rfl
  go_wp2_with fail
  refine (l7Reach9 ⟨pc, ln, ops, en, x, y, k⟩ d a ik t q c lo _ OO.out LO.out (by first | omega | (simp only []; omega))).mono ?_
  rintro e u1 ⟨q1, c1, rfl, RT⟩
  clear cb0 cb1 cb2 cb3 cb4 cb5 cb6
  clear ci0 ci1 ci2 ci3
  replace Ab := hide (RT.mv.box Ab.out.1 Ab.out.2)
  replace Ai := hide (RT.mv.box Ai.out.1 Ai.out.2)
  replace Az := hide (RT.mv.box Az.out.1 Az.out.2)
  replace MW := hide (MW.out.trans RT.mv)
  replace LO := hide (Nat.le_trans LO.out RT.mv.size)
  replace LB := hide (Nat.lt_of_lt_of_le LB.out RT.mv.size)
  obtain ⟨os1, eo1⟩ : ∃ os1, ops ++ [opG a, opC ik, opD 1 ops.length (ops.length + 1), opL (ops.length + 2) t, opS (ops.length + 3) d] = os1 := ⟨_, rfl⟩
  have EO1 := hide eo1
  unfold bx
  simp only [] at RT ⊢
  rw [show ops ++ [opG a, opC ik, opD 1 ops.length (ops.length + 1), opL (ops.length + 2) t, opS (ops.length + 3) d] = os1 from eo1] at RT ⊢
  replace OO := hide RT.own
  have LL : Hid (os1.length = ops.length + 5) := show _ = _ by rw [← eo1]; simp
  have nn1 : Hid ((os1.length : Int) = ops.length + 5) := show _ = _ by have := LL.out; omega
  clear RT eo1
  go_wp2_with (refine lay7 rfl rfl _ _ rfl (w.heap.size + 1 + 1) _ _ _ _ _ _ _ Az.out.1 rfl _ _ _ _ _ _ _ _ _ rfl ?_; intro v9 RB TB; refine Hid.out ?_)
  replace OO := hide (OO.out.apart TB.out (fun G e h => Az.out.2 (by rw [e, h])))
  replace MW := hide (MW.out.turn TB.out (by omega))
  have z0 := RB.out.cell 0 _ rfl
  have z1 := RB.out.cell 1 _ rfl
  have z2 := RB.out.cell 2 _ rfl
  have z3 := RB.out.cell 3 _ rfl
  have z4 := RB.out.cell 4 _ rfl
  have z5 := RB.out.cell 5 _ rfl
  have z6 := RB.out.cell 6 _ rfl
  clear RB TB Ab Ai Az 
  refine hide ?_
  go_wp2
  refine bodyPost_ret (v := .agg #[.int .i64 pc, .int .i64 ln, .slice q1 os1.length c1, .int .i64 en, .int .i64 x, .int .i64 y, .int .i64 k]) (by simp [results, Try.results46, go_sem, z0, z1, z2, z3, z4, z5, z6]) rfl ?_
  have EQ : os1 = ops ++ [opG a, opC ik, opD 1 ops.length (ops.length + 1), opL (ops.length + 2) t, opS (ops.length + 3) d] := by
    first
      | (rw [← EO1.out]; done)
      | (rw [← EO1.out]; simp)
  refine ⟨q1, c1, ?_, ?_⟩
  · first
      | (rw [← EQ]; done)
      | (rw [← EQ]; rfl)
      | (rw [← EQ]; simp)
  · rw [← EQ]; exact ⟨OO.out, MW.out⟩
set_option maxRecDepth 8000 in
set_option maxHeartbeats 8000000 in
theorem l7One_10 (b : Bk) (d a ik t : Int) (q : Option Addr) (c lo : Nat) (w : World) (H : OwnO w lo (.slice q b.ops.length c) b.ops) (hlo : lo ≤ w.heap.size) (hl : b.ops.length ≤ 500) :
    Calls Try.prog 46 #[bx b q c, .agg #[.int .i64 10, .int .i64 d, .int .i64 a, .int .i64 ik], .int .i64 t] w fun e w' => ∃ q' c', e = .returned ((bx ⟨b.pc, b.ln, b.ops ++ [opG a, opC ik, opD 1 b.ops.length (b.ops.length + 1), opG d, opT (b.ops.length + 2) (b.ops.length + 3) t], b.en, b.x, b.y, b.k⟩ q' c')) ∧ Ret w lo q w' (⟨b.pc, b.ln, b.ops ++ [opG a, opC ik, opD 1 b.ops.length (b.ops.length + 1), opG d, opT (b.ops.length + 2) (b.ops.length + 3) t], b.en, b.x, b.y, b.k⟩) q' c' := by
  obtain ⟨pc, ln, ops, en, x, y, k⟩ := b
  unfold bx
  simp only [] at H hl ⊢
  have Rb := Rec.new w [.int .i64 pc, .int .i64 ln, .slice q ops.length c, .int .i64 en, .int .i64 x, .int .i64 y, .int .i64 k] 42
  replace Rb := Rb.alloc (.cells #[.int .i64 10, .int .i64 d, .int .i64 a, .int .i64 ik] 55)
  replace Rb := Rb.alloc (.cells #[.int .i64 0, .int .i64 0, .slice none 0 0, .int .i64 0, .int .i64 0, .int .i64 0, .int .i64 0] 42)
  have Ri := Rec.new (w.alloc (.cells #[.int .i64 pc, .int .i64 ln, .slice q ops.length c, .int .i64 en, .int .i64 x, .int .i64 y, .int .i64 k] 42)) [.int .i64 10, .int .i64 d, .int .i64 a, .int .i64 ik] 55
  rw [show (w.alloc (.cells #[.int .i64 pc, .int .i64 ln, .slice q ops.length c, .int .i64 en, .int .i64 x, .int .i64 y, .int .i64 k] 42)).heap.size = w.heap.size + 1 by simp] at Ri
  replace Ri := Ri.alloc (.cells #[.int .i64 0, .int .i64 0, .slice none 0 0, .int .i64 0, .int .i64 0, .int .i64 0, .int .i64 0] 42)
  have Rz := Rec.new ((w.alloc (.cells #[.int .i64 pc, .int .i64 ln, .slice q ops.length c, .int .i64 en, .int .i64 x, .int .i64 y, .int .i64 k] 42)).alloc (.cells #[.int .i64 10, .int .i64 d, .int .i64 a, .int .i64 ik] 55)) [.int .i64 0, .int .i64 0, .slice none 0 0, .int .i64 0, .int .i64 0, .int .i64 0, .int .i64 0] 42
  rw [show ((w.alloc (.cells #[.int .i64 pc, .int .i64 ln, .slice q ops.length c, .int .i64 en, .int .i64 x, .int .i64 y, .int .i64 k] 42)).alloc (.cells #[.int .i64 10, .int .i64 d, .int .i64 a, .int .i64 ik] 55)).heap.size = w.heap.size + 1 + 1 by simp] at Rz
  have BA : Below w.heap.size w (((w.alloc (.cells #[.int .i64 pc, .int .i64 ln, .slice q ops.length c, .int .i64 en, .int .i64 x, .int .i64 y, .int .i64 k] 42)).alloc (.cells #[.int .i64 10, .int .i64 d, .int .i64 a, .int .i64 ik] 55)).alloc (.cells #[.int .i64 0, .int .i64 0, .slice none 0 0, .int .i64 0, .int .i64 0, .int .i64 0, .int .i64 0] 42)) := ((((Below.refl w.heap.size w).alloc (Nat.le_refl _) _).alloc (by simp; try omega) _).alloc (by simp; try omega) _)
  have Ab := hide (And.intro Rb (q_far H (w.heap.size) (by omega)))
  have Ai := hide (And.intro Ri (q_far H (w.heap.size + 1) (by omega)))
  have Az := hide (And.intro Rz (q_far H (w.heap.size + 1 + 1) (by omega)))
  have MW := hide (Mv.of_below q BA)
  have OO := hide (H.below BA)
  have LO : Hid (lo ≤ (((w.alloc (.cells #[.int .i64 pc, .int .i64 ln, .slice q ops.length c, .int .i64 en, .int .i64 x, .int .i64 y, .int .i64 k] 42)).alloc (.cells #[.int .i64 10, .int .i64 d, .int .i64 a, .int .i64 ik] 55)).alloc (.cells #[.int .i64 0, .int .i64 0, .slice none 0 0, .int .i64 0, .int .i64 0, .int .i64 0, .int .i64 0] 42)).heap.size) := Nat.le_trans hlo BA.size
  have LB : Hid (w.heap.size < (((w.alloc (.cells #[.int .i64 pc, .int .i64 ln, .slice q ops.length c, .int .i64 en, .int .i64 x, .int .i64 y, .int .i64 k] 42)).alloc (.cells #[.int .i64 10, .int .i64 d, .int .i64 a, .int .i64 ik] 55)).alloc (.cells #[.int .i64 0, .int .i64 0, .slice none 0 0, .int .i64 0, .int .i64 0, .int .i64 0, .int .i64 0] 42)).heap.size) := show _ < _ by simp; try omega
  clear BA H Rb Ri Rz
  go_enter Try.func46, Try.ntmps46
  have cb0 := Ab.out.1.cell 0 _ rfl
  have cb1 := Ab.out.1.cell 1 _ rfl
  have cb2 := Ab.out.1.cell 2 _ rfl
  have cb3 := Ab.out.1.cell 3 _ rfl
  have cb4 := Ab.out.1.cell 4 _ rfl
  have cb5 := Ab.out.1.cell 5 _ rfl
  have cb6 := Ab.out.1.cell 6 _ rfl
  have ci0 := Ai.out.1.cell 0 _ rfl
  have ci1 := Ai.out.1.cell 1 _ rfl
  have ci2 := Ai.out.1.cell 2 _ rfl
  have ci3 := Ai.out.1.cell 3 _ rfl
  go_wp2_with fail
  refine (l7Reach10 ⟨pc, ln, ops, en, x, y, k⟩ d a ik t q c lo _ OO.out LO.out (by first | omega | (simp only []; omega))).mono ?_
  rintro e u1 ⟨q1, c1, rfl, RT⟩
  clear cb0 cb1 cb2 cb3 cb4 cb5 cb6
  clear ci0 ci1 ci2 ci3
  replace Ab := hide (RT.mv.box Ab.out.1 Ab.out.2)
  replace Ai := hide (RT.mv.box Ai.out.1 Ai.out.2)
  replace Az := hide (RT.mv.box Az.out.1 Az.out.2)
  replace MW := hide (MW.out.trans RT.mv)
  replace LO := hide (Nat.le_trans LO.out RT.mv.size)
  replace LB := hide (Nat.lt_of_lt_of_le LB.out RT.mv.size)
  obtain ⟨os1, eo1⟩ : ∃ os1, ops ++ [opG a, opC ik, opD 1 ops.length (ops.length + 1), opG d, opT (ops.length + 2) (ops.length + 3) t] = os1 := ⟨_, rfl⟩
  have EO1 := hide eo1
  unfold bx
  simp only [] at RT ⊢
  rw [show ops ++ [opG a, opC ik, opD 1 ops.length (ops.length + 1), opG d, opT (ops.length + 2) (ops.length + 3) t] = os1 from eo1] at RT ⊢
  replace OO := hide RT.own
  have LL : Hid (os1.length = ops.length + 5) := show _ = _ by rw [← eo1]; simp
  have nn1 : Hid ((os1.length : Int) = ops.length + 5) := show _ = _ by have := LL.out; omega
  clear RT eo1
  go_wp2_with (refine lay7 rfl rfl _ _ rfl (w.heap.size + 1 + 1) _ _ _ _ _ _ _ Az.out.1 rfl _ _ _ _ _ _ _ _ _ rfl ?_; intro v9 RB TB; refine Hid.out ?_)
  replace OO := hide (OO.out.apart TB.out (fun G e h => Az.out.2 (by rw [e, h])))
  replace MW := hide (MW.out.turn TB.out (by omega))
  have z0 := RB.out.cell 0 _ rfl
  have z1 := RB.out.cell 1 _ rfl
  have z2 := RB.out.cell 2 _ rfl
  have z3 := RB.out.cell 3 _ rfl
  have z4 := RB.out.cell 4 _ rfl
  have z5 := RB.out.cell 5 _ rfl
  have z6 := RB.out.cell 6 _ rfl
  clear RB TB Ab Ai Az 
  refine hide ?_
  go_wp2
  refine bodyPost_ret (v := .agg #[.int .i64 pc, .int .i64 ln, .slice q1 os1.length c1, .int .i64 en, .int .i64 x, .int .i64 y, .int .i64 k]) (by simp [results, Try.results46, go_sem, z0, z1, z2, z3, z4, z5, z6]) rfl ?_
  have EQ : os1 = ops ++ [opG a, opC ik, opD 1 ops.length (ops.length + 1), opG d, opT (ops.length + 2) (ops.length + 3) t] := by
    first
      | (rw [← EO1.out]; done)
      | (rw [← EO1.out]; simp)
  refine ⟨q1, c1, ?_, ?_⟩
  · first
      | (rw [← EQ]; done)
      | (rw [← EQ]; rfl)
      | (rw [← EQ]; simp)
  · rw [← EQ]; exact ⟨OO.out, MW.out⟩
set_option maxRecDepth 8000 in
set_option maxHeartbeats 8000000 in
theorem l7One_13 (b : Bk) (d a ik t : Int) (q : Option Addr) (c lo : Nat) (w : World) (H : OwnO w lo (.slice q b.ops.length c) b.ops) (hlo : lo ≤ w.heap.size) (hl : b.ops.length ≤ 500) :
    Calls Try.prog 46 #[bx b q c, .agg #[.int .i64 13, .int .i64 d, .int .i64 a, .int .i64 ik], .int .i64 t] w fun e w' => ∃ q' c', e = .returned ((bx ⟨b.pc, b.ln, b.ops ++ [opG a], 2, b.ops.length, b.y, 0⟩ q' c')) ∧ Ret w lo q w' (⟨b.pc, b.ln, b.ops ++ [opG a], 2, b.ops.length, b.y, 0⟩) q' c' := by
  obtain ⟨pc, ln, ops, en, x, y, k⟩ := b
  unfold bx
  simp only [] at H hl ⊢
  have Rb := Rec.new w [.int .i64 pc, .int .i64 ln, .slice q ops.length c, .int .i64 en, .int .i64 x, .int .i64 y, .int .i64 k] 42
  replace Rb := Rb.alloc (.cells #[.int .i64 13, .int .i64 d, .int .i64 a, .int .i64 ik] 55)
  replace Rb := Rb.alloc (.cells #[.int .i64 0, .int .i64 0, .slice none 0 0, .int .i64 0, .int .i64 0, .int .i64 0, .int .i64 0] 42)
  have Ri := Rec.new (w.alloc (.cells #[.int .i64 pc, .int .i64 ln, .slice q ops.length c, .int .i64 en, .int .i64 x, .int .i64 y, .int .i64 k] 42)) [.int .i64 13, .int .i64 d, .int .i64 a, .int .i64 ik] 55
  rw [show (w.alloc (.cells #[.int .i64 pc, .int .i64 ln, .slice q ops.length c, .int .i64 en, .int .i64 x, .int .i64 y, .int .i64 k] 42)).heap.size = w.heap.size + 1 by simp] at Ri
  replace Ri := Ri.alloc (.cells #[.int .i64 0, .int .i64 0, .slice none 0 0, .int .i64 0, .int .i64 0, .int .i64 0, .int .i64 0] 42)
  have Rz := Rec.new ((w.alloc (.cells #[.int .i64 pc, .int .i64 ln, .slice q ops.length c, .int .i64 en, .int .i64 x, .int .i64 y, .int .i64 k] 42)).alloc (.cells #[.int .i64 13, .int .i64 d, .int .i64 a, .int .i64 ik] 55)) [.int .i64 0, .int .i64 0, .slice none 0 0, .int .i64 0, .int .i64 0, .int .i64 0, .int .i64 0] 42
  rw [show ((w.alloc (.cells #[.int .i64 pc, .int .i64 ln, .slice q ops.length c, .int .i64 en, .int .i64 x, .int .i64 y, .int .i64 k] 42)).alloc (.cells #[.int .i64 13, .int .i64 d, .int .i64 a, .int .i64 ik] 55)).heap.size = w.heap.size + 1 + 1 by simp] at Rz
  have BA : Below w.heap.size w (((w.alloc (.cells #[.int .i64 pc, .int .i64 ln, .slice q ops.length c, .int .i64 en, .int .i64 x, .int .i64 y, .int .i64 k] 42)).alloc (.cells #[.int .i64 13, .int .i64 d, .int .i64 a, .int .i64 ik] 55)).alloc (.cells #[.int .i64 0, .int .i64 0, .slice none 0 0, .int .i64 0, .int .i64 0, .int .i64 0, .int .i64 0] 42)) := ((((Below.refl w.heap.size w).alloc (Nat.le_refl _) _).alloc (by simp; try omega) _).alloc (by simp; try omega) _)
  have Ab := hide (And.intro Rb (q_far H (w.heap.size) (by omega)))
  have Ai := hide (And.intro Ri (q_far H (w.heap.size + 1) (by omega)))
  have Az := hide (And.intro Rz (q_far H (w.heap.size + 1 + 1) (by omega)))
  have MW := hide (Mv.of_below q BA)
  have OO := hide (H.below BA)
  have LO : Hid (lo ≤ (((w.alloc (.cells #[.int .i64 pc, .int .i64 ln, .slice q ops.length c, .int .i64 en, .int .i64 x, .int .i64 y, .int .i64 k] 42)).alloc (.cells #[.int .i64 13, .int .i64 d, .int .i64 a, .int .i64 ik] 55)).alloc (.cells #[.int .i64 0, .int .i64 0, .slice none 0 0, .int .i64 0, .int .i64 0, .int .i64 0, .int .i64 0] 42)).heap.size) := Nat.le_trans hlo BA.size
  have LB : Hid (w.heap.size < (((w.alloc (.cells #[.int .i64 pc, .int .i64 ln, .slice q ops.length c, .int .i64 en, .int .i64 x, .int .i64 y, .int .i64 k] 42)).alloc (.cells #[.int .i64 13, .int .i64 d, .int .i64 a, .int .i64 ik] 55)).alloc (.cells #[.int .i64 0, .int .i64 0, .slice none 0 0, .int .i64 0, .int .i64 0, .int .i64 0, .int .i64 0] 42)).heap.size) := show _ < _ by simp; try omega
  clear BA H Rb Ri Rz
  go_enter Try.func46, Try.ntmps46
  have cb0 := Ab.out.1.cell 0 _ rfl
  have cb1 := Ab.out.1.cell 1 _ rfl
  have cb2 := Ab.out.1.cell 2 _ rfl
  have cb3 := Ab.out.1.cell 3 _ rfl
  have cb4 := Ab.out.1.cell 4 _ rfl
  have cb5 := Ab.out.1.cell 5 _ rfl
  have cb6 := Ab.out.1.cell 6 _ rfl
  have ci0 := Ai.out.1.cell 0 _ rfl
  have ci1 := Ai.out.1.cell 1 _ rfl
  have ci2 := Ai.out.1.cell 2 _ rfl
  have ci3 := Ai.out.1.cell 3 _ rfl
  go_wp2_with fail
  refine (l7Last13 ⟨pc, ln, ops, en, x, y, k⟩ d a ik q c lo _ OO.out LO.out (by first | omega | (simp only []; omega))).mono ?_
  rintro e u1 ⟨q1, c1, rfl, RT⟩
  clear cb0 cb1 cb2 cb3 cb4 cb5 cb6
  clear ci0 ci1 ci2 ci3
  replace Ab := hide (RT.mv.box Ab.out.1 Ab.out.2)
  replace Ai := hide (RT.mv.box Ai.out.1 Ai.out.2)
  replace Az := hide (RT.mv.box Az.out.1 Az.out.2)
  replace MW := hide (MW.out.trans RT.mv)
  replace LO := hide (Nat.le_trans LO.out RT.mv.size)
  replace LB := hide (Nat.lt_of_lt_of_le LB.out RT.mv.size)
  obtain ⟨os1, eo1⟩ : ∃ os1, ops ++ [opG a] = os1 := ⟨_, rfl⟩
  have EO1 := hide eo1
  unfold bx
  simp only [] at RT ⊢
  rw [show ops ++ [opG a] = os1 from eo1] at RT ⊢
  replace OO := hide RT.own
  have LL : Hid (os1.length = ops.length + 1) := show _ = _ by rw [← eo1]; simp
  have nn1 : Hid ((os1.length : Int) = ops.length + 1) := show _ = _ by have := LL.out; omega
  clear RT eo1
  go_wp2_with (refine lay7 rfl rfl _ _ rfl (w.heap.size + 1 + 1) _ _ _ _ _ _ _ Az.out.1 rfl _ _ _ _ _ _ _ _ _ rfl ?_; intro v9 RB TB; refine Hid.out ?_)
  replace OO := hide (OO.out.apart TB.out (fun G e h => Az.out.2 (by rw [e, h])))
  replace MW := hide (MW.out.turn TB.out (by omega))
  have z0 := RB.out.cell 0 _ rfl
  have z1 := RB.out.cell 1 _ rfl
  have z2 := RB.out.cell 2 _ rfl
  have z3 := RB.out.cell 3 _ rfl
  have z4 := RB.out.cell 4 _ rfl
  have z5 := RB.out.cell 5 _ rfl
  have z6 := RB.out.cell 6 _ rfl
  clear RB TB Ab Ai Az 
  refine hide ?_
  go_wp2
  refine bodyPost_ret (v := .agg #[.int .i64 pc, .int .i64 ln, .slice q1 os1.length c1, .int .i64 2, .int .i64 ops.length, .int .i64 y, .int .i64 0]) (by simp [results, Try.results46, go_sem, z0, z1, z2, z3, z4, z5, z6]) rfl ?_
  have EQ : os1 = ops ++ [opG a] := by
    first
      | (rw [← EO1.out]; done)
      | (rw [← EO1.out]; simp)
  refine ⟨q1, c1, ?_, ?_⟩
  · first
      | (rw [← EQ]; done)
      | (rw [← EQ]; rfl)
      | (rw [← EQ]; simp)
  · rw [← EQ]; exact ⟨OO.out, MW.out⟩
set_option maxRecDepth 8000 in
set_option maxHeartbeats 8000000 in
theorem l7One_11 (b : Bk) (d a ik t : Int) (q : Option Addr) (c lo : Nat) (w : World) (H : OwnO w lo (.slice q b.ops.length c) b.ops) (hlo : lo ≤ w.heap.size) (hl : b.ops.length ≤ 500) :
    Calls Try.prog 46 #[bx b q c, .agg #[.int .i64 11, .int .i64 d, .int .i64 a, .int .i64 ik], .int .i64 t] w fun e w' => ∃ q' c', e = .returned ((bx ⟨b.pc, b.ln, b.ops ++ [opG d, opG a], 3, b.ops.length, (b.ops.length + 1), ik⟩ q' c')) ∧ Ret w lo q w' (⟨b.pc, b.ln, b.ops ++ [opG d, opG a], 3, b.ops.length, (b.ops.length + 1), ik⟩) q' c' := by
  obtain ⟨pc, ln, ops, en, x, y, k⟩ := b
  unfold bx
  simp only [] at H hl ⊢
  have Rb := Rec.new w [.int .i64 pc, .int .i64 ln, .slice q ops.length c, .int .i64 en, .int .i64 x, .int .i64 y, .int .i64 k] 42
  replace Rb := Rb.alloc (.cells #[.int .i64 11, .int .i64 d, .int .i64 a, .int .i64 ik] 55)
  replace Rb := Rb.alloc (.cells #[.int .i64 0, .int .i64 0, .slice none 0 0, .int .i64 0, .int .i64 0, .int .i64 0, .int .i64 0] 42)
  have Ri := Rec.new (w.alloc (.cells #[.int .i64 pc, .int .i64 ln, .slice q ops.length c, .int .i64 en, .int .i64 x, .int .i64 y, .int .i64 k] 42)) [.int .i64 11, .int .i64 d, .int .i64 a, .int .i64 ik] 55
  rw [show (w.alloc (.cells #[.int .i64 pc, .int .i64 ln, .slice q ops.length c, .int .i64 en, .int .i64 x, .int .i64 y, .int .i64 k] 42)).heap.size = w.heap.size + 1 by simp] at Ri
  replace Ri := Ri.alloc (.cells #[.int .i64 0, .int .i64 0, .slice none 0 0, .int .i64 0, .int .i64 0, .int .i64 0, .int .i64 0] 42)
  have Rz := Rec.new ((w.alloc (.cells #[.int .i64 pc, .int .i64 ln, .slice q ops.length c, .int .i64 en, .int .i64 x, .int .i64 y, .int .i64 k] 42)).alloc (.cells #[.int .i64 11, .int .i64 d, .int .i64 a, .int .i64 ik] 55)) [.int .i64 0, .int .i64 0, .slice none 0 0, .int .i64 0, .int .i64 0, .int .i64 0, .int .i64 0] 42
  rw [show ((w.alloc (.cells #[.int .i64 pc, .int .i64 ln, .slice q ops.length c, .int .i64 en, .int .i64 x, .int .i64 y, .int .i64 k] 42)).alloc (.cells #[.int .i64 11, .int .i64 d, .int .i64 a, .int .i64 ik] 55)).heap.size = w.heap.size + 1 + 1 by simp] at Rz
  have BA : Below w.heap.size w (((w.alloc (.cells #[.int .i64 pc, .int .i64 ln, .slice q ops.length c, .int .i64 en, .int .i64 x, .int .i64 y, .int .i64 k] 42)).alloc (.cells #[.int .i64 11, .int .i64 d, .int .i64 a, .int .i64 ik] 55)).alloc (.cells #[.int .i64 0, .int .i64 0, .slice none 0 0, .int .i64 0, .int .i64 0, .int .i64 0, .int .i64 0] 42)) := ((((Below.refl w.heap.size w).alloc (Nat.le_refl _) _).alloc (by simp; try omega) _).alloc (by simp; try omega) _)
  have Ab := hide (And.intro Rb (q_far H (w.heap.size) (by omega)))
  have Ai := hide (And.intro Ri (q_far H (w.heap.size + 1) (by omega)))
  have Az := hide (And.intro Rz (q_far H (w.heap.size + 1 + 1) (by omega)))
  have MW := hide (Mv.of_below q BA)
  have OO := hide (H.below BA)
  have LO : Hid (lo ≤ (((w.alloc (.cells #[.int .i64 pc, .int .i64 ln, .slice q ops.length c, .int .i64 en, .int .i64 x, .int .i64 y, .int .i64 k] 42)).alloc (.cells #[.int .i64 11, .int .i64 d, .int .i64 a, .int .i64 ik] 55)).alloc (.cells #[.int .i64 0, .int .i64 0, .slice none 0 0, .int .i64 0, .int .i64 0, .int .i64 0, .int .i64 0] 42)).heap.size) := Nat.le_trans hlo BA.size
  have LB : Hid (w.heap.size < (((w.alloc (.cells #[.int .i64 pc, .int .i64 ln, .slice q ops.length c, .int .i64 en, .int .i64 x, .int .i64 y, .int .i64 k] 42)).alloc (.cells #[.int .i64 11, .int .i64 d, .int .i64 a, .int .i64 ik] 55)).alloc (.cells #[.int .i64 0, .int .i64 0, .slice none 0 0, .int .i64 0, .int .i64 0, .int .i64 0, .int .i64 0] 42)).heap.size) := show _ < _ by simp; try omega
  clear BA H Rb Ri Rz
  go_enter Try.func46, Try.ntmps46
  have cb0 := Ab.out.1.cell 0 _ rfl
  have cb1 := Ab.out.1.cell 1 _ rfl
  have cb2 := Ab.out.1.cell 2 _ rfl
  have cb3 := Ab.out.1.cell 3 _ rfl
  have cb4 := Ab.out.1.cell 4 _ rfl
  have cb5 := Ab.out.1.cell 5 _ rfl
  have cb6 := Ab.out.1.cell 6 _ rfl
  have ci0 := Ai.out.1.cell 0 _ rfl
  have ci1 := Ai.out.1.cell 1 _ rfl
  have ci2 := Ai.out.1.cell 2 _ rfl
  have ci3 := Ai.out.1.cell 3 _ rfl
  go_wp2_with fail
  refine (l7Last11 ⟨pc, ln, ops, en, x, y, k⟩ d a ik q c lo _ OO.out LO.out (by first | omega | (simp only []; omega))).mono ?_
  rintro e u1 ⟨q1, c1, rfl, RT⟩
  clear cb0 cb1 cb2 cb3 cb4 cb5 cb6
  clear ci0 ci1 ci2 ci3
  replace Ab := hide (RT.mv.box Ab.out.1 Ab.out.2)
  replace Ai := hide (RT.mv.box Ai.out.1 Ai.out.2)
  replace Az := hide (RT.mv.box Az.out.1 Az.out.2)
  replace MW := hide (MW.out.trans RT.mv)
  replace LO := hide (Nat.le_trans LO.out RT.mv.size)
  replace LB := hide (Nat.lt_of_lt_of_le LB.out RT.mv.size)
  obtain ⟨os1, eo1⟩ : ∃ os1, ops ++ [opG d, opG a] = os1 := ⟨_, rfl⟩
  have EO1 := hide eo1
  unfold bx
  simp only [] at RT ⊢
  rw [show ops ++ [opG d, opG a] = os1 from eo1] at RT ⊢
  replace OO := hide RT.own
  have LL : Hid (os1.length = ops.length + 2) := show _ = _ by rw [← eo1]; simp
  have nn1 : Hid ((os1.length : Int) = ops.length + 2) := show _ = _ by have := LL.out; omega
  clear RT eo1
  go_wp2_with (refine lay7 rfl rfl _ _ rfl (w.heap.size + 1 + 1) _ _ _ _ _ _ _ Az.out.1 rfl _ _ _ _ _ _ _ _ _ rfl ?_; intro v9 RB TB; refine Hid.out ?_)
  replace OO := hide (OO.out.apart TB.out (fun G e h => Az.out.2 (by rw [e, h])))
  replace MW := hide (MW.out.turn TB.out (by omega))
  have z0 := RB.out.cell 0 _ rfl
  have z1 := RB.out.cell 1 _ rfl
  have z2 := RB.out.cell 2 _ rfl
  have z3 := RB.out.cell 3 _ rfl
  have z4 := RB.out.cell 4 _ rfl
  have z5 := RB.out.cell 5 _ rfl
  have z6 := RB.out.cell 6 _ rfl
  clear RB TB Ab Ai Az 
  refine hide ?_
  go_wp2
  refine bodyPost_ret (v := .agg #[.int .i64 pc, .int .i64 ln, .slice q1 os1.length c1, .int .i64 3, .int .i64 ops.length, .int .i64 (ops.length + 1), .int .i64 ik]) (by simp [results, Try.results46, go_sem, z0, z1, z2, z3, z4, z5, z6]) rfl ?_
  have EQ : os1 = ops ++ [opG d, opG a] := by
    first
      | (rw [← EO1.out]; done)
      | (rw [← EO1.out]; simp)
  refine ⟨q1, c1, ?_, ?_⟩
  · first
      | (rw [← EQ]; done)
      | (rw [← EQ]; rfl)
      | (rw [← EQ]; simp)
  · rw [← EQ]; exact ⟨OO.out, MW.out⟩
set_option maxRecDepth 8000 in
set_option maxHeartbeats 8000000 in
theorem l7One_12 (b : Bk) (d a ik t : Int) (q : Option Addr) (c lo : Nat) (w : World) (H : OwnO w lo (.slice q b.ops.length c) b.ops) (hlo : lo ≤ w.heap.size) (hl : b.ops.length ≤ 500) :
    Calls Try.prog 46 #[bx b q c, .agg #[.int .i64 12, .int .i64 d, .int .i64 a, .int .i64 ik], .int .i64 t] w fun e w' => ∃ q' c', e = .returned ((bx ⟨b.pc, b.ln, b.ops ++ [opG d, opG a], 4, b.ops.length, (b.ops.length + 1), ik⟩ q' c')) ∧ Ret w lo q w' (⟨b.pc, b.ln, b.ops ++ [opG d, opG a], 4, b.ops.length, (b.ops.length + 1), ik⟩) q' c' := by
  obtain ⟨pc, ln, ops, en, x, y, k⟩ := b
  unfold bx
  simp only [] at H hl ⊢
  have Rb := Rec.new w [.int .i64 pc, .int .i64 ln, .slice q ops.length c, .int .i64 en, .int .i64 x, .int .i64 y, .int .i64 k] 42
  replace Rb := Rb.alloc (.cells #[.int .i64 12, .int .i64 d, .int .i64 a, .int .i64 ik] 55)
  replace Rb := Rb.alloc (.cells #[.int .i64 0, .int .i64 0, .slice none 0 0, .int .i64 0, .int .i64 0, .int .i64 0, .int .i64 0] 42)
  have Ri := Rec.new (w.alloc (.cells #[.int .i64 pc, .int .i64 ln, .slice q ops.length c, .int .i64 en, .int .i64 x, .int .i64 y, .int .i64 k] 42)) [.int .i64 12, .int .i64 d, .int .i64 a, .int .i64 ik] 55
  rw [show (w.alloc (.cells #[.int .i64 pc, .int .i64 ln, .slice q ops.length c, .int .i64 en, .int .i64 x, .int .i64 y, .int .i64 k] 42)).heap.size = w.heap.size + 1 by simp] at Ri
  replace Ri := Ri.alloc (.cells #[.int .i64 0, .int .i64 0, .slice none 0 0, .int .i64 0, .int .i64 0, .int .i64 0, .int .i64 0] 42)
  have Rz := Rec.new ((w.alloc (.cells #[.int .i64 pc, .int .i64 ln, .slice q ops.length c, .int .i64 en, .int .i64 x, .int .i64 y, .int .i64 k] 42)).alloc (.cells #[.int .i64 12, .int .i64 d, .int .i64 a, .int .i64 ik] 55)) [.int .i64 0, .int .i64 0, .slice none 0 0, .int .i64 0, .int .i64 0, .int .i64 0, .int .i64 0] 42
  rw [show ((w.alloc (.cells #[.int .i64 pc, .int .i64 ln, .slice q ops.length c, .int .i64 en, .int .i64 x, .int .i64 y, .int .i64 k] 42)).alloc (.cells #[.int .i64 12, .int .i64 d, .int .i64 a, .int .i64 ik] 55)).heap.size = w.heap.size + 1 + 1 by simp] at Rz
  have BA : Below w.heap.size w (((w.alloc (.cells #[.int .i64 pc, .int .i64 ln, .slice q ops.length c, .int .i64 en, .int .i64 x, .int .i64 y, .int .i64 k] 42)).alloc (.cells #[.int .i64 12, .int .i64 d, .int .i64 a, .int .i64 ik] 55)).alloc (.cells #[.int .i64 0, .int .i64 0, .slice none 0 0, .int .i64 0, .int .i64 0, .int .i64 0, .int .i64 0] 42)) := ((((Below.refl w.heap.size w).alloc (Nat.le_refl _) _).alloc (by simp; try omega) _).alloc (by simp; try omega) _)
  have Ab := hide (And.intro Rb (q_far H (w.heap.size) (by omega)))
  have Ai := hide (And.intro Ri (q_far H (w.heap.size + 1) (by omega)))
  have Az := hide (And.intro Rz (q_far H (w.heap.size + 1 + 1) (by omega)))
  have MW := hide (Mv.of_below q BA)
  have OO := hide (H.below BA)
  have LO : Hid (lo ≤ (((w.alloc (.cells #[.int .i64 pc, .int .i64 ln, .slice q ops.length c, .int .i64 en, .int .i64 x, .int .i64 y, .int .i64 k] 42)).alloc (.cells #[.int .i64 12, .int .i64 d, .int .i64 a, .int .i64 ik] 55)).alloc (.cells #[.int .i64 0, .int .i64 0, .slice none 0 0, .int .i64 0, .int .i64 0, .int .i64 0, .int .i64 0] 42)).heap.size) := Nat.le_trans hlo BA.size
  have LB : Hid (w.heap.size < (((w.alloc (.cells #[.int .i64 pc, .int .i64 ln, .slice q ops.length c, .int .i64 en, .int .i64 x, .int .i64 y, .int .i64 k] 42)).alloc (.cells #[.int .i64 12, .int .i64 d, .int .i64 a, .int .i64 ik] 55)).alloc (.cells #[.int .i64 0, .int .i64 0, .slice none 0 0, .int .i64 0, .int .i64 0, .int .i64 0, .int .i64 0] 42)).heap.size) := show _ < _ by simp; try omega
  clear BA H Rb Ri Rz
  go_enter Try.func46, Try.ntmps46
  have cb0 := Ab.out.1.cell 0 _ rfl
  have cb1 := Ab.out.1.cell 1 _ rfl
  have cb2 := Ab.out.1.cell 2 _ rfl
  have cb3 := Ab.out.1.cell 3 _ rfl
  have cb4 := Ab.out.1.cell 4 _ rfl
  have cb5 := Ab.out.1.cell 5 _ rfl
  have cb6 := Ab.out.1.cell 6 _ rfl
  have ci0 := Ai.out.1.cell 0 _ rfl
  have ci1 := Ai.out.1.cell 1 _ rfl
  have ci2 := Ai.out.1.cell 2 _ rfl
  have ci3 := Ai.out.1.cell 3 _ rfl
  go_wp2_with fail
  refine (l7Last12 ⟨pc, ln, ops, en, x, y, k⟩ d a ik q c lo _ OO.out LO.out (by first | omega | (simp only []; omega))).mono ?_
  rintro e u1 ⟨q1, c1, rfl, RT⟩
  clear cb0 cb1 cb2 cb3 cb4 cb5 cb6
  clear ci0 ci1 ci2 ci3
  replace Ab := hide (RT.mv.box Ab.out.1 Ab.out.2)
  replace Ai := hide (RT.mv.box Ai.out.1 Ai.out.2)
  replace Az := hide (RT.mv.box Az.out.1 Az.out.2)
  replace MW := hide (MW.out.trans RT.mv)
  replace LO := hide (Nat.le_trans LO.out RT.mv.size)
  replace LB := hide (Nat.lt_of_lt_of_le LB.out RT.mv.size)
  obtain ⟨os1, eo1⟩ : ∃ os1, ops ++ [opG d, opG a] = os1 := ⟨_, rfl⟩
  have EO1 := hide eo1
  unfold bx
  simp only [] at RT ⊢
  rw [show ops ++ [opG d, opG a] = os1 from eo1] at RT ⊢
  replace OO := hide RT.own
  have LL : Hid (os1.length = ops.length + 2) := show _ = _ by rw [← eo1]; simp
  have nn1 : Hid ((os1.length : Int) = ops.length + 2) := show _ = _ by have := LL.out; omega
  clear RT eo1
  go_wp2_with (refine lay7 rfl rfl _ _ rfl (w.heap.size + 1 + 1) _ _ _ _ _ _ _ Az.out.1 rfl _ _ _ _ _ _ _ _ _ rfl ?_; intro v9 RB TB; refine Hid.out ?_)
  replace OO := hide (OO.out.apart TB.out (fun G e h => Az.out.2 (by rw [e, h])))
  replace MW := hide (MW.out.turn TB.out (by omega))
  have z0 := RB.out.cell 0 _ rfl
  have z1 := RB.out.cell 1 _ rfl
  have z2 := RB.out.cell 2 _ rfl
  have z3 := RB.out.cell 3 _ rfl
  have z4 := RB.out.cell 4 _ rfl
  have z5 := RB.out.cell 5 _ rfl
  have z6 := RB.out.cell 6 _ rfl
  clear RB TB Ab Ai Az 
  refine hide ?_
  go_wp2
  refine bodyPost_ret (v := .agg #[.int .i64 pc, .int .i64 ln, .slice q1 os1.length c1, .int .i64 4, .int .i64 ops.length, .int .i64 (ops.length + 1), .int .i64 ik]) (by simp [results, Try.results46, go_sem, z0, z1, z2, z3, z4, z5, z6]) rfl ?_
  have EQ : os1 = ops ++ [opG d, opG a] := by
    first
      | (rw [← EO1.out]; done)
      | (rw [← EO1.out]; simp)
  refine ⟨q1, c1, ?_, ?_⟩
  · first
      | (rw [← EQ]; done)
      | (rw [← EQ]; rfl)
      | (rw [← EQ]; simp)
  · rw [← EQ]; exact ⟨OO.out, MW.out⟩
set_option maxRecDepth 8000 in
set_option maxHeartbeats 8000000 in
theorem l7One_8 (b : Bk) (d a ik t : Int) (q : Option Addr) (c lo : Nat) (w : World) (H : OwnO w lo (.slice q b.ops.length c) b.ops) (hlo : lo ≤ w.heap.size) (hl : b.ops.length ≤ 500) (k0 : 0 ≤ ik) (k1 : ik ≤ 15) :
    Calls Try.prog 46 #[bx b q c, .agg #[.int .i64 8, .int .i64 d, .int .i64 a, .int .i64 ik], .int .i64 t] w fun e w' => ∃ q' c', e = .returned ((bx ⟨b.pc, b.ln, b.ops ++ [opG a, opC (2 ^ ik.toNat), opD 3 b.ops.length (b.ops.length + 1), opS (b.ops.length + 2) d], b.en, b.x, b.y, b.k⟩ q' c')) ∧ Ret w lo q w' (⟨b.pc, b.ln, b.ops ++ [opG a, opC (2 ^ ik.toNat), opD 3 b.ops.length (b.ops.length + 1), opS (b.ops.length + 2) d], b.en, b.x, b.y, b.k⟩) q' c' := by
  obtain ⟨pc, ln, ops, en, x, y, k⟩ := b
  unfold bx
  simp only [] at H hl ⊢
  have Rb := Rec.new w [.int .i64 pc, .int .i64 ln, .slice q ops.length c, .int .i64 en, .int .i64 x, .int .i64 y, .int .i64 k] 42
  replace Rb := Rb.alloc (.cells #[.int .i64 8, .int .i64 d, .int .i64 a, .int .i64 ik] 55)
  replace Rb := Rb.alloc (.cells #[.int .i64 0, .int .i64 0, .slice none 0 0, .int .i64 0, .int .i64 0, .int .i64 0, .int .i64 0] 42)
  have Ri := Rec.new (w.alloc (.cells #[.int .i64 pc, .int .i64 ln, .slice q ops.length c, .int .i64 en, .int .i64 x, .int .i64 y, .int .i64 k] 42)) [.int .i64 8, .int .i64 d, .int .i64 a, .int .i64 ik] 55
  rw [show (w.alloc (.cells #[.int .i64 pc, .int .i64 ln, .slice q ops.length c, .int .i64 en, .int .i64 x, .int .i64 y, .int .i64 k] 42)).heap.size = w.heap.size + 1 by simp] at Ri
  replace Ri := Ri.alloc (.cells #[.int .i64 0, .int .i64 0, .slice none 0 0, .int .i64 0, .int .i64 0, .int .i64 0, .int .i64 0] 42)
  have Rz := Rec.new ((w.alloc (.cells #[.int .i64 pc, .int .i64 ln, .slice q ops.length c, .int .i64 en, .int .i64 x, .int .i64 y, .int .i64 k] 42)).alloc (.cells #[.int .i64 8, .int .i64 d, .int .i64 a, .int .i64 ik] 55)) [.int .i64 0, .int .i64 0, .slice none 0 0, .int .i64 0, .int .i64 0, .int .i64 0, .int .i64 0] 42
  rw [show ((w.alloc (.cells #[.int .i64 pc, .int .i64 ln, .slice q ops.length c, .int .i64 en, .int .i64 x, .int .i64 y, .int .i64 k] 42)).alloc (.cells #[.int .i64 8, .int .i64 d, .int .i64 a, .int .i64 ik] 55)).heap.size = w.heap.size + 1 + 1 by simp] at Rz
  have BA : Below w.heap.size w (((w.alloc (.cells #[.int .i64 pc, .int .i64 ln, .slice q ops.length c, .int .i64 en, .int .i64 x, .int .i64 y, .int .i64 k] 42)).alloc (.cells #[.int .i64 8, .int .i64 d, .int .i64 a, .int .i64 ik] 55)).alloc (.cells #[.int .i64 0, .int .i64 0, .slice none 0 0, .int .i64 0, .int .i64 0, .int .i64 0, .int .i64 0] 42)) := ((((Below.refl w.heap.size w).alloc (Nat.le_refl _) _).alloc (by simp; try omega) _).alloc (by simp; try omega) _)
  have Ab := hide (And.intro Rb (q_far H (w.heap.size) (by omega)))
  have Ai := hide (And.intro Ri (q_far H (w.heap.size + 1) (by omega)))
  have Az := hide (And.intro Rz (q_far H (w.heap.size + 1 + 1) (by omega)))
  have MW := hide (Mv.of_below q BA)
  have OO := hide (H.below BA)
  have LO : Hid (lo ≤ (((w.alloc (.cells #[.int .i64 pc, .int .i64 ln, .slice q ops.length c, .int .i64 en, .int .i64 x, .int .i64 y, .int .i64 k] 42)).alloc (.cells #[.int .i64 8, .int .i64 d, .int .i64 a, .int .i64 ik] 55)).alloc (.cells #[.int .i64 0, .int .i64 0, .slice none 0 0, .int .i64 0, .int .i64 0, .int .i64 0, .int .i64 0] 42)).heap.size) := Nat.le_trans hlo BA.size
  have LB : Hid (w.heap.size < (((w.alloc (.cells #[.int .i64 pc, .int .i64 ln, .slice q ops.length c, .int .i64 en, .int .i64 x, .int .i64 y, .int .i64 k] 42)).alloc (.cells #[.int .i64 8, .int .i64 d, .int .i64 a, .int .i64 ik] 55)).alloc (.cells #[.int .i64 0, .int .i64 0, .slice none 0 0, .int .i64 0, .int .i64 0, .int .i64 0, .int .i64 0] 42)).heap.size) := show _ < _ by simp; try omega
  clear BA H Rb Ri Rz
  go_enter Try.func46, Try.ntmps46
  have ci0 := Ai.out.1.cell 0 _ rfl
  go_wp2_with fail
  clear ci0
  generalize (((w.alloc (.cells #[.int .i64 pc, .int .i64 ln, .slice q ops.length c, .int .i64 en, .int .i64 x, .int .i64 y, .int .i64 k] 42)).alloc (.cells #[.int .i64 8, .int .i64 d, .int .i64 a, .int .i64 ik] 55)).alloc (.cells #[.int .i64 0, .int .i64 0, .slice none 0 0, .int .i64 0, .int .i64 0, .int .i64 0, .int .i64 0] 42)) = V0 at Ab Ai Az MW OO LO LB ⊢
  refine (wpIn_wide (n := 0)).1 ?_
  have bA : Below V0.heap.size V0 V0.drew := (Below.refl _ _).drew
  replace Ab := hide (And.intro (Ab.out.1.below bA) Ab.out.2)
  replace Ai := hide (And.intro (Ai.out.1.below bA) Ai.out.2)
  replace Az := hide (And.intro (Az.out.1.below bA) Az.out.2)
  replace MW := hide (MW.out.trans (Mv.of_below _ bA))
  replace OO := hide (OO.out.below bA)
  replace LO := hide (Nat.le_trans LO.out bA.size)
  replace LB := hide (Nat.lt_of_lt_of_le LB.out bA.size)
  refine PhaseIn.region (S := fun w' => Rec (w.heap.size) [.int .i64 pc, .int .i64 ln, .slice q ops.length c, .int .i64 en, .int .i64 x, .int .i64 y, .int .i64 k] w' ∧ Rec (w.heap.size + 1) [.int .i64 8, .int .i64 d, .int .i64 a, .int .i64 ik] w') 14 (by kernel_rfl) ?_
  generalize V0.drew = d1 at Ab Ai Az MW OO LO LB ⊢
  have hHeld := And.intro Ab.out.1 Ai.out.1
  clear bA
  refine PhaseIn.takeD (i := 0) (v := ?_) [0, 7, 8, 9, 10, 12, 13] 55 rfl (by rfl) (by kernel_rfl) (by kernel_rfl) (by kernel_rfl) (by kernel_rfl) (by kernel_rfl) (fun _ _ _ h => h) (Or.inl ⟨by kernel_rfl, ?_⟩) hHeld ?_
  rotate_left
  · intro w' hSw
    (try dsimp only at hSw)
    have z0 := hSw.1.cell 0 _ rfl; have z1 := hSw.1.cell 1 _ rfl; have z2 := hSw.1.cell 2 _ rfl; have z3 := hSw.1.cell 3 _ rfl; have z4 := hSw.1.cell 4 _ rfl; have z5 := hSw.1.cell 5 _ rfl; have z6 := hSw.1.cell 6 _ rfl
    go_simp
    first | done | with_reducible rfl
  try simp only [Act.put, List.setIfInBounds_toArray, List.set]
  refine PhaseIn.takeD (i := 1) (v := ?_) [1, 2, 7, 8, 9, 10, 12, 13] 56 rfl (by rfl) (by kernel_rfl) (by kernel_rfl) (by kernel_rfl) (by kernel_rfl) (by kernel_rfl) (fun _ _ _ h => h) (Or.inl ⟨by kernel_rfl, ?_⟩) hHeld ?_
  rotate_left
  · intro w' hSw
    (try dsimp only at hSw)
    go_simp
    first | done | with_reducible rfl
  try simp only [Act.put, List.setIfInBounds_toArray, List.set]
  refine PhaseIn.takeD (i := 2) (v := ?_) [2, 7, 8, 9, 10, 12, 13] 57 rfl (by rfl) (by kernel_rfl) (by kernel_rfl) (by kernel_rfl) (by kernel_rfl) (by kernel_rfl) (fun _ _ _ h => h) (Or.inl ⟨by kernel_rfl, ?_⟩) hHeld ?_
  rotate_left
  · intro w' hSw
    (try dsimp only at hSw)
    have z0 := hSw.2.cell 2 _ rfl
    go_simp
    first | done | with_reducible rfl
  try simp only [Act.put, List.setIfInBounds_toArray, List.set]
  refine PhaseIn.takeD (i := 3) (v := ?_) [3, 4, 5, 6, 7, 8, 9, 10, 12, 13] 58 rfl (by rfl) (by kernel_rfl) (by kernel_rfl) (by kernel_rfl) (by kernel_rfl) (by kernel_rfl) (fun _ _ _ h => h) (Or.inl ⟨by kernel_rfl, ?_⟩) hHeld ?_
  rotate_left
  · intro w' hSw
    (try dsimp only at hSw)
    go_simp
    first | done | with_reducible rfl
  try simp only [Act.put, List.setIfInBounds_toArray, List.set]
  refine PhaseIn.takeD (i := 4) (v := ?_) [4, 5, 6, 7, 8, 9, 10, 12, 13] 59 rfl (by rfl) (by kernel_rfl) (by kernel_rfl) (by kernel_rfl) (by kernel_rfl) (by kernel_rfl) (fun _ _ _ h => h) (Or.inl ⟨by kernel_rfl, ?_⟩) hHeld ?_
  rotate_left
  · intro w' hSw
    (try dsimp only at hSw)
    have z0 := hSw.2.cell 3 _ rfl
    go_simp
    first | done | with_reducible rfl
  try simp only [Act.put, List.setIfInBounds_toArray, List.set]
  have LZ0 : Hid (w.heap.size + 1 + 1 < d1.heap.size) := Az.out.1.lt
  refine PhaseIn.two (i := 5) (j := 11) (by kernel_rfl) rfl rfl (by kernel_rfl) (by kernel_rfl) (fun K hK => ?_) (fun K hK => ?_)
  · -- l7Twice first
    unfold Oper.wpIn
    refine ⟨fun _ _ => trivial, ?_⟩
    go_simp
    refine ⟨rfl, (callsIn_wide.2 (l7Twice ik _ k0 k1)).mono ?_⟩
    rintro e W5 ⟨rfl, e5⟩
    rw [e5]
    clear e5 W5
    refine hK _ _ (fun _ => hHeld) ?_
    clear hK K
    try simp only [Act.put, List.setIfInBounds_toArray, List.set]
    refine PhaseIn.takeD (i := 6) (v := ?_) [6, 7, 8, 9, 10, 12, 13] 61 rfl (by rfl) (by kernel_rfl) (by kernel_rfl) (by kernel_rfl) (by kernel_rfl) (by kernel_rfl) (fun _ _ _ h => h) (Or.inl ⟨by kernel_rfl, ?_⟩) hHeld ?_
    rotate_left
    · intro w' hSw
      (try dsimp only at hSw)
      go_simp
      first | done | with_reducible rfl
    try simp only [Act.put, List.setIfInBounds_toArray, List.set]
    refine PhaseIn.two (i := 7) (j := 11) (by kernel_rfl) rfl rfl (by kernel_rfl) (by kernel_rfl) (fun K hK => ?_) (fun K hK => ?_)
    · -- l7Reckon, then the box
      unfold Oper.wpIn
      refine ⟨fun _ _ => trivial, ?_⟩
      go_simp
      have CL := l7Reckon ⟨pc, ln, ops, en, x, y, k⟩ 3 a (opC (2 ^ ik.toNat)) q c lo d1 OO.out LO.out (by first | omega | (simp only []; omega))
      unfold bx at CL
      simp only [opC] at CL
      refine ⟨rfl, (callsIn_wide.2 CL).mono ?_⟩
      rintro e u1 ⟨q1, c1, rfl, RT⟩
      replace Ab := hide (RT.mv.box Ab.out.1 Ab.out.2)
      replace Ai := hide (RT.mv.box Ai.out.1 Ai.out.2)
      replace Az := hide (RT.mv.box Az.out.1 Az.out.2)
      replace hHeld := And.intro Ab.out.1 Ai.out.1
      refine hK _ _ (fun _ => hHeld) ?_
      clear hK K CL
      try simp only [Act.put, List.setIfInBounds_toArray, List.set]
      replace MW := hide (MW.out.trans RT.mv)
      replace LO := hide (Nat.le_trans LO.out RT.mv.size)
      replace LB := hide (Nat.lt_of_lt_of_le LB.out RT.mv.size)
      obtain ⟨os1, eo1⟩ : ∃ os1, ops ++ [opG a, ⟨1, 0, 0, 2 ^ ik.toNat, 0⟩, opD 3 ops.length (ops.length + 1)] = os1 := ⟨_, rfl⟩
      have EO1 := hide eo1
      try simp only [] at RT ⊢
      rw [eo1] at RT ⊢
      replace OO := hide RT.own
      have LL : Hid (os1.length = ops.length + 3) := show _ = _ by rw [← eo1]; simp
      have nn1 : Hid ((os1.length : Int) = ops.length + 3) := show _ = _ by have := LL.out; omega
      clear RT eo1
      refine PhaseIn.takeD (i := 8) (v := ?_) [8, 9, 10, 12, 13] 54 rfl (by rfl) (by kernel_rfl) (by kernel_rfl) (by kernel_rfl) (by kernel_rfl) (by kernel_rfl) (fun _ _ _ h => h) (Or.inl ⟨by kernel_rfl, ?_⟩) hHeld ?_
      rotate_left
      · intro w' hSw
        (try dsimp only at hSw)
        go_simp
        first | done | with_reducible rfl
      try simp only [Act.put, List.setIfInBounds_toArray, List.set]
      refine PhaseIn.takeD (i := 9) (v := ?_) [9, 12, 13] 63 rfl (by rfl) (by kernel_rfl) (by kernel_rfl) (by kernel_rfl) (by kernel_rfl) (by kernel_rfl) (fun _ _ _ h => h) (Or.inl ⟨by kernel_rfl, ?_⟩) hHeld ?_
      rotate_left
      · intro w' hSw
        (try dsimp only at hSw)
        go_simp
        first | done | with_reducible rfl
      try simp only [Act.put, List.setIfInBounds_toArray, List.set]
      refine PhaseIn.takeD (i := 10) (v := ?_) [10, 13] 64 rfl (by rfl) (by kernel_rfl) (by kernel_rfl) (by kernel_rfl) (by kernel_rfl) (by kernel_rfl) (fun _ _ _ h => h) (Or.inl ⟨by kernel_rfl, ?_⟩) hHeld ?_
      rotate_left
      · intro w' hSw
        (try dsimp only at hSw)
        go_simp
        first | done | with_reducible rfl
      try simp only [Act.put, List.setIfInBounds_toArray, List.set]
      refine PhaseIn.one (i := 11) (by kernel_rfl) rfl (by kernel_rfl) (fun K hK => ?_)
      unfold Oper.wpIn
      refine ⟨fun _ _ => trivial, ?_⟩
      go_simp
      have LZ9 : Hid (w.heap.size + 1 + 1 < u1.heap.size) := Az.out.1.lt
      have hb : Below u1.heap.size u1 (u1.alloc (.cells #[.int .i64 0, .int .i64 0, .slice none 0 0, .int .i64 0, .int .i64 0, .int .i64 0, .int .i64 0] 42)) := (Below.refl _ _).alloc (Nat.le_refl _) _
      have Ap := hide (And.intro (Rec.new u1 [.int .i64 0, .int .i64 0, .slice none 0 0, .int .i64 0, .int .i64 0, .int .i64 0, .int .i64 0] 42) (q_far OO.out u1.heap.size (Nat.le_refl _)))
      have LZ : Hid (w.heap.size < u1.heap.size) := LB.out
      replace hHeld := And.intro (hHeld.1.below hb) (hHeld.2.below hb)
      refine hK _ _ (fun _ => hHeld) ?_
      clear hK K
      replace Ab := hide (And.intro (Ab.out.1.below hb) Ab.out.2)
      replace Ai := hide (And.intro (Ai.out.1.below hb) Ai.out.2)
      replace Az := hide (And.intro (Az.out.1.below hb) Az.out.2)
      replace MW := hide (MW.out.trans (Mv.of_below _ hb))
      replace OO := hide (OO.out.below hb)
      replace LO := hide (Nat.le_trans LO.out hb.size)
      replace LB := hide (Nat.lt_of_lt_of_le LB.out hb.size)
      clear hb
      try simp only [Act.put, List.setIfInBounds_toArray, List.set]
      obtain ⟨Z, eZ⟩ : ∃ Z, u1.heap.size = Z := ⟨_, rfl⟩
      rw [eZ] at Ap LZ LZ9 ⊢
      clear eZ
      generalize (u1.alloc (.cells #[.int .i64 0, .int .i64 0, .slice none 0 0, .int .i64 0, .int .i64 0, .int .i64 0, .int .i64 0] 42)) = u2 at Ab Ai Az Ap MW OO LO LB hHeld  ⊢
      have z0 := Ap.out.1.cell 0 _ rfl
      have s0 := Ap.out.1.soft 0
      have z1 := Ap.out.1.cell 1 _ rfl
      have s1 := Ap.out.1.soft 1
      have z2 := Ap.out.1.cell 2 _ rfl
      have s2 := Ap.out.1.soft 2
      have z3 := Ap.out.1.cell 3 _ rfl
      have s3 := Ap.out.1.soft 3
      have z4 := Ap.out.1.cell 4 _ rfl
      have s4 := Ap.out.1.soft 4
      have z5 := Ap.out.1.cell 5 _ rfl
      have s5 := Ap.out.1.soft 5
      have z6 := Ap.out.1.cell 6 _ rfl
      have s6 := Ap.out.1.soft 6
      refine PhaseIn.one (i := 12) (by kernel_rfl) rfl (by kernel_rfl) (fun K hK => ?_)
      unfold Oper.wpIn
      refine ⟨fun _ _ => trivial, ?_⟩
      go_simp
      have t7 : Turn Z u2 (((((((u2.setCell ⟨Z, 0, none⟩ (.int .i64 pc)).setCell ⟨Z, 1, none⟩ (.int .i64 ln)).setCell ⟨Z, 2, none⟩ (.slice q1 os1.length c1)).setCell ⟨Z, 3, none⟩ (.int .i64 en)).setCell ⟨Z, 4, none⟩ (.int .i64 x)).setCell ⟨Z, 5, none⟩ (.int .i64 y)).setCell ⟨Z, 6, none⟩ (.int .i64 k)) := ((((((((Turn.refl (Z) u2).setCell (p := ⟨Z, 0, none⟩) rfl (.int .i64 pc)).setCell (p := ⟨Z, 1, none⟩) rfl (.int .i64 ln)).setCell (p := ⟨Z, 2, none⟩) rfl (.slice q1 os1.length c1)).setCell (p := ⟨Z, 3, none⟩) rfl (.int .i64 en)).setCell (p := ⟨Z, 4, none⟩) rfl (.int .i64 x)).setCell (p := ⟨Z, 5, none⟩) rfl (.int .i64 y)).setCell (p := ⟨Z, 6, none⟩) rfl (.int .i64 k))
      replace hHeld := And.intro (Ab.out.1.turn t7 (by have := LZ.out; omega)) (Ai.out.1.turn t7 (by have := LZ9.out; omega))
      refine hK _ _ (fun _ => hHeld) ?_
      replace Ai := hide (And.intro (Ai.out.1.turn t7 (by have := LZ9.out; omega)) Ai.out.2)
      replace Az := hide (And.intro (Az.out.1.turn t7 (by have := LZ9.out; omega)) Az.out.2)
      have Aw := hide (And.intro (((((((Ap.out.1.set 0 (.int .i64 pc) (by simp) (show _ = ([.int .i64 pc, .int .i64 0, .slice none 0 0, .int .i64 0, .int .i64 0, .int .i64 0, .int .i64 0] : List Value) from rfl)).set 1 (.int .i64 ln) (by simp) (show _ = ([.int .i64 pc, .int .i64 ln, .slice none 0 0, .int .i64 0, .int .i64 0, .int .i64 0, .int .i64 0] : List Value) from rfl)).set 2 (.slice q1 os1.length c1) (by simp) (show _ = ([.int .i64 pc, .int .i64 ln, .slice q1 os1.length c1, .int .i64 0, .int .i64 0, .int .i64 0, .int .i64 0] : List Value) from rfl)).set 3 (.int .i64 en) (by simp) (show _ = ([.int .i64 pc, .int .i64 ln, .slice q1 os1.length c1, .int .i64 en, .int .i64 0, .int .i64 0, .int .i64 0] : List Value) from rfl)).set 4 (.int .i64 x) (by simp) (show _ = ([.int .i64 pc, .int .i64 ln, .slice q1 os1.length c1, .int .i64 en, .int .i64 x, .int .i64 0, .int .i64 0] : List Value) from rfl)).set 5 (.int .i64 y) (by simp) (show _ = ([.int .i64 pc, .int .i64 ln, .slice q1 os1.length c1, .int .i64 en, .int .i64 x, .int .i64 y, .int .i64 0] : List Value) from rfl)).set 6 (.int .i64 k) (by simp) (show _ = ([.int .i64 pc, .int .i64 ln, .slice q1 os1.length c1, .int .i64 en, .int .i64 x, .int .i64 y, .int .i64 k] : List Value) from rfl)) Ap.out.2)
      replace MW := hide (MW.out.turn t7 (by have := LZ.out; omega))
      replace OO := hide (OO.out.apart t7 (fun G e h => Ap.out.2 (by rw [e, h])))
      replace LO := hide (Nat.le_trans LO.out t7.size)
      replace LB := hide (Nat.lt_of_lt_of_le LB.out t7.size)
      clear hK K t7 Ap Ab z0 s0 z1 s1 z2 s2 z3 s3 z4 s4 z5 s5 z6 s6
      try simp only [Act.put, List.setIfInBounds_toArray, List.set]
      generalize (((((((u2.setCell ⟨Z, 0, none⟩ (.int .i64 pc)).setCell ⟨Z, 1, none⟩ (.int .i64 ln)).setCell ⟨Z, 2, none⟩ (.slice q1 os1.length c1)).setCell ⟨Z, 3, none⟩ (.int .i64 en)).setCell ⟨Z, 4, none⟩ (.int .i64 x)).setCell ⟨Z, 5, none⟩ (.int .i64 y)).setCell ⟨Z, 6, none⟩ (.int .i64 k)) = U at Ai Az Aw MW OO LO LB hHeld ⊢
      refine PhaseIn.takeD (i := 13) (v := ?_) [13] 12 rfl (by rfl) (by kernel_rfl) (by kernel_rfl) (by kernel_rfl) (by kernel_rfl) (by kernel_rfl) (fun _ _ _ h => h) (Or.inl ⟨by kernel_rfl, ?_⟩) hHeld ?_
      rotate_left
      · intro w' hSw
        (try dsimp only at hSw)
        go_simp
        first | done | with_reducible rfl
      try simp only [Act.put, List.setIfInBounds_toArray, List.set]
      refine PhaseIn.done (by kernel_rfl) ?_ _
      clear hHeld
      have cw0 := Aw.out.1.cell 0 _ rfl
      have cw1 := Aw.out.1.cell 1 _ rfl
      have cw2 := Aw.out.1.cell 2 _ rfl
      have cw3 := Aw.out.1.cell 3 _ rfl
      have cw4 := Aw.out.1.cell 4 _ rfl
      have cw5 := Aw.out.1.cell 5 _ rfl
      have cw6 := Aw.out.1.cell 6 _ rfl
      have ci1 := Ai.out.1.cell 1 _ rfl
      go_wp2_with fail
      refine (l7Set ⟨pc, ln, os1, en, x, y, k⟩ d (ops.length + 2) q1 c1 lo _ OO.out LO.out (by have := LL.out; first | omega | (simp only []; omega))).mono ?_
      rintro e u2 ⟨q2, c2, rfl, RT⟩
      clear cw0 cw1 cw2 cw3 cw4 cw5 cw6
      clear ci1
      replace Ai := hide (RT.mv.box Ai.out.1 Ai.out.2)
      replace Az := hide (RT.mv.box Az.out.1 Az.out.2)
      replace Aw := hide (RT.mv.box Aw.out.1 Aw.out.2)
      replace MW := hide (MW.out.trans RT.mv)
      replace LO := hide (Nat.le_trans LO.out RT.mv.size)
      replace LB := hide (Nat.lt_of_lt_of_le LB.out RT.mv.size)
      obtain ⟨os2, eo2⟩ : ∃ os2, os1 ++ [opS (ops.length + 2) d] = os2 := ⟨_, rfl⟩
      have EO2 := hide eo2
      unfold bx
      simp only [] at RT ⊢
      rw [show os1 ++ [opS (ops.length + 2) d] = os2 from eo2] at RT ⊢
      replace OO := hide RT.own
      replace LL : Hid (os2.length = ops.length + 4) := show _ = _ by rw [← eo2]; simp; have := LL.out; omega
      have nn2 : Hid ((os2.length : Int) = ops.length + 4) := show _ = _ by have := LL.out; omega
      clear RT eo2
      go_wp2_with (refine lay7 rfl rfl _ _ rfl (w.heap.size + 1 + 1) _ _ _ _ _ _ _ Az.out.1 rfl _ _ _ _ _ _ _ _ _ rfl ?_; intro v9 RB TB; refine Hid.out ?_)
      replace OO := hide (OO.out.apart TB.out (fun G e h => Az.out.2 (by rw [e, h])))
      replace MW := hide (MW.out.turn TB.out (by omega))
      have z0 := RB.out.cell 0 _ rfl
      have z1 := RB.out.cell 1 _ rfl
      have z2 := RB.out.cell 2 _ rfl
      have z3 := RB.out.cell 3 _ rfl
      have z4 := RB.out.cell 4 _ rfl
      have z5 := RB.out.cell 5 _ rfl
      have z6 := RB.out.cell 6 _ rfl
      clear RB TB Ai Az Aw 
      refine hide ?_
      go_wp2
      refine bodyPost_ret (v := .agg #[.int .i64 pc, .int .i64 ln, .slice q2 os2.length c2, .int .i64 en, .int .i64 x, .int .i64 y, .int .i64 k]) (by simp [results, Try.results46, go_sem, z0, z1, z2, z3, z4, z5, z6]) rfl ?_
      have EQ : os2 = ops ++ [opG a, opC (2 ^ ik.toNat), opD 3 ops.length (ops.length + 1), opS (ops.length + 2) d] := by
        first
          | (rw [← EO2.out, ← EO1.out]; done)
          | (rw [← EO2.out, ← EO1.out]; simp [opC])
      refine ⟨q2, c2, ?_, ?_⟩
      · first
          | (rw [← EQ]; done)
          | (rw [← EQ]; rfl)
          | (rw [← EQ]; simp)
      · rw [← EQ]; exact ⟨OO.out, MW.out⟩
    · -- the box, then l7Reckon
      unfold Oper.wpIn
      refine ⟨fun _ _ => trivial, ?_⟩
      go_simp
      have LZ9 : Hid (w.heap.size + 1 + 1 < d1.heap.size) := LZ0
      have hb : Below d1.heap.size d1 (d1.alloc (.cells #[.int .i64 0, .int .i64 0, .slice none 0 0, .int .i64 0, .int .i64 0, .int .i64 0, .int .i64 0] 42)) := (Below.refl _ _).alloc (Nat.le_refl _) _
      have Ap := hide (And.intro (Rec.new d1 [.int .i64 0, .int .i64 0, .slice none 0 0, .int .i64 0, .int .i64 0, .int .i64 0, .int .i64 0] 42) (q_far OO.out d1.heap.size (Nat.le_refl _)))
      have LZ : Hid (w.heap.size < d1.heap.size) := LB.out
      replace hHeld := And.intro (hHeld.1.below hb) (hHeld.2.below hb)
      refine hK _ _ (fun _ => hHeld) ?_
      clear hK K
      replace Ab := hide (And.intro (Ab.out.1.below hb) Ab.out.2)
      replace Ai := hide (And.intro (Ai.out.1.below hb) Ai.out.2)
      replace Az := hide (And.intro (Az.out.1.below hb) Az.out.2)
      replace MW := hide (MW.out.trans (Mv.of_below _ hb))
      replace OO := hide (OO.out.below hb)
      replace LO := hide (Nat.le_trans LO.out hb.size)
      replace LB := hide (Nat.lt_of_lt_of_le LB.out hb.size)
      clear hb
      try simp only [Act.put, List.setIfInBounds_toArray, List.set]
      obtain ⟨Z, eZ⟩ : ∃ Z, d1.heap.size = Z := ⟨_, rfl⟩
      rw [eZ] at Ap LZ LZ9 ⊢
      clear eZ
      generalize (d1.alloc (.cells #[.int .i64 0, .int .i64 0, .slice none 0 0, .int .i64 0, .int .i64 0, .int .i64 0, .int .i64 0] 42)) = d2 at Ab Ai Az Ap MW OO LO LB hHeld  ⊢
      refine PhaseIn.one (i := 7) (by kernel_rfl) rfl (by kernel_rfl) (fun K hK => ?_)
      unfold Oper.wpIn
      refine ⟨fun _ _ => trivial, ?_⟩
      go_simp
      have CL := l7Reckon ⟨pc, ln, ops, en, x, y, k⟩ 3 a (opC (2 ^ ik.toNat)) q c lo d2 OO.out LO.out (by first | omega | (simp only []; omega))
      unfold bx at CL
      simp only [opC] at CL
      refine ⟨rfl, (callsIn_wide.2 CL).mono ?_⟩
      rintro e u1 ⟨q1, c1, rfl, RT⟩
      replace Ab := hide (RT.mv.box Ab.out.1 Ab.out.2)
      replace Ai := hide (RT.mv.box Ai.out.1 Ai.out.2)
      replace Az := hide (RT.mv.box Az.out.1 Az.out.2)
      replace Ap := hide (RT.mv.box Ap.out.1 Ap.out.2)
      replace hHeld := And.intro Ab.out.1 Ai.out.1
      refine hK _ _ (fun _ => hHeld) ?_
      clear hK K CL
      try simp only [Act.put, List.setIfInBounds_toArray, List.set]
      replace MW := hide (MW.out.trans RT.mv)
      replace LO := hide (Nat.le_trans LO.out RT.mv.size)
      replace LB := hide (Nat.lt_of_lt_of_le LB.out RT.mv.size)
      obtain ⟨os1, eo1⟩ : ∃ os1, ops ++ [opG a, ⟨1, 0, 0, 2 ^ ik.toNat, 0⟩, opD 3 ops.length (ops.length + 1)] = os1 := ⟨_, rfl⟩
      have EO1 := hide eo1
      try simp only [] at RT ⊢
      rw [eo1] at RT ⊢
      replace OO := hide RT.own
      have LL : Hid (os1.length = ops.length + 3) := show _ = _ by rw [← eo1]; simp
      have nn1 : Hid ((os1.length : Int) = ops.length + 3) := show _ = _ by have := LL.out; omega
      clear RT eo1
      refine PhaseIn.takeD (i := 8) (v := ?_) [8, 9, 10, 12, 13] 54 rfl (by rfl) (by kernel_rfl) (by kernel_rfl) (by kernel_rfl) (by kernel_rfl) (by kernel_rfl) (fun _ _ _ h => h) (Or.inl ⟨by kernel_rfl, ?_⟩) hHeld ?_
      rotate_left
      · intro w' hSw
        (try dsimp only at hSw)
        go_simp
        first | done | with_reducible rfl
      try simp only [Act.put, List.setIfInBounds_toArray, List.set]
      refine PhaseIn.takeD (i := 9) (v := ?_) [9, 12, 13] 63 rfl (by rfl) (by kernel_rfl) (by kernel_rfl) (by kernel_rfl) (by kernel_rfl) (by kernel_rfl) (fun _ _ _ h => h) (Or.inl ⟨by kernel_rfl, ?_⟩) hHeld ?_
      rotate_left
      · intro w' hSw
        (try dsimp only at hSw)
        go_simp
        first | done | with_reducible rfl
      try simp only [Act.put, List.setIfInBounds_toArray, List.set]
      refine PhaseIn.takeD (i := 10) (v := ?_) [10, 13] 64 rfl (by rfl) (by kernel_rfl) (by kernel_rfl) (by kernel_rfl) (by kernel_rfl) (by kernel_rfl) (fun _ _ _ h => h) (Or.inl ⟨by kernel_rfl, ?_⟩) hHeld ?_
      rotate_left
      · intro w' hSw
        (try dsimp only at hSw)
        go_simp
        first | done | with_reducible rfl
      try simp only [Act.put, List.setIfInBounds_toArray, List.set]
      have z0 := Ap.out.1.cell 0 _ rfl
      have s0 := Ap.out.1.soft 0
      have z1 := Ap.out.1.cell 1 _ rfl
      have s1 := Ap.out.1.soft 1
      have z2 := Ap.out.1.cell 2 _ rfl
      have s2 := Ap.out.1.soft 2
      have z3 := Ap.out.1.cell 3 _ rfl
      have s3 := Ap.out.1.soft 3
      have z4 := Ap.out.1.cell 4 _ rfl
      have s4 := Ap.out.1.soft 4
      have z5 := Ap.out.1.cell 5 _ rfl
      have s5 := Ap.out.1.soft 5
      have z6 := Ap.out.1.cell 6 _ rfl
      have s6 := Ap.out.1.soft 6
      refine PhaseIn.one (i := 12) (by kernel_rfl) rfl (by kernel_rfl) (fun K hK => ?_)
      unfold Oper.wpIn
      refine ⟨fun _ _ => trivial, ?_⟩
      go_simp
      have t7 : Turn Z u1 (((((((u1.setCell ⟨Z, 0, none⟩ (.int .i64 pc)).setCell ⟨Z, 1, none⟩ (.int .i64 ln)).setCell ⟨Z, 2, none⟩ (.slice q1 os1.length c1)).setCell ⟨Z, 3, none⟩ (.int .i64 en)).setCell ⟨Z, 4, none⟩ (.int .i64 x)).setCell ⟨Z, 5, none⟩ (.int .i64 y)).setCell ⟨Z, 6, none⟩ (.int .i64 k)) := ((((((((Turn.refl (Z) u1).setCell (p := ⟨Z, 0, none⟩) rfl (.int .i64 pc)).setCell (p := ⟨Z, 1, none⟩) rfl (.int .i64 ln)).setCell (p := ⟨Z, 2, none⟩) rfl (.slice q1 os1.length c1)).setCell (p := ⟨Z, 3, none⟩) rfl (.int .i64 en)).setCell (p := ⟨Z, 4, none⟩) rfl (.int .i64 x)).setCell (p := ⟨Z, 5, none⟩) rfl (.int .i64 y)).setCell (p := ⟨Z, 6, none⟩) rfl (.int .i64 k))
      replace hHeld := And.intro (Ab.out.1.turn t7 (by have := LZ.out; omega)) (Ai.out.1.turn t7 (by have := LZ9.out; omega))
      refine hK _ _ (fun _ => hHeld) ?_
      replace Ai := hide (And.intro (Ai.out.1.turn t7 (by have := LZ9.out; omega)) Ai.out.2)
      replace Az := hide (And.intro (Az.out.1.turn t7 (by have := LZ9.out; omega)) Az.out.2)
      have Aw := hide (And.intro (((((((Ap.out.1.set 0 (.int .i64 pc) (by simp) (show _ = ([.int .i64 pc, .int .i64 0, .slice none 0 0, .int .i64 0, .int .i64 0, .int .i64 0, .int .i64 0] : List Value) from rfl)).set 1 (.int .i64 ln) (by simp) (show _ = ([.int .i64 pc, .int .i64 ln, .slice none 0 0, .int .i64 0, .int .i64 0, .int .i64 0, .int .i64 0] : List Value) from rfl)).set 2 (.slice q1 os1.length c1) (by simp) (show _ = ([.int .i64 pc, .int .i64 ln, .slice q1 os1.length c1, .int .i64 0, .int .i64 0, .int .i64 0, .int .i64 0] : List Value) from rfl)).set 3 (.int .i64 en) (by simp) (show _ = ([.int .i64 pc, .int .i64 ln, .slice q1 os1.length c1, .int .i64 en, .int .i64 0, .int .i64 0, .int .i64 0] : List Value) from rfl)).set 4 (.int .i64 x) (by simp) (show _ = ([.int .i64 pc, .int .i64 ln, .slice q1 os1.length c1, .int .i64 en, .int .i64 x, .int .i64 0, .int .i64 0] : List Value) from rfl)).set 5 (.int .i64 y) (by simp) (show _ = ([.int .i64 pc, .int .i64 ln, .slice q1 os1.length c1, .int .i64 en, .int .i64 x, .int .i64 y, .int .i64 0] : List Value) from rfl)).set 6 (.int .i64 k) (by simp) (show _ = ([.int .i64 pc, .int .i64 ln, .slice q1 os1.length c1, .int .i64 en, .int .i64 x, .int .i64 y, .int .i64 k] : List Value) from rfl)) Ap.out.2)
      replace MW := hide (MW.out.turn t7 (by have := LZ.out; omega))
      replace OO := hide (OO.out.apart t7 (fun G e h => Ap.out.2 (by rw [e, h])))
      replace LO := hide (Nat.le_trans LO.out t7.size)
      replace LB := hide (Nat.lt_of_lt_of_le LB.out t7.size)
      clear hK K t7 Ap Ab z0 s0 z1 s1 z2 s2 z3 s3 z4 s4 z5 s5 z6 s6
      try simp only [Act.put, List.setIfInBounds_toArray, List.set]
      generalize (((((((u1.setCell ⟨Z, 0, none⟩ (.int .i64 pc)).setCell ⟨Z, 1, none⟩ (.int .i64 ln)).setCell ⟨Z, 2, none⟩ (.slice q1 os1.length c1)).setCell ⟨Z, 3, none⟩ (.int .i64 en)).setCell ⟨Z, 4, none⟩ (.int .i64 x)).setCell ⟨Z, 5, none⟩ (.int .i64 y)).setCell ⟨Z, 6, none⟩ (.int .i64 k)) = U at Ai Az Aw MW OO LO LB hHeld ⊢
      refine PhaseIn.takeD (i := 13) (v := ?_) [13] 12 rfl (by rfl) (by kernel_rfl) (by kernel_rfl) (by kernel_rfl) (by kernel_rfl) (by kernel_rfl) (fun _ _ _ h => h) (Or.inl ⟨by kernel_rfl, ?_⟩) hHeld ?_
      rotate_left
      · intro w' hSw
        (try dsimp only at hSw)
        go_simp
        first | done | with_reducible rfl
      try simp only [Act.put, List.setIfInBounds_toArray, List.set]
      refine PhaseIn.done (by kernel_rfl) ?_ _
      clear hHeld
      have cw0 := Aw.out.1.cell 0 _ rfl
      have cw1 := Aw.out.1.cell 1 _ rfl
      have cw2 := Aw.out.1.cell 2 _ rfl
      have cw3 := Aw.out.1.cell 3 _ rfl
      have cw4 := Aw.out.1.cell 4 _ rfl
      have cw5 := Aw.out.1.cell 5 _ rfl
      have cw6 := Aw.out.1.cell 6 _ rfl
      have ci1 := Ai.out.1.cell 1 _ rfl
      go_wp2_with fail
      refine (l7Set ⟨pc, ln, os1, en, x, y, k⟩ d (ops.length + 2) q1 c1 lo _ OO.out LO.out (by have := LL.out; first | omega | (simp only []; omega))).mono ?_
      rintro e u2 ⟨q2, c2, rfl, RT⟩
      clear cw0 cw1 cw2 cw3 cw4 cw5 cw6
      clear ci1
      replace Ai := hide (RT.mv.box Ai.out.1 Ai.out.2)
      replace Az := hide (RT.mv.box Az.out.1 Az.out.2)
      replace Aw := hide (RT.mv.box Aw.out.1 Aw.out.2)
      replace MW := hide (MW.out.trans RT.mv)
      replace LO := hide (Nat.le_trans LO.out RT.mv.size)
      replace LB := hide (Nat.lt_of_lt_of_le LB.out RT.mv.size)
      obtain ⟨os2, eo2⟩ : ∃ os2, os1 ++ [opS (ops.length + 2) d] = os2 := ⟨_, rfl⟩
      have EO2 := hide eo2
      unfold bx
      simp only [] at RT ⊢
      rw [show os1 ++ [opS (ops.length + 2) d] = os2 from eo2] at RT ⊢
      replace OO := hide RT.own
      replace LL : Hid (os2.length = ops.length + 4) := show _ = _ by rw [← eo2]; simp; have := LL.out; omega
      have nn2 : Hid ((os2.length : Int) = ops.length + 4) := show _ = _ by have := LL.out; omega
      clear RT eo2
      go_wp2_with (refine lay7 rfl rfl _ _ rfl (w.heap.size + 1 + 1) _ _ _ _ _ _ _ Az.out.1 rfl _ _ _ _ _ _ _ _ _ rfl ?_; intro v9 RB TB; refine Hid.out ?_)
      replace OO := hide (OO.out.apart TB.out (fun G e h => Az.out.2 (by rw [e, h])))
      replace MW := hide (MW.out.turn TB.out (by omega))
      have z0 := RB.out.cell 0 _ rfl
      have z1 := RB.out.cell 1 _ rfl
      have z2 := RB.out.cell 2 _ rfl
      have z3 := RB.out.cell 3 _ rfl
      have z4 := RB.out.cell 4 _ rfl
      have z5 := RB.out.cell 5 _ rfl
      have z6 := RB.out.cell 6 _ rfl
      clear RB TB Ai Az Aw 
      refine hide ?_
      go_wp2
      refine bodyPost_ret (v := .agg #[.int .i64 pc, .int .i64 ln, .slice q2 os2.length c2, .int .i64 en, .int .i64 x, .int .i64 y, .int .i64 k]) (by simp [results, Try.results46, go_sem, z0, z1, z2, z3, z4, z5, z6]) rfl ?_
      have EQ : os2 = ops ++ [opG a, opC (2 ^ ik.toNat), opD 3 ops.length (ops.length + 1), opS (ops.length + 2) d] := by
        first
          | (rw [← EO2.out, ← EO1.out]; done)
          | (rw [← EO2.out, ← EO1.out]; simp [opC])
      refine ⟨q2, c2, ?_, ?_⟩
      · first
          | (rw [← EQ]; done)
          | (rw [← EQ]; rfl)
          | (rw [← EQ]; simp)
      · rw [← EQ]; exact ⟨OO.out, MW.out⟩
  · -- the box first
    unfold Oper.wpIn
    refine ⟨fun _ _ => trivial, ?_⟩
    go_simp
    have LZ9 : Hid (w.heap.size + 1 + 1 < d1.heap.size) := LZ0
    have hb : Below d1.heap.size d1 (d1.alloc (.cells #[.int .i64 0, .int .i64 0, .slice none 0 0, .int .i64 0, .int .i64 0, .int .i64 0, .int .i64 0] 42)) := (Below.refl _ _).alloc (Nat.le_refl _) _
    have Ap := hide (And.intro (Rec.new d1 [.int .i64 0, .int .i64 0, .slice none 0 0, .int .i64 0, .int .i64 0, .int .i64 0, .int .i64 0] 42) (q_far OO.out d1.heap.size (Nat.le_refl _)))
    have LZ : Hid (w.heap.size < d1.heap.size) := LB.out
    replace hHeld := And.intro (hHeld.1.below hb) (hHeld.2.below hb)
    refine hK _ _ (fun _ => hHeld) ?_
    clear hK K
    replace Ab := hide (And.intro (Ab.out.1.below hb) Ab.out.2)
    replace Ai := hide (And.intro (Ai.out.1.below hb) Ai.out.2)
    replace Az := hide (And.intro (Az.out.1.below hb) Az.out.2)
    replace MW := hide (MW.out.trans (Mv.of_below _ hb))
    replace OO := hide (OO.out.below hb)
    replace LO := hide (Nat.le_trans LO.out hb.size)
    replace LB := hide (Nat.lt_of_lt_of_le LB.out hb.size)
    clear hb
    try simp only [Act.put, List.setIfInBounds_toArray, List.set]
    obtain ⟨Z, eZ⟩ : ∃ Z, d1.heap.size = Z := ⟨_, rfl⟩
    rw [eZ] at Ap LZ LZ9 ⊢
    clear eZ
    generalize (d1.alloc (.cells #[.int .i64 0, .int .i64 0, .slice none 0 0, .int .i64 0, .int .i64 0, .int .i64 0, .int .i64 0] 42)) = d2 at Ab Ai Az Ap MW OO LO LB hHeld  ⊢
    refine PhaseIn.one (i := 5) (by kernel_rfl) rfl (by kernel_rfl) (fun K hK => ?_)
    unfold Oper.wpIn
    refine ⟨fun _ _ => trivial, ?_⟩
    go_simp
    refine ⟨rfl, (callsIn_wide.2 (l7Twice ik _ k0 k1)).mono ?_⟩
    rintro e W5 ⟨rfl, e5⟩
    rw [e5]
    clear e5 W5
    refine hK _ _ (fun _ => hHeld) ?_
    clear hK K
    try simp only [Act.put, List.setIfInBounds_toArray, List.set]
    refine PhaseIn.takeD (i := 6) (v := ?_) [6, 7, 8, 9, 10, 12, 13] 61 rfl (by rfl) (by kernel_rfl) (by kernel_rfl) (by kernel_rfl) (by kernel_rfl) (by kernel_rfl) (fun _ _ _ h => h) (Or.inl ⟨by kernel_rfl, ?_⟩) hHeld ?_
    rotate_left
    · intro w' hSw
      (try dsimp only at hSw)
      go_simp
      first | done | with_reducible rfl
    try simp only [Act.put, List.setIfInBounds_toArray, List.set]
    refine PhaseIn.one (i := 7) (by kernel_rfl) rfl (by kernel_rfl) (fun K hK => ?_)
    unfold Oper.wpIn
    refine ⟨fun _ _ => trivial, ?_⟩
    go_simp
    have CL := l7Reckon ⟨pc, ln, ops, en, x, y, k⟩ 3 a (opC (2 ^ ik.toNat)) q c lo d2 OO.out LO.out (by first | omega | (simp only []; omega))
    unfold bx at CL
    simp only [opC] at CL
    refine ⟨rfl, (callsIn_wide.2 CL).mono ?_⟩
    rintro e u1 ⟨q1, c1, rfl, RT⟩
    replace Ab := hide (RT.mv.box Ab.out.1 Ab.out.2)
    replace Ai := hide (RT.mv.box Ai.out.1 Ai.out.2)
    replace Az := hide (RT.mv.box Az.out.1 Az.out.2)
    replace Ap := hide (RT.mv.box Ap.out.1 Ap.out.2)
    replace hHeld := And.intro Ab.out.1 Ai.out.1
    refine hK _ _ (fun _ => hHeld) ?_
    clear hK K CL
    try simp only [Act.put, List.setIfInBounds_toArray, List.set]
    replace MW := hide (MW.out.trans RT.mv)
    replace LO := hide (Nat.le_trans LO.out RT.mv.size)
    replace LB := hide (Nat.lt_of_lt_of_le LB.out RT.mv.size)
    obtain ⟨os1, eo1⟩ : ∃ os1, ops ++ [opG a, ⟨1, 0, 0, 2 ^ ik.toNat, 0⟩, opD 3 ops.length (ops.length + 1)] = os1 := ⟨_, rfl⟩
    have EO1 := hide eo1
    try simp only [] at RT ⊢
    rw [eo1] at RT ⊢
    replace OO := hide RT.own
    have LL : Hid (os1.length = ops.length + 3) := show _ = _ by rw [← eo1]; simp
    have nn1 : Hid ((os1.length : Int) = ops.length + 3) := show _ = _ by have := LL.out; omega
    clear RT eo1
    refine PhaseIn.takeD (i := 8) (v := ?_) [8, 9, 10, 12, 13] 54 rfl (by rfl) (by kernel_rfl) (by kernel_rfl) (by kernel_rfl) (by kernel_rfl) (by kernel_rfl) (fun _ _ _ h => h) (Or.inl ⟨by kernel_rfl, ?_⟩) hHeld ?_
    rotate_left
    · intro w' hSw
      (try dsimp only at hSw)
      go_simp
      first | done | with_reducible rfl
    try simp only [Act.put, List.setIfInBounds_toArray, List.set]
    refine PhaseIn.takeD (i := 9) (v := ?_) [9, 12, 13] 63 rfl (by rfl) (by kernel_rfl) (by kernel_rfl) (by kernel_rfl) (by kernel_rfl) (by kernel_rfl) (fun _ _ _ h => h) (Or.inl ⟨by kernel_rfl, ?_⟩) hHeld ?_
    rotate_left
    · intro w' hSw
      (try dsimp only at hSw)
      go_simp
      first | done | with_reducible rfl
    try simp only [Act.put, List.setIfInBounds_toArray, List.set]
    refine PhaseIn.takeD (i := 10) (v := ?_) [10, 13] 64 rfl (by rfl) (by kernel_rfl) (by kernel_rfl) (by kernel_rfl) (by kernel_rfl) (by kernel_rfl) (fun _ _ _ h => h) (Or.inl ⟨by kernel_rfl, ?_⟩) hHeld ?_
    rotate_left
    · intro w' hSw
      (try dsimp only at hSw)
      go_simp
      first | done | with_reducible rfl
    try simp only [Act.put, List.setIfInBounds_toArray, List.set]
    have z0 := Ap.out.1.cell 0 _ rfl
    have s0 := Ap.out.1.soft 0
    have z1 := Ap.out.1.cell 1 _ rfl
    have s1 := Ap.out.1.soft 1
    have z2 := Ap.out.1.cell 2 _ rfl
    have s2 := Ap.out.1.soft 2
    have z3 := Ap.out.1.cell 3 _ rfl
    have s3 := Ap.out.1.soft 3
    have z4 := Ap.out.1.cell 4 _ rfl
    have s4 := Ap.out.1.soft 4
    have z5 := Ap.out.1.cell 5 _ rfl
    have s5 := Ap.out.1.soft 5
    have z6 := Ap.out.1.cell 6 _ rfl
    have s6 := Ap.out.1.soft 6
    refine PhaseIn.one (i := 12) (by kernel_rfl) rfl (by kernel_rfl) (fun K hK => ?_)
    unfold Oper.wpIn
    refine ⟨fun _ _ => trivial, ?_⟩
    go_simp
    have t7 : Turn Z u1 (((((((u1.setCell ⟨Z, 0, none⟩ (.int .i64 pc)).setCell ⟨Z, 1, none⟩ (.int .i64 ln)).setCell ⟨Z, 2, none⟩ (.slice q1 os1.length c1)).setCell ⟨Z, 3, none⟩ (.int .i64 en)).setCell ⟨Z, 4, none⟩ (.int .i64 x)).setCell ⟨Z, 5, none⟩ (.int .i64 y)).setCell ⟨Z, 6, none⟩ (.int .i64 k)) := ((((((((Turn.refl (Z) u1).setCell (p := ⟨Z, 0, none⟩) rfl (.int .i64 pc)).setCell (p := ⟨Z, 1, none⟩) rfl (.int .i64 ln)).setCell (p := ⟨Z, 2, none⟩) rfl (.slice q1 os1.length c1)).setCell (p := ⟨Z, 3, none⟩) rfl (.int .i64 en)).setCell (p := ⟨Z, 4, none⟩) rfl (.int .i64 x)).setCell (p := ⟨Z, 5, none⟩) rfl (.int .i64 y)).setCell (p := ⟨Z, 6, none⟩) rfl (.int .i64 k))
    replace hHeld := And.intro (Ab.out.1.turn t7 (by have := LZ.out; omega)) (Ai.out.1.turn t7 (by have := LZ9.out; omega))
    refine hK _ _ (fun _ => hHeld) ?_
    replace Ai := hide (And.intro (Ai.out.1.turn t7 (by have := LZ9.out; omega)) Ai.out.2)
    replace Az := hide (And.intro (Az.out.1.turn t7 (by have := LZ9.out; omega)) Az.out.2)
    have Aw := hide (And.intro (((((((Ap.out.1.set 0 (.int .i64 pc) (by simp) (show _ = ([.int .i64 pc, .int .i64 0, .slice none 0 0, .int .i64 0, .int .i64 0, .int .i64 0, .int .i64 0] : List Value) from rfl)).set 1 (.int .i64 ln) (by simp) (show _ = ([.int .i64 pc, .int .i64 ln, .slice none 0 0, .int .i64 0, .int .i64 0, .int .i64 0, .int .i64 0] : List Value) from rfl)).set 2 (.slice q1 os1.length c1) (by simp) (show _ = ([.int .i64 pc, .int .i64 ln, .slice q1 os1.length c1, .int .i64 0, .int .i64 0, .int .i64 0, .int .i64 0] : List Value) from rfl)).set 3 (.int .i64 en) (by simp) (show _ = ([.int .i64 pc, .int .i64 ln, .slice q1 os1.length c1, .int .i64 en, .int .i64 0, .int .i64 0, .int .i64 0] : List Value) from rfl)).set 4 (.int .i64 x) (by simp) (show _ = ([.int .i64 pc, .int .i64 ln, .slice q1 os1.length c1, .int .i64 en, .int .i64 x, .int .i64 0, .int .i64 0] : List Value) from rfl)).set 5 (.int .i64 y) (by simp) (show _ = ([.int .i64 pc, .int .i64 ln, .slice q1 os1.length c1, .int .i64 en, .int .i64 x, .int .i64 y, .int .i64 0] : List Value) from rfl)).set 6 (.int .i64 k) (by simp) (show _ = ([.int .i64 pc, .int .i64 ln, .slice q1 os1.length c1, .int .i64 en, .int .i64 x, .int .i64 y, .int .i64 k] : List Value) from rfl)) Ap.out.2)
    replace MW := hide (MW.out.turn t7 (by have := LZ.out; omega))
    replace OO := hide (OO.out.apart t7 (fun G e h => Ap.out.2 (by rw [e, h])))
    replace LO := hide (Nat.le_trans LO.out t7.size)
    replace LB := hide (Nat.lt_of_lt_of_le LB.out t7.size)
    clear hK K t7 Ap Ab z0 s0 z1 s1 z2 s2 z3 s3 z4 s4 z5 s5 z6 s6
    try simp only [Act.put, List.setIfInBounds_toArray, List.set]
    generalize (((((((u1.setCell ⟨Z, 0, none⟩ (.int .i64 pc)).setCell ⟨Z, 1, none⟩ (.int .i64 ln)).setCell ⟨Z, 2, none⟩ (.slice q1 os1.length c1)).setCell ⟨Z, 3, none⟩ (.int .i64 en)).setCell ⟨Z, 4, none⟩ (.int .i64 x)).setCell ⟨Z, 5, none⟩ (.int .i64 y)).setCell ⟨Z, 6, none⟩ (.int .i64 k)) = U at Ai Az Aw MW OO LO LB hHeld ⊢
    refine PhaseIn.takeD (i := 13) (v := ?_) [13] 12 rfl (by rfl) (by kernel_rfl) (by kernel_rfl) (by kernel_rfl) (by kernel_rfl) (by kernel_rfl) (fun _ _ _ h => h) (Or.inl ⟨by kernel_rfl, ?_⟩) hHeld ?_
    rotate_left
    · intro w' hSw
      (try dsimp only at hSw)
      go_simp
      first | done | with_reducible rfl
    try simp only [Act.put, List.setIfInBounds_toArray, List.set]
    refine PhaseIn.done (by kernel_rfl) ?_ _
    clear hHeld
    have cw0 := Aw.out.1.cell 0 _ rfl
    have cw1 := Aw.out.1.cell 1 _ rfl
    have cw2 := Aw.out.1.cell 2 _ rfl
    have cw3 := Aw.out.1.cell 3 _ rfl
    have cw4 := Aw.out.1.cell 4 _ rfl
    have cw5 := Aw.out.1.cell 5 _ rfl
    have cw6 := Aw.out.1.cell 6 _ rfl
    have ci1 := Ai.out.1.cell 1 _ rfl
    go_wp2_with fail
    refine (l7Set ⟨pc, ln, os1, en, x, y, k⟩ d (ops.length + 2) q1 c1 lo _ OO.out LO.out (by have := LL.out; first | omega | (simp only []; omega))).mono ?_
    rintro e u2 ⟨q2, c2, rfl, RT⟩
    clear cw0 cw1 cw2 cw3 cw4 cw5 cw6
    clear ci1
    replace Ai := hide (RT.mv.box Ai.out.1 Ai.out.2)
    replace Az := hide (RT.mv.box Az.out.1 Az.out.2)
    replace Aw := hide (RT.mv.box Aw.out.1 Aw.out.2)
    replace MW := hide (MW.out.trans RT.mv)
    replace LO := hide (Nat.le_trans LO.out RT.mv.size)
    replace LB := hide (Nat.lt_of_lt_of_le LB.out RT.mv.size)
    obtain ⟨os2, eo2⟩ : ∃ os2, os1 ++ [opS (ops.length + 2) d] = os2 := ⟨_, rfl⟩
    have EO2 := hide eo2
    unfold bx
    simp only [] at RT ⊢
    rw [show os1 ++ [opS (ops.length + 2) d] = os2 from eo2] at RT ⊢
    replace OO := hide RT.own
    replace LL : Hid (os2.length = ops.length + 4) := show _ = _ by rw [← eo2]; simp; have := LL.out; omega
    have nn2 : Hid ((os2.length : Int) = ops.length + 4) := show _ = _ by have := LL.out; omega
    clear RT eo2
    go_wp2_with (refine lay7 rfl rfl _ _ rfl (w.heap.size + 1 + 1) _ _ _ _ _ _ _ Az.out.1 rfl _ _ _ _ _ _ _ _ _ rfl ?_; intro v9 RB TB; refine Hid.out ?_)
    replace OO := hide (OO.out.apart TB.out (fun G e h => Az.out.2 (by rw [e, h])))
    replace MW := hide (MW.out.turn TB.out (by omega))
    have z0 := RB.out.cell 0 _ rfl
    have z1 := RB.out.cell 1 _ rfl
    have z2 := RB.out.cell 2 _ rfl
    have z3 := RB.out.cell 3 _ rfl
    have z4 := RB.out.cell 4 _ rfl
    have z5 := RB.out.cell 5 _ rfl
    have z6 := RB.out.cell 6 _ rfl
    clear RB TB Ai Az Aw 
    refine hide ?_
    go_wp2
    refine bodyPost_ret (v := .agg #[.int .i64 pc, .int .i64 ln, .slice q2 os2.length c2, .int .i64 en, .int .i64 x, .int .i64 y, .int .i64 k]) (by simp [results, Try.results46, go_sem, z0, z1, z2, z3, z4, z5, z6]) rfl ?_
    have EQ : os2 = ops ++ [opG a, opC (2 ^ ik.toNat), opD 3 ops.length (ops.length + 1), opS (ops.length + 2) d] := by
      first
        | (rw [← EO2.out, ← EO1.out]; done)
        | (rw [← EO2.out, ← EO1.out]; simp [opC])
    refine ⟨q2, c2, ?_, ?_⟩
    · first
        | (rw [← EQ]; done)
        | (rw [← EQ]; rfl)
        | (rw [← EQ]; simp)
    · rw [← EQ]; exact ⟨OO.out, MW.out⟩
theorem l7One (b : Bk) (i : In4) (t : Int) (q : Option Addr) (c lo : Nat) (w : World) (H : OwnO w lo (.slice q b.ops.length c) b.ops) (hlo : lo ≤ w.heap.size) (hl : b.ops.length ≤ 500) (h1 : 1 ≤ i.op) (h2 : i.op ≤ 15) (h3 : i.op = 8 → 0 ≤ i.k ∧ i.k ≤ 15) :
    Calls Try.prog 46 #[bx b q c, .agg #[.int .i64 i.op, .int .i64 i.d, .int .i64 i.a, .int .i64 i.k], .int .i64 t] w fun e w' => ∃ q' c', e = .returned (bx (oneB b t i) q' c') ∧ Ret w lo q w' (oneB b t i) q' c' := by
  obtain ⟨op, d, a, ik⟩ := i
  simp only [] at h1 h2 h3 ⊢
  have hh : op = 1 ∨ op = 2 ∨ op = 3 ∨ op = 4 ∨ op = 5 ∨ op = 6 ∨ op = 7 ∨ op = 8 ∨ op = 9 ∨ op = 10 ∨ op = 11 ∨ op = 12 ∨ op = 13 ∨ op = 14 ∨ op = 15 := by omega
  rcases hh with rfl | rfl | rfl | rfl | rfl | rfl | rfl | rfl | rfl | rfl | rfl | rfl | rfl | rfl | rfl
  · exact l7One_1 b d a ik t q c lo w H hlo hl
  · exact l7One_2 b d a ik t q c lo w H hlo hl
  · exact l7One_op b 3 d a ik t q c lo w H hlo hl (by omega) (by omega)
  · exact l7One_op b 4 d a ik t q c lo w H hlo hl (by omega) (by omega)
  · exact l7One_op b 5 d a ik t q c lo w H hlo hl (by omega) (by omega)
  · exact l7One_op b 6 d a ik t q c lo w H hlo hl (by omega) (by omega)
  · exact l7One_op b 7 d a ik t q c lo w H hlo hl (by omega) (by omega)
  · exact l7One_8 b d a ik t q c lo w H hlo hl (h3 rfl).1 (h3 rfl).2
  · exact l7One_9 b d a ik t q c lo w H hlo hl
  · exact l7One_10 b d a ik t q c lo w H hlo hl
  · exact l7One_11 b d a ik t q c lo w H hlo hl
  · exact l7One_12 b d a ik t q c lo w H hlo hl
  · exact l7One_13 b d a ik t q c lo w H hlo hl
  · exact l7One_14 b d a ik t q c lo w H hlo hl
  · exact l7One_15 b d a ik t q c lo w H hlo hl
end Go.Proofs.Ytfjlnocikldhjaa.Lw
