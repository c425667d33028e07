/-
  The operations of an instruction: the specification's l7Reach, l7Last, l7Twice, l7One.
-/
import Derived.Test.YtfjlnocikldhjaaLwB
namespace Go.Proofs.Ytfjlnocikldhjaa.Lw
set_option linter.unusedVariables false
set_option linter.unusedSimpArgs false
open Go.ChangeShapes Go.WideShapes Go.ChangeAt Go.RowKit IntS Flat
open InsS (In4)
open Ir (Opn Bk bv ORow RBk OpAt lay7)
open Mch (Rec Three Two One)
theorem l7Twice (k : Int) (w : World) (h0 : 0 ≤ k) (h1 : k ≤ 15) : Calls Try.prog 66 #[.int .i64 k] w fun e w' => e = .returned (.int .i64 (2 ^ k.toNat)) ∧ w' = w := by
  have h : k = 0 ∨ k = 1 ∨ k = 2 ∨ k = 3 ∨ k = 4 ∨ k = 5 ∨ k = 6 ∨ k = 7 ∨ k = 8 ∨ k = 9 ∨ k = 10 ∨ k = 11 ∨ k = 12 ∨ k = 13 ∨ k = 14 ∨ k = 15 := by omega
  obtain ⟨m, rfl⟩ : ∃ m : Nat, k = m := ⟨k.toNat, by omega⟩
  have hm : m ≤ 15 := by omega
  clear h h0 h1
  rw [Int.toNat_natCast]
  obtain ⟨R, eR⟩ : ∃ R : Int, 2 ^ m = R := ⟨_, rfl⟩
  have ER := hide eR
  rw [eR]
  clear eR
  go_enter Try.func66, Try.ntmps66
  go_wp2
  go_loopw [3, 4] (fun s j wr => ∃ (i : Nat) (v : Int), i ≤ m ∧ j = .int .i64 i ∧ s = .int .i64 v ∧ Hid (v = 2 ^ i) ∧ 0 ≤ v ∧ v ≤ 32768 ∧ wr = w) (fun _ j _ => m - (intOf j).toNat)
  case atStart => exact ⟨0, 1, by omega, rfl, rfl, by show _ = _; simp, by omega, by omega, rfl⟩
  case round =>
    obtain ⟨i, v, hi, rfl, rfl, HV, v0, v1, rfl⟩ := hrel
    by_cases hlt : i < m
    · have li : ((i : Nat) : Int) < (m : Nat) := by omega
      have HN : Hid (v + v = 2 ^ (i + 1)) := show _ = _ by rw [HV.out, Int.pow_succ]; omega
      have hv : v ≤ 16384 := by
        rw [HV.out]
        have hi14 : i = 0 ∨ i = 1 ∨ i = 2 ∨ i = 3 ∨ i = 4 ∨ i = 5 ∨ i = 6 ∨ i = 7 ∨ i = 8 ∨ i = 9 ∨ i = 10 ∨ i = 11 ∨ i = 12 ∨ i = 13 ∨ i = 14 := by omega
        rcases hi14 with rfl | rfl | rfl | rfl | rfl | rfl | rfl | rfl | rfl | rfl | rfl | rfl | rfl | rfl | rfl <;> decide
      clear v1
      go_wp2
      exact ⟨⟨i + 1, v + v, by omega, by go_num, by go_num, HN, by omega, by omega, by first | rfl | trivial⟩, by simp [intOf]; omega⟩
    · obtain rfl : i = m := by omega
      have HE : Hid (v = R) := show _ = _ by rw [HV.out]; exact ER.out
      go_wp2
      go_ret
      exact ⟨ret_int HE.out, rfl⟩
set_option maxRecDepth 8000 in
set_option maxHeartbeats 8000000 in
theorem l7Reach9 (b : Bk) (d a ik t : Int) (q : Option Addr) (c lo : Nat) (w : World) (H : OwnO w lo (.slice q b.ops.length c) b.ops) (hlo : lo ≤ w.heap.size) (hl : b.ops.length ≤ 1000) :
    Calls Try.prog 67 #[bx b q c, .agg #[.int .i64 9, .int .i64 d, .int .i64 a, .int .i64 ik], .int .i64 t] w fun e w' => ∃ q' c', e = .returned ((bx ⟨b.pc, b.ln, b.ops ++ [opG a, opC ik, opD 1 b.ops.length (b.ops.length + 1), opL (b.ops.length + 2) t, opS (b.ops.length + 3) d], b.en, b.x, b.y, b.k⟩ q' c')) ∧ Ret w lo q w' (⟨b.pc, b.ln, b.ops ++ [opG a, opC ik, opD 1 b.ops.length (b.ops.length + 1), opL (b.ops.length + 2) t, opS (b.ops.length + 3) d], b.en, b.x, b.y, b.k⟩) q' c' := by
  obtain ⟨pc, ln, ops, en, x, y, k⟩ := b
  unfold bx
  simp only [] at H hl ⊢
  have Rb := Rec.new w [.int .i64 pc, .int .i64 ln, .slice q ops.length c, .int .i64 en, .int .i64 x, .int .i64 y, .int .i64 k] 42
  replace Rb := Rb.alloc (.cells #[.int .i64 9, .int .i64 d, .int .i64 a, .int .i64 ik] 55)
  replace Rb := Rb.alloc (.cells #[.int .i64 0, .int .i64 0, .slice none 0 0, .int .i64 0, .int .i64 0, .int .i64 0, .int .i64 0] 42)
  have Ri := Rec.new (w.alloc (.cells #[.int .i64 pc, .int .i64 ln, .slice q ops.length c, .int .i64 en, .int .i64 x, .int .i64 y, .int .i64 k] 42)) [.int .i64 9, .int .i64 d, .int .i64 a, .int .i64 ik] 55
  rw [show (w.alloc (.cells #[.int .i64 pc, .int .i64 ln, .slice q ops.length c, .int .i64 en, .int .i64 x, .int .i64 y, .int .i64 k] 42)).heap.size = w.heap.size + 1 by simp] at Ri
  replace Ri := Ri.alloc (.cells #[.int .i64 0, .int .i64 0, .slice none 0 0, .int .i64 0, .int .i64 0, .int .i64 0, .int .i64 0] 42)
  have Rz := Rec.new ((w.alloc (.cells #[.int .i64 pc, .int .i64 ln, .slice q ops.length c, .int .i64 en, .int .i64 x, .int .i64 y, .int .i64 k] 42)).alloc (.cells #[.int .i64 9, .int .i64 d, .int .i64 a, .int .i64 ik] 55)) [.int .i64 0, .int .i64 0, .slice none 0 0, .int .i64 0, .int .i64 0, .int .i64 0, .int .i64 0] 42
  rw [show ((w.alloc (.cells #[.int .i64 pc, .int .i64 ln, .slice q ops.length c, .int .i64 en, .int .i64 x, .int .i64 y, .int .i64 k] 42)).alloc (.cells #[.int .i64 9, .int .i64 d, .int .i64 a, .int .i64 ik] 55)).heap.size = w.heap.size + 1 + 1 by simp] at Rz
  have BA : Below w.heap.size w (((w.alloc (.cells #[.int .i64 pc, .int .i64 ln, .slice q ops.length c, .int .i64 en, .int .i64 x, .int .i64 y, .int .i64 k] 42)).alloc (.cells #[.int .i64 9, .int .i64 d, .int .i64 a, .int .i64 ik] 55)).alloc (.cells #[.int .i64 0, .int .i64 0, .slice none 0 0, .int .i64 0, .int .i64 0, .int .i64 0, .int .i64 0] 42)) := ((((Below.refl w.heap.size w).alloc (Nat.le_refl _) _).alloc (by simp; try omega) _).alloc (by simp; try omega) _)
  have Ab := hide (And.intro Rb (q_far H (w.heap.size) (by omega)))
  have Ai := hide (And.intro Ri (q_far H (w.heap.size + 1) (by omega)))
  have Az := hide (And.intro Rz (q_far H (w.heap.size + 1 + 1) (by omega)))
  have MW := hide (Mv.of_below q BA)
  have OO := hide (H.below BA)
  have LO : Hid (lo ≤ (((w.alloc (.cells #[.int .i64 pc, .int .i64 ln, .slice q ops.length c, .int .i64 en, .int .i64 x, .int .i64 y, .int .i64 k] 42)).alloc (.cells #[.int .i64 9, .int .i64 d, .int .i64 a, .int .i64 ik] 55)).alloc (.cells #[.int .i64 0, .int .i64 0, .slice none 0 0, .int .i64 0, .int .i64 0, .int .i64 0, .int .i64 0] 42)).heap.size) := Nat.le_trans hlo BA.size
  have LB : Hid (w.heap.size < (((w.alloc (.cells #[.int .i64 pc, .int .i64 ln, .slice q ops.length c, .int .i64 en, .int .i64 x, .int .i64 y, .int .i64 k] 42)).alloc (.cells #[.int .i64 9, .int .i64 d, .int .i64 a, .int .i64 ik] 55)).alloc (.cells #[.int .i64 0, .int .i64 0, .slice none 0 0, .int .i64 0, .int .i64 0, .int .i64 0, .int .i64 0] 42)).heap.size) := show _ < _ by simp; try omega
  clear BA H Rb Ri Rz
  go_enter Try.func67, Try.ntmps67
  have cb0 := Ab.out.1.cell 0 _ rfl
  have cb1 := Ab.out.1.cell 1 _ rfl
  have cb2 := Ab.out.1.cell 2 _ rfl
  have cb3 := Ab.out.1.cell 3 _ rfl
  have cb4 := Ab.out.1.cell 4 _ rfl
  have cb5 := Ab.out.1.cell 5 _ rfl
  have cb6 := Ab.out.1.cell 6 _ rfl
  have ci2 := Ai.out.1.cell 2 _ rfl
  have ci3 := Ai.out.1.cell 3 _ rfl
  go_wp2_with fail
  refine (l7Reckon ⟨pc, ln, ops, en, x, y, k⟩ 1 a (opC ik) q c lo _ OO.out LO.out (by first | omega | (simp only []; omega))).mono ?_
  rintro e u1 ⟨q1, c1, rfl, RT⟩
  clear cb0 cb1 cb2 cb3 cb4 cb5 cb6
  clear ci2 ci3
  replace Ab := hide (RT.mv.box Ab.out.1 Ab.out.2)
  replace Ai := hide (RT.mv.box Ai.out.1 Ai.out.2)
  replace Az := hide (RT.mv.box Az.out.1 Az.out.2)
  replace MW := hide (MW.out.trans RT.mv)
  replace LO := hide (Nat.le_trans LO.out RT.mv.size)
  replace LB := hide (Nat.lt_of_lt_of_le LB.out RT.mv.size)
  obtain ⟨os1, eo1⟩ : ∃ os1, ops ++ [opG a, opC ik, opD 1 ops.length (ops.length + 1)] = os1 := ⟨_, rfl⟩
  have EO1 := hide eo1
  unfold bx
  simp only [] at RT ⊢
  rw [show ops ++ [opG a, opC ik, opD 1 ops.length (ops.length + 1)] = os1 from eo1] at RT ⊢
  replace OO := hide RT.own
  have LL : Hid (os1.length = ops.length + 3) := show _ = _ by rw [← eo1]; simp
  have nn1 : Hid ((os1.length : Int) = ops.length + 3) := show _ = _ by have := LL.out; omega
  clear RT eo1
  have bo : Below u1.heap.size u1 (u1.alloc (.cells #[.int .i64 pc, .int .i64 ln, .slice q1 os1.length c1, .int .i64 en, .int .i64 x, .int .i64 y, .int .i64 k] 42)) := (Below.refl _ _).alloc (Nat.le_refl _) _
  have Rp := Rec.new u1 [.int .i64 pc, .int .i64 ln, .slice q1 os1.length c1, .int .i64 en, .int .i64 x, .int .i64 y, .int .i64 k] 42
  have Ap := hide (And.intro Rp (q_far OO.out u1.heap.size (Nat.le_refl _)))
  replace Ab := hide (And.intro (Ab.out.1.below bo) Ab.out.2)
  replace Ai := hide (And.intro (Ai.out.1.below bo) Ai.out.2)
  replace Az := hide (And.intro (Az.out.1.below bo) Az.out.2)
  replace MW := hide (MW.out.trans (Mv.of_below _ bo))
  replace OO := hide (OO.out.below bo)
  replace LO := hide (Nat.le_trans LO.out bo.size)
  replace LB := hide (Nat.lt_of_lt_of_le LB.out bo.size)
  clear bo Rp
  have cp0 := Ap.out.1.cell 0 _ rfl
  have cp1 := Ap.out.1.cell 1 _ rfl
  have cp2 := Ap.out.1.cell 2 _ rfl
  have cp3 := Ap.out.1.cell 3 _ rfl
  have cp4 := Ap.out.1.cell 4 _ rfl
  have cp5 := Ap.out.1.cell 5 _ rfl
  have cp6 := Ap.out.1.cell 6 _ rfl
  have ci0 := Ai.out.1.cell 0 _ rfl
  go_wp2_with fail
  refine (l7Put ⟨pc, ln, os1, en, x, y, k⟩ (opL (ops.length + 2) t) q1 c1 lo _ OO.out LO.out (by have := LL.out; first | omega | (simp only []; omega))).mono ?_
  rintro e u2 ⟨q2, c2, rfl, RT⟩
  clear cp0 cp1 cp2 cp3 cp4 cp5 cp6
  clear ci0
  replace Ab := hide (RT.mv.box Ab.out.1 Ab.out.2)
  replace Ai := hide (RT.mv.box Ai.out.1 Ai.out.2)
  replace Az := hide (RT.mv.box Az.out.1 Az.out.2)
  replace Ap := hide (RT.mv.box Ap.out.1 Ap.out.2)
  replace MW := hide (MW.out.trans RT.mv)
  replace LO := hide (Nat.le_trans LO.out RT.mv.size)
  replace LB := hide (Nat.lt_of_lt_of_le LB.out RT.mv.size)
  obtain ⟨os2, eo2⟩ : ∃ os2, os1 ++ [opL (ops.length + 2) t] = os2 := ⟨_, rfl⟩
  have EO2 := hide eo2
  unfold bx
  simp only [] at RT ⊢
  rw [show os1 ++ [opL (ops.length + 2) t] = os2 from eo2] at RT ⊢
  replace OO := hide RT.own
  replace LL : Hid (os2.length = ops.length + 4) := show _ = _ by rw [← eo2]; simp; have := LL.out; omega
  have nn2 : Hid ((os2.length : Int) = ops.length + 4) := show _ = _ by have := LL.out; omega
  clear RT eo2
  have bo : Below u2.heap.size u2 (u2.alloc (.cells #[.int .i64 pc, .int .i64 ln, .slice q2 os2.length c2, .int .i64 en, .int .i64 x, .int .i64 y, .int .i64 k] 42)) := (Below.refl _ _).alloc (Nat.le_refl _) _
  have Rr := Rec.new u2 [.int .i64 pc, .int .i64 ln, .slice q2 os2.length c2, .int .i64 en, .int .i64 x, .int .i64 y, .int .i64 k] 42
  have Ar := hide (And.intro Rr (q_far OO.out u2.heap.size (Nat.le_refl _)))
  replace Ab := hide (And.intro (Ab.out.1.below bo) Ab.out.2)
  replace Ai := hide (And.intro (Ai.out.1.below bo) Ai.out.2)
  replace Az := hide (And.intro (Az.out.1.below bo) Az.out.2)
  replace Ap := hide (And.intro (Ap.out.1.below bo) Ap.out.2)
  replace MW := hide (MW.out.trans (Mv.of_below _ bo))
  replace OO := hide (OO.out.below bo)
  replace LO := hide (Nat.le_trans LO.out bo.size)
  replace LB := hide (Nat.lt_of_lt_of_le LB.out bo.size)
  clear bo Rr
  have cr0 := Ar.out.1.cell 0 _ rfl
  have cr1 := Ar.out.1.cell 1 _ rfl
  have cr2 := Ar.out.1.cell 2 _ rfl
  have cr3 := Ar.out.1.cell 3 _ rfl
  have cr4 := Ar.out.1.cell 4 _ rfl
  have cr5 := Ar.out.1.cell 5 _ rfl
  have cr6 := Ar.out.1.cell 6 _ rfl
  have ci1 := Ai.out.1.cell 1 _ rfl
  go_wp2_with fail
  refine (l7Set ⟨pc, ln, os2, en, x, y, k⟩ d os1.length q2 c2 lo _ OO.out LO.out (by have := LL.out; first | omega | (simp only []; omega))).mono ?_
  rintro e u3 ⟨q3, c3, rfl, RT⟩
  clear cr0 cr1 cr2 cr3 cr4 cr5 cr6
  clear ci1
  replace Ab := hide (RT.mv.box Ab.out.1 Ab.out.2)
  replace Ai := hide (RT.mv.box Ai.out.1 Ai.out.2)
  replace Az := hide (RT.mv.box Az.out.1 Az.out.2)
  replace Ap := hide (RT.mv.box Ap.out.1 Ap.out.2)
  replace Ar := hide (RT.mv.box Ar.out.1 Ar.out.2)
  replace MW := hide (MW.out.trans RT.mv)
  replace LO := hide (Nat.le_trans LO.out RT.mv.size)
  replace LB := hide (Nat.lt_of_lt_of_le LB.out RT.mv.size)
  obtain ⟨os3, eo3⟩ : ∃ os3, os2 ++ [opS os1.length d] = os3 := ⟨_, rfl⟩
  have EO3 := hide eo3
  unfold bx
  simp only [] at RT ⊢
  rw [show os2 ++ [opS os1.length d] = os3 from eo3] at RT ⊢
  replace OO := hide RT.own
  replace LL : Hid (os3.length = ops.length + 5) := show _ = _ by rw [← eo3]; simp; have := LL.out; omega
  have nn3 : Hid ((os3.length : Int) = ops.length + 5) := show _ = _ by have := LL.out; omega
  clear RT eo3
  go_wp2_with (refine lay7 rfl rfl _ _ rfl (w.heap.size + 1 + 1) _ _ _ _ _ _ _ Az.out.1 rfl _ _ _ _ _ _ _ _ _ rfl ?_; intro v9 RB TB; refine Hid.out ?_)
  replace OO := hide (OO.out.apart TB.out (fun G e h => Az.out.2 (by rw [e, h])))
  replace MW := hide (MW.out.turn TB.out (by omega))
  have z0 := RB.out.cell 0 _ rfl
  have z1 := RB.out.cell 1 _ rfl
  have z2 := RB.out.cell 2 _ rfl
  have z3 := RB.out.cell 3 _ rfl
  have z4 := RB.out.cell 4 _ rfl
  have z5 := RB.out.cell 5 _ rfl
  have z6 := RB.out.cell 6 _ rfl
  clear RB TB Ab Ai Az Ap Ar 
  refine hide ?_
  go_wp2
  refine bodyPost_ret (v := .agg #[.int .i64 pc, .int .i64 ln, .slice q3 os3.length c3, .int .i64 en, .int .i64 x, .int .i64 y, .int .i64 k]) (by simp [results, Try.results67, go_sem, z0, z1, z2, z3, z4, z5, z6]) rfl ?_
  have EQ : os3 = ops ++ [opG a, opC ik, opD 1 ops.length (ops.length + 1), opL (ops.length + 2) t, opS (ops.length + 3) d] := by
    first
      | (rw [← EO3.out, ← EO2.out, ← EO1.out]; done)
      | (rw [← EO3.out, ← EO2.out, ← EO1.out]; simp [nn1.out, nn2.out])
  refine ⟨q3, c3, ?_, ?_⟩
  · first
      | (rw [← EQ]; done)
      | (rw [← EQ]; rfl)
      | (rw [← EQ]; simp [nn1.out, nn2.out])
  · rw [← EQ]; exact ⟨OO.out, MW.out⟩
set_option maxRecDepth 8000 in
set_option maxHeartbeats 8000000 in
theorem l7Reach10 (b : Bk) (d a ik t : Int) (q : Option Addr) (c lo : Nat) (w : World) (H : OwnO w lo (.slice q b.ops.length c) b.ops) (hlo : lo ≤ w.heap.size) (hl : b.ops.length ≤ 1000) :
    Calls Try.prog 67 #[bx b q c, .agg #[.int .i64 10, .int .i64 d, .int .i64 a, .int .i64 ik], .int .i64 t] w fun e w' => ∃ q' c', e = .returned ((bx ⟨b.pc, b.ln, b.ops ++ [opG a, opC ik, opD 1 b.ops.length (b.ops.length + 1), opG d, opT (b.ops.length + 2) (b.ops.length + 3) t], b.en, b.x, b.y, b.k⟩ q' c')) ∧ Ret w lo q w' (⟨b.pc, b.ln, b.ops ++ [opG a, opC ik, opD 1 b.ops.length (b.ops.length + 1), opG d, opT (b.ops.length + 2) (b.ops.length + 3) t], b.en, b.x, b.y, b.k⟩) q' c' := by
  obtain ⟨pc, ln, ops, en, x, y, k⟩ := b
  unfold bx
  simp only [] at H hl ⊢
  have Rb := Rec.new w [.int .i64 pc, .int .i64 ln, .slice q ops.length c, .int .i64 en, .int .i64 x, .int .i64 y, .int .i64 k] 42
  replace Rb := Rb.alloc (.cells #[.int .i64 10, .int .i64 d, .int .i64 a, .int .i64 ik] 55)
  replace Rb := Rb.alloc (.cells #[.int .i64 0, .int .i64 0, .slice none 0 0, .int .i64 0, .int .i64 0, .int .i64 0, .int .i64 0] 42)
  have Ri := Rec.new (w.alloc (.cells #[.int .i64 pc, .int .i64 ln, .slice q ops.length c, .int .i64 en, .int .i64 x, .int .i64 y, .int .i64 k] 42)) [.int .i64 10, .int .i64 d, .int .i64 a, .int .i64 ik] 55
  rw [show (w.alloc (.cells #[.int .i64 pc, .int .i64 ln, .slice q ops.length c, .int .i64 en, .int .i64 x, .int .i64 y, .int .i64 k] 42)).heap.size = w.heap.size + 1 by simp] at Ri
  replace Ri := Ri.alloc (.cells #[.int .i64 0, .int .i64 0, .slice none 0 0, .int .i64 0, .int .i64 0, .int .i64 0, .int .i64 0] 42)
  have Rz := Rec.new ((w.alloc (.cells #[.int .i64 pc, .int .i64 ln, .slice q ops.length c, .int .i64 en, .int .i64 x, .int .i64 y, .int .i64 k] 42)).alloc (.cells #[.int .i64 10, .int .i64 d, .int .i64 a, .int .i64 ik] 55)) [.int .i64 0, .int .i64 0, .slice none 0 0, .int .i64 0, .int .i64 0, .int .i64 0, .int .i64 0] 42
  rw [show ((w.alloc (.cells #[.int .i64 pc, .int .i64 ln, .slice q ops.length c, .int .i64 en, .int .i64 x, .int .i64 y, .int .i64 k] 42)).alloc (.cells #[.int .i64 10, .int .i64 d, .int .i64 a, .int .i64 ik] 55)).heap.size = w.heap.size + 1 + 1 by simp] at Rz
  have BA : Below w.heap.size w (((w.alloc (.cells #[.int .i64 pc, .int .i64 ln, .slice q ops.length c, .int .i64 en, .int .i64 x, .int .i64 y, .int .i64 k] 42)).alloc (.cells #[.int .i64 10, .int .i64 d, .int .i64 a, .int .i64 ik] 55)).alloc (.cells #[.int .i64 0, .int .i64 0, .slice none 0 0, .int .i64 0, .int .i64 0, .int .i64 0, .int .i64 0] 42)) := ((((Below.refl w.heap.size w).alloc (Nat.le_refl _) _).alloc (by simp; try omega) _).alloc (by simp; try omega) _)
  have Ab := hide (And.intro Rb (q_far H (w.heap.size) (by omega)))
  have Ai := hide (And.intro Ri (q_far H (w.heap.size + 1) (by omega)))
  have Az := hide (And.intro Rz (q_far H (w.heap.size + 1 + 1) (by omega)))
  have MW := hide (Mv.of_below q BA)
  have OO := hide (H.below BA)
  have LO : Hid (lo ≤ (((w.alloc (.cells #[.int .i64 pc, .int .i64 ln, .slice q ops.length c, .int .i64 en, .int .i64 x, .int .i64 y, .int .i64 k] 42)).alloc (.cells #[.int .i64 10, .int .i64 d, .int .i64 a, .int .i64 ik] 55)).alloc (.cells #[.int .i64 0, .int .i64 0, .slice none 0 0, .int .i64 0, .int .i64 0, .int .i64 0, .int .i64 0] 42)).heap.size) := Nat.le_trans hlo BA.size
  have LB : Hid (w.heap.size < (((w.alloc (.cells #[.int .i64 pc, .int .i64 ln, .slice q ops.length c, .int .i64 en, .int .i64 x, .int .i64 y, .int .i64 k] 42)).alloc (.cells #[.int .i64 10, .int .i64 d, .int .i64 a, .int .i64 ik] 55)).alloc (.cells #[.int .i64 0, .int .i64 0, .slice none 0 0, .int .i64 0, .int .i64 0, .int .i64 0, .int .i64 0] 42)).heap.size) := show _ < _ by simp; try omega
  clear BA H Rb Ri Rz
  go_enter Try.func67, Try.ntmps67
  have cb0 := Ab.out.1.cell 0 _ rfl
  have cb1 := Ab.out.1.cell 1 _ rfl
  have cb2 := Ab.out.1.cell 2 _ rfl
  have cb3 := Ab.out.1.cell 3 _ rfl
  have cb4 := Ab.out.1.cell 4 _ rfl
  have cb5 := Ab.out.1.cell 5 _ rfl
  have cb6 := Ab.out.1.cell 6 _ rfl
  have ci2 := Ai.out.1.cell 2 _ rfl
  have ci3 := Ai.out.1.cell 3 _ rfl
  go_wp2_with fail
  refine (l7Reckon ⟨pc, ln, ops, en, x, y, k⟩ 1 a (opC ik) q c lo _ OO.out LO.out (by first | omega | (simp only []; omega))).mono ?_
  rintro e u1 ⟨q1, c1, rfl, RT⟩
  clear cb0 cb1 cb2 cb3 cb4 cb5 cb6
  clear ci2 ci3
  replace Ab := hide (RT.mv.box Ab.out.1 Ab.out.2)
  replace Ai := hide (RT.mv.box Ai.out.1 Ai.out.2)
  replace Az := hide (RT.mv.box Az.out.1 Az.out.2)
  replace MW := hide (MW.out.trans RT.mv)
  replace LO := hide (Nat.le_trans LO.out RT.mv.size)
  replace LB := hide (Nat.lt_of_lt_of_le LB.out RT.mv.size)
  obtain ⟨os1, eo1⟩ : ∃ os1, ops ++ [opG a, opC ik, opD 1 ops.length (ops.length + 1)] = os1 := ⟨_, rfl⟩
  have EO1 := hide eo1
  unfold bx
  simp only [] at RT ⊢
  rw [show ops ++ [opG a, opC ik, opD 1 ops.length (ops.length + 1)] = os1 from eo1] at RT ⊢
  replace OO := hide RT.own
  have LL : Hid (os1.length = ops.length + 3) := show _ = _ by rw [← eo1]; simp
  have nn1 : Hid ((os1.length : Int) = ops.length + 3) := show _ = _ by have := LL.out; omega
  clear RT eo1
  have bo : Below u1.heap.size u1 (u1.alloc (.cells #[.int .i64 pc, .int .i64 ln, .slice q1 os1.length c1, .int .i64 en, .int .i64 x, .int .i64 y, .int .i64 k] 42)) := (Below.refl _ _).alloc (Nat.le_refl _) _
  have Rp := Rec.new u1 [.int .i64 pc, .int .i64 ln, .slice q1 os1.length c1, .int .i64 en, .int .i64 x, .int .i64 y, .int .i64 k] 42
  have Ap := hide (And.intro Rp (q_far OO.out u1.heap.size (Nat.le_refl _)))
  replace Ab := hide (And.intro (Ab.out.1.below bo) Ab.out.2)
  replace Ai := hide (And.intro (Ai.out.1.below bo) Ai.out.2)
  replace Az := hide (And.intro (Az.out.1.below bo) Az.out.2)
  replace MW := hide (MW.out.trans (Mv.of_below _ bo))
  replace OO := hide (OO.out.below bo)
  replace LO := hide (Nat.le_trans LO.out bo.size)
  replace LB := hide (Nat.lt_of_lt_of_le LB.out bo.size)
  clear bo Rp
  have cp0 := Ap.out.1.cell 0 _ rfl
  have cp1 := Ap.out.1.cell 1 _ rfl
  have cp2 := Ap.out.1.cell 2 _ rfl
  have cp3 := Ap.out.1.cell 3 _ rfl
  have cp4 := Ap.out.1.cell 4 _ rfl
  have cp5 := Ap.out.1.cell 5 _ rfl
  have cp6 := Ap.out.1.cell 6 _ rfl
  have ci0 := Ai.out.1.cell 0 _ rfl
  have ci1 := Ai.out.1.cell 1 _ rfl
  go_wp2_with fail
  refine (l7Get ⟨pc, ln, os1, en, x, y, k⟩ d q1 c1 lo _ OO.out LO.out (by have := LL.out; first | omega | (simp only []; omega))).mono ?_
  rintro e u2 ⟨q2, c2, rfl, RT⟩
  clear cp0 cp1 cp2 cp3 cp4 cp5 cp6
  clear ci0 ci1
  replace Ab := hide (RT.mv.box Ab.out.1 Ab.out.2)
  replace Ai := hide (RT.mv.box Ai.out.1 Ai.out.2)
  replace Az := hide (RT.mv.box Az.out.1 Az.out.2)
  replace Ap := hide (RT.mv.box Ap.out.1 Ap.out.2)
  replace MW := hide (MW.out.trans RT.mv)
  replace LO := hide (Nat.le_trans LO.out RT.mv.size)
  replace LB := hide (Nat.lt_of_lt_of_le LB.out RT.mv.size)
  obtain ⟨os2, eo2⟩ : ∃ os2, os1 ++ [opG d] = os2 := ⟨_, rfl⟩
  have EO2 := hide eo2
  unfold bx
  simp only [] at RT ⊢
  rw [show os1 ++ [opG d] = os2 from eo2] at RT ⊢
  replace OO := hide RT.own
  replace LL : Hid (os2.length = ops.length + 4) := show _ = _ by rw [← eo2]; simp; have := LL.out; omega
  have nn2 : Hid ((os2.length : Int) = ops.length + 4) := show _ = _ by have := LL.out; omega
  clear RT eo2
  have bo : Below u2.heap.size u2 (u2.alloc (.cells #[.int .i64 pc, .int .i64 ln, .slice q2 os2.length c2, .int .i64 en, .int .i64 x, .int .i64 y, .int .i64 k] 42)) := (Below.refl _ _).alloc (Nat.le_refl _) _
  have Rr := Rec.new u2 [.int .i64 pc, .int .i64 ln, .slice q2 os2.length c2, .int .i64 en, .int .i64 x, .int .i64 y, .int .i64 k] 42
  have Ar := hide (And.intro Rr (q_far OO.out u2.heap.size (Nat.le_refl _)))
  replace Ab := hide (And.intro (Ab.out.1.below bo) Ab.out.2)
  replace Ai := hide (And.intro (Ai.out.1.below bo) Ai.out.2)
  replace Az := hide (And.intro (Az.out.1.below bo) Az.out.2)
  replace Ap := hide (And.intro (Ap.out.1.below bo) Ap.out.2)
  replace MW := hide (MW.out.trans (Mv.of_below _ bo))
  replace OO := hide (OO.out.below bo)
  replace LO := hide (Nat.le_trans LO.out bo.size)
  replace LB := hide (Nat.lt_of_lt_of_le LB.out bo.size)
  clear bo Rr
  have cr0 := Ar.out.1.cell 0 _ rfl
  have cr1 := Ar.out.1.cell 1 _ rfl
  have cr2 := Ar.out.1.cell 2 _ rfl
  have cr3 := Ar.out.1.cell 3 _ rfl
  have cr4 := Ar.out.1.cell 4 _ rfl
  have cr5 := Ar.out.1.cell 5 _ rfl
  have cr6 := Ar.out.1.cell 6 _ rfl
  go_wp2_with fail
  refine (l7Put ⟨pc, ln, os2, en, x, y, k⟩ (opT (ops.length + 2) os1.length t) q2 c2 lo _ OO.out LO.out (by have := LL.out; first | omega | (simp only []; omega))).mono ?_
  rintro e u3 ⟨q3, c3, rfl, RT⟩
  clear cr0 cr1 cr2 cr3 cr4 cr5 cr6
  replace Ab := hide (RT.mv.box Ab.out.1 Ab.out.2)
  replace Ai := hide (RT.mv.box Ai.out.1 Ai.out.2)
  replace Az := hide (RT.mv.box Az.out.1 Az.out.2)
  replace Ap := hide (RT.mv.box Ap.out.1 Ap.out.2)
  replace Ar := hide (RT.mv.box Ar.out.1 Ar.out.2)
  replace MW := hide (MW.out.trans RT.mv)
  replace LO := hide (Nat.le_trans LO.out RT.mv.size)
  replace LB := hide (Nat.lt_of_lt_of_le LB.out RT.mv.size)
  obtain ⟨os3, eo3⟩ : ∃ os3, os2 ++ [opT (ops.length + 2) os1.length t] = os3 := ⟨_, rfl⟩
  have EO3 := hide eo3
  unfold bx
  simp only [] at RT ⊢
  rw [show os2 ++ [opT (ops.length + 2) os1.length t] = os3 from eo3] at RT ⊢
  replace OO := hide RT.own
  replace LL : Hid (os3.length = ops.length + 5) := show _ = _ by rw [← eo3]; simp; have := LL.out; omega
  have nn3 : Hid ((os3.length : Int) = ops.length + 5) := show _ = _ by have := LL.out; omega
  clear RT eo3
  have bo : Below u3.heap.size u3 (u3.alloc (.cells #[.int .i64 pc, .int .i64 ln, .slice q3 os3.length c3, .int .i64 en, .int .i64 x, .int .i64 y, .int .i64 k] 42)) := (Below.refl _ _).alloc (Nat.le_refl _) _
  have Rs := Rec.new u3 [.int .i64 pc, .int .i64 ln, .slice q3 os3.length c3, .int .i64 en, .int .i64 x, .int .i64 y, .int .i64 k] 42
  have As := hide (And.intro Rs (q_far OO.out u3.heap.size (Nat.le_refl _)))
  replace Ab := hide (And.intro (Ab.out.1.below bo) Ab.out.2)
  replace Ai := hide (And.intro (Ai.out.1.below bo) Ai.out.2)
  replace Az := hide (And.intro (Az.out.1.below bo) Az.out.2)
  replace Ap := hide (And.intro (Ap.out.1.below bo) Ap.out.2)
  replace Ar := hide (And.intro (Ar.out.1.below bo) Ar.out.2)
  replace MW := hide (MW.out.trans (Mv.of_below _ bo))
  replace OO := hide (OO.out.below bo)
  replace LO := hide (Nat.le_trans LO.out bo.size)
  replace LB := hide (Nat.lt_of_lt_of_le LB.out bo.size)
  clear bo Rs
  have cs0 := As.out.1.cell 0 _ rfl
  have cs1 := As.out.1.cell 1 _ rfl
  have cs2 := As.out.1.cell 2 _ rfl
  have cs3 := As.out.1.cell 3 _ rfl
  have cs4 := As.out.1.cell 4 _ rfl
  have cs5 := As.out.1.cell 5 _ rfl
  have cs6 := As.out.1.cell 6 _ rfl
  go_wp2_with (refine lay7 rfl rfl _ _ rfl (w.heap.size + 1 + 1) _ _ _ _ _ _ _ Az.out.1 rfl _ _ _ _ _ _ _ _ _ rfl ?_; intro v9 RB TB; refine Hid.out ?_)
  replace OO := hide (OO.out.apart TB.out (fun G e h => Az.out.2 (by rw [e, h])))
  replace MW := hide (MW.out.turn TB.out (by omega))
  have z0 := RB.out.cell 0 _ rfl
  have z1 := RB.out.cell 1 _ rfl
  have z2 := RB.out.cell 2 _ rfl
  have z3 := RB.out.cell 3 _ rfl
  have z4 := RB.out.cell 4 _ rfl
  have z5 := RB.out.cell 5 _ rfl
  have z6 := RB.out.cell 6 _ rfl
  clear RB TB Ab Ai Az Ap Ar As cs0 cs1 cs2 cs3 cs4 cs5 cs6
  refine hide ?_
  go_wp2
  refine bodyPost_ret (v := .agg #[.int .i64 pc, .int .i64 ln, .slice q3 os3.length c3, .int .i64 en, .int .i64 x, .int .i64 y, .int .i64 k]) (by simp [results, Try.results67, go_sem, z0, z1, z2, z3, z4, z5, z6]) rfl ?_
  have EQ : os3 = ops ++ [opG a, opC ik, opD 1 ops.length (ops.length + 1), opG d, opT (ops.length + 2) (ops.length + 3) t] := by
    first
      | (rw [← EO3.out, ← EO2.out, ← EO1.out]; done)
      | (rw [← EO3.out, ← EO2.out, ← EO1.out]; simp [nn1.out, nn2.out])
  refine ⟨q3, c3, ?_, ?_⟩
  · first
      | (rw [← EQ]; done)
      | (rw [← EQ]; rfl)
      | (rw [← EQ]; simp [nn1.out, nn2.out])
  · rw [← EQ]; exact ⟨OO.out, MW.out⟩
set_option maxRecDepth 8000 in
set_option maxHeartbeats 8000000 in
theorem l7Last13 (b : Bk) (d a ik : Int) (q : Option Addr) (c lo : Nat) (w : World) (H : OwnO w lo (.slice q b.ops.length c) b.ops) (hlo : lo ≤ w.heap.size) (hl : b.ops.length ≤ 1000) :
    Calls Try.prog 68 #[bx b q c, .agg #[.int .i64 13, .int .i64 d, .int .i64 a, .int .i64 ik]] w fun e w' => ∃ q' c', e = .returned ((bx ⟨b.pc, b.ln, b.ops ++ [opG a], 2, b.ops.length, b.y, 0⟩ q' c')) ∧ Ret w lo q w' (⟨b.pc, b.ln, b.ops ++ [opG a], 2, b.ops.length, b.y, 0⟩) q' c' := by
  obtain ⟨pc, ln, ops, en, x, y, k⟩ := b
  unfold bx
  simp only [] at H hl ⊢
  have Rb := Rec.new w [.int .i64 pc, .int .i64 ln, .slice q ops.length c, .int .i64 en, .int .i64 x, .int .i64 y, .int .i64 k] 42
  replace Rb := Rb.alloc (.cells #[.int .i64 13, .int .i64 d, .int .i64 a, .int .i64 ik] 55)
  replace Rb := Rb.alloc (.cells #[.int .i64 0, .int .i64 0, .slice none 0 0, .int .i64 0, .int .i64 0, .int .i64 0, .int .i64 0] 42)
  have Ri := Rec.new (w.alloc (.cells #[.int .i64 pc, .int .i64 ln, .slice q ops.length c, .int .i64 en, .int .i64 x, .int .i64 y, .int .i64 k] 42)) [.int .i64 13, .int .i64 d, .int .i64 a, .int .i64 ik] 55
  rw [show (w.alloc (.cells #[.int .i64 pc, .int .i64 ln, .slice q ops.length c, .int .i64 en, .int .i64 x, .int .i64 y, .int .i64 k] 42)).heap.size = w.heap.size + 1 by simp] at Ri
  replace Ri := Ri.alloc (.cells #[.int .i64 0, .int .i64 0, .slice none 0 0, .int .i64 0, .int .i64 0, .int .i64 0, .int .i64 0] 42)
  have Rz := Rec.new ((w.alloc (.cells #[.int .i64 pc, .int .i64 ln, .slice q ops.length c, .int .i64 en, .int .i64 x, .int .i64 y, .int .i64 k] 42)).alloc (.cells #[.int .i64 13, .int .i64 d, .int .i64 a, .int .i64 ik] 55)) [.int .i64 0, .int .i64 0, .slice none 0 0, .int .i64 0, .int .i64 0, .int .i64 0, .int .i64 0] 42
  rw [show ((w.alloc (.cells #[.int .i64 pc, .int .i64 ln, .slice q ops.length c, .int .i64 en, .int .i64 x, .int .i64 y, .int .i64 k] 42)).alloc (.cells #[.int .i64 13, .int .i64 d, .int .i64 a, .int .i64 ik] 55)).heap.size = w.heap.size + 1 + 1 by simp] at Rz
  have BA : Below w.heap.size w (((w.alloc (.cells #[.int .i64 pc, .int .i64 ln, .slice q ops.length c, .int .i64 en, .int .i64 x, .int .i64 y, .int .i64 k] 42)).alloc (.cells #[.int .i64 13, .int .i64 d, .int .i64 a, .int .i64 ik] 55)).alloc (.cells #[.int .i64 0, .int .i64 0, .slice none 0 0, .int .i64 0, .int .i64 0, .int .i64 0, .int .i64 0] 42)) := ((((Below.refl w.heap.size w).alloc (Nat.le_refl _) _).alloc (by simp; try omega) _).alloc (by simp; try omega) _)
  have Ab := hide (And.intro Rb (q_far H (w.heap.size) (by omega)))
  have Ai := hide (And.intro Ri (q_far H (w.heap.size + 1) (by omega)))
  have Az := hide (And.intro Rz (q_far H (w.heap.size + 1 + 1) (by omega)))
  have MW := hide (Mv.of_below q BA)
  have OO := hide (H.below BA)
  have LO : Hid (lo ≤ (((w.alloc (.cells #[.int .i64 pc, .int .i64 ln, .slice q ops.length c, .int .i64 en, .int .i64 x, .int .i64 y, .int .i64 k] 42)).alloc (.cells #[.int .i64 13, .int .i64 d, .int .i64 a, .int .i64 ik] 55)).alloc (.cells #[.int .i64 0, .int .i64 0, .slice none 0 0, .int .i64 0, .int .i64 0, .int .i64 0, .int .i64 0] 42)).heap.size) := Nat.le_trans hlo BA.size
  have LB : Hid (w.heap.size < (((w.alloc (.cells #[.int .i64 pc, .int .i64 ln, .slice q ops.length c, .int .i64 en, .int .i64 x, .int .i64 y, .int .i64 k] 42)).alloc (.cells #[.int .i64 13, .int .i64 d, .int .i64 a, .int .i64 ik] 55)).alloc (.cells #[.int .i64 0, .int .i64 0, .slice none 0 0, .int .i64 0, .int .i64 0, .int .i64 0, .int .i64 0] 42)).heap.size) := show _ < _ by simp; try omega
  clear BA H Rb Ri Rz
  go_enter Try.func68, Try.ntmps68
  have cb0 := Ab.out.1.cell 0 _ rfl
  have cb1 := Ab.out.1.cell 1 _ rfl
  have cb2 := Ab.out.1.cell 2 _ rfl
  have cb3 := Ab.out.1.cell 3 _ rfl
  have cb4 := Ab.out.1.cell 4 _ rfl
  have cb5 := Ab.out.1.cell 5 _ rfl
  have cb6 := Ab.out.1.cell 6 _ rfl
  have ci0 := Ai.out.1.cell 0 _ rfl
  have ci2 := Ai.out.1.cell 2 _ rfl
  go_wp2_with fail
  refine (l7Get ⟨pc, ln, ops, en, x, y, k⟩ a q c lo _ OO.out LO.out (by first | omega | (simp only []; omega))).mono ?_
  rintro e u1 ⟨q1, c1, rfl, RT⟩
  clear cb0 cb1 cb2 cb3 cb4 cb5 cb6
  clear ci0 ci2
  replace Ab := hide (RT.mv.box Ab.out.1 Ab.out.2)
  replace Ai := hide (RT.mv.box Ai.out.1 Ai.out.2)
  replace Az := hide (RT.mv.box Az.out.1 Az.out.2)
  replace MW := hide (MW.out.trans RT.mv)
  replace LO := hide (Nat.le_trans LO.out RT.mv.size)
  replace LB := hide (Nat.lt_of_lt_of_le LB.out RT.mv.size)
  obtain ⟨os1, eo1⟩ : ∃ os1, ops ++ [opG a] = os1 := ⟨_, rfl⟩
  have EO1 := hide eo1
  unfold bx
  simp only [] at RT ⊢
  rw [show ops ++ [opG a] = os1 from eo1] at RT ⊢
  replace OO := hide RT.own
  have LL : Hid (os1.length = ops.length + 1) := show _ = _ by rw [← eo1]; simp
  have nn1 : Hid ((os1.length : Int) = ops.length + 1) := show _ = _ by have := LL.out; omega
  clear RT eo1
  have bo : Below u1.heap.size u1 (u1.alloc (.cells #[.int .i64 pc, .int .i64 ln, .slice q1 os1.length c1, .int .i64 2, .int .i64 ops.length, .int .i64 y, .int .i64 0] 42)) := (Below.refl _ _).alloc (Nat.le_refl _) _
  have Rp := Rec.new u1 [.int .i64 pc, .int .i64 ln, .slice q1 os1.length c1, .int .i64 2, .int .i64 ops.length, .int .i64 y, .int .i64 0] 42
  have Ap := hide (And.intro Rp (q_far OO.out u1.heap.size (Nat.le_refl _)))
  replace Ab := hide (And.intro (Ab.out.1.below bo) Ab.out.2)
  replace Ai := hide (And.intro (Ai.out.1.below bo) Ai.out.2)
  replace Az := hide (And.intro (Az.out.1.below bo) Az.out.2)
  replace MW := hide (MW.out.trans (Mv.of_below _ bo))
  replace OO := hide (OO.out.below bo)
  replace LO := hide (Nat.le_trans LO.out bo.size)
  replace LB := hide (Nat.lt_of_lt_of_le LB.out bo.size)
  clear bo Rp
  have cp0 := Ap.out.1.cell 0 _ rfl
  have cp1 := Ap.out.1.cell 1 _ rfl
  have cp2 := Ap.out.1.cell 2 _ rfl
  have cp3 := Ap.out.1.cell 3 _ rfl
  have cp4 := Ap.out.1.cell 4 _ rfl
  have cp5 := Ap.out.1.cell 5 _ rfl
  have cp6 := Ap.out.1.cell 6 _ rfl
  go_wp2_with (refine lay7 rfl rfl _ _ rfl (w.heap.size + 1 + 1) _ _ _ _ _ _ _ Az.out.1 rfl _ _ _ _ _ _ _ _ _ rfl ?_; intro v9 RB TB; refine Hid.out ?_)
  replace OO := hide (OO.out.apart TB.out (fun G e h => Az.out.2 (by rw [e, h])))
  replace MW := hide (MW.out.turn TB.out (by omega))
  have z0 := RB.out.cell 0 _ rfl
  have z1 := RB.out.cell 1 _ rfl
  have z2 := RB.out.cell 2 _ rfl
  have z3 := RB.out.cell 3 _ rfl
  have z4 := RB.out.cell 4 _ rfl
  have z5 := RB.out.cell 5 _ rfl
  have z6 := RB.out.cell 6 _ rfl
  clear RB TB Ab Ai Az Ap cp0 cp1 cp2 cp3 cp4 cp5 cp6
  refine hide ?_
  go_wp2
  refine bodyPost_ret (v := .agg #[.int .i64 pc, .int .i64 ln, .slice q1 os1.length c1, .int .i64 2, .int .i64 ops.length, .int .i64 y, .int .i64 0]) (by simp [results, Try.results68, go_sem, z0, z1, z2, z3, z4, z5, z6]) rfl ?_
  have EQ : os1 = ops ++ [opG a] := by
    first
      | (rw [← EO1.out]; done)
      | (rw [← EO1.out]; simp)
  refine ⟨q1, c1, ?_, ?_⟩
  · first
      | (rw [← EQ]; done)
      | (rw [← EQ]; rfl)
      | (rw [← EQ]; simp)
  · rw [← EQ]; exact ⟨OO.out, MW.out⟩
set_option maxRecDepth 8000 in
set_option maxHeartbeats 8000000 in
theorem l7Last11 (b : Bk) (d a ik : Int) (q : Option Addr) (c lo : Nat) (w : World) (H : OwnO w lo (.slice q b.ops.length c) b.ops) (hlo : lo ≤ w.heap.size) (hl : b.ops.length ≤ 1000) :
    Calls Try.prog 68 #[bx b q c, .agg #[.int .i64 11, .int .i64 d, .int .i64 a, .int .i64 ik]] w fun e w' => ∃ q' c', e = .returned ((bx ⟨b.pc, b.ln, b.ops ++ [opG d, opG a], 3, b.ops.length, (b.ops.length + 1), ik⟩ q' c')) ∧ Ret w lo q w' (⟨b.pc, b.ln, b.ops ++ [opG d, opG a], 3, b.ops.length, (b.ops.length + 1), ik⟩) q' c' := by
  obtain ⟨pc, ln, ops, en, x, y, k⟩ := b
  unfold bx
  simp only [] at H hl ⊢
  have Rb := Rec.new w [.int .i64 pc, .int .i64 ln, .slice q ops.length c, .int .i64 en, .int .i64 x, .int .i64 y, .int .i64 k] 42
  replace Rb := Rb.alloc (.cells #[.int .i64 11, .int .i64 d, .int .i64 a, .int .i64 ik] 55)
  replace Rb := Rb.alloc (.cells #[.int .i64 0, .int .i64 0, .slice none 0 0, .int .i64 0, .int .i64 0, .int .i64 0, .int .i64 0] 42)
  have Ri := Rec.new (w.alloc (.cells #[.int .i64 pc, .int .i64 ln, .slice q ops.length c, .int .i64 en, .int .i64 x, .int .i64 y, .int .i64 k] 42)) [.int .i64 11, .int .i64 d, .int .i64 a, .int .i64 ik] 55
  rw [show (w.alloc (.cells #[.int .i64 pc, .int .i64 ln, .slice q ops.length c, .int .i64 en, .int .i64 x, .int .i64 y, .int .i64 k] 42)).heap.size = w.heap.size + 1 by simp] at Ri
  replace Ri := Ri.alloc (.cells #[.int .i64 0, .int .i64 0, .slice none 0 0, .int .i64 0, .int .i64 0, .int .i64 0, .int .i64 0] 42)
  have Rz := Rec.new ((w.alloc (.cells #[.int .i64 pc, .int .i64 ln, .slice q ops.length c, .int .i64 en, .int .i64 x, .int .i64 y, .int .i64 k] 42)).alloc (.cells #[.int .i64 11, .int .i64 d, .int .i64 a, .int .i64 ik] 55)) [.int .i64 0, .int .i64 0, .slice none 0 0, .int .i64 0, .int .i64 0, .int .i64 0, .int .i64 0] 42
  rw [show ((w.alloc (.cells #[.int .i64 pc, .int .i64 ln, .slice q ops.length c, .int .i64 en, .int .i64 x, .int .i64 y, .int .i64 k] 42)).alloc (.cells #[.int .i64 11, .int .i64 d, .int .i64 a, .int .i64 ik] 55)).heap.size = w.heap.size + 1 + 1 by simp] at Rz
  have BA : Below w.heap.size w (((w.alloc (.cells #[.int .i64 pc, .int .i64 ln, .slice q ops.length c, .int .i64 en, .int .i64 x, .int .i64 y, .int .i64 k] 42)).alloc (.cells #[.int .i64 11, .int .i64 d, .int .i64 a, .int .i64 ik] 55)).alloc (.cells #[.int .i64 0, .int .i64 0, .slice none 0 0, .int .i64 0, .int .i64 0, .int .i64 0, .int .i64 0] 42)) := ((((Below.refl w.heap.size w).alloc (Nat.le_refl _) _).alloc (by simp; try omega) _).alloc (by simp; try omega) _)
  have Ab := hide (And.intro Rb (q_far H (w.heap.size) (by omega)))
  have Ai := hide (And.intro Ri (q_far H (w.heap.size + 1) (by omega)))
  have Az := hide (And.intro Rz (q_far H (w.heap.size + 1 + 1) (by omega)))
  have MW := hide (Mv.of_below q BA)
  have OO := hide (H.below BA)
  have LO : Hid (lo ≤ (((w.alloc (.cells #[.int .i64 pc, .int .i64 ln, .slice q ops.length c, .int .i64 en, .int .i64 x, .int .i64 y, .int .i64 k] 42)).alloc (.cells #[.int .i64 11, .int .i64 d, .int .i64 a, .int .i64 ik] 55)).alloc (.cells #[.int .i64 0, .int .i64 0, .slice none 0 0, .int .i64 0, .int .i64 0, .int .i64 0, .int .i64 0] 42)).heap.size) := Nat.le_trans hlo BA.size
  have LB : Hid (w.heap.size < (((w.alloc (.cells #[.int .i64 pc, .int .i64 ln, .slice q ops.length c, .int .i64 en, .int .i64 x, .int .i64 y, .int .i64 k] 42)).alloc (.cells #[.int .i64 11, .int .i64 d, .int .i64 a, .int .i64 ik] 55)).alloc (.cells #[.int .i64 0, .int .i64 0, .slice none 0 0, .int .i64 0, .int .i64 0, .int .i64 0, .int .i64 0] 42)).heap.size) := show _ < _ by simp; try omega
  clear BA H Rb Ri Rz
  go_enter Try.func68, Try.ntmps68
  have cb0 := Ab.out.1.cell 0 _ rfl
  have cb1 := Ab.out.1.cell 1 _ rfl
  have cb2 := Ab.out.1.cell 2 _ rfl
  have cb3 := Ab.out.1.cell 3 _ rfl
  have cb4 := Ab.out.1.cell 4 _ rfl
  have cb5 := Ab.out.1.cell 5 _ rfl
  have cb6 := Ab.out.1.cell 6 _ rfl
  have ci0 := Ai.out.1.cell 0 _ rfl
  have ci1 := Ai.out.1.cell 1 _ rfl
  go_wp2_with fail
  refine (l7Get ⟨pc, ln, ops, en, x, y, k⟩ d q c lo _ OO.out LO.out (by first | omega | (simp only []; omega))).mono ?_
  rintro e u1 ⟨q1, c1, rfl, RT⟩
  clear cb0 cb1 cb2 cb3 cb4 cb5 cb6
  clear ci0 ci1
  replace Ab := hide (RT.mv.box Ab.out.1 Ab.out.2)
  replace Ai := hide (RT.mv.box Ai.out.1 Ai.out.2)
  replace Az := hide (RT.mv.box Az.out.1 Az.out.2)
  replace MW := hide (MW.out.trans RT.mv)
  replace LO := hide (Nat.le_trans LO.out RT.mv.size)
  replace LB := hide (Nat.lt_of_lt_of_le LB.out RT.mv.size)
  obtain ⟨os1, eo1⟩ : ∃ os1, ops ++ [opG d] = os1 := ⟨_, rfl⟩
  have EO1 := hide eo1
  unfold bx
  simp only [] at RT ⊢
  rw [show ops ++ [opG d] = os1 from eo1] at RT ⊢
  replace OO := hide RT.own
  have LL : Hid (os1.length = ops.length + 1) := show _ = _ by rw [← eo1]; simp
  have nn1 : Hid ((os1.length : Int) = ops.length + 1) := show _ = _ by have := LL.out; omega
  clear RT eo1
  have bo : Below u1.heap.size u1 (u1.alloc (.cells #[.int .i64 pc, .int .i64 ln, .slice q1 os1.length c1, .int .i64 en, .int .i64 x, .int .i64 y, .int .i64 k] 42)) := (Below.refl _ _).alloc (Nat.le_refl _) _
  have Rp := Rec.new u1 [.int .i64 pc, .int .i64 ln, .slice q1 os1.length c1, .int .i64 en, .int .i64 x, .int .i64 y, .int .i64 k] 42
  have Ap := hide (And.intro Rp (q_far OO.out u1.heap.size (Nat.le_refl _)))
  replace Ab := hide (And.intro (Ab.out.1.below bo) Ab.out.2)
  replace Ai := hide (And.intro (Ai.out.1.below bo) Ai.out.2)
  replace Az := hide (And.intro (Az.out.1.below bo) Az.out.2)
  replace MW := hide (MW.out.trans (Mv.of_below _ bo))
  replace OO := hide (OO.out.below bo)
  replace LO := hide (Nat.le_trans LO.out bo.size)
  replace LB := hide (Nat.lt_of_lt_of_le LB.out bo.size)
  clear bo Rp
  have cp0 := Ap.out.1.cell 0 _ rfl
  have cp1 := Ap.out.1.cell 1 _ rfl
  have cp2 := Ap.out.1.cell 2 _ rfl
  have cp3 := Ap.out.1.cell 3 _ rfl
  have cp4 := Ap.out.1.cell 4 _ rfl
  have cp5 := Ap.out.1.cell 5 _ rfl
  have cp6 := Ap.out.1.cell 6 _ rfl
  have ci2 := Ai.out.1.cell 2 _ rfl
  go_wp2_with fail
  refine (l7Get ⟨pc, ln, os1, en, x, y, k⟩ a q1 c1 lo _ OO.out LO.out (by have := LL.out; first | omega | (simp only []; omega))).mono ?_
  rintro e u2 ⟨q2, c2, rfl, RT⟩
  clear cp0 cp1 cp2 cp3 cp4 cp5 cp6
  clear ci2
  replace Ab := hide (RT.mv.box Ab.out.1 Ab.out.2)
  replace Ai := hide (RT.mv.box Ai.out.1 Ai.out.2)
  replace Az := hide (RT.mv.box Az.out.1 Az.out.2)
  replace Ap := hide (RT.mv.box Ap.out.1 Ap.out.2)
  replace MW := hide (MW.out.trans RT.mv)
  replace LO := hide (Nat.le_trans LO.out RT.mv.size)
  replace LB := hide (Nat.lt_of_lt_of_le LB.out RT.mv.size)
  obtain ⟨os2, eo2⟩ : ∃ os2, os1 ++ [opG a] = os2 := ⟨_, rfl⟩
  have EO2 := hide eo2
  unfold bx
  simp only [] at RT ⊢
  rw [show os1 ++ [opG a] = os2 from eo2] at RT ⊢
  replace OO := hide RT.own
  replace LL : Hid (os2.length = ops.length + 2) := show _ = _ by rw [← eo2]; simp; have := LL.out; omega
  have nn2 : Hid ((os2.length : Int) = ops.length + 2) := show _ = _ by have := LL.out; omega
  clear RT eo2
  have x0 := (Ai.out.1.below ((Below.refl u2.heap.size u2).alloc (Nat.le_refl _) (.cells #[.int .i64 pc, .int .i64 ln, .slice q2 os2.length c2, .int .i64 3, .int .i64 x, .int .i64 y, .int .i64 k] 42))).cell 0 _ rfl
  have x1 := (Ai.out.1.below ((Below.refl u2.heap.size u2).alloc (Nat.le_refl _) (.cells #[.int .i64 pc, .int .i64 ln, .slice q2 os2.length c2, .int .i64 3, .int .i64 ops.length, .int .i64 os1.length, .int .i64 k] 42))).cell 3 _ rfl
  have bo : Below u2.heap.size u2 (u2.alloc (.cells #[.int .i64 pc, .int .i64 ln, .slice q2 os2.length c2, .int .i64 3, .int .i64 ops.length, .int .i64 os1.length, .int .i64 ik] 42)) := (Below.refl _ _).alloc (Nat.le_refl _) _
  have Rr := Rec.new u2 [.int .i64 pc, .int .i64 ln, .slice q2 os2.length c2, .int .i64 3, .int .i64 ops.length, .int .i64 os1.length, .int .i64 ik] 42
  have Ar := hide (And.intro Rr (q_far OO.out u2.heap.size (Nat.le_refl _)))
  replace Ab := hide (And.intro (Ab.out.1.below bo) Ab.out.2)
  replace Ai := hide (And.intro (Ai.out.1.below bo) Ai.out.2)
  replace Az := hide (And.intro (Az.out.1.below bo) Az.out.2)
  replace Ap := hide (And.intro (Ap.out.1.below bo) Ap.out.2)
  replace MW := hide (MW.out.trans (Mv.of_below _ bo))
  replace OO := hide (OO.out.below bo)
  replace LO := hide (Nat.le_trans LO.out bo.size)
  replace LB := hide (Nat.lt_of_lt_of_le LB.out bo.size)
  clear bo Rr
  have cr0 := Ar.out.1.cell 0 _ rfl
  have cr1 := Ar.out.1.cell 1 _ rfl
  have cr2 := Ar.out.1.cell 2 _ rfl
  have cr3 := Ar.out.1.cell 3 _ rfl
  have cr4 := Ar.out.1.cell 4 _ rfl
  have cr5 := Ar.out.1.cell 5 _ rfl
  have cr6 := Ar.out.1.cell 6 _ rfl
  go_wp2_with (refine lay7 rfl rfl _ _ rfl (w.heap.size + 1 + 1) _ _ _ _ _ _ _ Az.out.1 rfl _ _ _ _ _ _ _ _ _ rfl ?_; intro v9 RB TB; refine Hid.out ?_)
  replace OO := hide (OO.out.apart TB.out (fun G e h => Az.out.2 (by rw [e, h])))
  replace MW := hide (MW.out.turn TB.out (by omega))
  have z0 := RB.out.cell 0 _ rfl
  have z1 := RB.out.cell 1 _ rfl
  have z2 := RB.out.cell 2 _ rfl
  have z3 := RB.out.cell 3 _ rfl
  have z4 := RB.out.cell 4 _ rfl
  have z5 := RB.out.cell 5 _ rfl
  have z6 := RB.out.cell 6 _ rfl
  clear RB TB Ab Ai Az Ap Ar cr0 cr1 cr2 cr3 cr4 cr5 cr6
  refine hide ?_
  go_wp2
  refine bodyPost_ret (v := .agg #[.int .i64 pc, .int .i64 ln, .slice q2 os2.length c2, .int .i64 3, .int .i64 ops.length, .int .i64 os1.length, .int .i64 ik]) (by simp [results, Try.results68, go_sem, z0, z1, z2, z3, z4, z5, z6]) rfl ?_
  have EQ : os2 = ops ++ [opG d, opG a] := by
    first
      | (rw [← EO2.out, ← EO1.out]; done)
      | (rw [← EO2.out, ← EO1.out]; simp [nn1.out])
  refine ⟨q2, c2, ?_, ?_⟩
  · first
      | (rw [← EQ]; done)
      | (rw [← EQ]; rfl)
      | (rw [← EQ]; simp [nn1.out])
  · rw [← EQ]; exact ⟨OO.out, MW.out⟩
set_option maxRecDepth 8000 in
set_option maxHeartbeats 8000000 in
theorem l7Last12 (b : Bk) (d a ik : Int) (q : Option Addr) (c lo : Nat) (w : World) (H : OwnO w lo (.slice q b.ops.length c) b.ops) (hlo : lo ≤ w.heap.size) (hl : b.ops.length ≤ 1000) :
    Calls Try.prog 68 #[bx b q c, .agg #[.int .i64 12, .int .i64 d, .int .i64 a, .int .i64 ik]] w fun e w' => ∃ q' c', e = .returned ((bx ⟨b.pc, b.ln, b.ops ++ [opG d, opG a], 4, b.ops.length, (b.ops.length + 1), ik⟩ q' c')) ∧ Ret w lo q w' (⟨b.pc, b.ln, b.ops ++ [opG d, opG a], 4, b.ops.length, (b.ops.length + 1), ik⟩) q' c' := by
  obtain ⟨pc, ln, ops, en, x, y, k⟩ := b
  unfold bx
  simp only [] at H hl ⊢
  have Rb := Rec.new w [.int .i64 pc, .int .i64 ln, .slice q ops.length c, .int .i64 en, .int .i64 x, .int .i64 y, .int .i64 k] 42
  replace Rb := Rb.alloc (.cells #[.int .i64 12, .int .i64 d, .int .i64 a, .int .i64 ik] 55)
  replace Rb := Rb.alloc (.cells #[.int .i64 0, .int .i64 0, .slice none 0 0, .int .i64 0, .int .i64 0, .int .i64 0, .int .i64 0] 42)
  have Ri := Rec.new (w.alloc (.cells #[.int .i64 pc, .int .i64 ln, .slice q ops.length c, .int .i64 en, .int .i64 x, .int .i64 y, .int .i64 k] 42)) [.int .i64 12, .int .i64 d, .int .i64 a, .int .i64 ik] 55
  rw [show (w.alloc (.cells #[.int .i64 pc, .int .i64 ln, .slice q ops.length c, .int .i64 en, .int .i64 x, .int .i64 y, .int .i64 k] 42)).heap.size = w.heap.size + 1 by simp] at Ri
  replace Ri := Ri.alloc (.cells #[.int .i64 0, .int .i64 0, .slice none 0 0, .int .i64 0, .int .i64 0, .int .i64 0, .int .i64 0] 42)
  have Rz := Rec.new ((w.alloc (.cells #[.int .i64 pc, .int .i64 ln, .slice q ops.length c, .int .i64 en, .int .i64 x, .int .i64 y, .int .i64 k] 42)).alloc (.cells #[.int .i64 12, .int .i64 d, .int .i64 a, .int .i64 ik] 55)) [.int .i64 0, .int .i64 0, .slice none 0 0, .int .i64 0, .int .i64 0, .int .i64 0, .int .i64 0] 42
  rw [show ((w.alloc (.cells #[.int .i64 pc, .int .i64 ln, .slice q ops.length c, .int .i64 en, .int .i64 x, .int .i64 y, .int .i64 k] 42)).alloc (.cells #[.int .i64 12, .int .i64 d, .int .i64 a, .int .i64 ik] 55)).heap.size = w.heap.size + 1 + 1 by simp] at Rz
  have BA : Below w.heap.size w (((w.alloc (.cells #[.int .i64 pc, .int .i64 ln, .slice q ops.length c, .int .i64 en, .int .i64 x, .int .i64 y, .int .i64 k] 42)).alloc (.cells #[.int .i64 12, .int .i64 d, .int .i64 a, .int .i64 ik] 55)).alloc (.cells #[.int .i64 0, .int .i64 0, .slice none 0 0, .int .i64 0, .int .i64 0, .int .i64 0, .int .i64 0] 42)) := ((((Below.refl w.heap.size w).alloc (Nat.le_refl _) _).alloc (by simp; try omega) _).alloc (by simp; try omega) _)
  have Ab := hide (And.intro Rb (q_far H (w.heap.size) (by omega)))
  have Ai := hide (And.intro Ri (q_far H (w.heap.size + 1) (by omega)))
  have Az := hide (And.intro Rz (q_far H (w.heap.size + 1 + 1) (by omega)))
  have MW := hide (Mv.of_below q BA)
  have OO := hide (H.below BA)
  have LO : Hid (lo ≤ (((w.alloc (.cells #[.int .i64 pc, .int .i64 ln, .slice q ops.length c, .int .i64 en, .int .i64 x, .int .i64 y, .int .i64 k] 42)).alloc (.cells #[.int .i64 12, .int .i64 d, .int .i64 a, .int .i64 ik] 55)).alloc (.cells #[.int .i64 0, .int .i64 0, .slice none 0 0, .int .i64 0, .int .i64 0, .int .i64 0, .int .i64 0] 42)).heap.size) := Nat.le_trans hlo BA.size
  have LB : Hid (w.heap.size < (((w.alloc (.cells #[.int .i64 pc, .int .i64 ln, .slice q ops.length c, .int .i64 en, .int .i64 x, .int .i64 y, .int .i64 k] 42)).alloc (.cells #[.int .i64 12, .int .i64 d, .int .i64 a, .int .i64 ik] 55)).alloc (.cells #[.int .i64 0, .int .i64 0, .slice none 0 0, .int .i64 0, .int .i64 0, .int .i64 0, .int .i64 0] 42)).heap.size) := show _ < _ by simp; try omega
  clear BA H Rb Ri Rz
  go_enter Try.func68, Try.ntmps68
  have cb0 := Ab.out.1.cell 0 _ rfl
  have cb1 := Ab.out.1.cell 1 _ rfl
  have cb2 := Ab.out.1.cell 2 _ rfl
  have cb3 := Ab.out.1.cell 3 _ rfl
  have cb4 := Ab.out.1.cell 4 _ rfl
  have cb5 := Ab.out.1.cell 5 _ rfl
  have cb6 := Ab.out.1.cell 6 _ rfl
  have ci0 := Ai.out.1.cell 0 _ rfl
  have ci1 := Ai.out.1.cell 1 _ rfl
  go_wp2_with fail
  refine (l7Get ⟨pc, ln, ops, en, x, y, k⟩ d q c lo _ OO.out LO.out (by first | omega | (simp only []; omega))).mono ?_
  rintro e u1 ⟨q1, c1, rfl, RT⟩
  clear cb0 cb1 cb2 cb3 cb4 cb5 cb6
  clear ci0 ci1
  replace Ab := hide (RT.mv.box Ab.out.1 Ab.out.2)
  replace Ai := hide (RT.mv.box Ai.out.1 Ai.out.2)
  replace Az := hide (RT.mv.box Az.out.1 Az.out.2)
  replace MW := hide (MW.out.trans RT.mv)
  replace LO := hide (Nat.le_trans LO.out RT.mv.size)
  replace LB := hide (Nat.lt_of_lt_of_le LB.out RT.mv.size)
  obtain ⟨os1, eo1⟩ : ∃ os1, ops ++ [opG d] = os1 := ⟨_, rfl⟩
  have EO1 := hide eo1
  unfold bx
  simp only [] at RT ⊢
  rw [show ops ++ [opG d] = os1 from eo1] at RT ⊢
  replace OO := hide RT.own
  have LL : Hid (os1.length = ops.length + 1) := show _ = _ by rw [← eo1]; simp
  have nn1 : Hid ((os1.length : Int) = ops.length + 1) := show _ = _ by have := LL.out; omega
  clear RT eo1
  have bo : Below u1.heap.size u1 (u1.alloc (.cells #[.int .i64 pc, .int .i64 ln, .slice q1 os1.length c1, .int .i64 en, .int .i64 x, .int .i64 y, .int .i64 k] 42)) := (Below.refl _ _).alloc (Nat.le_refl _) _
  have Rp := Rec.new u1 [.int .i64 pc, .int .i64 ln, .slice q1 os1.length c1, .int .i64 en, .int .i64 x, .int .i64 y, .int .i64 k] 42
  have Ap := hide (And.intro Rp (q_far OO.out u1.heap.size (Nat.le_refl _)))
  replace Ab := hide (And.intro (Ab.out.1.below bo) Ab.out.2)
  replace Ai := hide (And.intro (Ai.out.1.below bo) Ai.out.2)
  replace Az := hide (And.intro (Az.out.1.below bo) Az.out.2)
  replace MW := hide (MW.out.trans (Mv.of_below _ bo))
  replace OO := hide (OO.out.below bo)
  replace LO := hide (Nat.le_trans LO.out bo.size)
  replace LB := hide (Nat.lt_of_lt_of_le LB.out bo.size)
  clear bo Rp
  have cp0 := Ap.out.1.cell 0 _ rfl
  have cp1 := Ap.out.1.cell 1 _ rfl
  have cp2 := Ap.out.1.cell 2 _ rfl
  have cp3 := Ap.out.1.cell 3 _ rfl
  have cp4 := Ap.out.1.cell 4 _ rfl
  have cp5 := Ap.out.1.cell 5 _ rfl
  have cp6 := Ap.out.1.cell 6 _ rfl
  have ci2 := Ai.out.1.cell 2 _ rfl
  go_wp2_with fail
  refine (l7Get ⟨pc, ln, os1, en, x, y, k⟩ a q1 c1 lo _ OO.out LO.out (by have := LL.out; first | omega | (simp only []; omega))).mono ?_
  rintro e u2 ⟨q2, c2, rfl, RT⟩
  clear cp0 cp1 cp2 cp3 cp4 cp5 cp6
  clear ci2
  replace Ab := hide (RT.mv.box Ab.out.1 Ab.out.2)
  replace Ai := hide (RT.mv.box Ai.out.1 Ai.out.2)
  replace Az := hide (RT.mv.box Az.out.1 Az.out.2)
  replace Ap := hide (RT.mv.box Ap.out.1 Ap.out.2)
  replace MW := hide (MW.out.trans RT.mv)
  replace LO := hide (Nat.le_trans LO.out RT.mv.size)
  replace LB := hide (Nat.lt_of_lt_of_le LB.out RT.mv.size)
  obtain ⟨os2, eo2⟩ : ∃ os2, os1 ++ [opG a] = os2 := ⟨_, rfl⟩
  have EO2 := hide eo2
  unfold bx
  simp only [] at RT ⊢
  rw [show os1 ++ [opG a] = os2 from eo2] at RT ⊢
  replace OO := hide RT.own
  replace LL : Hid (os2.length = ops.length + 2) := show _ = _ by rw [← eo2]; simp; have := LL.out; omega
  have nn2 : Hid ((os2.length : Int) = ops.length + 2) := show _ = _ by have := LL.out; omega
  clear RT eo2
  have x0 := (Ai.out.1.below ((Below.refl u2.heap.size u2).alloc (Nat.le_refl _) (.cells #[.int .i64 pc, .int .i64 ln, .slice q2 os2.length c2, .int .i64 3, .int .i64 x, .int .i64 y, .int .i64 k] 42))).cell 0 _ rfl
  have x1 := (Ai.out.1.below ((Below.refl u2.heap.size u2).alloc (Nat.le_refl _) (.cells #[.int .i64 pc, .int .i64 ln, .slice q2 os2.length c2, .int .i64 4, .int .i64 ops.length, .int .i64 os1.length, .int .i64 k] 42))).cell 3 _ rfl
  have bo : Below u2.heap.size u2 (u2.alloc (.cells #[.int .i64 pc, .int .i64 ln, .slice q2 os2.length c2, .int .i64 4, .int .i64 ops.length, .int .i64 os1.length, .int .i64 ik] 42)) := (Below.refl _ _).alloc (Nat.le_refl _) _
  have Rr := Rec.new u2 [.int .i64 pc, .int .i64 ln, .slice q2 os2.length c2, .int .i64 4, .int .i64 ops.length, .int .i64 os1.length, .int .i64 ik] 42
  have Ar := hide (And.intro Rr (q_far OO.out u2.heap.size (Nat.le_refl _)))
  replace Ab := hide (And.intro (Ab.out.1.below bo) Ab.out.2)
  replace Ai := hide (And.intro (Ai.out.1.below bo) Ai.out.2)
  replace Az := hide (And.intro (Az.out.1.below bo) Az.out.2)
  replace Ap := hide (And.intro (Ap.out.1.below bo) Ap.out.2)
  replace MW := hide (MW.out.trans (Mv.of_below _ bo))
  replace OO := hide (OO.out.below bo)
  replace LO := hide (Nat.le_trans LO.out bo.size)
  replace LB := hide (Nat.lt_of_lt_of_le LB.out bo.size)
  clear bo Rr
  have cr0 := Ar.out.1.cell 0 _ rfl
  have cr1 := Ar.out.1.cell 1 _ rfl
  have cr2 := Ar.out.1.cell 2 _ rfl
  have cr3 := Ar.out.1.cell 3 _ rfl
  have cr4 := Ar.out.1.cell 4 _ rfl
  have cr5 := Ar.out.1.cell 5 _ rfl
  have cr6 := Ar.out.1.cell 6 _ rfl
  go_wp2_with (refine lay7 rfl rfl _ _ rfl (w.heap.size + 1 + 1) _ _ _ _ _ _ _ Az.out.1 rfl _ _ _ _ _ _ _ _ _ rfl ?_; intro v9 RB TB; refine Hid.out ?_)
  replace OO := hide (OO.out.apart TB.out (fun G e h => Az.out.2 (by rw [e, h])))
  replace MW := hide (MW.out.turn TB.out (by omega))
  have z0 := RB.out.cell 0 _ rfl
  have z1 := RB.out.cell 1 _ rfl
  have z2 := RB.out.cell 2 _ rfl
  have z3 := RB.out.cell 3 _ rfl
  have z4 := RB.out.cell 4 _ rfl
  have z5 := RB.out.cell 5 _ rfl
  have z6 := RB.out.cell 6 _ rfl
  clear RB TB Ab Ai Az Ap Ar cr0 cr1 cr2 cr3 cr4 cr5 cr6
  refine hide ?_
  go_wp2
  refine bodyPost_ret (v := .agg #[.int .i64 pc, .int .i64 ln, .slice q2 os2.length c2, .int .i64 4, .int .i64 ops.length, .int .i64 os1.length, .int .i64 ik]) (by simp [results, Try.results68, go_sem, z0, z1, z2, z3, z4, z5, z6]) rfl ?_
  have EQ : os2 = ops ++ [opG d, opG a] := by
    first
      | (rw [← EO2.out, ← EO1.out]; done)
      | (rw [← EO2.out, ← EO1.out]; simp [nn1.out])
  refine ⟨q2, c2, ?_, ?_⟩
  · first
      | (rw [← EQ]; done)
      | (rw [← EQ]; rfl)
      | (rw [← EQ]; simp [nn1.out])
  · rw [← EQ]; exact ⟨OO.out, MW.out⟩
end Go.Proofs.Ytfjlnocikldhjaa.Lw
