/-
  The operations of an instruction: the program's lower.
-/
import Derived.Test.YtfjlnocikldhjaaLwF
namespace Go.Proofs.Ytfjlnocikldhjaa.Lw
set_option linter.unusedVariables false
set_option linter.unusedSimpArgs false
open Go.ChangeShapes Go.WideShapes Go.ChangeAt Go.RowKit IntS Flat
open InsS (In4)
open Blk (OwnN run_pushN)
open Ir (Opn Bk)
open Mch (Rec)
open Ir (OpAt)
set_option maxRecDepth 8000 in
set_option maxHeartbeats 8000000 in
theorem lower_6 (b : Bk) (t : Int) (d a ik : Int) (q1 : Option Addr) (c1 : Nat) (q2 : Option Addr) (c2 lo p : Nat) (w : World) (H : Bd w lo p q1 c1 q2 c2 b t []) (hlo : lo ≤ w.heap.size) (hl : b.ops.length ≤ 500) :
    Calls Try.prog 49 #[.pointer (some ⟨p, 0, none⟩), .agg #[.int .i64 6, .int .i64 d, .int .i64 a, .int .i64 ik]] w fun e w' => Bo w lo p q1 q2 e w' ⟨b.pc, b.ln, b.ops ++ [opG a, opG ik, opD 4 b.ops.length (b.ops.length + 1), opS (b.ops.length + 2) d], b.en, b.x, b.y, b.k⟩ t [] := by
  obtain ⟨pc, ln, ops, en, x, y, k⟩ := b
  simp only [] at hl ⊢
  have bo : Below w.heap.size w (w.alloc (.cells #[.int .i64 6, .int .i64 d, .int .i64 a, .int .i64 ik] 55)) := (Below.refl _ _).alloc (Nat.le_refl _) _
  have pl := H.r.lt
  have RI := hide (And.intro (Rec.new w [.int .i64 6, .int .i64 d, .int .i64 a, .int .i64 ik] 55) (And.intro (far_o H.o1 w.heap.size (Nat.le_refl _)) (far_n H.o2 w.heap.size (Nat.le_refl _))))
  have HB0 := hide (H.below bo)
  have HM := hide (Mb.of_below p q1 q2 bo)
  have LO : Hid (lo ≤ (w.alloc (.cells #[.int .i64 6, .int .i64 d, .int .i64 a, .int .i64 ik] 55)).heap.size) := Nat.le_trans hlo bo.size
  have PN : Hid (w.heap.size ≠ p) := show _ ≠ _ by omega
  clear bo H pl
  have i0 := RI.out.1.cell 0 _ rfl
  go_enter Try.func49, Try.ntmps49
  go_wp2_with fail
  clear i0
  generalize w.alloc (.cells #[.int .i64 6, .int .i64 d, .int .i64 a, .int .i64 ik] 55) = v1 at RI HB0 HM LO ⊢
  refine (wpIn_wide (n := 0)).1 ?_
  have bA : Below v1.heap.size v1 v1.drew := (Below.refl _ _).drew
  replace RI := hide (And.intro (RI.out.1.below bA) RI.out.2)
  replace HB0 := hide (HB0.out.below bA)
  replace HM := hide (HM.out.trans (Mb.of_below _ _ _ bA))
  replace LO := hide (Nat.le_trans LO.out bA.size)
  clear bA
  refine PhaseIn.region (S := fun w' => Rec (w.heap.size) [.int .i64 6, .int .i64 d, .int .i64 a, .int .i64 ik] w' ∧ True) 16 (by kernel_rfl) ?_
  generalize v1.drew = d1 at RI HB0 HM LO ⊢
  have hHeld : Rec (w.heap.size) [.int .i64 6, .int .i64 d, .int .i64 a, .int .i64 ik] d1 ∧ True := ⟨RI.out.1, trivial⟩
  refine PhaseIn.takeD (i := 0) (v := ?_) [0, 3, 6, 11, 14, 15] 112 rfl (by rfl) (by kernel_rfl) (by kernel_rfl) (by kernel_rfl) (by kernel_rfl) (by kernel_rfl) (fun _ _ _ h => h) (Or.inl ⟨by kernel_rfl, ?_⟩) hHeld ?_
  rotate_left
  · intro w' hSw
    (try dsimp only at hSw)
    have z0 := hSw.1.cell 0 _ rfl; have z1 := hSw.1.cell 1 _ rfl; have z2 := hSw.1.cell 2 _ rfl; have z3 := hSw.1.cell 3 _ rfl
    go_simp
    first | done | with_reducible rfl
  try simp only [Act.put, List.setIfInBounds_toArray, List.set]
  refine PhaseIn.takeD (i := 1) (v := ?_) [1, 2, 3, 6, 11, 14, 15] 113 rfl (by rfl) (by kernel_rfl) (by kernel_rfl) (by kernel_rfl) (by kernel_rfl) (by kernel_rfl) (fun _ _ _ h => h) (Or.inl ⟨by kernel_rfl, ?_⟩) hHeld ?_
  rotate_left
  · intro w' hSw
    (try dsimp only at hSw)
    have z0 := hSw.1.cell 0 _ rfl; have z1 := hSw.1.cell 1 _ rfl; have z2 := hSw.1.cell 2 _ rfl; have z3 := hSw.1.cell 3 _ rfl
    go_simp
    first | done | with_reducible rfl
  try simp only [Act.put, List.setIfInBounds_toArray, List.set]
  refine PhaseIn.takeD (i := 2) (v := ?_) [2, 3, 6, 11, 14, 15] 114 rfl (by rfl) (by kernel_rfl) (by kernel_rfl) (by kernel_rfl) (by kernel_rfl) (by kernel_rfl) (fun _ _ _ h => h) (Or.inl ⟨by kernel_rfl, ?_⟩) hHeld ?_
  rotate_left
  · intro w' hSw
    (try dsimp only at hSw)
    have z0 := hSw.1.cell 0 _ rfl; have z1 := hSw.1.cell 1 _ rfl; have z2 := hSw.1.cell 2 _ rfl; have z3 := hSw.1.cell 3 _ rfl
    go_simp
    first | done | with_reducible rfl
  try simp only [Act.put, List.setIfInBounds_toArray, List.set]
  refine PhaseIn.takeD (i := 4) (v := ?_) [4, 5, 6, 11, 14, 15] 116 rfl (by rfl) (by kernel_rfl) (by kernel_rfl) (by kernel_rfl) (by kernel_rfl) (by kernel_rfl) (fun _ _ _ h => h) (Or.inl ⟨by kernel_rfl, ?_⟩) hHeld ?_
  rotate_left
  · intro w' hSw
    (try dsimp only at hSw)
    have z0 := hSw.1.cell 0 _ rfl; have z1 := hSw.1.cell 1 _ rfl; have z2 := hSw.1.cell 2 _ rfl; have z3 := hSw.1.cell 3 _ rfl
    go_simp
    first | done | with_reducible rfl
  try simp only [Act.put, List.setIfInBounds_toArray, List.set]
  refine PhaseIn.takeD (i := 5) (v := ?_) [5, 6, 11, 14, 15] 117 rfl (by rfl) (by kernel_rfl) (by kernel_rfl) (by kernel_rfl) (by kernel_rfl) (by kernel_rfl) (fun _ _ _ h => h) (Or.inl ⟨by kernel_rfl, ?_⟩) hHeld ?_
  rotate_left
  · intro w' hSw
    (try dsimp only at hSw)
    have z0 := hSw.1.cell 0 _ rfl; have z1 := hSw.1.cell 1 _ rfl; have z2 := hSw.1.cell 2 _ rfl; have z3 := hSw.1.cell 3 _ rfl
    go_simp
    first | done | with_reducible rfl
  try simp only [Act.put, List.setIfInBounds_toArray, List.set]
  refine PhaseIn.takeD (i := 7) (v := ?_) [7, 8, 9, 10, 11, 14, 15] 119 rfl (by rfl) (by kernel_rfl) (by kernel_rfl) (by kernel_rfl) (by kernel_rfl) (by kernel_rfl) (fun _ _ _ h => h) (Or.inl ⟨by kernel_rfl, ?_⟩) hHeld ?_
  rotate_left
  · intro w' hSw
    (try dsimp only at hSw)
    have z0 := hSw.1.cell 0 _ rfl; have z1 := hSw.1.cell 1 _ rfl; have z2 := hSw.1.cell 2 _ rfl; have z3 := hSw.1.cell 3 _ rfl
    go_simp
    first | done | with_reducible rfl
  try simp only [Act.put, List.setIfInBounds_toArray, List.set]
  refine PhaseIn.takeD (i := 8) (v := ?_) [8, 9, 10, 11, 14, 15] 120 rfl (by rfl) (by kernel_rfl) (by kernel_rfl) (by kernel_rfl) (by kernel_rfl) (by kernel_rfl) (fun _ _ _ h => h) (Or.inl ⟨by kernel_rfl, ?_⟩) hHeld ?_
  rotate_left
  · intro w' hSw
    (try dsimp only at hSw)
    have z0 := hSw.1.cell 0 _ rfl; have z1 := hSw.1.cell 1 _ rfl; have z2 := hSw.1.cell 2 _ rfl; have z3 := hSw.1.cell 3 _ rfl
    go_simp
    first | done | with_reducible rfl
  try simp only [Act.put, List.setIfInBounds_toArray, List.set]
  refine PhaseIn.takeD (i := 9) (v := ?_) [9, 10, 11, 14, 15] 121 rfl (by rfl) (by kernel_rfl) (by kernel_rfl) (by kernel_rfl) (by kernel_rfl) (by kernel_rfl) (fun _ _ _ h => h) (Or.inl ⟨by kernel_rfl, ?_⟩) hHeld ?_
  rotate_left
  · intro w' hSw
    (try dsimp only at hSw)
    have z0 := hSw.1.cell 0 _ rfl; have z1 := hSw.1.cell 1 _ rfl; have z2 := hSw.1.cell 2 _ rfl; have z3 := hSw.1.cell 3 _ rfl
    go_simp
    first | done | with_reducible rfl
  try simp only [Act.put, List.setIfInBounds_toArray, List.set]
  refine PhaseIn.takeD (i := 10) (v := ?_) [10, 11, 14, 15] 122 rfl (by rfl) (by kernel_rfl) (by kernel_rfl) (by kernel_rfl) (by kernel_rfl) (by kernel_rfl) (fun _ _ _ h => h) (Or.inl ⟨by kernel_rfl, ?_⟩) hHeld ?_
  rotate_left
  · intro w' hSw
    (try dsimp only at hSw)
    have z0 := hSw.1.cell 0 _ rfl; have z1 := hSw.1.cell 1 _ rfl; have z2 := hSw.1.cell 2 _ rfl; have z3 := hSw.1.cell 3 _ rfl
    go_simp
    first | done | with_reducible rfl
  try simp only [Act.put, List.setIfInBounds_toArray, List.set]
  refine PhaseIn.takeD (i := 12) (v := ?_) [12, 13, 14, 15] 124 rfl (by rfl) (by kernel_rfl) (by kernel_rfl) (by kernel_rfl) (by kernel_rfl) (by kernel_rfl) (fun _ _ _ h => h) (Or.inl ⟨by kernel_rfl, ?_⟩) hHeld ?_
  rotate_left
  · intro w' hSw
    (try dsimp only at hSw)
    have z0 := hSw.1.cell 0 _ rfl; have z1 := hSw.1.cell 1 _ rfl; have z2 := hSw.1.cell 2 _ rfl; have z3 := hSw.1.cell 3 _ rfl
    go_simp
    first | done | with_reducible rfl
  try simp only [Act.put, List.setIfInBounds_toArray, List.set]
  refine PhaseIn.takeD (i := 13) (v := ?_) [13, 14, 15] 125 rfl (by rfl) (by kernel_rfl) (by kernel_rfl) (by kernel_rfl) (by kernel_rfl) (by kernel_rfl) (fun _ _ _ h => h) (Or.inl ⟨by kernel_rfl, ?_⟩) hHeld ?_
  rotate_left
  · intro w' hSw
    (try dsimp only at hSw)
    have z0 := hSw.1.cell 0 _ rfl; have z1 := hSw.1.cell 1 _ rfl; have z2 := hSw.1.cell 2 _ rfl; have z3 := hSw.1.cell 3 _ rfl
    go_simp
    first | done | with_reducible rfl
  try simp only [Act.put, List.setIfInBounds_toArray, List.set]
  refine PhaseIn.one (i := 3) (by kernel_rfl) rfl (by kernel_rfl) (fun K hK => ?_)
  unfold Oper.wpIn
  refine ⟨fun _ _ => trivial, ?_⟩
  go_simp
  refine ⟨rfl, (callsIn_wide.2 (getB ⟨pc, ln, ops, en, x, y, k⟩ t a [] q1 c1 q2 c2 lo p _ HB0.out LO.out (by first | omega | (simp only []; omega) | (have := LL.out; first | omega | (simp only []; omega))) (by simp))).mono ?_⟩
  rintro e u1 ⟨rfl, r1_1, k1_1, r2_1, k2_1, hB, hM⟩
  replace RI := hide (hM.box RI.out.1 PN.out RI.out.2.1 RI.out.2.2)
  replace hHeld : Rec (w.heap.size) [.int .i64 6, .int .i64 d, .int .i64 a, .int .i64 ik] u1 ∧ True := ⟨RI.out.1, trivial⟩
  refine hK _ _ (fun _ => hHeld) ?_
  clear hK K
  try simp only [Act.put, List.setIfInBounds_toArray, List.set]
  obtain ⟨os1, eo1⟩ : ∃ os1, ops ++ [opG a] = os1 := ⟨_, rfl⟩
  have EO1 := hide eo1
  simp only [] at hB
  rw [eo1] at hB
  have LL : Hid (os1.length = ops.length + 1) := show _ = _ by rw [← eo1]; simp
  have nn1 : Hid ((os1.length : Int) = ops.length + 1) := show _ = _ by have := LL.out; omega
  clear eo1
  have HB1 : Hid (Bd u1 lo p r1_1 k1_1 r2_1 k2_1 ⟨pc, ln, os1, en, x, y, k⟩ t [(ops.length : Int)]) := hB
  replace HM := hide (HM.out.trans hM)
  replace LO := hide (Nat.le_trans LO.out hM.size)
  clear hB hM HB0
  refine PhaseIn.one (i := 6) (by kernel_rfl) rfl (by kernel_rfl) (fun K hK => ?_)
  unfold Oper.wpIn
  refine ⟨fun _ _ => trivial, ?_⟩
  go_simp
  refine ⟨rfl, (callsIn_wide.2 (getB ⟨pc, ln, os1, en, x, y, k⟩ t ik [(ops.length : Int)] r1_1 k1_1 r2_1 k2_1 lo p _ HB1.out LO.out (by first | omega | (simp only []; omega) | (have := LL.out; first | omega | (simp only []; omega))) (by simp))).mono ?_⟩
  rintro e u2 ⟨rfl, r1_2, k1_2, r2_2, k2_2, hB, hM⟩
  replace RI := hide (hM.box RI.out.1 PN.out RI.out.2.1 RI.out.2.2)
  replace hHeld : Rec (w.heap.size) [.int .i64 6, .int .i64 d, .int .i64 a, .int .i64 ik] u2 ∧ True := ⟨RI.out.1, trivial⟩
  refine hK _ _ (fun _ => hHeld) ?_
  clear hK K
  try simp only [Act.put, List.setIfInBounds_toArray, List.set]
  obtain ⟨os2, eo2⟩ : ∃ os2, os1 ++ [opG ik] = os2 := ⟨_, rfl⟩
  have EO2 := hide eo2
  simp only [] at hB
  rw [eo2] at hB
  replace LL : Hid (os2.length = ops.length + 2) := show _ = _ by rw [← eo2]; simp; have := LL.out; omega
  have nn2 : Hid ((os2.length : Int) = ops.length + 2) := show _ = _ by have := LL.out; omega
  clear eo2
  have HB2 : Hid (Bd u2 lo p r1_2 k1_2 r2_2 k2_2 ⟨pc, ln, os2, en, x, y, k⟩ t [(ops.length : Int), (os1.length : Int)]) := hB
  replace HM := hide (HM.out.trans hM)
  replace LO := hide (Nat.le_trans LO.out hM.size)
  clear hB hM HB1
  refine PhaseIn.one (i := 11) (by kernel_rfl) rfl (by kernel_rfl) (fun K hK => ?_)
  unfold Oper.wpIn
  refine ⟨fun _ _ => trivial, ?_⟩
  go_simp
  refine ⟨rfl, (callsIn_wide.2 (reckonB ⟨pc, ln, os2, en, x, y, k⟩ t 4 [] (ops.length : Int) (os1.length : Int) r1_2 k1_2 r2_2 k2_2 lo p _ HB2.out LO.out (by first | omega | (simp only []; omega) | (have := LL.out; first | omega | (simp only []; omega))) (by simp))).mono ?_⟩
  rintro e u3 ⟨rfl, r1_3, k1_3, r2_3, k2_3, hB, hM⟩
  replace RI := hide (hM.box RI.out.1 PN.out RI.out.2.1 RI.out.2.2)
  replace hHeld : Rec (w.heap.size) [.int .i64 6, .int .i64 d, .int .i64 a, .int .i64 ik] u3 ∧ True := ⟨RI.out.1, trivial⟩
  refine hK _ _ (fun _ => hHeld) ?_
  clear hK K
  try simp only [Act.put, List.setIfInBounds_toArray, List.set]
  obtain ⟨os3, eo3⟩ : ∃ os3, os2 ++ [opD 4 (ops.length : Int) (os1.length : Int)] = os3 := ⟨_, rfl⟩
  have EO3 := hide eo3
  simp only [] at hB
  rw [eo3] at hB
  replace LL : Hid (os3.length = ops.length + 3) := show _ = _ by rw [← eo3]; simp; have := LL.out; omega
  have nn3 : Hid ((os3.length : Int) = ops.length + 3) := show _ = _ by have := LL.out; omega
  clear eo3
  have HB3 : Hid (Bd u3 lo p r1_3 k1_3 r2_3 k2_3 ⟨pc, ln, os3, en, x, y, k⟩ t [(os2.length : Int)]) := hB
  replace HM := hide (HM.out.trans hM)
  replace LO := hide (Nat.le_trans LO.out hM.size)
  clear hB hM HB2
  refine PhaseIn.one (i := 14) (by kernel_rfl) rfl (by kernel_rfl) (fun K hK => ?_)
  unfold Oper.wpIn
  refine ⟨fun _ _ => trivial, ?_⟩
  go_simp
  refine ⟨rfl, (callsIn_wide.2 (setB ⟨pc, ln, os3, en, x, y, k⟩ t d [] (os2.length : Int) r1_3 k1_3 r2_3 k2_3 lo p _ HB3.out LO.out (by first | omega | (simp only []; omega) | (have := LL.out; first | omega | (simp only []; omega))) (by simp))).mono ?_⟩
  rintro e u4 ⟨rfl, r1_4, k1_4, r2_4, k2_4, hB, hM⟩
  replace RI := hide (hM.box RI.out.1 PN.out RI.out.2.1 RI.out.2.2)
  replace hHeld : Rec (w.heap.size) [.int .i64 6, .int .i64 d, .int .i64 a, .int .i64 ik] u4 ∧ True := ⟨RI.out.1, trivial⟩
  refine hK _ _ (fun _ => hHeld) ?_
  clear hK K
  try simp only [Act.put, List.setIfInBounds_toArray, List.set]
  obtain ⟨os4, eo4⟩ : ∃ os4, os3 ++ [opS (os2.length : Int) d] = os4 := ⟨_, rfl⟩
  have EO4 := hide eo4
  simp only [] at hB
  rw [eo4] at hB
  replace LL : Hid (os4.length = ops.length + 4) := show _ = _ by rw [← eo4]; simp; have := LL.out; omega
  have nn4 : Hid ((os4.length : Int) = ops.length + 4) := show _ = _ by have := LL.out; omega
  clear eo4
  have HB4 : Hid (Bd u4 lo p r1_4 k1_4 r2_4 k2_4 ⟨pc, ln, os4, en, x, y, k⟩ t []) := hB
  replace HM := hide (HM.out.trans hM)
  replace LO := hide (Nat.le_trans LO.out hM.size)
  clear hB hM HB3
  refine PhaseIn.takeD (i := 15) (v := ?_) [15] 4 rfl (by rfl) (by kernel_rfl) (by kernel_rfl) (by kernel_rfl) (by kernel_rfl) (by kernel_rfl) (fun _ _ _ h => h) (Or.inl ⟨by kernel_rfl, ?_⟩) hHeld ?_
  rotate_left
  · intro w' hSw
    (try dsimp only at hSw)
    go_simp
    first | done | with_reducible rfl
  try simp only [Act.put, List.setIfInBounds_toArray, List.set]
  refine PhaseIn.done (by kernel_rfl) ?_ _
  clear hHeld
  have EQ : os4 = ops ++ [opG a, opG ik, opD 4 ops.length (ops.length + 1), opS (ops.length + 2) d] := by
    first
      | (rw [← EO4.out, ← EO3.out, ← EO2.out, ← EO1.out]; done)
      | (rw [← EO4.out, ← EO3.out, ← EO2.out, ← EO1.out]; simp [nn1.out, nn2.out, nn3.out])
  have HBF : Hid (Bd u4 lo p r1_4 k1_4 r2_4 k2_4 ⟨pc, ln, ops ++ [opG a, opG ik, opD 4 ops.length (ops.length + 1), opS (ops.length + 2) d], en, x, y, k⟩ t []) := by
    have h9 := HB4.out
    rw [EQ] at h9
    skip
    exact h9
  go_wp2
  go_ret
  exact ⟨rfl, _, _, _, _, HBF.out, HM.out⟩
end Go.Proofs.Ytfjlnocikldhjaa.Lw
