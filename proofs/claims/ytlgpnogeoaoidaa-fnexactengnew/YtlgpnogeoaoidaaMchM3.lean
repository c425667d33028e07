/-
  Machines: contracts of the laws' own markMchMach and heldMchMach: what is marked is held, and nothing else has turned.
-/
import Derived.Test.YtlgpnogeoaoidaaMchM2
namespace Go.Proofs.Ytlgpnogeoaoidaa.Mch
open Go.ChangeShapes Go.WideShapes Go.ChangeAt Go.RowKit IntS
/-- No list of a machine is longer than that. -/
def Wide (m : M) : Prop := m.regs.length ≤ 2000000 ∧ m.mem.length ≤ 2000000 ∧ m.ins.length ≤ 2000000 ∧ m.outs.length ≤ 2000000
/-- A machine whose lists are marked from a number on. -/
def markM (m : M) (k : Int) : M := ⟨marks k m.regs.length, m.pc, marks (k + m.regs.length) m.mem.length, m.save, m.lets, m.waits, m.halt, marks (k + m.regs.length + m.mem.length) m.ins.length, marks (k + m.regs.length + m.mem.length + m.ins.length) m.outs.length, m.count⟩
def total (m : M) : Int := (m.regs.length : Int) + m.mem.length + m.ins.length + m.outs.length
theorem row_norm {w : World} {lo b : Nat} {v : Value} {xs : List Int} (j : Nat) (h : WRow w b v xs) (hlo : lo ≤ b) (hw : lo ≤ w.heap.size) : ∃ b', WRow w b' v xs ∧ lo ≤ b' ∧ ((b' = b ∧ b < w.heap.size) ∨ b' = w.heap.size + 1 + j) := by
  obtain ⟨a, cap, off, h1, h2, h3, hz, h4⟩ := h
  rcases h4 with h4 | ⟨h4, h5, h6⟩
  · exact ⟨w.heap.size + 1 + j, ⟨a, cap, off, h1, h2, h3, hz, Or.inl h4⟩, by omega, Or.inr rfl⟩
  · exact ⟨b, ⟨a, cap, off, h1, h2, h3, hz, Or.inr ⟨h4, h5, h6⟩⟩, hlo, Or.inl ⟨rfl, h5⟩⟩
/-- The blocks of a machine's lists may be taken to be others than the next one. -/
theorem WMach.norm {w : World} {lo : Nat} {c : List Value} {m : M} (h : WMach w lo c m) (hw : lo ≤ w.heap.size) :
    ∃ r e i o b1 b2 b3 b4, c = mv m r e i o ∧ WRow w b1 r m.regs ∧ WRow w b2 e m.mem ∧ WRow w b3 i m.ins ∧ WRow w b4 o m.outs ∧ lo ≤ b1 ∧ lo ≤ b2 ∧ lo ≤ b3 ∧ lo ≤ b4 ∧ (b1 ≠ b2 ∧ b1 ≠ b3 ∧ b1 ≠ b4 ∧ b2 ≠ b3 ∧ b2 ≠ b4 ∧ b3 ≠ b4) ∧ b1 ≠ w.heap.size ∧ b2 ≠ w.heap.size ∧ b3 ≠ w.heap.size ∧ b4 ≠ w.heap.size := by
  obtain ⟨r, e, i, o, b1, b2, b3, b4, hc, h1, h2, h3, h4, l1, l2, l3, l4, d1, d2, d3, d4, d5, d6⟩ := h
  obtain ⟨c1, k1, m1, n1⟩ := row_norm 0 h1 l1 hw
  obtain ⟨c2, k2, m2, n2⟩ := row_norm 1 h2 l2 hw
  obtain ⟨c3, k3, m3, n3⟩ := row_norm 2 h3 l3 hw
  obtain ⟨c4, k4, m4, n4⟩ := row_norm 3 h4 l4 hw
  refine ⟨r, e, i, o, c1, c2, c3, c4, hc, k1, k2, k3, k4, m1, m2, m3, m4, ?_, ?_, ?_, ?_, ?_⟩
  · rcases n1 with ⟨rfl, n1⟩ | rfl <;> rcases n2 with ⟨rfl, n2⟩ | rfl <;> rcases n3 with ⟨rfl, n3⟩ | rfl <;> rcases n4 with ⟨rfl, n4⟩ | rfl <;> omega
  all_goals omega
set_option maxRecDepth 8000 in
set_option maxHeartbeats 4000000 in
theorem markMch (m : M) (k : Int) (lo : Nat) (c : List Value) (w : World) (h : WMach w lo c m) (hw : lo ≤ w.heap.size) (hs : Wide m) (k0 : 0 ≤ k) (k1 : k ≤ 100000000000) :
    Calls Try.prog 11 #[.agg c.toArray, .int .i64 k] w fun e w' => e = .returned (.int .i64 (k + total m)) ∧ WMach w' lo c (markM m k) ∧ Below lo w w' := by
  obtain ⟨r, e, i, o, b1, b2, b3, b4, rfl, h1, h2, h3, h4, l1, l2, l3, l4, ⟨d1, d2, d3, d4, d5, d6⟩, n1, n2, n3, n4⟩ := h.norm hw
  obtain ⟨regs, pc, mem, save, lets, waits, halt, ins, outs, count⟩ := m
  obtain ⟨s1, s2, s3, s4⟩ := hs
  clear h
  have e1 : (k + total ⟨regs, pc, mem, save, lets, waits, halt, ins, outs, count⟩) = k + regs.length + mem.length + ins.length + outs.length := by unfold total; simp only []; omega
  rw [e1]
  simp only [mv, markM] at *
  clear e1
  have A0 := Rec.new w [r, .int .i64 pc, e, .int .i64 save, .bool lets, .bool waits, .int .i64 halt, i, o, .int .i64 count] 26
  have bA : Below w.heap.size w (w.alloc (.cells #[r, .int .i64 pc, e, .int .i64 save, .bool lets, .bool waits, .int .i64 halt, i, o, .int .i64 count] 26)) := (Below.refl _ _).alloc (Nat.le_refl _) _
  have BW := hide (bA.mono hw)
  have R1 := hide (h1.below bA)
  have R2 := hide (h2.below bA)
  have R3 := hide (h3.below bA)
  have R4 := hide (h4.below bA)
  have A := hide A0
  clear h1 h2 h3 h4 bA A0
  go_enter Try.func11, Try.ntmps11
  go_wp2_with fail
  refine (markIntS (k) regs b1 _ _ R1.out (by omega) (by omega) (by omega)).mono ?_
  rintro e u1 ⟨rfl, R, ht⟩
  have A := hide (A.out.turn ht (Ne.symm n1))
  have BW := hide (BW.out.trans (ht.below (Nat.le_trans l1 (Nat.le_refl _)) (Nat.le_trans hw BW.out.size)))
  replace R2 := hide (R2.out.turn ht (Ne.symm d1))
  replace R3 := hide (R3.out.turn ht (Ne.symm d2))
  replace R4 := hide (R4.out.turn ht (Ne.symm d3))
  replace R1 := hide R
  clear R ht
  have a2 := A.out.cell 2 _ rfl
  go_wp2_with fail
  refine (markIntS (k + (regs.length : Int)) mem b2 _ _ R2.out (by omega) (by omega) (by omega)).mono ?_
  rintro e u2 ⟨rfl, R, ht⟩
  have A := hide (A.out.turn ht (Ne.symm n2))
  have BW := hide (BW.out.trans (ht.below (Nat.le_trans l2 (Nat.le_refl _)) (Nat.le_trans hw BW.out.size)))
  replace R1 := hide (R1.out.turn ht d1)
  replace R3 := hide (R3.out.turn ht (Ne.symm d4))
  replace R4 := hide (R4.out.turn ht (Ne.symm d5))
  replace R2 := hide R
  clear R ht
  clear a2
  have a7 := A.out.cell 7 _ rfl
  go_wp2_with fail
  refine (markIntS (k + (regs.length : Int) + (mem.length : Int)) ins b3 _ _ R3.out (by omega) (by omega) (by omega)).mono ?_
  rintro e u3 ⟨rfl, R, ht⟩
  have A := hide (A.out.turn ht (Ne.symm n3))
  have BW := hide (BW.out.trans (ht.below (Nat.le_trans l3 (Nat.le_refl _)) (Nat.le_trans hw BW.out.size)))
  replace R1 := hide (R1.out.turn ht d2)
  replace R2 := hide (R2.out.turn ht d4)
  replace R4 := hide (R4.out.turn ht (Ne.symm d6))
  replace R3 := hide R
  clear R ht
  clear a7
  have a8 := A.out.cell 8 _ rfl
  go_wp2_with fail
  refine (markIntS (k + (regs.length : Int) + (mem.length : Int) + (ins.length : Int)) outs b4 _ _ R4.out (by omega) (by omega) (by omega)).mono ?_
  rintro e u4 ⟨rfl, R, ht⟩
  have A := hide (A.out.turn ht (Ne.symm n4))
  have BW := hide (BW.out.trans (ht.below (Nat.le_trans l4 (Nat.le_refl _)) (Nat.le_trans hw BW.out.size)))
  replace R1 := hide (R1.out.turn ht d3)
  replace R2 := hide (R2.out.turn ht d5)
  replace R3 := hide (R3.out.turn ht d6)
  replace R4 := hide R
  clear R ht
  clear a8
  clear A
  go_wp2
  go_ret
  exact ⟨rfl, ⟨_, _, _, _, b1, b2, b3, b4, by simp only [mv], R1.out, R2.out, R3.out, R4.out, l1, l2, l3, l4, d1, d2, d3, d4, d5, d6⟩, BW.out⟩
set_option maxRecDepth 8000 in
set_option maxHeartbeats 4000000 in
theorem heldMch (m : M) (k : Int) (c : List Value) (w : World) (h : RMach w c (markM m k)) (hs : Wide m) (k0 : 0 ≤ k) (k1 : k ≤ 100000000000) :
    Calls Try.prog 31 #[.agg c.toArray, .int .i64 k] w fun e w' => e = .returned (.int .i64 (k + total m)) ∧ Below w.heap.size w w' := by
  obtain ⟨r, e, i, o, b1, b2, b3, b4, rfl, h1, h2, h3, h4⟩ := h
  obtain ⟨regs, pc, mem, save, lets, waits, halt, ins, outs, count⟩ := m
  obtain ⟨s1, s2, s3, s4⟩ := hs
  have e1 : (k + total ⟨regs, pc, mem, save, lets, waits, halt, ins, outs, count⟩) = k + regs.length + mem.length + ins.length + outs.length := by unfold total; simp only []; omega
  rw [e1]
  simp only [mv, markM] at *
  clear e1
  have T := hide (One.new w [r, .int .i64 pc, e, .int .i64 save, .bool lets, .bool waits, .int .i64 halt, i, o, .int .i64 count] 26)
  have H1 := hide h1
  have H2 := hide h2
  have H3 := hide h3
  have H4 := hide h4
  clear h1 h2 h3 h4
  go_enter Try.func31, Try.ntmps31
  go_wp2_with fail
  refine (heldIntS (k) regs.length b1 _ _ (H1.out.below T.out.bw) (by omega) (by omega) (by omega)).mono ?_
  rintro e u1 ⟨rfl, hb⟩
  replace T := hide (T.out.below hb)
  clear hb
  have a2 := T.out.a.cell 2 _ rfl
  have p1 : ¬ (k + (regs.length : Int)) < 0 := by omega
  go_wp2_with fail
  refine (heldIntS (k + (regs.length : Int)) mem.length b2 _ _ (H2.out.below T.out.bw) (by omega) (by omega) (by omega)).mono ?_
  rintro e u2 ⟨rfl, hb⟩
  replace T := hide (T.out.below hb)
  clear hb
  clear a2
  have a7 := T.out.a.cell 7 _ rfl
  have p2 : ¬ (k + (regs.length : Int) + (mem.length : Int)) < 0 := by omega
  go_wp2_with fail
  refine (heldIntS (k + (regs.length : Int) + (mem.length : Int)) ins.length b3 _ _ (H3.out.below T.out.bw) (by omega) (by omega) (by omega)).mono ?_
  rintro e u3 ⟨rfl, hb⟩
  replace T := hide (T.out.below hb)
  clear hb
  clear a7
  have a8 := T.out.a.cell 8 _ rfl
  have p3 : ¬ (k + (regs.length : Int) + (mem.length : Int) + (ins.length : Int)) < 0 := by omega
  go_wp2_with fail
  refine (heldIntS (k + (regs.length : Int) + (mem.length : Int) + (ins.length : Int)) outs.length b4 _ _ (H4.out.below T.out.bw) (by omega) (by omega) (by omega)).mono ?_
  rintro e u4 ⟨rfl, hb⟩
  replace T := hide (T.out.below hb)
  clear hb
  clear a8
  have p4 : ¬ (k + (regs.length : Int) + (mem.length : Int) + (ins.length : Int) + (outs.length : Int)) < 0 := by omega
  have BW := hide T.out.bw
  clear T
  go_wp2
  go_ret
  exact ⟨rfl, BW.out⟩
end Go.Proofs.Ytlgpnogeoaoidaa.Mch
