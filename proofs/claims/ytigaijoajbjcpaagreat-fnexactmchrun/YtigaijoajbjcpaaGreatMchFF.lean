/-
  The program's step.
-/
import Derived.Test.YtigaijoajbjcpaaGreatMchEE
namespace Go.Proofs.YtigaijoajbjcpaaGreat.MchI
set_option linter.unusedSimpArgs false
set_option linter.unusedVariables false
open Go.ChangeShapes Go.WideShapes Go.ChangeAt Go.RowKit IntS Mch
set_option maxRecDepth 8000 in
set_option maxHeartbeats 4000000 in
theorem step_rest (A : Nat → Prop) (Z D : Nat) (m : M) (irq : Bool) (w : World) (h : PM A w Z m) (hst : m.halt ≠ 0 ∨ 1000000 ≤ m.count) :
    Calls Tryz.prog 23 #[.pointer (some ⟨Z, 0, none⟩), .bool irq, .map (some D)] w fun e w' => e = .returned (.tuple #[]) ∧ Below w.heap.size w w' := by
  obtain ⟨b1, o1, k1, b2, o2, k2, b3, o3, k3, b4, k4, hB, hC, hA⟩ := h
  clear hC hA
  obtain ⟨regs, pc, mem, save, lets, waits, halt, ins, outs, count⟩ := m
  simp only [mv] at *
  have bV : Below w.heap.size w (w.alloc (.cells #[.pointer (some ⟨Z, 0, none⟩)] 42)) := (Below.refl _ _).alloc (Nat.le_refl _) _
  have N := hide (hB.below bV)
  have BV := hide bV
  have ST := hide hst
  clear hB bV hst
  have z0 := N.out.r.cell 0 _ rfl
  have z1 := N.out.r.cell 1 _ rfl
  have z2 := N.out.r.cell 2 _ rfl
  have z3 := N.out.r.cell 3 _ rfl
  have z4 := N.out.r.cell 4 _ rfl
  have z5 := N.out.r.cell 5 _ rfl
  have z6 := N.out.r.cell 6 _ rfl
  have z7 := N.out.r.cell 7 _ rfl
  have z8 := N.out.r.cell 8 _ rfl
  have z9 := N.out.r.cell 9 _ rfl
  have hmf : ∀ (fn : Fn) (first cap : Array Value) (w : World), (Instr.makeFunc fn first cap).run Tryz.prog w = .ok (.func fn first cap) w := fun _ _ _ _ => rfl
  go_enter_defers Tryz.func23, Tryz.ntmps23
  go_wp2_with fail
  refine (standsStill _ _ _ _ _ _ _ _ _ _ _ _ pc save halt count lets waits _).mono ?_
  rintro e u ⟨rfl, hb⟩
  rw [decide_eq_true ST.out]
  have BU := hide (BV.out.trans (hb.mono BV.out.size))
  clear hb N BV z0 z1 z2 z3 z4 z5 z6 z7 z8 z9 ST
  go_wp2
  simp [bodyPostD, Leaves, settle, results, Tryz.results23, go_sem]
  exact BU.out
theorem interruptM (Z : Nat) (regs mem ins outs : List Int) (r e i o : Value) (pc save halt count : Int) (lets waits irq : Bool) (w : World) (h : Box Z 26 [r, .int .i64 pc, e, .int .i64 save, .bool lets, .bool waits, .int .i64 halt, i, o, .int .i64 count] w) :
    Calls Tryz.prog 52 #[.pointer (some ⟨Z, 0, none⟩), .bool irq] w fun x w' => x = .returned (.tuple #[]) ∧ Turn Z w w' ∧
      ∃ pc2 save2 lets2 waits2, sampleM ⟨regs, pc, mem, save, lets, waits, halt, ins, outs, count⟩ irq = ⟨regs, pc2, mem, save2, lets2, waits2, halt, ins, outs, count⟩ ∧ Box Z 26 [r, .int .i64 pc2, e, .int .i64 save2, .bool lets2, .bool waits2, .int .i64 halt, i, o, .int .i64 count] w' := by
  refine (interrupt Z r e i o pc save halt count lets waits irq w h).mono ?_
  rintro x w' ⟨hx, ht, hb⟩
  refine ⟨hx, ht, ?_⟩
  cases waits <;> cases irq <;> cases lets <;> simp only [Bool.or_true, Bool.or_false, Bool.and_true, Bool.and_false, Bool.false_eq_true, if_true, if_false, Bool.true_and, Bool.false_and, Bool.true_or, Bool.false_or] at hb <;> exact ⟨_, _, _, _, by simp [sampleM], hb⟩
end Go.Proofs.YtigaijoajbjcpaaGreat.MchI
