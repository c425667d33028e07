/-
  The program's deferred function of a step, and the copy of a machine.
-/
import Derived.Test.YtigaijoajbjcpaaGreatMchAA
import Derived.Recover
namespace Go.Proofs.YtigaijoajbjcpaaGreat.MchI
open Go.ChangeShapes Go.WideShapes Go.ChangeAt Go.RowKit IntS Mch
theorem standing_assert (h : Int) (w : World) : (Instr.typeAssert (.iface 58 (.int .i64 h)) 20 58 true).run Tryz.prog w = .ok (.tuple #[.int .i64 h, .bool true]) w := by kernel_rfl
set_option maxHeartbeats 1000000 in
/-- The deferred function, where the step stands still. -/
theorem caught (q Z : Nat) (h h0 : Int) (older : List PanicEntry) (w : World) (cq : w.cell? ⟨q, 0, none⟩ = some (.pointer (some ⟨Z, 0, none⟩))) (z6 : w.cell? ⟨Z, 6, none⟩ = some (.int .i64 h0)) (y6 : w.frozen? ⟨Z, 6, none⟩ = false) :
    CallsD Tryz.prog 51 #[.pointer (some ⟨q, 0, none⟩)] (.panicking ({ v := .iface 58 (.int .i64 h), recovered := false } :: older)) w fun e u' w' =>
      e = .returned (.tuple #[]) ∧ u' = .panicking ({ v := .iface 58 (.int .i64 h), recovered := true } :: older) ∧ w' = w.setCell ⟨Z, 6, none⟩ (.int .i64 h) := by
  have ta := standing_assert h
  refine callsD_of_wpS Tryz.func51 rfl fun c₀ cs hu => ?_
  apply wpS_seq
  apply wpS_region
  simp [wpOpsS, go_sem, recoverD, hu, Tryz.ntmps51, Exit.thenS]
  apply wpS_seq
  apply wpS_region
  simp [wpOpsS, go_sem, Exit.thenS]
  refine wpS_cond (t := true) (by simp [Act.eval, Array.replicate]) ?_
  simp only [if_true]
  apply wpS_seq
  apply wpS_region
  simp [wpOpsS, go_sem, ta, Exit.thenS]
  apply wpS_seq
  apply wpS_seq
  apply wpS_region
  simp [wpOpsS, go_sem, Exit.thenS]
  refine wpS_cond (t := false) (by simp [Act.eval, Array.replicate]) ?_
  simp only [Bool.false_eq_true, if_false]
  refine wpS_of_wp (wp_skip ?_)
  simp only [Exit.thenS]
  apply wpS_region
  simp [wpOpsS, go_sem, cq, z6, y6, bodyPostS, results, Tryz.results51]
set_option maxHeartbeats 1000000 in
theorem idle (q : Nat) (w : World) :
    CallsD Tryz.prog 51 #[.pointer (some ⟨q, 0, none⟩)] .returning w fun e u' w' => e = .returned (.tuple #[]) ∧ u' = .returning ∧ w' = w := by
  refine callsD_of_wpS Tryz.func51 rfl fun c₀ cs hu => ?_
  apply wpS_seq
  apply wpS_region
  simp [wpOpsS, go_sem, recoverD, hu, Tryz.ntmps51, Exit.thenS]
  apply wpS_seq
  apply wpS_region
  simp [wpOpsS, go_sem, Exit.thenS]
  refine wpS_cond (t := false) (by simp [Act.eval, Array.replicate]) ?_
  simp only [Bool.false_eq_true, if_false]
  refine wpS_of_wp (wp_skip ?_)
  cases c₀
  simp_all [bodyPostS, results, Tryz.results51]
end Go.Proofs.YtigaijoajbjcpaaGreat.MchI
